/- Several texts in one: MailRow, MailMarks, TombRow, TombMarks, BoxVal, BoxMarks, BoxLed. Made by fuse_tl.py. -/
import Derived.Test.YtmedhmgihfenhabProg
import Derived.Test.YtmedhmgihfenhabRowsA
import Derived.Test.YtmedhmgihfenhabRegA
import Derived.Test.YtmedhmgihfenhabMarks
import Derived.Deep.Slices
import Derived.Deep.Strs
import Derived.ChangeArms
import Derived.OpenShut
import Derived.Deep.RegionHeld3
import Derived.Deep.QuietTactic
import Derived.BigQuiet
import Derived.WalkSmall
/- Rows of Mails: what the laws' own helpers do to them; rows that came in. Made by gen_rows.py. -/
namespace Go.Proofs.Ytmedhmgihfenhab
open Go.RowKit Go.ChangeShapes Go.WideShapes Go.ChangeAt Go.Deep
open Plain
set_option linter.unusedVariables false
set_option linter.unusedSimpArgs false

namespace Plain
structure Ml where
  uid : Int
  flags : Int
  mod : Int
  text : ByteArray
def mlC (x : Ml) : List Value := [.int .i64 x.uid, .int .i64 x.flags, .int .i64 x.mod, .string x.text]
theorem mlC_len : ∀ x, (mlC x).length = 4 := fun _ => rfl
def ml0 : Ml := ⟨0, 0, 0, ByteArray.empty⟩
def SmallMl (L : Nat) (l : List Ml) : Prop := l.length ≤ L ∧ ∀ m ∈ l, m.text.size ≤ L
end Plain
theorem Try.infoMail : (Try.prog.info? 46).map (fun i => (i.zero, i.size, i.bytes)) = some (some (.agg #[.int .i64 0, .int .i64 0, .int .i64 0, .string ByteArray.empty]), 4, 40) := by kernel_rfl
def OwnMl (B : Nat) (w : World) (v : Value) (l : List Ml) : Prop := w.ownsRow B 46 4 v l.length (rowC mlC l)
theorem OwnMl.up {B : Nat} {w w' : World} {v : Value} {l : List Ml} (h : OwnMl B w v l) (hb : Below w.heap.size w w') : OwnMl B w' v l := g_stays h hb
theorem OwnMl.based {B B' : Nat} {w : World} {v : Value} {l : List Ml} (h : OwnMl B w v l) (hB : B' ≤ B) : OwnMl B' w v l := g_based h hB
theorem OwnMl.aside {B : Nat} {w w' : World} {v : Value} {l : List Ml} {row : Option Nat} (h : OwnMl B w v l) (hg : w.grownBy w' row) (hne : ∀ k, row = some k → v.ownBlock ≠ some k) : OwnMl B w' v l := g_aside h hg hne
theorem ml_cells {w : World} {B g n cap : Nat} {l : List Ml} (h : w.ownsRow B 46 4 (.slice (some ⟨g, 0, none⟩) n cap) n (rowC mlC l)) {k : Nat} {f : Ml} (hx : l[k]? = some f) (hk : k < n) :
    w.cell? ⟨g, k * 4, none⟩ = some (.int .i64 f.uid) ∧ w.cell? ⟨g, k * 4 + 1, none⟩ = some (.int .i64 f.flags) ∧ w.cell? ⟨g, k * 4 + 2, none⟩ = some (.int .i64 f.mod) ∧ w.cell? ⟨g, k * 4 + 3, none⟩ = some (.string f.text) := by
  refine ⟨?_, ?_, ?_, ?_⟩
  · rw [h.cellAt _ (by omega)]; exact rowC_get mlC_len hx (j := 0) (by decide)
  · rw [h.cellAt _ (by omega)]; exact rowC_get mlC_len hx (j := 1) (by decide)
  · rw [h.cellAt _ (by omega)]; exact rowC_get mlC_len hx (j := 2) (by decide)
  · rw [h.cellAt _ (by omega)]; exact rowC_get mlC_len hx (j := 3) (by decide)
/-- Elements that came in, below block B. -/
def ArgMl (B : Nat) (w : World) (a : Option Addr) (l : List Ml) : Prop :=
  ∀ i f, l[i]? = some f → ∃ x, a = some x ∧ x.block < B ∧ f.text.size ≤ maxLen ∧ w.cell? (x.add (i * 4)) = some (.int .i64 f.uid) ∧ w.cell? ⟨(x.add (i * 4)).block, (x.add (i * 4)).off + 1, none⟩ = some (.int .i64 f.flags) ∧ w.cell? ⟨(x.add (i * 4)).block, (x.add (i * 4)).off + 2, none⟩ = some (.int .i64 f.mod) ∧ w.cell? ⟨(x.add (i * 4)).block, (x.add (i * 4)).off + 3, none⟩ = some (.string f.text)
theorem ArgMl.below {B : Nat} {w w' : World} {a : Option Addr} {l : List Ml} (h : ArgMl B w a l) (hb : Below B w w') : ArgMl B w' a l := by
  intro i f hf
  obtain ⟨x, h1, h2, z0, c0, c1, c2, c3⟩ := h i f hf
  have hb2 : (x.add (i * 4)).block < B := by rw [g_add]; exact h2
  exact ⟨x, h1, h2, z0, (hb.cell hb2).trans c0, (hb.cell (p := ⟨(x.add (i * 4)).block, _, none⟩) hb2).trans c1, (hb.cell (p := ⟨(x.add (i * 4)).block, _, none⟩) hb2).trans c2, (hb.cell (p := ⟨(x.add (i * 4)).block, _, none⟩) hb2).trans c3⟩
theorem ArgMl.up {w w' : World} {a : Option Addr} {l : List Ml} (h : ArgMl w.heap.size w a l) (hb : Below w.heap.size w w') : ArgMl w'.heap.size w' a l := by
  intro i f hf
  obtain ⟨x, h1, h2, h3⟩ := h.below hb i f hf
  exact ⟨x, h1, Nat.lt_of_lt_of_le h2 hb.size, h3⟩

set_option maxHeartbeats 1000000 in
theorem eqMail_same (uid : Int) (flags : Int) (mod : Int) (text : ByteArray) (w : World) :
    Calls Try.prog 41 #[.agg #[.int .i64 uid, .int .i64 flags, .int .i64 mod, .string text], .agg #[.int .i64 uid, .int .i64 flags, .int .i64 mod, .string text]] w fun e w' => e = .returned (.bool true) ∧ Below w.heap.size w w' := by
  go_enter Try.func41, Try.ntmps41
  go_wp2
  go_ret
  refine ⟨rfl, ?_⟩
  go_grown

theorem Try.cellsMailInt : Try.prog.cellsOf 3 = 1 := by kernel_rfl
theorem Try.cellsMailStr : Try.prog.cellsOf 9 = 1 := by kernel_rfl

end Go.Proofs.Ytmedhmgihfenhab

/- Rows of Mails that are the same; marks in them. Made by gen_rows.py. -/
namespace Go.Proofs.Ytmedhmgihfenhab
open Go.RowKit
open Plain
set_option linter.unusedVariables false

namespace Plain
def mkMl (K : Nat) : Ml := ⟨(K : Int), (K : Int) + 1, (K : Int) + 1 + 1, ⟨(mkL (K + 3)).toArray⟩⟩
end Plain
set_option maxHeartbeats 1000000 in
set_option maxRecDepth 100000 in
theorem eqMailS_same (l : List Ml) (v1 v2 : Value) (B1 B2 : Nat) (w : World) (hs : l.length ≤ 1048576) (h1 : OwnMl B1 w v1 l) (h2 : OwnMl B2 w v2 l) :
    Calls Try.prog 34 #[v1, v2] w fun e w' => e = .returned (.bool true) ∧ Below w.heap.size w w' := by
  unfold OwnMl at h1 h2
  obtain ⟨n, hn⟩ : ∃ n, n = l.length := ⟨_, rfl⟩
  rw [← hn] at h1 h2 hs
  by_cases hz : n = 0
  · obtain ⟨a1, c1, rfl⟩ := g_shape h1
    obtain ⟨a2, c2, rfl⟩ := g_shape h2
    clear h1 h2 hn
    subst hz
    go_enter Try.func34, Try.ntmps34
    go_wp2
    refine wp_loop_rounds 1 ?_
    rw [rounds_succ]
    go_wp2
    go_ret
    exact ⟨rfl, Below.refl _ _⟩
  · rcases h1.2 with ⟨_, h10⟩ | ⟨g1, c1, cur1, rfl, hb1, hh1, _⟩
    · exact absurd h10 hz
    rcases h2.2 with ⟨_, h20⟩ | ⟨g2, c2, cur2, rfl, hb2, hh2, _⟩
    · exact absurd h20 hz
    have hl1 : g1 < w.heap.size := (h1.lt _ rfl).2
    have hl2 : g2 < w.heap.size := (h2.lt _ rfl).2
    have C1 := hide (fun (k : Nat) (f : Ml) (hx : l[k]? = some f) (hk : k < n) => ml_cells h1 hx hk)
    have C2 := hide (fun (k : Nat) (f : Ml) (hx : l[k]? = some f) (hk : k < n) => ml_cells h2 hx hk)
    have HN := hide hn
    clear h1 h2 hh1 hh2 hn
    go_enter Try.func34, Try.ntmps34
    go_wp2
    go_loopw [5] (fun i wr => ∃ k : Nat, k ≤ n ∧ i = .int .i64 k ∧ Below w.heap.size w wr) (fun i _ => n - (intOf i).toNat)
    case atStart => exact ⟨0, Nat.zero_le _, rfl, Below.refl _ _⟩
    case round =>
      obtain ⟨k, hk, rfl, hbel⟩ := hrel
      by_cases hlt : k < n
      · have hkl : k < l.length := by rw [← unhide HN]; exact hlt
        obtain ⟨c0, c1, c2, c3⟩ := unhide C1 k l[k] (List.getElem?_eq_getElem hkl) hlt
        obtain ⟨d0, d1, d2, d3⟩ := unhide C2 k l[k] (List.getElem?_eq_getElem hkl) hlt
        generalize l[k] = f at *
        obtain ⟨uid, flags, mod, text⟩ := f
        simp only at c0 c1 c2 c3 d0 d1 d2 d3
        have HE := hide (fun wx => eqMail_same uid flags mod text wx)
        rw [← hbel.cell (p := ⟨g1, _, none⟩) hl1] at c0 c1 c2 c3
        rw [← hbel.cell (p := ⟨g2, _, none⟩) hl2] at d0 d1 d2 d3
        have hr1 : g1 < wr.heap.size := Nat.lt_of_lt_of_le hl1 hbel.size
        have hr2 : g2 < wr.heap.size := Nat.lt_of_lt_of_le hl2 hbel.size
        have hik : (0 : Int) ≤ (k : Int) := by omega
        have hil : (k : Int) < (n : Int) := by omega
        go_wp2
        refine wp_region_held_drew (S := fun w' => w'.cell? ⟨g1, k * 4, none⟩ = some (.int .i64 uid) ∧ w'.cell? ⟨g1, k * 4 + 1, none⟩ = some (.int .i64 flags) ∧ w'.cell? ⟨g1, k * 4 + 2, none⟩ = some (.int .i64 mod) ∧ w'.cell? ⟨g1, k * 4 + 3, none⟩ = some (.string text) ∧ w'.cell? ⟨g2, k * 4, none⟩ = some (.int .i64 uid) ∧ w'.cell? ⟨g2, k * 4 + 1, none⟩ = some (.int .i64 flags) ∧ w'.cell? ⟨g2, k * 4 + 2, none⟩ = some (.int .i64 mod) ∧ w'.cell? ⟨g2, k * 4 + 3, none⟩ = some (.string text)) (by kernel_rfl) (⟨c0, c1, c2, c3, d0, d1, d2, d3⟩) (fun hHeld => ?_)
        refine takeVal 0 (some 17) ?_ rfl (by kernel_rfl) (by kernel_rfl) (by kernel_rfl) rfl (fun _ _ _ h => h) (by rfl) (by assumption) ?_ ?_
        rotate_left
        · (intro w hSw; (try dsimp only at hSw); go_simp <;> with_reducible rfl)
        simp only [Act.put, List.setIfInBounds_toArray, List.set_cons_zero, List.set_cons_succ]
        refine takeVal 1 (some 18) ?_ rfl (by kernel_rfl) (by kernel_rfl) (by kernel_rfl) rfl (fun _ _ _ h => h) (by rfl) (by assumption) ?_ ?_
        rotate_left
        · (intro w hSw; (try dsimp only at hSw); go_simp <;> with_reducible rfl)
        simp only [Act.put, List.setIfInBounds_toArray, List.set_cons_zero, List.set_cons_succ]
        refine takeVal 2 (some 19) ?_ rfl (by kernel_rfl) (by kernel_rfl) (by kernel_rfl) rfl (fun _ _ _ h => h) (by rfl) (by assumption) ?_ ?_
        rotate_left
        · (intro w hSw; (try dsimp only at hSw); go_simp <;> with_reducible rfl)
        simp only [Act.put, List.setIfInBounds_toArray, List.set_cons_zero, List.set_cons_succ]
        refine takeVal 3 (some 20) ?_ rfl (by kernel_rfl) (by kernel_rfl) (by kernel_rfl) rfl (fun _ _ _ h => h) (by rfl) (by assumption) ?_ ?_
        rotate_left
        · (intro w hSw; (try dsimp only at hSw); go_simp <;> with_reducible rfl)
        simp only [Act.put, List.setIfInBounds_toArray, List.set_cons_zero, List.set_cons_succ]
        refine takeVal 4 (some 21) ?_ rfl (by kernel_rfl) (by kernel_rfl) (by kernel_rfl) rfl (fun _ _ _ h => h) (by rfl) (by assumption) ?_ ?_
        rotate_left
        · (intro w hSw; (try dsimp only at hSw); go_simp <;> with_reducible rfl)
        simp only [Act.put, List.setIfInBounds_toArray, List.set_cons_zero, List.set_cons_succ]
        refine takeVal 5 (some 22) ?_ rfl (by kernel_rfl) (by kernel_rfl) (by kernel_rfl) rfl (fun _ _ _ h => h) (by rfl) (by assumption) ?_ ?_
        rotate_left
        · (intro w hSw; (try dsimp only at hSw); go_simp <;> with_reducible rfl)
        simp only [Act.put, List.setIfInBounds_toArray, List.set_cons_zero, List.set_cons_succ]
        refine takeVal 6 (some 23) ?_ rfl (by kernel_rfl) (by kernel_rfl) (by kernel_rfl) rfl (fun _ _ _ h => h) (by rfl) (by assumption) ?_ ?_
        rotate_left
        · (intro w hSw; (try dsimp only at hSw); go_simp <;> with_reducible rfl)
        simp only [Act.put, List.setIfInBounds_toArray, List.set_cons_zero, List.set_cons_succ]
        refine takeVal 7 (some 24) ?_ rfl (by kernel_rfl) (by kernel_rfl) (by kernel_rfl) rfl (fun _ _ _ h => h) (by rfl) (by assumption) ?_ ?_
        rotate_left
        · (intro w hSw; (try dsimp only at hSw); go_simp <;> with_reducible rfl)
        simp only [Act.put, List.setIfInBounds_toArray, List.set_cons_zero, List.set_cons_succ]
        refine wpAnyH_ready (rs := [8]) (by kernel_rfl) (by simp) ?_
        refine AllReadyH.cons rfl (fun K hK => ?_) AllReadyH.nil
        go_simp
        refine (unhide HE wr.drew).mono ?_
        rintro e w1 ⟨rfl, hb1⟩
        go_wp2_with fail
        refine hK.out _ _ (⟨g_cell (w := wr.drew) hb1 hHeld.1, g_cell (w := wr.drew) hb1 hHeld.2.1, g_cell (w := wr.drew) hb1 hHeld.2.2.1, g_cell (w := wr.drew) hb1 hHeld.2.2.2.1, g_cell (w := wr.drew) hb1 hHeld.2.2.2.2.1, g_cell (w := wr.drew) hb1 hHeld.2.2.2.2.2.1, g_cell (w := wr.drew) hb1 hHeld.2.2.2.2.2.2.1, g_cell (w := wr.drew) hb1 hHeld.2.2.2.2.2.2.2⟩) (fun hHeld2 => ?_)
        clear hK K hHeld
        have hHeld := hHeld2; clear hHeld2
        try simp only [Act.put, List.setIfInBounds_toArray, List.set_cons_zero, List.set_cons_succ]
        refine takeVal 9 (some 26) ?_ rfl (by kernel_rfl) (by kernel_rfl) (by kernel_rfl) rfl (fun _ _ _ h => h) (by rfl) (by assumption) ?_ ?_
        rotate_left
        · (intro w hSw; (try dsimp only at hSw); go_simp <;> with_reducible rfl)
        simp only [Act.put, List.setIfInBounds_toArray, List.set_cons_zero, List.set_cons_succ]
        refine wpAnyH_done (by kernel_rfl) ?_ _
        go_wp2
        go_roundw
        case rel => exact ⟨k + 1, by omega, by go_num, below2 hbel.drew hb1⟩
        case measure => simp [intOf]; omega
      · go_wp2
        go_ret
        exact ⟨rfl, hbel⟩

set_option maxHeartbeats 2000000 in
set_option maxRecDepth 100000 in
theorem markMailS_any (l : List Ml) (v : Value) (B k0 : Nat) (w : World) (hs : l.length ≤ 1048576) (hk0 : 1 ≤ k0) (hk1 : k0 ≤ 100000000) (h : OwnMl B w v l) :
    Calls Try.prog 19 #[v, .int .i64 (k0 : Int)] w fun e w' => e = .returned (.int .i64 ((k0 + l.length * 4 : Nat) : Int)) ∧ OwnMl B w' v (marksK mkMl 4 k0 l.length) ∧ w.grownBy w' v.ownBlock := by
  unfold OwnMl at h ⊢
  rw [marksK_len]
  obtain ⟨n, hn⟩ : ∃ n, n = l.length := ⟨_, rfl⟩
  have HN := hide hn
  rw [← hn] at h hs ⊢
  clear hn
  rcases h.2 with ⟨rfl, hz⟩ | ⟨g, cap, cur, rfl, hbg, hh, hrest⟩
  · subst hz
    have hl : l = [] := List.eq_nil_of_length_eq_zero (unhide HN).symm
    subst hl
    go_enter Try.func19, Try.ntmps19
    go_wp2
    refine wp_loop_rounds 1 ?_
    rw [rounds_succ]
    go_wp2
    go_ret
    exact ⟨by simp, h, g_self _ _⟩
  · clear hh hrest
    have H0 := hide h
    clear h
    go_enter Try.func19, Try.ntmps19
    go_wp2
    go_loopw [1, 5] (fun m i wr => ∃ (k K : Nat), k ≤ n ∧ K = k0 + k * 4 ∧ i = .int .i64 k ∧ m = .int .i64 (K : Int) ∧ wr.ownsRow B 46 4 (.slice (some ⟨g, 0, none⟩) n cap) n (rowC mlC (markedK mkMl 4 k0 l k)) ∧ w.grownBy wr (some g)) (fun _ i _ => n - (intOf i).toNat)
    case atStart => exact ⟨0, k0, Nat.zero_le _, by simp, rfl, rfl, by rw [markedK_zero]; exact unhide H0, g_self _ _⟩
    case round =>
      obtain ⟨k, K, hk, hK, rfl, rfl, hown, hgr⟩ := hrel
      by_cases hlt : k < n
      · have hkl : k < l.length := by have := unhide HN; omega
        have hset := hide (markedK_set mkMl 4 k0 hkl)
        have hget := markedK_at mkMl 4 k0 hkl
        have hKb : K ≤ 200000000 := by omega
        have hK0 : 1 ≤ K := by omega
        generalize l[k] = f at *
        rw [← hK] at hset
        have HK := hide hK
        clear hK
        have N3 := fun wx => markText_any (K + 3) wx (by omega) (by omega)
        rw [show ((K + 3 : Nat) : Int) = (K : Int) + 1 + 1 + 1 from by omega] at N3
        have M3 := hide N3
        clear N3
        obtain ⟨y0, d0⟩ := g_some hown (j := k * 4) (by omega)
        have f0 := hown.frozenAt (k * 4)
        obtain ⟨y1, d1⟩ := g_some hown (j := k * 4 + 1) (by omega)
        have f1 := hown.frozenAt (k * 4 + 1)
        obtain ⟨y2, d2⟩ := g_some hown (j := k * 4 + 2) (by omega)
        have f2 := hown.frozenAt (k * 4 + 2)
        have s0 := hown.stored (k * 4) (.int .i64 ((K : Int)))
        have r0 : (rowC mlC (markedK mkMl 4 k0 l k)).set (k * 4) (.int .i64 ((K : Int))) = rowC mlC ((markedK mkMl 4 k0 l k).set k (⟨(K : Int), f.flags, f.mod, f.text⟩ : Ml)) := rowC_set mlC_len hget (j := 0) (by decide) (⟨(K : Int), f.flags, f.mod, f.text⟩ : Ml) (.int .i64 ((K : Int))) rfl
        rw [r0] at s0
        clear r0
        have g10 := g_store (j := k * 4) hgr (.int .i64 ((K : Int)))
        have s1 := s0.1.stored (k * 4 + 1) (.int .i64 ((K : Int) + 1))
        rw [rowC_set2 mlC_len hget (⟨(K : Int), f.flags, f.mod, f.text⟩ : Ml) (j := 1) (by decide) (⟨(K : Int), (K : Int) + 1, f.mod, f.text⟩ : Ml) (.int .i64 ((K : Int) + 1)) rfl] at s1
        have g11 := g_store (j := k * 4 + 1) g10 (.int .i64 ((K : Int) + 1))
        have s2 := s1.1.stored (k * 4 + 2) (.int .i64 ((K : Int) + 1 + 1))
        rw [rowC_set2 mlC_len hget (⟨(K : Int), (K : Int) + 1, f.mod, f.text⟩ : Ml) (j := 2) (by decide) (⟨(K : Int), (K : Int) + 1, (K : Int) + 1 + 1, f.text⟩ : Ml) (.int .i64 ((K : Int) + 1 + 1)) rfl] at s2
        have g12 := g_store (j := k * 4 + 2) g11 (.int .i64 ((K : Int) + 1 + 1))
        have OX0 := hide s2.1
        have GX0 := hide g12
        clear hown hgr s0 g10 s1 g11 s2 g12
        go_wp2_with fail
        obtain ⟨X0, hX⟩ : ∃ X, X = (((wr.setCell ⟨g, k * 4, none⟩ (.int .i64 ((K : Int)))).setCell ⟨g, k * 4 + 1, none⟩ (.int .i64 ((K : Int) + 1))).setCell ⟨g, k * 4 + 2, none⟩ (.int .i64 ((K : Int) + 1 + 1))) := ⟨_, rfl⟩
        rw [← hX] at OX0 GX0 ⊢
        clear hX d0 f0 d1 f1 d2 f2
        refine (unhide M3 X0).mono ?_
        rintro e v0 ⟨rfl, hb⟩
        have ow0 := g_stays (unhide OX0) hb
        have gw0 := g_then (unhide GX0) hb
        clear hb
        obtain ⟨y3, d3⟩ := g_some ow0 (j := k * 4 + 3) (by omega)
        have f3 := ow0.frozenAt (k * 4 + 3)
        have s3 := ow0.stored (k * 4 + 3) (.string ⟨(mkL (K + 3)).toArray⟩)
        rw [rowC_set2 mlC_len hget (⟨(K : Int), (K : Int) + 1, (K : Int) + 1 + 1, f.text⟩ : Ml) (j := 3) (by decide) (⟨(K : Int), (K : Int) + 1, (K : Int) + 1 + 1, ⟨(mkL (K + 3)).toArray⟩⟩ : Ml) (.string ⟨(mkL (K + 3)).toArray⟩) rfl] at s3
        have g13 := g_store (j := k * 4 + 3) gw0 (.string ⟨(mkL (K + 3)).toArray⟩)
        have SZ := hide s3.1
        have GZ := hide g13
        rw [show (⟨(K : Int), (K : Int) + 1, (K : Int) + 1 + 1, ⟨(mkL (K + 3)).toArray⟩⟩ : Ml) = mkMl K from rfl, unhide hset] at SZ
        clear hget ow0 gw0 s3 g13
        go_wp2
        go_roundw
        case rel => exact ⟨k + 1, K + 4, by omega, by have := unhide HK; omega, by go_num, by go_num, unhide SZ, unhide GZ⟩
        case measure => simp [intOf]; omega
      · have e : k = n := by omega
        subst e
        have HK := hide hK
        clear hK
        have hown' : wr.ownsRow B 46 4 (.slice (some ⟨g, 0, none⟩) k cap) k (rowC mlC (marksK mkMl 4 k0 k)) := by
          have e2 : markedK mkMl 4 k0 l k = marksK mkMl 4 k0 k := by rw [unhide HN]; exact markedK_all _ _ _ _
          rw [e2] at hown
          exact hown
        have OO := hide hown'
        have GG := hide hgr
        clear hown hown' hgr
        go_wp2
        go_ret
        exact ⟨by rw [← unhide HK]; rfl, unhide OO, unhide GG⟩

set_option maxHeartbeats 1000000 in
set_option maxRecDepth 100000 in
theorem heldMailS_any (n : Nat) (v : Value) (B k0 : Nat) (w : World) (hs : n ≤ 1048576) (hk0 : 1 ≤ k0) (hk1 : k0 ≤ 100000000) (h : OwnMl B w v (marksK mkMl 4 k0 n)) :
    Calls Try.prog 21 #[v, .int .i64 (k0 : Int)] w fun e w' => e = .returned (.int .i64 ((k0 + n * 4 : Nat) : Int)) ∧ Below w.heap.size w w' := by
  unfold OwnMl at h
  rw [marksK_len] at h
  rcases h.2 with ⟨rfl, hz⟩ | ⟨g, cap, cur, rfl, hbg, hh, hrest⟩
  · subst hz
    go_enter Try.func21, Try.ntmps21
    go_wp2
    refine wp_loop_rounds 1 ?_
    rw [rounds_succ]
    go_wp2
    go_ret
    exact ⟨by simp, Below.refl _ _⟩
  · have hgl : g < w.heap.size := (h.lt g rfl).2
    have C := hide (fun (k : Nat) (hk : k < n) => ml_cells h (marksK_get (k0 := k0) hk) hk)
    clear hh hrest h
    go_enter Try.func21, Try.ntmps21
    go_wp2
    go_loopw [1, 5] (fun m i wr => ∃ (k K : Nat), k ≤ n ∧ K = k0 + k * 4 ∧ i = .int .i64 k ∧ m = .int .i64 (K : Int) ∧ Below w.heap.size w wr) (fun _ i _ => n - (intOf i).toNat)
    case atStart => exact ⟨0, k0, Nat.zero_le _, by simp, rfl, rfl, Below.refl _ _⟩
    case round =>
      obtain ⟨k, K, hk, hK, rfl, rfl, hbel⟩ := hrel
      by_cases hlt : k < n
      · obtain ⟨c0, c1, c2, c3⟩ := unhide C k hlt
        rw [← hK] at c0 c1 c2 c3
        rw [← hbel.cell (p := ⟨g, _, none⟩) hgl] at c0 c1 c2 c3
        simp only [mkMl] at c0 c1 c2 c3
        have N3 := fun wx => markText_any (K + 3) wx (by omega) (by omega)
        rw [show ((K + 3 : Nat) : Int) = (K : Int) + 1 + 1 + 1 from by omega] at N3
        have M3 := hide N3
        clear N3
        have hgl2 : g < wr.heap.size := by have := hbel.size; omega
        have hI1 : (0 : Int) ≤ (k : Int) := by omega
        have hI2 : (k : Int) < (n : Int) := by omega
        have hKb : K ≤ 200000000 := by omega
        have HK := hide hK
        clear hK
        go_wp2
        refine wp_region_held_drew (S := fun w' => w'.cell? ⟨g, k * 4 + 3, none⟩ = some (.string ⟨(mkL (K + 3)).toArray⟩)) (by kernel_rfl) (c3) (fun hHeld => ?_)
        refine takeVal 0 (some 39) ?_ rfl (by kernel_rfl) (by kernel_rfl) (by kernel_rfl) rfl (fun _ _ _ h => h) (by rfl) (by assumption) ?_ ?_
        rotate_left
        · (intro w hSw; (try dsimp only at hSw); go_simp <;> with_reducible rfl)
        simp only [Act.put, List.setIfInBounds_toArray, List.set_cons_zero, List.set_cons_succ]
        refine takeVal 1 (some 40) ?_ rfl (by kernel_rfl) (by kernel_rfl) (by kernel_rfl) rfl (fun _ _ _ h => h) (by rfl) (by assumption) ?_ ?_
        rotate_left
        · (intro w hSw; (try dsimp only at hSw); go_simp <;> with_reducible rfl)
        simp only [Act.put, List.setIfInBounds_toArray, List.set_cons_zero, List.set_cons_succ]
        refine takeVal 2 (some 41) ?_ rfl (by kernel_rfl) (by kernel_rfl) (by kernel_rfl) rfl (fun _ _ _ h => h) (by rfl) (by assumption) ?_ ?_
        rotate_left
        · (intro w hSw; (try dsimp only at hSw); go_simp <;> with_reducible rfl)
        simp only [Act.put, List.setIfInBounds_toArray, List.set_cons_zero, List.set_cons_succ]
        refine takeVal 3 (some 42) ?_ rfl (by kernel_rfl) (by kernel_rfl) (by kernel_rfl) rfl (fun _ _ _ h => h) (by rfl) (by assumption) ?_ ?_
        rotate_left
        · (intro w hSw; (try dsimp only at hSw); go_simp <;> with_reducible rfl)
        simp only [Act.put, List.setIfInBounds_toArray, List.set_cons_zero, List.set_cons_succ]
        refine takeVal 4 (some 43) ?_ rfl (by kernel_rfl) (by kernel_rfl) (by kernel_rfl) rfl (fun _ _ _ h => h) (by rfl) (by assumption) ?_ ?_
        rotate_left
        · (intro w hSw; (try dsimp only at hSw); go_simp <;> with_reducible rfl)
        simp only [Act.put, List.setIfInBounds_toArray, List.set_cons_zero, List.set_cons_succ]
        refine takeVal 5 (some 44) ?_ rfl (by kernel_rfl) (by kernel_rfl) (by kernel_rfl) rfl (fun _ _ _ h => h) (by rfl) (by assumption) ?_ ?_
        rotate_left
        · (intro w hSw; (try dsimp only at hSw); go_simp <;> with_reducible rfl)
        simp only [Act.put, List.setIfInBounds_toArray, List.set_cons_zero, List.set_cons_succ]
        refine wpAnyH_ready (rs := [6]) (by kernel_rfl) (by simp) ?_
        refine AllReadyH.cons rfl (fun K hK => ?_) AllReadyH.nil
        go_simp
        refine (unhide M3 _).mono ?_
        rintro e w1 ⟨rfl, hb1⟩
        go_wp2_with fail
        refine hK.out _ _ ((hb1.cell (p := ⟨g, k * 4 + 3, none⟩) hgl2).trans c3) (fun hHeld2 => ?_)
        clear hK K hHeld
        have hHeld := hHeld2; clear hHeld2
        try simp only [Act.put, List.setIfInBounds_toArray, List.set_cons_zero, List.set_cons_succ]
        refine takeVal 7 (some 46) ?_ rfl (by kernel_rfl) (by kernel_rfl) (by kernel_rfl) rfl (fun _ _ _ h => h) (by rfl) (by assumption) ?_ ?_
        rotate_left
        · (intro w hSw; (try dsimp only at hSw); go_simp <;> with_reducible rfl)
        simp only [Act.put, List.setIfInBounds_toArray, List.set_cons_zero, List.set_cons_succ]
        refine wpAnyH_done (by kernel_rfl) ?_ _
        have hB1 := below2 hbel.drew hb1
        have hglx1 : g < w1.heap.size := by have := hB1.size; omega
        go_wp2
        go_roundw
        case rel => exact ⟨k + 1, K + 4, by omega, by have := unhide HK; omega, by go_num, by go_num, hB1⟩
        case measure => simp [intOf]; omega
      · have e : k = n := by omega
        subst e
        have HK := hide hK
        clear hK
        go_wp2
        go_ret
        exact ⟨by rw [← unhide HK]; rfl, hbel⟩
end Go.Proofs.Ytmedhmgihfenhab

/- Rows of Tombs: what the laws' own helpers do to them; rows that came in. Made by gen_rows.py. -/
namespace Go.Proofs.Ytmedhmgihfenhab
open Go.RowKit Go.ChangeShapes Go.WideShapes Go.ChangeAt Go.Deep
open Plain
set_option linter.unusedVariables false
set_option linter.unusedSimpArgs false

namespace Plain
structure Tb where
  uid : Int
  mod : Int
def tbC (x : Tb) : List Value := [.int .i64 x.uid, .int .i64 x.mod]
theorem tbC_len : ∀ x, (tbC x).length = 2 := fun _ => rfl
def tb0 : Tb := ⟨0, 0⟩
def SmallTb (L : Nat) (l : List Tb) : Prop := l.length ≤ L
end Plain
theorem Try.infoTomb : (Try.prog.info? 49).map (fun i => (i.zero, i.size, i.bytes)) = some (some (.agg #[.int .i64 0, .int .i64 0]), 2, 16) := by kernel_rfl
def OwnTb (B : Nat) (w : World) (v : Value) (l : List Tb) : Prop := w.ownsRow B 49 2 v l.length (rowC tbC l)
theorem OwnTb.up {B : Nat} {w w' : World} {v : Value} {l : List Tb} (h : OwnTb B w v l) (hb : Below w.heap.size w w') : OwnTb B w' v l := g_stays h hb
theorem OwnTb.based {B B' : Nat} {w : World} {v : Value} {l : List Tb} (h : OwnTb B w v l) (hB : B' ≤ B) : OwnTb B' w v l := g_based h hB
theorem OwnTb.aside {B : Nat} {w w' : World} {v : Value} {l : List Tb} {row : Option Nat} (h : OwnTb B w v l) (hg : w.grownBy w' row) (hne : ∀ k, row = some k → v.ownBlock ≠ some k) : OwnTb B w' v l := g_aside h hg hne
theorem tb_cells {w : World} {B g n cap : Nat} {l : List Tb} (h : w.ownsRow B 49 2 (.slice (some ⟨g, 0, none⟩) n cap) n (rowC tbC l)) {k : Nat} {f : Tb} (hx : l[k]? = some f) (hk : k < n) :
    w.cell? ⟨g, k * 2, none⟩ = some (.int .i64 f.uid) ∧ w.cell? ⟨g, k * 2 + 1, none⟩ = some (.int .i64 f.mod) := by
  refine ⟨?_, ?_⟩
  · rw [h.cellAt _ (by omega)]; exact rowC_get tbC_len hx (j := 0) (by decide)
  · rw [h.cellAt _ (by omega)]; exact rowC_get tbC_len hx (j := 1) (by decide)
/-- Elements that came in, below block B. -/
def ArgTb (B : Nat) (w : World) (a : Option Addr) (l : List Tb) : Prop :=
  ∀ i f, l[i]? = some f → ∃ x, a = some x ∧ x.block < B ∧ w.cell? (x.add (i * 2)) = some (.int .i64 f.uid) ∧ w.cell? ⟨(x.add (i * 2)).block, (x.add (i * 2)).off + 1, none⟩ = some (.int .i64 f.mod)
theorem ArgTb.below {B : Nat} {w w' : World} {a : Option Addr} {l : List Tb} (h : ArgTb B w a l) (hb : Below B w w') : ArgTb B w' a l := by
  intro i f hf
  obtain ⟨x, h1, h2, c0, c1⟩ := h i f hf
  have hb2 : (x.add (i * 2)).block < B := by rw [g_add]; exact h2
  exact ⟨x, h1, h2, (hb.cell hb2).trans c0, (hb.cell (p := ⟨(x.add (i * 2)).block, _, none⟩) hb2).trans c1⟩
theorem ArgTb.up {w w' : World} {a : Option Addr} {l : List Tb} (h : ArgTb w.heap.size w a l) (hb : Below w.heap.size w w') : ArgTb w'.heap.size w' a l := by
  intro i f hf
  obtain ⟨x, h1, h2, h3⟩ := h.below hb i f hf
  exact ⟨x, h1, Nat.lt_of_lt_of_le h2 hb.size, h3⟩

set_option maxHeartbeats 1000000 in
theorem eqTomb_same (uid : Int) (mod : Int) (w : World) :
    Calls Try.prog 42 #[.agg #[.int .i64 uid, .int .i64 mod], .agg #[.int .i64 uid, .int .i64 mod]] w fun e w' => e = .returned (.bool true) ∧ Below w.heap.size w w' := by
  go_enter Try.func42, Try.ntmps42
  go_wp2
  go_ret
  refine ⟨rfl, ?_⟩
  go_grown

theorem Try.cellsTombInt : Try.prog.cellsOf 3 = 1 := by kernel_rfl

end Go.Proofs.Ytmedhmgihfenhab

/- Rows of Tombs that are the same; marks in them. Made by gen_rows.py. -/
namespace Go.Proofs.Ytmedhmgihfenhab
open Go.RowKit
open Plain
set_option linter.unusedVariables false

namespace Plain
def mkTb (K : Nat) : Tb := ⟨(K : Int), (K : Int) + 1⟩
end Plain
set_option maxHeartbeats 1000000 in
set_option maxRecDepth 100000 in
theorem eqTombS_same (l : List Tb) (v1 v2 : Value) (B1 B2 : Nat) (w : World) (hs : l.length ≤ 1048576) (h1 : OwnTb B1 w v1 l) (h2 : OwnTb B2 w v2 l) :
    Calls Try.prog 35 #[v1, v2] w fun e w' => e = .returned (.bool true) ∧ Below w.heap.size w w' := by
  unfold OwnTb at h1 h2
  obtain ⟨n, hn⟩ : ∃ n, n = l.length := ⟨_, rfl⟩
  rw [← hn] at h1 h2 hs
  by_cases hz : n = 0
  · obtain ⟨a1, c1, rfl⟩ := g_shape h1
    obtain ⟨a2, c2, rfl⟩ := g_shape h2
    clear h1 h2 hn
    subst hz
    go_enter Try.func35, Try.ntmps35
    go_wp2
    refine wp_loop_rounds 1 ?_
    rw [rounds_succ]
    go_wp2
    go_ret
    exact ⟨rfl, Below.refl _ _⟩
  · rcases h1.2 with ⟨_, h10⟩ | ⟨g1, c1, cur1, rfl, hb1, hh1, _⟩
    · exact absurd h10 hz
    rcases h2.2 with ⟨_, h20⟩ | ⟨g2, c2, cur2, rfl, hb2, hh2, _⟩
    · exact absurd h20 hz
    have hl1 : g1 < w.heap.size := (h1.lt _ rfl).2
    have hl2 : g2 < w.heap.size := (h2.lt _ rfl).2
    have C1 := hide (fun (k : Nat) (f : Tb) (hx : l[k]? = some f) (hk : k < n) => tb_cells h1 hx hk)
    have C2 := hide (fun (k : Nat) (f : Tb) (hx : l[k]? = some f) (hk : k < n) => tb_cells h2 hx hk)
    have HN := hide hn
    clear h1 h2 hh1 hh2 hn
    go_enter Try.func35, Try.ntmps35
    go_wp2
    go_loopw [5] (fun i wr => ∃ k : Nat, k ≤ n ∧ i = .int .i64 k ∧ Below w.heap.size w wr) (fun i _ => n - (intOf i).toNat)
    case atStart => exact ⟨0, Nat.zero_le _, rfl, Below.refl _ _⟩
    case round =>
      obtain ⟨k, hk, rfl, hbel⟩ := hrel
      by_cases hlt : k < n
      · have hkl : k < l.length := by rw [← unhide HN]; exact hlt
        obtain ⟨c0, c1⟩ := unhide C1 k l[k] (List.getElem?_eq_getElem hkl) hlt
        obtain ⟨d0, d1⟩ := unhide C2 k l[k] (List.getElem?_eq_getElem hkl) hlt
        generalize l[k] = f at *
        obtain ⟨uid, mod⟩ := f
        simp only at c0 c1 d0 d1
        have HE := hide (fun wx => eqTomb_same uid mod wx)
        rw [← hbel.cell (p := ⟨g1, _, none⟩) hl1] at c0 c1
        rw [← hbel.cell (p := ⟨g2, _, none⟩) hl2] at d0 d1
        have hr1 : g1 < wr.heap.size := Nat.lt_of_lt_of_le hl1 hbel.size
        have hr2 : g2 < wr.heap.size := Nat.lt_of_lt_of_le hl2 hbel.size
        have hik : (0 : Int) ≤ (k : Int) := by omega
        have hil : (k : Int) < (n : Int) := by omega
        go_wp2
        refine wp_region_held_drew (S := fun w' => w'.cell? ⟨g1, k * 2, none⟩ = some (.int .i64 uid) ∧ w'.cell? ⟨g1, k * 2 + 1, none⟩ = some (.int .i64 mod) ∧ w'.cell? ⟨g2, k * 2, none⟩ = some (.int .i64 uid) ∧ w'.cell? ⟨g2, k * 2 + 1, none⟩ = some (.int .i64 mod)) (by kernel_rfl) (⟨c0, c1, d0, d1⟩) (fun hHeld => ?_)
        refine takeVal 0 (some 17) ?_ rfl (by kernel_rfl) (by kernel_rfl) (by kernel_rfl) rfl (fun _ _ _ h => h) (by rfl) (by assumption) ?_ ?_
        rotate_left
        · (intro w hSw; (try dsimp only at hSw); go_simp <;> with_reducible rfl)
        simp only [Act.put, List.setIfInBounds_toArray, List.set_cons_zero, List.set_cons_succ]
        refine takeVal 1 (some 18) ?_ rfl (by kernel_rfl) (by kernel_rfl) (by kernel_rfl) rfl (fun _ _ _ h => h) (by rfl) (by assumption) ?_ ?_
        rotate_left
        · (intro w hSw; (try dsimp only at hSw); go_simp <;> with_reducible rfl)
        simp only [Act.put, List.setIfInBounds_toArray, List.set_cons_zero, List.set_cons_succ]
        refine takeVal 2 (some 19) ?_ rfl (by kernel_rfl) (by kernel_rfl) (by kernel_rfl) rfl (fun _ _ _ h => h) (by rfl) (by assumption) ?_ ?_
        rotate_left
        · (intro w hSw; (try dsimp only at hSw); go_simp <;> with_reducible rfl)
        simp only [Act.put, List.setIfInBounds_toArray, List.set_cons_zero, List.set_cons_succ]
        refine takeVal 3 (some 20) ?_ rfl (by kernel_rfl) (by kernel_rfl) (by kernel_rfl) rfl (fun _ _ _ h => h) (by rfl) (by assumption) ?_ ?_
        rotate_left
        · (intro w hSw; (try dsimp only at hSw); go_simp <;> with_reducible rfl)
        simp only [Act.put, List.setIfInBounds_toArray, List.set_cons_zero, List.set_cons_succ]
        refine takeVal 4 (some 21) ?_ rfl (by kernel_rfl) (by kernel_rfl) (by kernel_rfl) rfl (fun _ _ _ h => h) (by rfl) (by assumption) ?_ ?_
        rotate_left
        · (intro w hSw; (try dsimp only at hSw); go_simp <;> with_reducible rfl)
        simp only [Act.put, List.setIfInBounds_toArray, List.set_cons_zero, List.set_cons_succ]
        refine takeVal 5 (some 22) ?_ rfl (by kernel_rfl) (by kernel_rfl) (by kernel_rfl) rfl (fun _ _ _ h => h) (by rfl) (by assumption) ?_ ?_
        rotate_left
        · (intro w hSw; (try dsimp only at hSw); go_simp <;> with_reducible rfl)
        simp only [Act.put, List.setIfInBounds_toArray, List.set_cons_zero, List.set_cons_succ]
        refine takeVal 6 (some 23) ?_ rfl (by kernel_rfl) (by kernel_rfl) (by kernel_rfl) rfl (fun _ _ _ h => h) (by rfl) (by assumption) ?_ ?_
        rotate_left
        · (intro w hSw; (try dsimp only at hSw); go_simp <;> with_reducible rfl)
        simp only [Act.put, List.setIfInBounds_toArray, List.set_cons_zero, List.set_cons_succ]
        refine takeVal 7 (some 24) ?_ rfl (by kernel_rfl) (by kernel_rfl) (by kernel_rfl) rfl (fun _ _ _ h => h) (by rfl) (by assumption) ?_ ?_
        rotate_left
        · (intro w hSw; (try dsimp only at hSw); go_simp <;> with_reducible rfl)
        simp only [Act.put, List.setIfInBounds_toArray, List.set_cons_zero, List.set_cons_succ]
        refine wpAnyH_ready (rs := [8]) (by kernel_rfl) (by simp) ?_
        refine AllReadyH.cons rfl (fun K hK => ?_) AllReadyH.nil
        go_simp
        refine (unhide HE wr.drew).mono ?_
        rintro e w1 ⟨rfl, hb1⟩
        go_wp2_with fail
        refine hK.out _ _ (⟨g_cell (w := wr.drew) hb1 hHeld.1, g_cell (w := wr.drew) hb1 hHeld.2.1, g_cell (w := wr.drew) hb1 hHeld.2.2.1, g_cell (w := wr.drew) hb1 hHeld.2.2.2⟩) (fun hHeld2 => ?_)
        clear hK K hHeld
        have hHeld := hHeld2; clear hHeld2
        try simp only [Act.put, List.setIfInBounds_toArray, List.set_cons_zero, List.set_cons_succ]
        refine takeVal 9 (some 26) ?_ rfl (by kernel_rfl) (by kernel_rfl) (by kernel_rfl) rfl (fun _ _ _ h => h) (by rfl) (by assumption) ?_ ?_
        rotate_left
        · (intro w hSw; (try dsimp only at hSw); go_simp <;> with_reducible rfl)
        simp only [Act.put, List.setIfInBounds_toArray, List.set_cons_zero, List.set_cons_succ]
        refine wpAnyH_done (by kernel_rfl) ?_ _
        go_wp2
        go_roundw
        case rel => exact ⟨k + 1, by omega, by go_num, below2 hbel.drew hb1⟩
        case measure => simp [intOf]; omega
      · go_wp2
        go_ret
        exact ⟨rfl, hbel⟩

set_option maxHeartbeats 2000000 in
set_option maxRecDepth 100000 in
theorem markTombS_any (l : List Tb) (v : Value) (B k0 : Nat) (w : World) (hs : l.length ≤ 1048576) (hk0 : 1 ≤ k0) (hk1 : k0 ≤ 100000000) (h : OwnTb B w v l) :
    Calls Try.prog 20 #[v, .int .i64 (k0 : Int)] w fun e w' => e = .returned (.int .i64 ((k0 + l.length * 2 : Nat) : Int)) ∧ OwnTb B w' v (marksK mkTb 2 k0 l.length) ∧ w.grownBy w' v.ownBlock := by
  unfold OwnTb at h ⊢
  rw [marksK_len]
  obtain ⟨n, hn⟩ : ∃ n, n = l.length := ⟨_, rfl⟩
  have HN := hide hn
  rw [← hn] at h hs ⊢
  clear hn
  rcases h.2 with ⟨rfl, hz⟩ | ⟨g, cap, cur, rfl, hbg, hh, hrest⟩
  · subst hz
    have hl : l = [] := List.eq_nil_of_length_eq_zero (unhide HN).symm
    subst hl
    go_enter Try.func20, Try.ntmps20
    go_wp2
    refine wp_loop_rounds 1 ?_
    rw [rounds_succ]
    go_wp2
    go_ret
    exact ⟨by simp, h, g_self _ _⟩
  · clear hh hrest
    have H0 := hide h
    clear h
    go_enter Try.func20, Try.ntmps20
    go_wp2
    go_loopw [1, 5] (fun m i wr => ∃ (k K : Nat), k ≤ n ∧ K = k0 + k * 2 ∧ i = .int .i64 k ∧ m = .int .i64 (K : Int) ∧ wr.ownsRow B 49 2 (.slice (some ⟨g, 0, none⟩) n cap) n (rowC tbC (markedK mkTb 2 k0 l k)) ∧ w.grownBy wr (some g)) (fun _ i _ => n - (intOf i).toNat)
    case atStart => exact ⟨0, k0, Nat.zero_le _, by simp, rfl, rfl, by rw [markedK_zero]; exact unhide H0, g_self _ _⟩
    case round =>
      obtain ⟨k, K, hk, hK, rfl, rfl, hown, hgr⟩ := hrel
      by_cases hlt : k < n
      · have hkl : k < l.length := by have := unhide HN; omega
        have hset := hide (markedK_set mkTb 2 k0 hkl)
        have hget := markedK_at mkTb 2 k0 hkl
        have hKb : K ≤ 200000000 := by omega
        have hK0 : 1 ≤ K := by omega
        generalize l[k] = f at *
        rw [← hK] at hset
        have HK := hide hK
        clear hK
        obtain ⟨y0, d0⟩ := g_some hown (j := k * 2) (by omega)
        have f0 := hown.frozenAt (k * 2)
        obtain ⟨y1, d1⟩ := g_some hown (j := k * 2 + 1) (by omega)
        have f1 := hown.frozenAt (k * 2 + 1)
        have s0 := hown.stored (k * 2) (.int .i64 ((K : Int)))
        have r0 : (rowC tbC (markedK mkTb 2 k0 l k)).set (k * 2) (.int .i64 ((K : Int))) = rowC tbC ((markedK mkTb 2 k0 l k).set k (⟨(K : Int), f.mod⟩ : Tb)) := rowC_set tbC_len hget (j := 0) (by decide) (⟨(K : Int), f.mod⟩ : Tb) (.int .i64 ((K : Int))) rfl
        rw [r0] at s0
        clear r0
        have g10 := g_store (j := k * 2) hgr (.int .i64 ((K : Int)))
        have s1 := s0.1.stored (k * 2 + 1) (.int .i64 ((K : Int) + 1))
        rw [rowC_set2 tbC_len hget (⟨(K : Int), f.mod⟩ : Tb) (j := 1) (by decide) (⟨(K : Int), (K : Int) + 1⟩ : Tb) (.int .i64 ((K : Int) + 1)) rfl] at s1
        have g11 := g_store (j := k * 2 + 1) g10 (.int .i64 ((K : Int) + 1))
        have SZ := hide s1.1
        have GZ := hide g11
        rw [show (⟨(K : Int), (K : Int) + 1⟩ : Tb) = mkTb K from rfl, unhide hset] at SZ
        clear hget hown hgr s0 g10 s1 g11
        go_wp2
        go_roundw
        case rel => exact ⟨k + 1, K + 2, by omega, by have := unhide HK; omega, by go_num, by go_num, unhide SZ, unhide GZ⟩
        case measure => simp [intOf]; omega
      · have e : k = n := by omega
        subst e
        have HK := hide hK
        clear hK
        have hown' : wr.ownsRow B 49 2 (.slice (some ⟨g, 0, none⟩) k cap) k (rowC tbC (marksK mkTb 2 k0 k)) := by
          have e2 : markedK mkTb 2 k0 l k = marksK mkTb 2 k0 k := by rw [unhide HN]; exact markedK_all _ _ _ _
          rw [e2] at hown
          exact hown
        have OO := hide hown'
        have GG := hide hgr
        clear hown hown' hgr
        go_wp2
        go_ret
        exact ⟨by rw [← unhide HK]; rfl, unhide OO, unhide GG⟩

set_option maxHeartbeats 1000000 in
set_option maxRecDepth 100000 in
theorem heldTombS_any (n : Nat) (v : Value) (B k0 : Nat) (w : World) (hs : n ≤ 1048576) (hk0 : 1 ≤ k0) (hk1 : k0 ≤ 100000000) (h : OwnTb B w v (marksK mkTb 2 k0 n)) :
    Calls Try.prog 22 #[v, .int .i64 (k0 : Int)] w fun e w' => e = .returned (.int .i64 ((k0 + n * 2 : Nat) : Int)) ∧ Below w.heap.size w w' := by
  unfold OwnTb at h
  rw [marksK_len] at h
  rcases h.2 with ⟨rfl, hz⟩ | ⟨g, cap, cur, rfl, hbg, hh, hrest⟩
  · subst hz
    go_enter Try.func22, Try.ntmps22
    go_wp2
    refine wp_loop_rounds 1 ?_
    rw [rounds_succ]
    go_wp2
    go_ret
    exact ⟨by simp, Below.refl _ _⟩
  · have C := hide (fun (k : Nat) (hk : k < n) => tb_cells h (marksK_get (k0 := k0) hk) hk)
    clear hh hrest h
    go_enter Try.func22, Try.ntmps22
    go_wp2
    go_loop [1, 5] (fun m i => ∃ (k K : Nat), k ≤ n ∧ K = k0 + k * 2 ∧ i = .int .i64 k ∧ m = .int .i64 (K : Int)) (fun _ i => n - (intOf i).toNat)
    case atStart => exact ⟨0, k0, Nat.zero_le _, by simp, rfl, rfl⟩
    case round =>
      obtain ⟨k, K, hk, hK, rfl, rfl⟩ := hrel
      by_cases hlt : k < n
      · obtain ⟨c0, c1⟩ := unhide C k hlt
        rw [← hK] at c0 c1
        simp only [mkTb] at c0 c1
        have hKb : K ≤ 200000000 := by omega
        have HK := hide hK
        clear hK
        go_wp2
        go_round
        case rel => exact ⟨k + 1, K + 2, by omega, by have := unhide HK; omega, by go_num, by go_num⟩
        case measure => simp [intOf]; omega
      · have e : k = n := by omega
        subst e
        have HK := hide hK
        clear hK
        go_wp2
        go_ret
        exact ⟨by rw [show (k0 : Int) + (k : Int) * 2 = (K : Int) from by have := unhide HK; omega]; rfl, Below.refl _ _⟩
end Go.Proofs.Ytmedhmgihfenhab

/- Boxes as values: what the laws' own helpers do to them. Made by gen_boxval.py. -/
namespace Go.Proofs.Ytmedhmgihfenhab
open Go.RowKit Go.ChangeShapes Go.WideShapes Go.ChangeAt Go.Deep
open Plain
set_option linter.unusedVariables false
set_option linter.unusedSimpArgs false

namespace Plain
structure Bx where
  name : ByteArray
  valid : Int
  next : Int
  mod : Int
  mails : List Ml
  tombs : List Tb
  hor : Int
/-- None of it is too long. -/
def SmallBx (L : Nat) (b : Bx) : Prop := b.name.size ≤ L ∧ SmallMl L b.mails ∧ b.tombs.length ≤ L
end Plain
abbrev boxV (b : Bx) (m t : Value) : Value := .agg #[.string b.name, .int .i64 b.valid, .int .i64 b.next, .int .i64 b.mod, m, t, .int .i64 b.hor]
/-- A box whose rows are one's own. -/
def OwnBx (B : Nat) (w : World) (m t : Value) (b : Bx) : Prop := OwnMl B w m b.mails ∧ OwnTb B w t b.tombs
theorem OwnBx.up {B : Nat} {w w' : World} {m t : Value} {b : Bx} (h : OwnBx B w m t b) (hb : Below w.heap.size w w') : OwnBx B w' m t b := ⟨h.1.up hb, h.2.up hb⟩
theorem OwnBx.based {B B' : Nat} {w : World} {m t : Value} {b : Bx} (h : OwnBx B w m t b) (hB : B' ≤ B) : OwnBx B' w m t b := ⟨h.1.based hB, h.2.based hB⟩
theorem OwnBx.but {B : Nat} {w w' : World} {S : Nat → Prop} {m t : Value} {b : Bx} (h : OwnBx B w m t b) (hg : GrownBut w w' S) (hS : ∀ g, (m.ownBlock = some g ∨ t.ownBlock = some g) → ¬ S g) : OwnBx B w' m t b :=
  ⟨hg.row h.1 (fun g hg => hS g (.inl hg)), hg.row h.2 (fun g hg => hS g (.inr hg))⟩
theorem OwnBx.base {B : Nat} {w : World} {m t : Value} {b : Bx} (h : OwnBx B w m t b) : ∀ g, (m.ownBlock = some g ∨ t.ownBlock = some g) → B ≤ g ∧ g < w.heap.size := by
  intro g hg
  rcases hg with hg | hg
  · exact h.1.lt g hg
  · exact h.2.lt g hg
/-- A box that came in. -/
structure ArgBx (B : Nat) (w : World) (a1 a2 : Option Addr) (b : Bx) : Prop where
  name : b.name.size ≤ maxLen
  m1 : b.mails.length ≤ maxLen
  m2 : b.tombs.length ≤ maxLen
  mails : ArgMl B w a1 b.mails
  tombs : ArgTb B w a2 b.tombs
theorem ArgBx.below {B : Nat} {w w' : World} {a1 a2 : Option Addr} {b : Bx} (h : ArgBx B w a1 a2 b) (hb : Below B w w') : ArgBx B w' a1 a2 b := ⟨h.name, h.m1, h.m2, h.mails.below hb, h.tombs.below hb⟩
theorem ArgBx.up {w w' : World} {a1 a2 : Option Addr} {b : Bx} (h : ArgBx w.heap.size w a1 a2 b) (hb : Below w.heap.size w w') : ArgBx w'.heap.size w' a1 a2 b := ⟨h.name, h.m1, h.m2, h.mails.up hb, h.tombs.up hb⟩

end Go.Proofs.Ytmedhmgihfenhab

/- Boxes: sizes, sameness, marks; a box that came in, opened. Made by gen_boxmarks.py. -/
namespace Go.Proofs.Ytmedhmgihfenhab
open Go.RowKit Go.ChangeShapes Go.WideShapes Go.ChangeAt Go.Deep
open Plain
set_option linter.unusedVariables false
set_option linter.unusedSimpArgs false

set_option maxHeartbeats 4000000 in
set_option maxRecDepth 100000 in
theorem eqBox_same (b : Bx) (m1 t1 m2 t2 : Value) (B1 B2 : Nat) (w : World) (hs1 : b.mails.length ≤ 1048576) (hs2 : b.tombs.length ≤ 1048576) (h1 : OwnBx B1 w m1 t1 b) (h2 : OwnBx B2 w m2 t2 b) :
    Calls Try.prog 17 #[boxV b m1 t1, boxV b m2 t2] w fun e w' => e = .returned (.bool true) ∧ Below w.heap.size w w' := by
  obtain ⟨am, cm, rfl⟩ := g_shape h1.1
  obtain ⟨at1, ct1, rfl⟩ := g_shape h1.2
  obtain ⟨am2, cm2, rfl⟩ := g_shape h2.1
  obtain ⟨at2, ct2, rfl⟩ := g_shape h2.2
  have n0 := HasObj.new w 32 [.string b.name, .int .i64 b.valid, .int .i64 b.next, .int .i64 b.mod, .slice am b.mails.length cm, .slice at1 b.tombs.length ct1, .int .i64 b.hor]
  have n1 := HasObj.new (w.alloc (.cells ([.string b.name, .int .i64 b.valid, .int .i64 b.next, .int .i64 b.mod, .slice am b.mails.length cm, .slice at1 b.tombs.length ct1, .int .i64 b.hor] : List Value).toArray 32)) 32 [.string b.name, .int .i64 b.valid, .int .i64 b.next, .int .i64 b.mod, .slice am2 b.mails.length cm2, .slice at2 b.tombs.length ct2, .int .i64 b.hor]
  rw [World.size_alloc] at n1
  obtain ⟨X, hX⟩ : ∃ X, X = (w.alloc (.cells ([.string b.name, .int .i64 b.valid, .int .i64 b.next, .int .i64 b.mod, .slice am b.mails.length cm, .slice at1 b.tombs.length ct1, .int .i64 b.hor] : List Value).toArray 32)).alloc (.cells ([.string b.name, .int .i64 b.valid, .int .i64 b.next, .int .i64 b.mod, .slice am2 b.mails.length cm2, .slice at2 b.tombs.length ct2, .int .i64 b.hor] : List Value).toArray 32) := ⟨_, rfl⟩
  have x0 : HasObj X w.heap.size 32 [.string b.name, .int .i64 b.valid, .int .i64 b.next, .int .i64 b.mod, .slice am b.mails.length cm, .slice at1 b.tombs.length ct1, .int .i64 b.hor] := by rw [hX]; exact n0.alloc _
  have x1 : HasObj X (w.heap.size + 1) 32 [.string b.name, .int .i64 b.valid, .int .i64 b.next, .int .i64 b.mod, .slice am2 b.mails.length cm2, .slice at2 b.tombs.length ct2, .int .i64 b.hor] := by rw [hX]; exact n1
  have hbX : Below w.heap.size w X := by rw [hX]; exact ((Below.refl _ _).alloc (Nat.le_refl _) _).alloc (by simp) _
  have HM := hide (eqMailS_same b.mails _ _ B1 B2 X hs1 (h1.up hbX).1 (h2.up hbX).1)
  have O1 := hide (h1.up hbX)
  have O2 := hide (h2.up hbX)
  have p0 := x0.cell 0 rfl
  have q0 := x1.cell 0 rfl
  have p1 := x0.cell 1 rfl
  have q1 := x1.cell 1 rfl
  have p2 := x0.cell 2 rfl
  have q2 := x1.cell 2 rfl
  have p3 := x0.cell 3 rfl
  have q3 := x1.cell 3 rfl
  have p4 := x0.cell 4 rfl
  have q4 := x1.cell 4 rfl

  have X0 := hide x0
  have X1 := hide x1
  have BX := hide hbX
  have HX := hX.symm
  clear n0 n1 x0 x1 hbX hX h1 h2
  go_enter Try.func17, Try.ntmps17
  go_wp2_with fail
  refine (unhide HM).mono ?_
  rintro e w1 ⟨rfl, hb1⟩
  have y0 := (unhide X0).ups hb1
  have y1 := (unhide X1).ups hb1
  have r5 := y0.cell 5 rfl
  have s5 := y1.cell 5 rfl
  have HT := hide (eqTombS_same b.tombs _ _ B1 B2 w1 hs2 ((unhide O1).up hb1).2 ((unhide O2).up hb1).2)
  have B1' := hide ((unhide BX).trans (hb1.mono (unhide BX).size))
  have Y0 := hide y0
  have Y1 := hide y1
  clear y0 y1 hb1 HX p0 q0 p1 q1 p2 q2 p3 q3 p4 q4
  go_wp2_with fail
  refine (unhide HT).mono ?_
  rintro e w2 ⟨rfl, hb2⟩
  have r6 := ((unhide Y0).ups hb2).cell 6 rfl
  have s6 := ((unhide Y1).ups hb2).cell 6 rfl
  have B2' := hide ((unhide B1').trans (hb2.mono (unhide B1').size))
  clear hb2 r5 s5
  go_wp2
  go_ret
  exact ⟨rfl, unhide B2'⟩

/-- The marks of a box's rows. -/
def markBx (k0 : Nat) (b : Bx) : Bx := { b with mails := marksK mkMl 4 k0 b.mails.length, tombs := marksK mkTb 2 (k0 + b.mails.length * 4) b.tombs.length }
end Go.Proofs.Ytmedhmgihfenhab

/- The ledger of the laws on boxes: what every step carries on. -/
namespace Go.Proofs.Ytmedhmgihfenhab
open Go.RowKit
open Plain
set_option linter.unusedVariables false

theorem HasObj.drew {W : World} {b : Nat} {t : TypeId} {vs : List Value} (h : HasObj W b t vs) : HasObj W.drew b t vs := h
theorem OwnBx.drew {B : Nat} {W : World} {m t : Value} {b : Bx} (h : OwnBx B W m t b) : OwnBx B W.drew m t b := ⟨h.1, h.2⟩
theorem OwnMl.drew {B : Nat} {W : World} {v : Value} {l : List Ml} (h : OwnMl B W v l) : OwnMl B W.drew v l := h
theorem OwnTb.drew {B : Nat} {W : World} {v : Value} {l : List Tb} (h : OwnTb B W v l) : OwnTb B W.drew v l := h
theorem below_y {w W W' : World} (h : Below w.heap.size w W) (hb : Below W.heap.size W W') : Below w.heap.size w W' := h.trans (hb.mono h.size)
end Go.Proofs.Ytmedhmgihfenhab
