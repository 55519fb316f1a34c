/- Draws over the memory's pieces: the cursor is one of them. -/
import Derived.Test.YtjaohlnejkgkaaaGreatDoorMemR
import Derived.Test.YtjaohlnejkgkaaaGreatDoorDrawNew
namespace Go.Proofs.YtjaohlnejkgkaaaGreatDoor
open Go.RowKit
open Plain
set_option linter.unusedVariables false
set_option linter.unusedSimpArgs false

set_option maxHeartbeats 1000000 in
theorem l01Pick_one (p : ByteArray → Prop) (B c g m cp : Nat) (w : World) (hc : Cur B w c) (hm : 0 < m) (hm2 : m ≤ 1000) (hne : g ≠ c) (hg : g < w.heap.size)
    (hl : ∀ j, j < m → ∃ z : ByteArray, p z ∧ w.cell? ⟨g, j, none⟩ = some (.string z)) :
    Calls Tryz.prog 14 #[.pointer (some ⟨c, 0, none⟩), .slice (some ⟨g, 0, none⟩) m cp] w fun e w' => ∃ z : ByteArray, p z ∧ e = .returned (.string z) ∧ Cur B w' c ∧ w.grownBy w' (some c) := by
  have q := hide (l01Below_any B c m w hc hm (by omega))
  have HL := hide hl
  clear hl hc
  go_enter Tryz.func14, Tryz.ntmps14
  go_wp2_with (go_at_call 13; refine (unhide q).mono ?_; rintro e w1 ⟨x, hx, rfl, hc1, hg1⟩; obtain ⟨z, hz1, hz3⟩ := unhide HL x hx; have hz4 : w1.cell? ⟨g, x, none⟩ = some (.string z) := (World.cell?_of_block (w := w) (a := ⟨g, x, none⟩) (hg1.block g hg (fun e => hne (by cases e; rfl)))).trans hz3)
  go_ret
  exact ⟨z, hz1, rfl, hc1, hg1⟩

/-- What a cursor holds: bytes that came in ahead of w, and a place in them. -/
def CurOk (w : World) (cs : List Value) : Prop := ∃ (B : Nat) (a : Option Addr) (len cap i : Nat) (h : Int), cs = [.slice a len cap, .int .i64 (i : Int), .int .i64 h] ∧ B ≤ w.heap.size ∧ i ≤ len ∧ Arg B w a len
theorem CurOk.cur {w W : World} {c : Nat} {cs : List Value} {L : List Pc} (ho : CurOk w cs) (M : Mem w W (.obj c 49 cs :: L)) : ∃ B, B ≤ w.heap.size ∧ Cur B W c := by
  obtain ⟨B, a, len, cap, i, h, rfl, hB, hi, ha⟩ := ho
  have hl := M.lies _ (List.mem_cons_self ..)
  exact ⟨B, hB, a, len, cap, i, h, Nat.le_trans hB hl.1, hi, ha.below (M.below.mono hB), hl.2⟩
/-- Behind a call that moves the cursor and nothing else. -/
theorem cur_moved {B : Nat} {w W W' : World} {c : Nat} {cs : List Value} {L : List Pc} (hB : B ≤ w.heap.size) (M : Mem w W (.obj c 49 cs :: L)) (hc : Cur B W' c) (hg : W.grownBy W' (some c)) : ∃ cs', CurOk w cs' ∧ Mem w W' (.obj c 49 cs' :: L) := by
  have hl := M.lies _ (List.mem_cons_self ..)
  obtain ⟨a, len, cap, i, h, h1, h2, h3, h4⟩ := hc
  have M2 : Mem w W' (.obj c 49 [.slice a len cap, .int .i64 (i : Int), .int .i64 h] :: L) := M.turn (p := .obj c 49 cs) hg ⟨hl.1, h4⟩ (.inl rfl)
  refine ⟨_, ⟨B, a, len, cap, i, h, rfl, hB, h2, ⟨h3.1, fun j hj => ?_⟩⟩, M2⟩
  obtain ⟨x, u, e1, e2, e3, e4⟩ := h3.2 j hj
  refine ⟨x, u, e1, e2, e3, ?_⟩
  rw [← e4]
  exact (M2.below.cell (by rw [add_block]; omega)).symm
theorem below_mem {w W : World} {c : Nat} {cs : List Value} {L R : List Pc} (n : Nat) (ho : CurOk w cs) (h0 : 0 < n) (h1 : n ≤ 4294967296) [M : Mem w W L] [hr : Rem L (.obj c 49 cs) R] :
    Calls Tryz.prog 13 #[.pointer (some ⟨c, 0, none⟩), .int .i64 n] W fun e W' => ∃ (x : Nat) (cs' : List Value), x < n ∧ e = .returned (.int .i64 (x : Int)) ∧ CurOk w cs' ∧ Mem w W' (.obj c 49 cs' :: R) := by
  have M1 := M.perm hr.out
  obtain ⟨B, hB, hc⟩ := ho.cur M1
  refine (l01Below_any B c n W hc h0 h1).mono ?_
  rintro e W' ⟨x, hx, rfl, hc1, hg⟩
  obtain ⟨cs', h2, M2⟩ := cur_moved hB M1 hc1 hg
  exact ⟨x, cs', hx, rfl, h2, M2⟩
/-- One of the texts. -/
theorem pick_mem {w W : World} {c g m cp : Nat} {cs vs : List Value} {t : TypeId} {L R : List Pc} {f : Pc → List Pc} (zs : List (List UInt8)) (ho : CurOk w cs) (hm : m = zs.length) (h0 : 0 < zs.length) (h1 : zs.length ≤ 1000) (hv : vs = strs zs) [M : Mem w W L] [hr : Rem L (.obj c 49 cs) R] [hb : Ob R g t vs f] :
    Calls Tryz.prog 14 #[.pointer (some ⟨c, 0, none⟩), .slice (some ⟨g, 0, none⟩) m cp] W fun e W' => ∃ (z : List UInt8) (cs' : List Value), z ∈ zs ∧ e = .returned (.string ⟨z.toArray⟩) ∧ CurOk w cs' ∧ Mem w W' (.obj c 49 cs' :: R) := by
  subst hm
  subst hv
  have M1 := M.perm hr.out
  obtain ⟨B, hB, hc⟩ := ho.cur M1
  have hz := M1.lies _ (List.mem_cons_of_mem _ hb.out)
  have hap := (List.pairwise_cons.1 M1.apart).1 _ hb.out
  have hne : g ≠ c := fun e => hap c rfl (by rw [e]; rfl)
  refine (l01Pick_one (fun z => ∃ x ∈ zs, z = ⟨x.toArray⟩) B c g zs.length cp W hc h0 h1 hne hz.2.lt (fun j hj => ⟨⟨zs[j].toArray⟩, ⟨zs[j], List.getElem_mem _, rfl⟩, ?_⟩)).mono ?_
  · exact hz.2.cell j (by unfold strs; rw [List.getElem?_map, List.getElem?_eq_getElem hj]; rfl)
  · rintro e W' ⟨z, ⟨x, hx, rfl⟩, rfl, hc1, hg⟩
    obtain ⟨cs', h2, M2⟩ := cur_moved hB M1 hc1 hg
    exact ⟨x, cs', hx, rfl, h2, M2⟩
/-- An object as a row. -/
theorem Mem.objRow {w W : World} {L : List Pc} {b : Nat} {t : TypeId} {vs : List Value} {f : Pc → List Pc} (n m : Nat) (hv : vs.length = n * m) (hn : n ≤ maxLen) [M : Mem w W L] [h : InL L (.obj b t vs) f] : Mem w W (f (.row (some ⟨b, 0, none⟩) n n t m vs)) := by
  have hp := M.get (.obj b t vs)
  exact M.turn (p := .obj b t vs) (g_self W _) ⟨hv, .inr ⟨b, n, vs.toArray, rfl, hp.1, hp.2, Nat.le_refl _, hn, by simpa using hv, by rw [← hv]; simp⟩⟩ (.inl rfl)
theorem once_mem {w W : World} {c : Nat} {cs : List Value} {L R : List Pc} (n : Nat) (ho : CurOk w cs) (h0 : 0 < n) (h1 : n ≤ 256) [M : Mem w W L] [hr : Rem L (.obj c 49 cs) R] :
    Calls Tryz.prog 66 #[.pointer (some ⟨c, 0, none⟩), .int .i64 n] W fun e W' => ∃ (x : Bool) (cs' : List Value), e = .returned (.bool x) ∧ CurOk w cs' ∧ Mem w W' (.obj c 49 cs' :: R) := by
  have HO := hide ho
  clear ho
  go_enter Tryz.func66, Tryz.ntmps66
  go_wp2_with fail
  refine (below_mem (cs := cs) n (unhide HO) h0 (by omega)).mono ?_
  rintro e w1 ⟨x, cs', hx, rfl, h2, M2⟩
  go_wp2
  go_ret
  exact ⟨_, cs', rfl, h2, M2⟩
/-- The cursor made anew. -/
theorem new_mem {w W : World} {len cap : Nat} {a : Option Addr} {L : List Pc} (ha : Arg w.heap.size w a len) [M : Mem w W L] :
    Calls Tryz.prog 12 #[.slice a len cap] W fun e W' => ∃ cs c, e = .returned (.pointer (some ⟨c, 0, none⟩)) ∧ CurOk w cs ∧ Mem w W' (.obj c 49 cs :: L) := by
  refine (l01New_any w.heap.size len cap a W (ha.below M.below) M.below.size).mono ?_
  rintro e W' ⟨rfl, hc, hg⟩
  obtain ⟨a2, len2, cap2, i, h, h1, h2, h3, h4⟩ := hc
  have hb := g_below hg
  have M2 : Mem W W' [.obj W.heap.size 49 [.slice a2 len2 cap2, .int .i64 (i : Int), .int .i64 h]] :=
    ⟨hb, fun p hp => (by cases List.mem_singleton.1 hp; exact ⟨Nat.le_refl _, h4⟩), List.pairwise_singleton _ _⟩
  have M3 := M.more1 M2
  refine ⟨_, _, rfl, ⟨w.heap.size, a2, len2, cap2, i, h, rfl, Nat.le_refl _, h2, ⟨h3.1, fun j hj => ?_⟩⟩, M3⟩
  obtain ⟨x, u, e1, e2, e3, e4⟩ := h3.2 j hj
  refine ⟨x, u, e1, e2, e3, ?_⟩
  rw [← e4]
  exact (M3.below.cell (by rw [add_block]; omega)).symm
/-- append of some elements that were made just now. -/
theorem mem_append_k {P : Program} {ops : Array Oper} {rest : List Oper} {o : Oper} {a : Act} {Q : Exit → Act → World → Prop} {w w0 : World} {L : List Pc} (hgd : o.guard = none) (s x : Operand) (t : TypeId) (xs : List Value) (b k : Nat) (news : List Value) {c1 : Nat}
    {e : TypeId} {size bytes n c : Nat} {av : Option Addr} {f g2 : Pc → List Pc} [E : Elem P t e size bytes] [M : Mem w0 w L] [hin : InL L (.row av n c e size xs) f] [hob : Ob L b e news g2]
    (ho : o.op = .call { callee := .builtin .append, args := #[s, x], argTypes := #[t, t] }) (hs : a.eval s = .slice av n c) (hx : a.eval x = .slice (some ⟨b, 0, none⟩) k c1)
    (h1 : ∀ u ∈ news, u.oneCell' = true) (hl : news.length = k * size) (hn : n + k ≤ 4000000) (hk : 0 < k) (hbytes : bytes ≤ 1000)
    (h : ∀ g cap w', Mem w0 w' (f (.row (some ⟨g, 0, none⟩) (n + k) cap e size (xs ++ news))) → wpList P ops Q rest (a.put o.dst (.slice (some ⟨g, 0, none⟩) (n + k) cap)) w') : wpList P ops Q (o :: rest) a w :=
  wpList_plain hgd fun K hK => by
    obtain ⟨hu, i, z, hi, hz, h2, h3, h4, h5⟩ := E.out
    have hown : w.ownsRow w0.heap.size e size (.slice av n c) n xs := M.get (.row av n c e size xs)
    have hO := (M.lies _ hob.out).2
    refine wp_append_lies w s x t ho w0.heap.size e i z size bytes hu hi hz h2 h3 h4 h5 _ n xs hs hown ⟨b, 0, none⟩ k c1 news hx hl (fun j u hj => ?_) h1 hk (by unfold maxLen; omega) ?_ M.size w.heap.size rfl fun g cap w' ho' hg hb hlt => ?_
    · rw [Addr.add_lit, Nat.zero_add]
      exact hO.cell j hj
    · have : (n + k) * bytes ≤ 4000000 * 1000 := Nat.mul_le_mul hn hbytes
      omega
    · refine hK _ _ (h g cap w' (M.turn (p := .row av n c e size xs) hg ho' ?_))
      rcases hb with hb | rfl
      · exact .inl hb.symm
      · exact .inr rfl
/-- append of a row of one's own to another. -/
theorem mem_append_rw {P : Program} {ops : Array Oper} {rest : List Oper} {o : Oper} {a : Act} {Q : Exit → Act → World → Prop} {w w0 : World} {L : List Pc} (hgd : o.guard = none) (s x : Operand) (t : TypeId) (xs : List Value) (b k : Nat) (news : List Value) {c1 : Nat}
    {e : TypeId} {size bytes n c : Nat} {av : Option Addr} {f g2 : Pc → List Pc} [E : Elem P t e size bytes] [M : Mem w0 w L] [hin : InL L (.row av n c e size xs) f] [hob : InL L (.row (some ⟨b, 0, none⟩) k c1 e size news) g2]
    (ho : o.op = .call { callee := .builtin .append, args := #[s, x], argTypes := #[t, t] }) (hs : a.eval s = .slice av n c) (hx : a.eval x = .slice (some ⟨b, 0, none⟩) k c1)
    (h1 : ∀ u ∈ news, u.oneCell' = true) (hl : news.length = k * size) (hn : n + k ≤ 4000000) (hk : 0 < k) (hbytes : bytes ≤ 1000)
    (h : ∀ g cap w', Mem w0 w' (f (.row (some ⟨g, 0, none⟩) (n + k) cap e size (xs ++ news))) → wpList P ops Q rest (a.put o.dst (.slice (some ⟨g, 0, none⟩) (n + k) cap)) w') : wpList P ops Q (o :: rest) a w :=
  wpList_plain hgd fun K hK => by
    obtain ⟨hu, i, z, hi, hz, h2, h3, h4, h5⟩ := E.out
    have hown : w.ownsRow w0.heap.size e size (.slice av n c) n xs := M.get (.row av n c e size xs)
    have hO : w.ownsRow w0.heap.size e size (.slice (some ⟨b, 0, none⟩) k c1) k news := M.get (.row (some ⟨b, 0, none⟩) k c1 e size news)
    refine wp_append_lies w s x t ho w0.heap.size e i z size bytes hu hi hz h2 h3 h4 h5 _ n xs hs hown ⟨b, 0, none⟩ k c1 news hx hl (fun j u hj => ?_) h1 hk (by unfold maxLen; omega) ?_ M.size w.heap.size rfl fun g cap w' ho' hg hb hlt => ?_
    · rw [Addr.add_lit, Nat.zero_add, hO.cellAt j (by have := (List.getElem?_eq_some_iff.1 hj).1; omega)]
      exact hj
    · have : (n + k) * bytes ≤ 4000000 * 1000 := Nat.mul_le_mul hn hbytes
      omega
    · refine hK _ _ (h g cap w' (M.turn (p := .row av n c e size xs) hg ho' ?_))
      rcases hb with hb | rfl
      · exact .inl hb.symm
      · exact .inr rfl
end Go.Proofs.YtjaohlnejkgkaaaGreatDoor
