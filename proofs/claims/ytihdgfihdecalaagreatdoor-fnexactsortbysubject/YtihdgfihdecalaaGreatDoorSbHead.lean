/- Mails by their subjects: what a mail is sorted by, on both sides; an append of whatever lies at an address, in a drawn region. Made by gen_sb.py. -/
import Derived.Test.YtihdgfihdecalaaGreatDoorSbPlain
import Derived.Test.YtihdgfihdecalaaGreatDoorMemB
import Derived.Test.YtihdgfihdecalaaGreatDoorMmA
import Derived.Test.YtihdgfihdecalaaGreatDoorRuB
import Derived.Test.YtihdgfihdecalaaGreatDoorLhA
import Derived.Test.YtihdgfihdecalaaGreatDoorTlA
import Derived.Maps.AppendAt
namespace Go.Proofs.YtihdgfihdecalaaGreatDoor
open Go.RowKit
open Plain
set_option linter.unusedVariables false
set_option linter.unusedSimpArgs false
namespace Plain
def subW : List UInt8 := [115, 117, 98, 106, 101, 99, 116]
theorem headIn_len (name : List UInt8) (N : Nat) : ∀ ps : List (List UInt8), (∀ p ∈ ps, p.length ≤ N) → (headIn name ps).1.length ≤ N
  | [], _ => Nat.zero_le _
  | p :: r, h => by
    unfold headIn
    split
    · exact Nat.zero_le _
    · split
      · refine Nat.le_trans (trimL_len _) (Nat.le_trans ?_ (h p (by simp)))
        rw [List.length_drop]
        omega
      · exact headIn_len name N r fun q hq => h q (by simp [hq])
theorem headL_len (t name : List UInt8) : (headL t name).1.length ≤ t.length := headIn_len name t.length _ fun p hp => cuts_len 10 t p hp
def baseP (t : ByteArray) : List UInt8 := baseL (headL t.data.toList subW).1
def ttOf (m : Ml) : Tt := ⟨baseP m.text, m.uid⟩
def selM (s : List Rg) (l : List Ml) : List Ml := l.filter fun m => hasB s m.uid
def selT (s : List Rg) (l : List Ml) : List Tt := (selM s l).map ttOf
theorem selT_yes {s : List Rg} {l : List Ml} {k : Nat} {m : Ml} (h : l[k]? = some m) (hh : hasB s m.uid = true) : selT s (l.take (k + 1)) = selT s (l.take k) ++ [ttOf m] := by unfold selT selM; rw [List.take_add_one, h, List.filter_append]; simp [hh]
theorem selT_no {s : List Rg} {l : List Ml} {k : Nat} {m : Ml} (h : l[k]? = some m) (hh : hasB s m.uid = false) : selT s (l.take (k + 1)) = selT s (l.take k) := by unfold selT selM; rw [List.take_add_one, h, List.filter_append]; simp [hh]
theorem selT_len (s : List Rg) (l : List Ml) (k : Nat) : (selT s (l.take k)).length ≤ k := by unfold selT selM; rw [List.length_map]; exact Nat.le_trans (List.length_filter_le _ _) (by rw [List.length_take]; omega)
def sbV (b : Bx) (s : List Rg) : List Int := if boxOk b = true then (sortT (selT s b.mails)).map (·.uid) else []
theorem sortT_snoc (l : List Tt) (x : Tt) : sortT (l ++ [x]) = putT (sortT l) x := by unfold sortT; rw [List.foldl_append]; rfl
theorem sortT_len (l : List Tt) : (sortT l).length = l.length := (sortT_perm l).length_eq
end Plain
set_option maxHeartbeats 4000000 in
set_option maxRecDepth 100000 in
theorem l12Subject_any (m : Ml) (w : World) (hs : m.text.size ≤ 1048576) :
    Calls Tryz.prog 27 #[.agg #[.int .i64 m.uid, .int .i64 m.flags, .int .i64 m.mod, .string m.text]] w fun e w' => e = .returned (.string ⟨(baseP m.text).toArray⟩) ∧ Mem w w' [] := by
  have HB : Hid ((⟨(headL m.text.data.toList subW).1.toArray⟩ : ByteArray).size ≤ 1048576) := by
    show (headL m.text.data.toList subW).1.toArray.size ≤ _
    rw [List.size_toArray]
    exact Nat.le_trans (headL_len _ _) (by simpa using hs)
  have M := Mem.start w
  go_enter Tryz.func27, Tryz.ntmps27
  go_wp2_with fail
  refine (spec_HeadOf_any m.text ⟨#[115, 117, 98, 106, 101, 99, 116]⟩ _ hs (by decide)).mono ?_
  rintro e w1 ⟨rfl, hb⟩
  have M := Mem.go hb
  clear hb
  go_wp2_with fail
  refine (spec_BaseSubject_any _ _ (unhide HB)).mono ?_
  rintro e w1 ⟨rfl, hb⟩
  have M := Mem.go hb
  clear hb
  go_wp2
  go_ret
  exact ⟨rfl, Mem.end⟩
set_option maxHeartbeats 4000000 in
set_option maxRecDepth 100000 in
theorem baseOf_any (m : Ml) (w : World) (hs : m.text.size ≤ 1048576) :
    Calls Tryz.prog 52 #[.agg #[.int .i64 m.uid, .int .i64 m.flags, .int .i64 m.mod, .string m.text]] w fun e w' => e = .returned (.string ⟨(baseP m.text).toArray⟩) ∧ Mem w w' [] := by
  have HB : Hid ((⟨(headL m.text.data.toList subW).1.toArray⟩ : ByteArray).size ≤ 1048576) := by
    show (headL m.text.data.toList subW).1.toArray.size ≤ _
    rw [List.size_toArray]
    exact Nat.le_trans (headL_len _ _) (by simpa using hs)
  have M := Mem.start w
  go_enter Tryz.func52, Tryz.ntmps52
  go_wp2_with fail
  refine (impl_HeadOf_any m.text ⟨#[115, 117, 98, 106, 101, 99, 116]⟩ _ hs (by decide)).mono ?_
  rintro e w1 ⟨rfl, hb⟩
  have M := Mem.go hb
  clear hb
  go_wp2_with fail
  refine (impl_BaseSubject_any _ _ (unhide HB)).mono ?_
  rintro e w1 ⟨rfl, hb⟩
  have M := Mem.go hb
  clear hb
  go_wp2
  go_ret
  exact ⟨rfl, Mem.end⟩
theorem Mem.cap {w W : World} {L : List Pc} {a : Option Addr} {n c m : Nat} {t : TypeId} {xs : List Value} {f : Pc → List Pc} [M : Mem w W L] [h : InL L (.row a n c t m xs) f] : n ≤ c := by
  have q := M.get (.row a n c t m xs)
  rcases q.2 with ⟨e, h0⟩ | ⟨g, c', cur, e, hb, hh, hlc, _⟩
  · omega
  · cases e
    exact hlc
/-- append of whatever cells lie at an address, in a drawn region. -/
theorem mem_append_at {P : Program} {o : Oper} {a : Act} {K : Act → World → Prop} {Q : Exit → Act → World → Prop} {w w0 : World} {L : List Pc} (s x : Operand) (t : TypeId) (xs : List Value) (ad : Addr) (news : List Value) {m c1 : Nat}
    {e : TypeId} {size bytes n c : Nat} {av : Option Addr} {f : Pc → List Pc} [E : Elem P t e size bytes] [M : Mem w0 w L] [hin : InL L (.row av n c e size xs) f]
    (ho : o.op = .call { callee := .builtin .append, args := #[s, x], argTypes := #[t, t] }) (hs : a.eval s = .slice av n c) (hx : a.eval x = .slice (some ad) m c1)
    (hc : ∀ j u, news[j]? = some u → w.cell? (ad.add j) = some u) (h1 : ∀ u ∈ news, u.oneCell' = true) (hl : news.length = m * size) (hn : n + m ≤ 4000000) (hbytes : bytes ≤ 1000)
    (h : ∀ a' cap w', Mem w0 w' (f (.row a' (n + m) cap e size (xs ++ news))) → K (a.put o.dst (.slice a' (n + m) cap)) w') : o.wp P a w K Q := by
  obtain ⟨hu, i, z, hi, hz, h2, h3, h4, h5⟩ := E.out
  have hown : w.ownsRow w0.heap.size e size (.slice av n c) n xs := M.get (.row av n c e size xs)
  have hby : (n + m) * bytes ≤ 4000000 * 1000 := Nat.mul_le_mul hn hbytes
  obtain ⟨v', w', hr, q2, q3, q4, q5⟩ := run_append_own_at (P := P) w w0.heap.size t o.type e i z size bytes hu hi hz h2 h3 h4 h5 _ n xs hown ad m c1 news hl hc h1 (by unfold maxLen; omega) (by omega) M.size
  obtain ⟨a', c', rfl⟩ := g_shape q2
  unfold Oper.wp execOp
  simp only [ho, resolve, invoke, builtin, Sem.run_bind, Sem.run_pure, Result.andThen_ok, List.map_toArray, List.map_cons, List.map_nil, hs, hx, hr]
  exact h a' c' w' (M.turn (p := .row av n c e size xs) (q := .row a' (n + m) c' e size (xs ++ news)) q3 q2 q5)
end Go.Proofs.YtihdgfihdecalaaGreatDoor
