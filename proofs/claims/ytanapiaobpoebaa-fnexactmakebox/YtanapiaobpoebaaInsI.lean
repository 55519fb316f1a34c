/- The library's Insert over pointers to boxes: at the row's end. -/
import Derived.Test.YtanapiaobpoebaaOpenRow
import Derived.Test.YtanapiaobpoebaaRegA
namespace Go.Proofs.Ytanapiaobpoebaa
open Go.RowKit
open Plain
set_option linter.unusedVariables false
set_option linter.unusedSimpArgs false
set_option maxHeartbeats 4000000 in
set_option maxRecDepth 100000 in
theorem insertEnd (l : List Nat) (v : Value) (B g b : Nat) (w : World) (hs : l.length ≤ 1000) (h : OwnPt B w v l) (hb : HasObj w b 52 [.pointer (some ⟨g, 0, none⟩)]) (hB : B ≤ w.heap.size) :
  Calls Try.prog 37 #[v, .int .i64 (l.length : Int), .slice (some ⟨b, 0, none⟩) 1 1] w fun e w' => ∃ v', e = .returned v' ∧ OwnPt B w' v' (l ++ [g]) ∧ w.grownBy w' v.ownBlock := by
 obtain ⟨iP, hP, hP0, hP1, hP2⟩ := info_parts Try.infoPBox
 obtain ⟨a0, c0, rfl⟩ := g_shape h
 obtain ⟨n, hn⟩ : ∃ n, n = l.length := ⟨_, rfl⟩
 have OP : Hid (w.ownsRow B 52 1 (.slice a0 n c0) n (rowC ptC l)) := by unfold OwnPt at h; rw [← hn] at h; exact h
 have HN := hide hn
 rw [← hn] at hs ⊢
 have CB := hide hb
 have LB : Hid (B ≤ w.heap.size) := hB
 clear h hn hb hB
 by_cases hcap : c0 = n
 ·subst hcap
  go_enter Try.func37, Try.ntmps37
  go_wp2_with (at_builtin; refine wpList_append_own _ rfl _ _ 47 rfl B 52 iP _ 1 8 Try.underlying47 hP hP0 hP1 hP2 rfl (by decide) _ _ _ rfl (uh OP) ⟨b, 0, none⟩ 1 1 (ptC g) rfl rfl (fun j u hj => by match j, hj with | 0, hj => simp [ptC] at hj; subst hj; exact (uh CB).cell 0 rfl) ?c2 ?c3 ?c4 ?c5 ?_)
  case c2 => intro u hu; simp [ptC] at hu; subst hu; rfl
  case c3 => unfold maxLen; have := uh HN; omega
  case c4 => have := uh HN; omega
  case c5 => exact uh LB
  intro v2 W2 hown hgr _
  go_wp2
  go_ret
  exact ⟨_, rfl, OwnPt.snoc (by rw [uh HN] at hown; exact hown), hgr⟩
 ·skip
  go_enter Try.func37, Try.ntmps37
  go_wp2_with (at_builtin; refine wpList_append_own _ rfl _ _ 47 rfl B 52 iP _ 1 8 Try.underlying47 hP hP0 hP1 hP2 rfl (by decide) _ _ _ rfl (uh OP) ⟨b, 0, none⟩ 1 1 (ptC g) rfl rfl (fun j u hj => by match j, hj with | 0, hj => simp [ptC] at hj; subst hj; exact (uh CB).cell 0 rfl) ?c2 ?c3 ?c4 ?c5 ?_)
  case c2 => intro u hu; simp [ptC] at hu; subst hu; rfl
  case c3 => unfold maxLen; have := uh HN; omega
  case c4 => have := uh HN; omega
  case c5 => exact uh LB
  intro v2 W2 hown hgr _
  go_wp2
  go_ret
  exact ⟨_, rfl, OwnPt.snoc (by rw [uh HN] at hown; exact hown), hgr⟩
end Go.Proofs.Ytanapiaobpoebaa
