/- Mails: the program's BodyOf, PartOf. -/
import Derived.Test.YtmkjocamknhcbaaMailI
import Derived.Test.YtmkjocamknhcbaaCloneI
namespace Go.Proofs.Ytmkjocamknhcbaa
open Go.RowKit
open Plain
set_option linter.unusedVariables false

namespace Plain
theorem bodyFrom_len : ∀ (l : List UInt8) (s : Bool), (bodyFrom s l).length ≤ l.length := by
  intro l
  induction l with
  | nil => intro s; simp [bodyFrom]
  | cons b r ih =>
    intro s
    rw [bodyFrom]
    split
    · split
      · simp
      · have := ih true; simp; omega
    · have := ih false; simp; omega
theorem heads_len : ∀ (l : List UInt8) (s : Bool), (headsFrom s l).length ≤ l.length := by
  intro l
  induction l with
  | nil => intro s; simp [headsFrom]
  | cons b r ih =>
    intro s
    rw [headsFrom]
    split
    · split
      · simp
      · have := ih true; simp; omega
    · have := ih false; simp; omega
theorem partL_len (t : List UInt8) (p n : Int) : (partL t p n).length ≤ t.length := by
  unfold partL
  split
  · simp
  · simp; omega
end Plain

set_option maxHeartbeats 2000000 in
theorem impl_BodyOf_any (s : ByteArray) (w : World) (hs : s.size ≤ 1048576) :
    Calls Try.prog 8 #[.string s] w fun e w' => e = .returned (.string ⟨(bodyL s.data.toList).toArray⟩) ∧ Below w.heap.size w w' := by
  have C := hide (cutMail_any s w hs)
  have L : (⟨(bodyL s.data.toList).toArray⟩ : ByteArray).size ≤ 281474976710656 := by
    have := bodyFrom_len s.data.toList true
    show (bodyL s.data.toList).length ≤ _
    have h2 : s.data.toList.length = s.size := rfl
    unfold bodyL
    omega
  have K := hide (fun W => Clone_any ⟨(bodyL s.data.toList).toArray⟩ W L)
  clear L
  generalize (⟨(bodyL s.data.toList).toArray⟩ : ByteArray) = Y at *
  generalize (⟨(headsFrom true s.data.toList).toArray⟩ : ByteArray) = X at *
  go_enter Try.func8, Try.ntmps8
  go_wp2_with fail
  refine (unhide C).mono ?_
  rintro e w1 ⟨rfl, hb⟩
  have B := hide hb
  clear hb
  go_wp2_with fail
  refine (unhide K _).mono ?_
  rintro e w2 ⟨rfl, hb⟩
  have B2 := hide ((unhide B).trans (hb.mono (unhide B).size))
  clear hb
  go_wp2
  go_ret
  exact ⟨rfl, unhide B2⟩

end Go.Proofs.Ytmkjocamknhcbaa
