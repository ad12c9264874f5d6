/- The law's own test of the examples is true. -/
import Derived.Test.YtjancbjjeemedaaSne
namespace Go.Proofs.Ytjancbjjeemedaa
open Go.RowKit

theorem sane_any (w : World) : Calls Try.prog 9 #[] w fun e w' => e = .returned (.bool true) ∧ Below w.heap.size w w' := by
  refine sane_walk w ?_ ?_ ?_ ?_ ?_ ?_ ?_ ?_ ?_ ?_ ?_ ?_
  · exact fun w => (new_any w).mono fun e w' ⟨h1, h2⟩ => ⟨_, h1, zero_at _ _, h2⟩
  · intro w v h
    refine (dlv_any w v _ h 0).mono fun e w' ⟨vp, v', h1, h2, h3, h4⟩ => ?_
    rw [show Nt.zero.err 0 = 1 from by kernel_rfl] at h1
    rw [show Nt.zero.pick 0 = Pk.zero from by kernel_rfl] at h2
    rw [show Nt.zero.lose 0 = Nt.zero from by kernel_rfl] at h3
    exact ⟨vp, v', h1, h2, h3, h4⟩
  · intro w v h
    refine (send_any w v _ h _ ⟨3, 3, []⟩ ⟨⟨In64.small (by decide), In64.small (by decide)⟩, _, rfl, bytes_nil _ _ _⟩).mono fun e w' ⟨v', h1, h2, h3⟩ => ?_
    rw [show Nt.zero.send ⟨3, 3, []⟩ = (Nt.zero, 60) from by kernel_rfl] at h1 h2
    exact ⟨v', h1, h2, h3⟩
  · intro w v h
    exact (cut_bad w v _ h (by kernel_rfl) 2 2 (by kernel_rfl) true).mono fun e w' ⟨h1, h2⟩ => ⟨_, h1, zero_at _ _, h2⟩
  · intro w v vp h hp
    refine (send_any w v _ h _ _ hp).mono fun e w' ⟨v', h1, h2, h3⟩ => ?_
    rw [show Nt.zero.send pk13 = (nS1, 0) from by kernel_rfl] at h1 h2
    exact ⟨v', h1, h2, h3⟩
  · intro w v h
    refine (rpt_any w v _ h 0).mono fun e w' ⟨v', h1, h2, h3⟩ => ?_
    rw [show nS1.rpt 0 = (nS2, 0) from by kernel_rfl] at h1 h2
    exact ⟨v', h1, h2, h3⟩
  · intro w v h
    exact cut_first w v _ h (by kernel_rfl) rfl 3 1 (by kernel_rfl) ⟨In64.small (by decide), In64.small (by decide)⟩
  · intro w v h
    refine (dlv_any w v _ h 0).mono fun e w' ⟨vp, v', h1, h2, h3, h4⟩ => ?_
    rw [show nS2.err 0 = 0 from by kernel_rfl] at h1
    rw [show nS2.pick 0 = pk13 from by kernel_rfl] at h2
    rw [show nS2.lose 0 = nS1 from by kernel_rfl] at h3
    exact ⟨vp, v', h1, h2, h3, h4⟩
  · intro w v h
    refine (dlv_any w v _ h 1).mono fun e w' ⟨vp, v', h1, h2, h3, h4⟩ => ?_
    rw [show nS3.err 1 = 0 from by kernel_rfl] at h1
    rw [show nS3.pick 1 = Pk.zero from by kernel_rfl] at h2
    rw [show nS3.lose 1 = nS4 from by kernel_rfl] at h3
    exact ⟨vp, v', h1, h2, h3, h4⟩
  · intro w v h
    refine (chk_any w v _ h).mono fun e w' ⟨h1, h2⟩ => ⟨?_, h2⟩
    rw [h1]; exact ret_int (by kernel_rfl)
  · exact fun w v v' p h h' => (samePk_any w v v' p p h h').mono fun e w' ⟨h1, h2⟩ => ⟨by rw [h1, Pk.same_refl], h2⟩
  · exact fun w v v' n h h' => same_any w v v' n h h'
end Go.Proofs.Ytjancbjjeemedaa
