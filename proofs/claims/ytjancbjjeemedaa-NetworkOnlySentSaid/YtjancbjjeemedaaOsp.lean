/- What NetworkOnlySent keeps, without memory. -/
import Derived.Test.YtjancbjjeemedaaHap
import Derived.Test.YtjancbjjeemedaaOsl
namespace Go.Proofs.Ytjancbjjeemedaa
open Go.RowKit

/-- The links are valid, all that lies in them has been sent, and where links are cut there was a cut. -/
structure Sn (n : Nt) (sent : List Pk) (cuts i : Nat) : Prop where
  ok : n.ok = true
  len : n.ap.length ≤ i
  inq : ∀ p ∈ n.q, p ∈ sent
  cut : n.ap ≠ [] → 0 < cuts
section
variable {n : Nt} {sent : List Pk} {cuts i : Nat} {m : Mv}
theorem Sn.later (S : Sn n sent cuts i) : Sn n sent cuts (i + 1) := ⟨S.ok, by have := S.len; omega, S.inq, S.cut⟩
theorem hap_zero (hok : n.ok = true) (h : (n.hap m).2 ≠ 0) : (n.hap m).1.1 = Nt.zero := by
  have hl : ∀ z : Int, n.err z ≠ 0 → n.lose z = Nt.zero := fun z h => by unfold Nt.lose; rw [if_neg h]
  have hp : ∀ p, (n.push p).2 ≠ 0 → (n.push p).1 = Nt.zero := fun p h => by
    unfold Nt.push at h ⊢
    split at h <;> simp_all
  have hc : ∀ a b on, (n.cutE a b on).2 ≠ 0 → (n.cutE a b on).1 = Nt.zero := fun a b on h => by
    unfold Nt.cutE at h ⊢
    split at h <;> simp_all
  have hs : ∀ p, (n.send p).2 ≠ 0 → (n.send p).1 = Nt.zero := fun p h => by
    unfold Nt.send at h ⊢
    rw [if_pos hok] at h ⊢
    split
    · rename_i e; rw [if_pos e] at h; exact hp p h
    · rfl
  have hr : ∀ z, (n.rpt z).2 ≠ 0 → (n.rpt z).1 = Nt.zero := fun z h => by
    unfold Nt.rpt at h ⊢
    by_cases e : n.err z = 0
    · rw [if_pos e] at h ⊢
      cases hq : n.q[z.toNat]? with
      | some p => rw [hq] at h; exact hp p h
      | none => rfl
    · rw [if_neg e]
  unfold Nt.hap at h ⊢
  split at h
  · exact hs _ h
  · exact hl _ h
  · exact hl _ h
  · exact hr _ h
  · exact hc _ _ _ h
  · exact hc _ _ _ h
theorem push_zero {p : Pk} (h : (n.push p).2 = 0) : n.q.length ≠ 4096 ∧ n.push p = (⟨n.q ++ [p], n.ap⟩, 0) := by
  unfold Nt.push at h ⊢
  by_cases e : n.q.length = 4096
  · rw [if_pos e] at h; simp at h
  · rw [if_neg e]; exact ⟨e, rfl⟩
theorem hap_send (S : Sn n sent cuts i) (hk : m.kind.toNat % 6 = 0) (h : (n.hap m).2 = 0) : ∃ p, (n.hap m).1.1.q = n.q ++ [p] ∧ Sn (n.hap m).1.1 (sent ++ [p]) cuts (i + 1) := by
  unfold Nt.hap at h ⊢
  rw [hk] at h ⊢
  obtain ⟨p, hp⟩ : ∃ p : Pk, ⟨((m.a.toNat % 24 : Nat) : Int), ((m.b.toNat % 24 : Nat) : Int), [m.data]⟩ = p := ⟨_, rfl⟩
  simp only [hp] at h ⊢
  obtain ⟨h1, h2, h3⟩ := ok_parts S.ok
  by_cases e : okPk p = true
  · have hs : n.send p = n.push p := by unfold Nt.send; rw [if_pos S.ok, if_pos e]
    rw [hs] at h ⊢
    obtain ⟨g1, g2⟩ := push_zero h
    rw [g2]
    refine ⟨p, rfl, ok_mk (by simp; omega) (fun x hx => ?_) h3, by have := S.len; show n.ap.length ≤ _; omega, fun x hx => ?_, S.cut⟩
    · rcases List.mem_append.1 hx with hx | hx
      · exact h2 x hx
      · rw [List.mem_singleton.1 hx]; exact e
    · rcases List.mem_append.1 hx with hx | hx
      · exact List.mem_append_left _ (S.inq x hx)
      · exact List.mem_append_right _ hx
  · have hs : n.send p = (Nt.zero, 60) := by unfold Nt.send; rw [if_pos S.ok, if_neg e]
    rw [hs] at h; simp at h
theorem Sn.lose (S : Sn n sent cuts i) (z : Int) (h : n.err z = 0) : Sn (n.lose z) sent cuts (i + 1) := by
  obtain ⟨j, rfl, hj, _⟩ := err_zero h
  obtain ⟨h1, h2, h3⟩ := ok_parts S.ok
  have hk := lose_ok S.ok hj
  rw [lose_in S.ok hj] at hk ⊢
  exact ⟨hk, by have := S.len; show n.ap.length ≤ _; omega, fun x hx => S.inq x (List.mem_of_mem_eraseIdx hx), S.cut⟩
theorem hap_dlv (S : Sn n sent cuts i) (hk : m.kind.toNat % 6 = 1) (h : (n.hap m).2 = 0) : Sn (n.hap m).1.1 sent cuts (i + 1) ∧ (((n.hap m).1.2 = Pk.zero ∧ 0 < cuts) ∨ (n.hap m).1.2 ∈ sent) := by
  unfold Nt.hap at h ⊢
  rw [hk] at h ⊢
  refine ⟨S.lose _ h, ?_⟩
  show (n.pick _ = Pk.zero ∧ _) ∨ n.pick _ ∈ _
  change n.err _ = 0 at h
  obtain ⟨j, e, hj, _⟩ := err_zero h
  rw [e, pick_at S.ok hj]
  split
  · rename_i hc
    refine .inl ⟨rfl, S.cut fun e => ?_⟩
    rw [e] at hc
    rw [cutIn_mem] at hc
    simp at hc
  · exact .inr (S.inq _ (List.getElem_mem hj))
theorem hap_lose (S : Sn n sent cuts i) (hk : m.kind.toNat % 6 = 2) (h : (n.hap m).2 = 0) : Sn (n.hap m).1.1 sent cuts (i + 1) := by
  unfold Nt.hap at h ⊢
  rw [hk] at h ⊢
  exact S.lose _ h
theorem hap_rpt (S : Sn n sent cuts i) (hk : m.kind.toNat % 6 = 3) (h : (n.hap m).2 = 0) : Sn (n.hap m).1.1 sent cuts (i + 1) := by
  unfold Nt.hap at h ⊢
  rw [hk] at h ⊢
  change (n.rpt _).2 = 0 at h
  show Sn (n.rpt _).1 _ _ _
  obtain ⟨h1, h2, h3⟩ := ok_parts S.ok
  unfold Nt.rpt at h ⊢
  by_cases e : n.err (n.idx m : Nat) = 0
  · rw [if_pos e] at h ⊢
    obtain ⟨j, ej, hj, _⟩ := err_zero e
    have ej' : ((n.idx m : Nat) : Int).toNat = j := by rw [ej]; omega
    rw [ej', List.getElem?_eq_getElem hj] at h ⊢
    obtain ⟨g1, g2⟩ := push_zero h
    show Sn (n.push _).1 _ _ _
    rw [g2]
    refine ⟨ok_mk (by simp; omega) (fun x hx => ?_) h3, by have := S.len; show n.ap.length ≤ _; omega, fun x hx => ?_, S.cut⟩
    · rcases List.mem_append.1 hx with hx | hx
      · exact h2 x hx
      · rw [List.mem_singleton.1 hx]; exact h2 _ (List.getElem_mem hj)
    · rcases List.mem_append.1 hx with hx | hx
      · exact S.inq x hx
      · rw [List.mem_singleton.1 hx]; exact S.inq _ (List.getElem_mem hj)
  · rw [if_neg e] at h; exact absurd h e
theorem Sn.cutE (S : Sn n sent cuts i) (a b : Int) (on : Bool) (c : Nat) (hc : cuts ≤ c) (h1 : on = true → 0 < c) (h : (n.cutE a b on).2 = 0) : Sn (n.cutE a b on).1 sent c (i + 1) := by
  unfold Nt.cutE at h ⊢
  by_cases e : okPair a b = true
  · rw [if_pos e]
    refine ⟨cut_ok S.ok (okOne_link e) on, Nat.le_trans (cut_le _ _ _) (by have := S.len; omega), S.inq, fun hne => ?_⟩
    cases on with
    | true => exact h1 rfl
    | false =>
      obtain ⟨x, hx⟩ := List.exists_mem_of_ne_nil _ hne
      rcases cut_mem.1 hx with ⟨_, h⟩ | ⟨h, _⟩
      · cases h
      · have := S.cut (List.ne_nil_of_mem h); omega
  · rw [if_neg e] at h; simp at h
theorem hap_cut (S : Sn n sent cuts i) (hk : m.kind.toNat % 6 = 4) (h : (n.hap m).2 = 0) : Sn (n.hap m).1.1 sent (cuts + 1) (i + 1) := by
  unfold Nt.hap at h ⊢
  rw [hk] at h ⊢
  exact S.cutE _ _ true _ (by omega) (by omega) h
theorem hap_mend (S : Sn n sent cuts i) (hk : m.kind.toNat % 6 = 5) (h : (n.hap m).2 = 0) : Sn (n.hap m).1.1 sent cuts (i + 1) := by
  unfold Nt.hap at h ⊢
  rw [hk] at h ⊢
  exact S.cutE _ _ false _ (by omega) (by simp) h
theorem hap_ok (hok : n.ok = true) : (n.hap m).1.1.ok = true := by
  by_cases h : (n.hap m).2 = 0
  · have S : Sn n n.q 1 n.ap.length := ⟨hok, Nat.le_refl _, fun p hp => hp, fun _ => by omega⟩
    have h6 : m.kind.toNat % 6 < 6 := Nat.mod_lt _ (by omega)
    have : m.kind.toNat % 6 = 0 ∨ m.kind.toNat % 6 = 1 ∨ m.kind.toNat % 6 = 2 ∨ m.kind.toNat % 6 = 3 ∨ m.kind.toNat % 6 = 4 ∨ m.kind.toNat % 6 = 5 := by omega
    rcases this with e | e | e | e | e | e
    · obtain ⟨_, _, h2⟩ := hap_send S e h; exact h2.ok
    · exact (hap_dlv S e h).1.ok
    · exact (hap_lose S e h).ok
    · exact (hap_rpt S e h).ok
    · exact (hap_cut S e h).ok
    · exact (hap_mend S e h).ok
  · rw [hap_zero hok h]; rfl
end
end Go.Proofs.Ytjancbjjeemedaa
