/- For all links and two numbers NetworkCuts answers true and leaves its arguments as they were: the walk. -/
import Derived.Test.YtjancbjjeemedaaCug
import Derived.Test.YtjancbjjeemedaaLlo
namespace Go.Proofs.Ytjancbjjeemedaa
open Go.RowKit

theorem lo_comm (a b : Int) : lo2 b a = lo2 a b := by unfold lo2; split <;> split <;> omega
theorem hi_comm (a b : Int) : hi2 b a = hi2 a b := by unfold hi2; split <;> split <;> omega
theorem okPair_comm {a b : Int} (h : okPair a b = true) : okPair b a = true := by rw [okPair_iff] at *; omega
theorem cutIn_mem {l : List (Int × Int)} {p : Int × Int} : cutIn l p = true ↔ p ∈ l := by
  unfold cutIn
  rw [List.any_eq_true]
  constructor
  · rintro ⟨x, hx, h⟩
    simp only [Bool.and_eq_true, decide_eq_true_eq] at h
    obtain ⟨h1, h2⟩ := h
    obtain ⟨c, d⟩ := x
    obtain ⟨a, b⟩ := p
    simp only at h1 h2
    subst h1; subst h2; exact hx
  · exact fun h => ⟨p, h, by simp⟩
theorem cut_idem {n : Nt} (h : okA n.ap = true) (p : Int × Int) (hp : okOne p = true) : (n.cut p true).cut p true = n.cut p true := by
  have : ((n.cut p true).cut p true).ap = (n.cut p true).ap := pw_ext (cut_pw (cut_okA h hp true) p true) (cut_pw h p true) fun x => by
    rw [cut_mem, cut_mem]; by_cases e : x = p <;> simp [e]
  show (⟨n.q, ((n.cut p true).cut p true).ap⟩ : Nt) = ⟨n.q, (n.cut p true).ap⟩
  rw [this]
theorem cut_back {n : Nt} (h : okA n.ap = true) (p : Int × Int) (hp : okOne p = true) : (n.cut p true).cut p false = n.cut p false := by
  have : ((n.cut p true).cut p false).ap = (n.cut p false).ap := pw_ext (cut_pw (cut_okA h hp true) p false) (cut_pw h p false) fun x => by
    rw [cut_mem, cut_mem, cut_mem]; by_cases e : x = p <;> simp [e]
  show (⟨n.q, ((n.cut p true).cut p false).ap⟩ : Nt) = ⟨n.q, (n.cut p false).ap⟩
  rw [this]
theorem cut_lens (n : Nt) (p : Int × Int) : (n.cut p true).ap.length = (n.cut p false).ap.length + 1 := ins_len _ _
theorem cut_le (n : Nt) (p : Int × Int) (on : Bool) : (n.cut p on).ap.length ≤ n.ap.length + 1 := by
  have := oth_le p n.ap
  cases on
  · show (oth p n.ap).length ≤ _; omega
  · show (ins p (oth p n.ap)).length ≤ _; rw [ins_len]; omega
theorem pick_at {n : Nt} (h : n.ok = true) {i : Nat} (hi : i < n.q.length) : n.pick i = if cutIn n.ap (lo2 n.q[i].frm n.q[i].to, hi2 n.q[i].frm n.q[i].to) then Pk.zero else n.q[i] := by
  unfold Nt.pick
  rw [err_in h hi, if_pos rfl, Int.toNat_natCast, List.getElem?_eq_getElem hi]
theorem pair_link {a b c d : Int} (hab : a ≠ b) (h : (lo2 c d, hi2 c d) = (lo2 a b, hi2 a b)) : (c = a ∧ d = b) ∨ (c = b ∧ d = a ∧ c ≠ a) := by
  obtain ⟨h1, h2⟩ := Prod.mk.inj h
  unfold lo2 at h1
  unfold hi2 at h2
  split at h1 <;> split at h1 <;> simp_all <;> omega
/-- What the two deliveries give. -/
theorem cuts_case {n : Nt} (h : n.ok = true) {a b : Int} (hab : okPair a b = true) {i : Nat} (hi : i < n.q.length) :
    ∃ P Q : Pk, (n.cut (lo2 a b, hi2 a b) true).pick i = P ∧ (n.cut (lo2 a b, hi2 a b) false).pick i = Q ∧
      ((P = Pk.zero ∧ ((Q.frm = a ∧ Q.to = b) ∨ (Q.frm = b ∧ Q.to = a ∧ Q.frm ≠ a))) ∨
       (P = Q ∧ ¬ (Q.frm = a ∧ Q.to = b) ∧ ¬ (Q.frm = b ∧ Q.to = a))) := by
  have hp := okOne_link hab
  have hx := cut_ok h hp true
  have hk := cut_ok h hp false
  have e1 : (n.cut (lo2 a b, hi2 a b) true).pick i = if cutIn (n.cut (lo2 a b, hi2 a b) true).ap (lo2 n.q[i].frm n.q[i].to, hi2 n.q[i].frm n.q[i].to) then Pk.zero else n.q[i] := pick_at hx hi
  have e2 : (n.cut (lo2 a b, hi2 a b) false).pick i = if cutIn (n.cut (lo2 a b, hi2 a b) false).ap (lo2 n.q[i].frm n.q[i].to, hi2 n.q[i].frm n.q[i].to) then Pk.zero else n.q[i] := pick_at hk hi
  have hpk : okPk n.q[i] = true := (ok_parts h).2.1 _ (List.getElem_mem hi)
  obtain ⟨p, hpp⟩ : ∃ p, n.q[i] = p := ⟨_, rfl⟩
  have hab' : a ≠ b := by rw [okPair_iff] at hab; exact hab.1
  have hne : p.frm ≠ p.to := by
    rw [hpp] at hpk
    unfold okPk at hpk
    rw [Bool.and_eq_true, okPair_iff] at hpk
    exact hpk.1.1
  have hmx := @cut_mem n (lo2 a b, hi2 a b) (lo2 p.frm p.to, hi2 p.frm p.to) true
  have hmk := @cut_mem n (lo2 a b, hi2 a b) (lo2 p.frm p.to, hi2 p.frm p.to) false
  rw [hpp] at e1 e2
  by_cases e : (lo2 p.frm p.to, hi2 p.frm p.to) = (lo2 a b, hi2 a b)
  · have h1 : cutIn (n.cut (lo2 a b, hi2 a b) true).ap (lo2 p.frm p.to, hi2 p.frm p.to) = true := cutIn_mem.2 (hmx.2 (.inl ⟨e, rfl⟩))
    have h2 : cutIn (n.cut (lo2 a b, hi2 a b) false).ap (lo2 p.frm p.to, hi2 p.frm p.to) = false := by
      cases hh : cutIn (n.cut (lo2 a b, hi2 a b) false).ap (lo2 p.frm p.to, hi2 p.frm p.to) with
      | false => rfl
      | true =>
        rcases hmk.1 (cutIn_mem.1 hh) with ⟨_, h⟩ | ⟨_, h⟩
        · cases h
        · exact absurd e h
    rw [h1, if_pos rfl] at e1
    rw [h2, if_neg (by simp)] at e2
    exact ⟨_, _, e1, e2, .inl ⟨rfl, pair_link hab' e⟩⟩
  · have h3 : cutIn (n.cut (lo2 a b, hi2 a b) true).ap (lo2 p.frm p.to, hi2 p.frm p.to) = cutIn (n.cut (lo2 a b, hi2 a b) false).ap (lo2 p.frm p.to, hi2 p.frm p.to) := by
      rw [Bool.eq_iff_iff, cutIn_mem, cutIn_mem, hmx, hmk]
      simp [e]
    rw [h3] at e1
    refine ⟨_, _, e1, e2, .inr ⟨rfl, ?_, ?_⟩⟩
    · split
      · rintro ⟨h1, h2⟩; exact hab' (h1.symm.trans h2)
      · rintro ⟨h1, h2⟩; exact e (by rw [h1, h2])
    · split
      · rintro ⟨h1, h2⟩; exact hab' (h2.symm.trans h1)
      · rintro ⟨h1, h2⟩; exact e (by rw [h1, h2, lo_comm, hi_comm])

set_option maxRecDepth 100000 in
set_option maxHeartbeats 32000000 in
theorem lawCuts (w : World) (n : Nt) (v : Value) (a b z : Int) (h : NtAt w w.heap.size v n) (hz : 0 ≤ z ∧ z < 18446744073709551616) :
    Calls Try.prog 7 #[v, .int .i64 a, .int .i64 b, .int .u64 z] w fun e w' => e = .returned (.bool true) ∧ Below w.heap.size w w' := by
  obtain ⟨N, hN⟩ : ∃ x, n.q.length = x := ⟨_, rfl⟩
  obtain ⟨M, hM⟩ : ∃ x, n.ap.length = x := ⟨_, rfl⟩
  obtain ⟨O, hO⟩ : ∃ x, n.ok = x := ⟨_, rfl⟩
  have hck := fun W v h => chk_any W v n h
  rw [hO] at hck
  have hfew : n.few = true → N ≤ 40 ∧ M ≤ 40 := fun h => by rw [← hN, ← hM]; exact few_iff.1 h
  have hfw := fun W v h => few_any W v n h
  obtain ⟨F, hF⟩ : ∃ x, n.few = x := ⟨_, rfl⟩
  simp only [hF] at hfw
  rw [hF] at hfew
  obtain ⟨qa, qc, aa, ac, X0, rfl, hX, hB, hbX, hzX⟩ := h.box hN hM
  have HX0 := Lib.hid hX
  have Bn := Lib.hid hB
  have HB := Lib.hid hbX
  have HN := Lib.hid hN
  have HM := Lib.hid hM
  have HO := Lib.hid hO
  have HCK := Lib.hid hck
  have HFW := Lib.hid hfw
  clear h hX hB hbX hzX hN hM hO hck hfw hF
  go_enter Try.func7, Try.ntmps7
  go_wp2_with fail
  rw [← HX0.out]
  refine (sane_any _).mono ?_
  rintro e w1 ⟨rfl, hb⟩
  have Bn := Lib.hid (Bn.out.next hb)
  have HB := Lib.hid (bthen HB.out hb)
  clear hb
  have c0_Bn := Bn.out.c0
  have c1_Bn := Bn.out.c1
  go_wp2_with fail
  refine (HFW.out w1 _ Bn.out.nt).mono ?_
  rintro e w2 ⟨rfl, hb⟩
  have Bn := Lib.hid (Bn.out.next hb)
  have HB := Lib.hid (bthen HB.out hb)
  clear hb
  clear c0_Bn c1_Bn
  have c0_Bn := Bn.out.c0
  have c1_Bn := Bn.out.c1
  cases F with
  | false =>
    go_wp2
    go_ret
    exact ⟨rfl, HB.out⟩
  | true =>
    obtain ⟨hN40, hM40⟩ := hfew rfl
    go_wp2_with fail
    refine (HCK.out w2 _ Bn.out.nt).mono ?_
    rintro e w3 ⟨rfl, hb⟩
    have Bn := Lib.hid (Bn.out.next hb)
    have HB := Lib.hid (bthen HB.out hb)
    clear hb
    clear c0_Bn c1_Bn
    have c0_Bn := Bn.out.c0
    have c1_Bn := Bn.out.c1
    cases O with
    | false =>
      go_wp2
      go_ret
      exact ⟨rfl, HB.out⟩
    | true =>
      by_cases hab : okPair a b = true
      case neg =>
        have hab' : okPair a b = false := by simpa using hab
        have hcb := cut_bad w3 _ n Bn.out.nt HO.out a b hab' true
        have HCB := Lib.hid hcb
        clear hab hab' hcb
        go_wp2_with fail
        refine HCB.out.mono ?_
        rintro e w4 ⟨rfl, hb4⟩
        have HB4 := Lib.hid (bthen HB.out (hb4.trans (Below.alloc (Below.refl _ _) hb4.size (.cells #[.slice none 0 0, .slice none 0 0] 25))))
        clear hb4
        go_wp2
        go_ret
        exact ⟨rfl, HB4.out⟩
      have hA : okA n.ap = true := (ok_parts HO.out).2.2
      have hpo := okOne_link hab
      have hxo := cut_ok HO.out hpo true
      have hba : okPair b a = true := okPair_comm hab
      have hmx : (n.cut (lo2 a b, hi2 a b) true).ap.length ≤ 41 := by have := cut_le n (lo2 a b, hi2 a b) true; rw [HM.out] at this; omega
      have hc1 : ∀ W v, NtAt W W.heap.size v n → Calls Try.prog 18 #[v, .int .i64 a, .int .i64 b, .bool true] W fun e w' => ∃ v', e = .returned (.tuple #[v', .int .i64 0]) ∧ NtAt w' w'.heap.size v' (n.cut (lo2 a b, hi2 a b) true) ∧ Below W.heap.size W w' := fun W v h => cut_any W v n h HO.out a b hab (by rw [HM.out]; omega) true
      have hc2 : ∀ W v, NtAt W W.heap.size v n → Calls Try.prog 18 #[v, .int .i64 b, .int .i64 a, .bool true] W fun e w' => ∃ v', e = .returned (.tuple #[v', .int .i64 0]) ∧ NtAt w' w'.heap.size v' (n.cut (lo2 a b, hi2 a b) true) ∧ Below W.heap.size W w' := fun W v h => by
        have := cut_any W v n h HO.out b a hba (by rw [HM.out]; omega) true
        rwa [lo_comm a b, hi_comm a b] at this
      have hc3 : ∀ W v, NtAt W W.heap.size v (n.cut (lo2 a b, hi2 a b) true) → Calls Try.prog 18 #[v, .int .i64 a, .int .i64 b, .bool true] W fun e w' => ∃ v', e = .returned (.tuple #[v', .int .i64 0]) ∧ NtAt w' w'.heap.size v' (n.cut (lo2 a b, hi2 a b) true) ∧ Below W.heap.size W w' := fun W v h => by
        have := cut_any W v _ h hxo a b hab (by omega) true
        rwa [cut_idem hA _ hpo] at this
      have hc4 : ∀ W v, NtAt W W.heap.size v (n.cut (lo2 a b, hi2 a b) true) → Calls Try.prog 18 #[v, .int .i64 b, .int .i64 a, .bool false] W fun e w' => ∃ v', e = .returned (.tuple #[v', .int .i64 0]) ∧ NtAt w' w'.heap.size v' (n.cut (lo2 a b, hi2 a b) false) ∧ Below W.heap.size W w' := fun W v h => by
        have := cut_any W v _ h hxo b a hba (by omega) false
        rwa [lo_comm a b, hi_comm a b, cut_back hA _ hpo] at this
      have hc5 : ∀ W v, NtAt W W.heap.size v n → Calls Try.prog 18 #[v, .int .i64 a, .int .i64 b, .bool false] W fun e w' => ∃ v', e = .returned (.tuple #[v', .int .i64 0]) ∧ NtAt w' w'.heap.size v' (n.cut (lo2 a b, hi2 a b) false) ∧ Below W.heap.size W w' := fun W v h => cut_any W v n h HO.out a b hab (by rw [HM.out]; omega) false
      have hln := cut_lens n (lo2 a b, hi2 a b)
      have hko := cut_ok HO.out hpo false
      have hcase := fun i (hi : i < n.q.length) => cuts_case HO.out hab hi
      obtain ⟨nx, hnx⟩ : ∃ x, n.cut (lo2 a b, hi2 a b) true = x := ⟨_, rfl⟩
      obtain ⟨nk, hnk⟩ : ∃ x, n.cut (lo2 a b, hi2 a b) false = x := ⟨_, rfl⟩
      have hxq : nx.q.length = N := by rw [← hnx]; exact HN.out
      have hkq : nk.q.length = N := by rw [← hnk]; exact HN.out
      rw [hnx] at hxo hmx
      rw [hnk] at hko
      rw [hnx, hnk] at hln
      simp only [hnx] at hc1 hc2 hc3 hc4
      simp only [hnk] at hc4 hc5
      simp only [hnx, hnk] at hcase
      obtain ⟨K, hK⟩ : ∃ x, nk.ap.length = x := ⟨_, rfl⟩
      have hK40 : K ≤ 40 := by omega
      have hxl : nx.ap.length = K + 1 := by rw [hln, hK]
      have HC1 := Lib.hid hc1
      have HC2 := Lib.hid hc2
      have HC3 := Lib.hid hc3
      have HC4 := Lib.hid hc4
      have HC5 := Lib.hid hc5
      have HCASE := Lib.hid hcase
      have HXO := Lib.hid hxo
      have HKO := Lib.hid hko
      clear hA hpo hxo hba hmx hc1 hc2 hc3 hc4 hc5 hln hko hcase hnx hnk hab
      go_wp2_with fail
      refine (HC1.out w3 _ Bn.out.nt).mono ?_
      rintro e w4 ⟨v, rfl, hu, hb⟩
      obtain ⟨qa4, qc4, aa4, ac4, X4, rfl, hX, hN, hbX, hzX⟩ := hu.box (N := N) (M := K + 1) (by first | rfl | assumption) (by first | rfl | assumption)
      have hbb := hb.trans (hbX.mono hb.size)
      have Bn := Lib.hid (Bn.out.next hbb)
      have HB := Lib.hid (bthen HB.out hbb)
      have Bx := Lib.hid hN
      have HX4 := Lib.hid hX
      clear hu hb hX hN hbX hzX hbb
      clear c0_Bn c1_Bn
      have c0_Bn := Bn.out.c0
      have c1_Bn := Bn.out.c1
      rw [HX4.out] at c0_Bn c1_Bn
      go_wp2_with fail
      rw [← HX4.out]
      refine (HC2.out X4 _ Bn.out.nt).mono ?_
      rintro e w5 ⟨v, rfl, hu, hb⟩
      obtain ⟨qa5, qc5, aa5, ac5, X5, rfl, hX, hN, hbX, hzX⟩ := hu.box (N := N) (M := K + 1) (by first | rfl | assumption) (by first | rfl | assumption)
      have hbb := hb.trans (hbX.mono hb.size)
      have Bn := Lib.hid (Bn.out.next hbb)
      have Bx := Lib.hid (Bx.out.next hbb)
      have HB := Lib.hid (bthen HB.out hbb)
      have By := Lib.hid hN
      have HX5 := Lib.hid hX
      clear hu hb hX hN hbX hzX hbb
      clear c0_Bn c1_Bn
      have c0_Bx := Bx.out.c0
      have c1_Bx := Bx.out.c1
      rw [HX5.out] at c0_Bx c1_Bx
      go_wp2_with fail
      rw [← HX5.out]
      refine (HC3.out X5 _ Bx.out.nt).mono ?_
      rintro e w6 ⟨v, rfl, hu, hb⟩
      obtain ⟨qa6, qc6, aa6, ac6, X6, rfl, hX, hN, hbX, hzX⟩ := hu.box (N := N) (M := K + 1) (by first | rfl | assumption) (by first | rfl | assumption)
      have hbb := hb.trans (hbX.mono hb.size)
      have Bn := Lib.hid (Bn.out.next hbb)
      have Bx := Lib.hid (Bx.out.next hbb)
      have By := Lib.hid (By.out.next hbb)
      have HB := Lib.hid (bthen HB.out hbb)
      have Bz := Lib.hid hN
      have HX6 := Lib.hid hX
      clear hu hb hX hN hbX hzX hbb
      clear c0_Bx c1_Bx
      have c0_Bx := Bx.out.c0
      have c1_Bx := Bx.out.c1
      rw [HX6.out] at c0_Bx c1_Bx
      go_wp2_with fail
      rw [← HX6.out]
      refine (HC4.out X6 _ Bx.out.nt).mono ?_
      rintro e w7 ⟨v, rfl, hu, hb⟩
      obtain ⟨qa7, qc7, aa7, ac7, X7, rfl, hX, hN, hbX, hzX⟩ := hu.box (N := N) (M := K) (by first | rfl | assumption) (by first | rfl | assumption)
      have hbb := hb.trans (hbX.mono hb.size)
      have Bn := Lib.hid (Bn.out.next hbb)
      have Bx := Lib.hid (Bx.out.next hbb)
      have By := Lib.hid (By.out.next hbb)
      have Bz := Lib.hid (Bz.out.next hbb)
      have HB := Lib.hid (bthen HB.out hbb)
      have Bm := Lib.hid hN
      have HX7 := Lib.hid hX
      clear hu hb hX hN hbX hzX hbb
      clear c0_Bx c1_Bx
      have c0_Bn := Bn.out.c0
      have c1_Bn := Bn.out.c1
      rw [HX7.out] at c0_Bn c1_Bn
      go_wp2_with fail
      rw [← HX7.out]
      refine (HC5.out X7 _ Bn.out.nt).mono ?_
      rintro e w8 ⟨v, rfl, hu, hb⟩
      obtain ⟨qa8, qc8, aa8, ac8, X8, rfl, hX, hN, hbX, hzX⟩ := hu.box (N := N) (M := K) (by first | rfl | assumption) (by first | rfl | assumption)
      have hbb := hb.trans (hbX.mono hb.size)
      have Bn := Lib.hid (Bn.out.next hbb)
      have Bx := Lib.hid (Bx.out.next hbb)
      have By := Lib.hid (By.out.next hbb)
      have Bz := Lib.hid (Bz.out.next hbb)
      have Bm := Lib.hid (Bm.out.next hbb)
      have HB := Lib.hid (bthen HB.out hbb)
      have Bk := Lib.hid hN
      have HX8 := Lib.hid hX
      clear hu hb hX hN hbX hzX hbb
      clear c0_Bn c1_Bn
      have c0_Bx := Bx.out.c0
      have c1_Bx := Bx.out.c1
      have c0_By := By.out.c0
      have c1_By := By.out.c1
      rw [HX8.out] at c0_Bx c1_Bx c0_By c1_By
      go_wp2_with fail
      rw [← HX8.out]
      refine (same_any X8 _ _ nx Bx.out.nt By.out.nt).mono ?_
      rintro e w9 ⟨rfl, hb⟩
      have Bn := Lib.hid (Bn.out.next hb)
      have Bx := Lib.hid (Bx.out.next hb)
      have By := Lib.hid (By.out.next hb)
      have Bz := Lib.hid (Bz.out.next hb)
      have Bm := Lib.hid (Bm.out.next hb)
      have Bk := Lib.hid (Bk.out.next hb)
      have HB := Lib.hid (bthen HB.out hb)
      clear hb
      clear c0_Bx c1_Bx c0_By c1_By
      have c0_Bx := Bx.out.c0
      have c1_Bx := Bx.out.c1
      have c0_Bz := Bz.out.c0
      have c1_Bz := Bz.out.c1
      go_wp2_with fail
      refine (same_any w9 _ _ nx Bx.out.nt Bz.out.nt).mono ?_
      rintro e w10 ⟨rfl, hb⟩
      have Bn := Lib.hid (Bn.out.next hb)
      have Bx := Lib.hid (Bx.out.next hb)
      have By := Lib.hid (By.out.next hb)
      have Bz := Lib.hid (Bz.out.next hb)
      have Bm := Lib.hid (Bm.out.next hb)
      have Bk := Lib.hid (Bk.out.next hb)
      have HB := Lib.hid (bthen HB.out hb)
      clear hb
      clear c0_Bx c1_Bx c0_Bz c1_Bz
      have c0_Bm := Bm.out.c0
      have c1_Bm := Bm.out.c1
      have c0_Bk := Bk.out.c0
      have c1_Bk := Bk.out.c1
      go_wp2_with fail
      refine (same_any w10 _ _ nk Bm.out.nt Bk.out.nt).mono ?_
      rintro e w11 ⟨rfl, hb⟩
      have Bn := Lib.hid (Bn.out.next hb)
      have Bx := Lib.hid (Bx.out.next hb)
      have By := Lib.hid (By.out.next hb)
      have Bz := Lib.hid (Bz.out.next hb)
      have Bm := Lib.hid (Bm.out.next hb)
      have Bk := Lib.hid (Bk.out.next hb)
      have HB := Lib.hid (bthen HB.out hb)
      clear hb
      clear c0_Bm c1_Bm c0_Bk c1_Bk
      have c0_Bx := Bx.out.c0
      have c1_Bx := Bx.out.c1
      have c0_Bk := Bk.out.c0
      have c1_Bk := Bk.out.c1
      have c0_Bn := Bn.out.c0
      have c1_Bn := Bn.out.c1
      by_cases hN0 : N = 0
      · subst hN0
        go_wp2
        go_ret
        exact ⟨rfl, HB.out⟩
      have d1 : ((N : Int) == 0) = false := by simp; omega
      have d2 : (N == 0) = false := by simp; omega
      have d3 : ¬ (N : Int) = 0 := by omega
      obtain ⟨i, hi⟩ : ∃ i : Nat, z % (N : Int) = (i : Int) := ⟨(z % (N : Int)).toNat, (Int.toNat_of_nonneg (Int.emod_nonneg _ (by omega))).symm⟩
      have hiN : i < N := by have := Int.emod_lt_of_pos z (show 0 < (N : Int) by omega); omega
      obtain ⟨P, Q, hP, hQ, hPQ⟩ := HCASE.out i (by rw [HN.out]; exact hiN)
      have herx := err_in HXO.out (show i < nx.q.length by omega)
      have herk := err_in HKO.out (show i < nk.q.length by omega)
      have HDX := Lib.hid (show ∀ W v, NtAt W W.heap.size v nx → Calls Try.prog 20 #[v, .int .i64 (i : Int)] W fun e w' => ∃ vp v', e = .returned (.tuple #[vp, v', .int .i64 0]) ∧ PkAt w' w'.heap.size vp P ∧ NtAt w' w'.heap.size v' (nx.lose i) ∧ Below W.heap.size W w' from fun W v h => by
        have := dlv_any W v nx h i
        rw [herx, hP] at this
        exact this)
      have HDK := Lib.hid (show ∀ W v, NtAt W W.heap.size v nk → Calls Try.prog 20 #[v, .int .i64 (i : Int)] W fun e w' => ∃ vp v', e = .returned (.tuple #[vp, v', .int .i64 0]) ∧ PkAt w' w'.heap.size vp Q ∧ NtAt w' w'.heap.size v' (nk.lose i) ∧ Below W.heap.size W w' from fun W v h => by
        have := dlv_any W v nk h i
        rw [herk, hQ] at this
        exact this)
      clear hP hQ herx herk hxq hkq hxl hK
      obtain ⟨L1, hL1⟩ : ∃ x, (nx.lose i).q.length = x := ⟨_, rfl⟩
      obtain ⟨L2, hL2⟩ : ∃ x, (nx.lose i).ap.length = x := ⟨_, rfl⟩
      obtain ⟨L3, hL3⟩ : ∃ x, (nk.lose i).q.length = x := ⟨_, rfl⟩
      obtain ⟨L4, hL4⟩ : ∃ x, (nk.lose i).ap.length = x := ⟨_, rfl⟩
      obtain ⟨pd, hpd⟩ : ∃ x, P.data.length = x := ⟨_, rfl⟩
      obtain ⟨qd, hqd⟩ : ∃ x, Q.data.length = x := ⟨_, rfl⟩
      have HPQ := Lib.hid hPQ
      clear hPQ
      go_wp2_with fail
      refine (HDX.out w11 _ Bx.out.nt).mono ?_
      rintro e w12 ⟨vp, v, rfl, hp, hu, hb⟩
      obtain ⟨pa12, pc12, Y12, rfl, hY, hP, hbY, hzY⟩ := hp.box (x := P.frm) (y := P.to) (L := pd) (by first | rfl | assumption) (by first | rfl | assumption) (by first | rfl | assumption)
      obtain ⟨qa12, qc12, aa12, ac12, X12, rfl, hX, hN, hbX, hzX⟩ := (hu.next hbY).box (N := L1) (M := L2) (by first | rfl | assumption) (by first | rfl | assumption)
      rw [hzY] at hN
      have hbb := hb.trans ((bthen hbY hbX).mono hb.size)
      have Bn := Lib.hid (Bn.out.next hbb)
      have Bx := Lib.hid (Bx.out.next hbb)
      have By := Lib.hid (By.out.next hbb)
      have Bz := Lib.hid (Bz.out.next hbb)
      have Bm := Lib.hid (Bm.out.next hbb)
      have Bk := Lib.hid (Bk.out.next hbb)
      have HB := Lib.hid (bthen HB.out hbb)
      have Bp := Lib.hid (hP.next hbX)
      have Bv := Lib.hid hN
      have HY12 := Lib.hid hY
      have HX12 := Lib.hid hX
      clear hu hb hp hY hP hbY hzY hX hN hbX hzX hbb
      clear c0_Bx c1_Bx c0_Bk c1_Bk c0_Bn c1_Bn
      have c0_Bk := Bk.out.c0
      have c1_Bk := Bk.out.c1
      rw [HX12.out, HY12.out] at c0_Bk c1_Bk
      go_wp2_with fail
      rw [← HY12.out, ← HX12.out]
      refine (HDK.out X12 _ Bk.out.nt).mono ?_
      rintro e w13 ⟨vp, v, rfl, hp, hu, hb⟩
      obtain ⟨pa13, pc13, Y13, rfl, hY, hP, hbY, hzY⟩ := hp.box (x := Q.frm) (y := Q.to) (L := qd) (by first | rfl | assumption) (by first | rfl | assumption) (by first | rfl | assumption)
      obtain ⟨qa13, qc13, aa13, ac13, X13, rfl, hX, hN, hbX, hzX⟩ := (hu.next hbY).box (N := L3) (M := L4) (by first | rfl | assumption) (by first | rfl | assumption)
      rw [hzY] at hN
      have hbb := hb.trans ((bthen hbY hbX).mono hb.size)
      have Bn := Lib.hid (Bn.out.next hbb)
      have Bx := Lib.hid (Bx.out.next hbb)
      have By := Lib.hid (By.out.next hbb)
      have Bz := Lib.hid (Bz.out.next hbb)
      have Bm := Lib.hid (Bm.out.next hbb)
      have Bk := Lib.hid (Bk.out.next hbb)
      have Bp := Lib.hid (Bp.out.next hbb)
      have Bv := Lib.hid (Bv.out.next hbb)
      have HB := Lib.hid (bthen HB.out hbb)
      have Bq := Lib.hid (hP.next hbX)
      have Bu := Lib.hid hN
      have HY13 := Lib.hid hY
      have HX13 := Lib.hid hX
      clear hu hb hp hY hP hbY hzY hX hN hbX hzX hbb
      rcases HPQ.out with ⟨rfl, hbt⟩ | ⟨rfl, hn1, hn2⟩
      · rcases hbt with ⟨h1, h2⟩ | ⟨h1, h2, h3⟩
        · have e1 : (Q.frm == a) = true := by simpa using h1
          have e2 : (Q.to == b) = true := by simpa using h2
          have esz : Pk.zero.same Pk.zero = true := Pk.same_refl _
          clear h1 h2
          have c0_Bp := Bp.out.c0
          have c1_Bp := Bp.out.c1
          have c2_Bp := Bp.out.c2
          have c0_Bq := Bq.out.c0
          have c1_Bq := Bq.out.c1
          have c2_Bq := Bq.out.c2
          rw [HX13.out, HY13.out] at c0_Bp c1_Bp c2_Bp c0_Bq c1_Bq c2_Bq
          go_wp2_with fail
          rw [← HY13.out, ← HX13.out]
          refine (samePk_any X13 _ _ Pk.zero Pk.zero Bp.out.pk (pk_zero _ _)).mono ?_
          rintro e w14 ⟨rfl, hb⟩
          have Bn := Lib.hid (Bn.out.next hb)
          have Bx := Lib.hid (Bx.out.next hb)
          have By := Lib.hid (By.out.next hb)
          have Bz := Lib.hid (Bz.out.next hb)
          have Bm := Lib.hid (Bm.out.next hb)
          have Bk := Lib.hid (Bk.out.next hb)
          have Bp := Lib.hid (Bp.out.next hb)
          have Bv := Lib.hid (Bv.out.next hb)
          have Bq := Lib.hid (Bq.out.next hb)
          have Bu := Lib.hid (Bu.out.next hb)
          have HB := Lib.hid (bthen HB.out hb)
          clear hb
          clear c0_Bp c1_Bp c2_Bp c0_Bq c1_Bq c2_Bq
          have c0_Bp := Bp.out.c0
          have c1_Bp := Bp.out.c1
          have c2_Bp := Bp.out.c2
          have c0_Bq := Bq.out.c0
          have c1_Bq := Bq.out.c1
          have c2_Bq := Bq.out.c2
          go_wp2
          go_ret
          exact ⟨by simp, HB.out⟩
        · have e1 : (Q.frm == a) = false := by simpa using h3
          have e3 : (Q.frm == b) = true := by simpa using h1
          have e4 : (Q.to == a) = true := by simpa using h2
          have esz : Pk.zero.same Pk.zero = true := Pk.same_refl _
          clear h1 h2 h3
          have c0_Bp := Bp.out.c0
          have c1_Bp := Bp.out.c1
          have c2_Bp := Bp.out.c2
          have c0_Bq := Bq.out.c0
          have c1_Bq := Bq.out.c1
          have c2_Bq := Bq.out.c2
          rw [HX13.out, HY13.out] at c0_Bp c1_Bp c2_Bp c0_Bq c1_Bq c2_Bq
          go_wp2_with fail
          rw [← HY13.out, ← HX13.out]
          refine (samePk_any X13 _ _ Pk.zero Pk.zero Bp.out.pk (pk_zero _ _)).mono ?_
          rintro e w14 ⟨rfl, hb⟩
          have Bn := Lib.hid (Bn.out.next hb)
          have Bx := Lib.hid (Bx.out.next hb)
          have By := Lib.hid (By.out.next hb)
          have Bz := Lib.hid (Bz.out.next hb)
          have Bm := Lib.hid (Bm.out.next hb)
          have Bk := Lib.hid (Bk.out.next hb)
          have Bp := Lib.hid (Bp.out.next hb)
          have Bv := Lib.hid (Bv.out.next hb)
          have Bq := Lib.hid (Bq.out.next hb)
          have Bu := Lib.hid (Bu.out.next hb)
          have HB := Lib.hid (bthen HB.out hb)
          clear hb
          clear c0_Bp c1_Bp c2_Bp c0_Bq c1_Bq c2_Bq
          have c0_Bp := Bp.out.c0
          have c1_Bp := Bp.out.c1
          have c2_Bp := Bp.out.c2
          have c0_Bq := Bq.out.c0
          have c1_Bq := Bq.out.c1
          have c2_Bq := Bq.out.c2
          go_wp2
          go_ret
          exact ⟨by simp, HB.out⟩
      · have c1 : (P.frm == a) = false ∨ ((P.frm == a) = true ∧ (P.to == b) = false) := by
          by_cases e : P.frm = a
          · exact .inr ⟨by simpa using e, by simpa using fun e' => hn1 ⟨e, e'⟩⟩
          · exact .inl (by simpa using e)
        have c2 : (P.frm == b) = false ∨ ((P.frm == b) = true ∧ (P.to == a) = false) := by
          by_cases e : P.frm = b
          · exact .inr ⟨by simpa using e, by simpa using fun e' => hn2 ⟨e, e'⟩⟩
          · exact .inl (by simpa using e)
        have esp : P.same P = true := Pk.same_refl _
        clear hn1 hn2
        rcases c1 with e1 | ⟨e1, e2⟩ <;> rcases c2 with e3 | ⟨e3, e4⟩
        all_goals
          have c0_Bp := Bp.out.c0
          have c1_Bp := Bp.out.c1
          have c2_Bp := Bp.out.c2
          have c0_Bq := Bq.out.c0
          have c1_Bq := Bq.out.c1
          have c2_Bq := Bq.out.c2
          rw [HX13.out, HY13.out] at c0_Bp c1_Bp c2_Bp c0_Bq c1_Bq c2_Bq
          go_wp2_with fail
          rw [← HY13.out, ← HX13.out]
          refine (samePk_any X13 _ _ P Pk.zero Bp.out.pk (pk_zero _ _)).mono ?_
          rintro e w14 ⟨rfl, hb⟩
          have Bn := Lib.hid (Bn.out.next hb)
          have Bx := Lib.hid (Bx.out.next hb)
          have By := Lib.hid (By.out.next hb)
          have Bz := Lib.hid (Bz.out.next hb)
          have Bm := Lib.hid (Bm.out.next hb)
          have Bk := Lib.hid (Bk.out.next hb)
          have Bp := Lib.hid (Bp.out.next hb)
          have Bv := Lib.hid (Bv.out.next hb)
          have Bq := Lib.hid (Bq.out.next hb)
          have Bu := Lib.hid (Bu.out.next hb)
          have HB := Lib.hid (bthen HB.out hb)
          clear hb
          clear c0_Bp c1_Bp c2_Bp c0_Bq c1_Bq c2_Bq
          have c0_Bp := Bp.out.c0
          have c1_Bp := Bp.out.c1
          have c2_Bp := Bp.out.c2
          have c0_Bq := Bq.out.c0
          have c1_Bq := Bq.out.c1
          have c2_Bq := Bq.out.c2
          go_wp2_with fail
          refine (samePk_any w14 _ _ P Pk.zero Bq.out.pk (pk_zero _ _)).mono ?_
          rintro e w15 ⟨rfl, hb⟩
          have Bn := Lib.hid (Bn.out.next hb)
          have Bx := Lib.hid (Bx.out.next hb)
          have By := Lib.hid (By.out.next hb)
          have Bz := Lib.hid (Bz.out.next hb)
          have Bm := Lib.hid (Bm.out.next hb)
          have Bk := Lib.hid (Bk.out.next hb)
          have Bp := Lib.hid (Bp.out.next hb)
          have Bv := Lib.hid (Bv.out.next hb)
          have Bq := Lib.hid (Bq.out.next hb)
          have Bu := Lib.hid (Bu.out.next hb)
          have HB := Lib.hid (bthen HB.out hb)
          clear hb
          clear c0_Bp c1_Bp c2_Bp c0_Bq c1_Bq c2_Bq
          have c0_Bp := Bp.out.c0
          have c1_Bp := Bp.out.c1
          have c2_Bp := Bp.out.c2
          have c0_Bq := Bq.out.c0
          have c1_Bq := Bq.out.c1
          have c2_Bq := Bq.out.c2
          go_wp2_with fail
          refine (samePk_any w15 _ _ P P Bp.out.pk Bq.out.pk).mono ?_
          rintro e w16 ⟨rfl, hb⟩
          have Bn := Lib.hid (Bn.out.next hb)
          have Bx := Lib.hid (Bx.out.next hb)
          have By := Lib.hid (By.out.next hb)
          have Bz := Lib.hid (Bz.out.next hb)
          have Bm := Lib.hid (Bm.out.next hb)
          have Bk := Lib.hid (Bk.out.next hb)
          have Bp := Lib.hid (Bp.out.next hb)
          have Bv := Lib.hid (Bv.out.next hb)
          have Bq := Lib.hid (Bq.out.next hb)
          have Bu := Lib.hid (Bu.out.next hb)
          have HB := Lib.hid (bthen HB.out hb)
          clear hb
          go_wp2
          go_ret
          exact ⟨by simp, HB.out⟩
end Go.Proofs.Ytjancbjjeemedaa
