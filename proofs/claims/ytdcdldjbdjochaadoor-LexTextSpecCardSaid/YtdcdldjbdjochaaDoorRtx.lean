/- The reference's Text. -/
import Derived.Test.YtdcdldjbdjochaaDoorRvd
import Derived.Test.YtdcdldjbdjochaaDoorRdm
import Derived.Test.YtdcdldjbdjochaaDoorTxt
namespace Go.Proofs.YtdcdldjbdjochaaDoor
open Go.RowKit

/-- What the first tokens' texts are, joined. -/
def pre (l : List Tok) (j : Nat) : List UInt8 := Lib.join ((l.take j).map textT) [32]
theorem tail_snoc (x : List UInt8) (r : List (List UInt8)) : Lib.joinTail [32] (r ++ [x]) = Lib.joinTail [32] r ++ ([32] ++ x) := by
  unfold Lib.joinTail; simp
theorem pre_zero (l : List Tok) : pre l 0 = [] := rfl
theorem pre_succ (l : List Tok) (j : Nat) (h : j < l.length) : pre l (j + 1) = (if 0 < j then pre l j ++ [32] else pre l j) ++ textT l[j] := by
  unfold pre
  rw [List.take_succ_eq_append_getElem h, List.map_append, List.map_singleton]
  cases j with
  | zero => rw [if_neg (by omega)]; simp [Lib.join_one, Lib.join_nil]
  | succ j =>
    rw [if_pos (by omega)]
    obtain ⟨c, r, hc⟩ : ∃ c r, l = c :: r := by
      cases l with
      | nil => simp at h
      | cons c r => exact ⟨c, r, rfl⟩
    subst hc
    rw [List.take_succ_cons, List.map_cons, List.cons_append, Lib.join_cons, tail_snoc, Lib.join_cons]
    simp
theorem pre_all (l : List Tok) : pre l l.length = Lib.join (l.map textT) [32] := by unfold pre; rw [List.take_length]
theorem pre_mono (l : List Tok) : ∀ (d j : Nat), j + d ≤ l.length → (pre l j).length ≤ (pre l (j + d)).length
  | 0, j, _ => by simp
  | d + 1, j, h => by
    have h1 := pre_mono l d j (by omega)
    have h2 := pre_succ l (j + d) (by omega)
    rw [show j + (d + 1) = j + d + 1 by omega, h2, List.length_append]
    split
    · rw [List.length_append]; omega
    · omega

set_option maxRecDepth 100000 in
set_option maxHeartbeats 4000000 in
theorem rtext_any (w : World) (v1 : Value) (l : List Tok) (h1 : TRow w w.heap.size v1 l) (hll : l.length ≤ 1000000) (htl : ∀ t ∈ l, t.text.length ≤ 1000000) 
    (hjl : (Lib.join (l.map textT) [32]).length ≤ 140737488355328) :
    Calls Tryd.prog 16 #[v1] w (TextPost w (textAll l)) := by
  have H1 := Lib.hid h1
  have HTL := Lib.hid htl
  have HJL : Hid (∀ j, j ≤ l.length → (pre l j).length ≤ 140737488355328) := Lib.hid fun j hj => by
    have := pre_mono l (l.length - j) j (by omega)
    rw [show j + (l.length - j) = l.length by omega, pre_all] at this
    omega
  obtain ⟨a1, c1, rfl, hl1, hm1, _⟩ := h1
  unfold maxLen at hm1
  obtain ⟨res, hres⟩ : ∃ res, textAll l = res := ⟨_, rfl⟩
  rw [hres]
  have HRES := Lib.hid hres
  obtain ⟨N, hN⟩ : ∃ N, l.length = N := ⟨_, rfl⟩
  have HN := Lib.hid hN
  rw [hN] at hl1 H1 hll HJL ⊢
  clear htl hjl hres hN
  go_enter Tryd.func16, Tryd.ntmps16
  go_wp2_with fail
  go_loopw [4, 5] (fun s i wr => ∃ (j : Nat), i = .int .i64 j ∧ j ≤ N ∧ s = .string (str (pre l j)) ∧ Below w.heap.size w wr ∧ Hid (∀ i (h : i < l.length), i < j → validT l[i] = true)) (fun _ i _ => N - (intOf i).toNat)
  case atStart => exact ⟨0, rfl, by omega, rfl, Below.refl _ _, Lib.hid fun i _ h => by omega⟩
  case round =>
    obtain ⟨j, rfl, hj, rfl, hb, hall⟩ := hrel
    have hbs := hb.size
    by_cases hlt : j < N
    · have d : decide ((j : Int) < (N : Int)) = true := by simp; omega
      have ji : (j : Int) < (N : Int) := by omega
      have hjl : j < l.length := by rw [HN.out]; exact hlt
      have hb1 := H1.out.below hb
      obtain ⟨b1, o1, rfl, hbl1, p0, p1, p2, p3⟩ := hb1.got j hjl
      have hmem : l[j]'hjl ∈ l := List.getElem_mem _
      have hvc := fun W => rvalid_any W (l[j]'hjl) (by have := HTL.out _ hmem; omega)
      have hps := pre_succ l j hjl
      have hj1 := HJL.out (j + 1) (by omega)
      have hj0 := HJL.out j (by omega)
      have htn := show (l[j]'hjl).text.length ≤ 1000000 from HTL.out _ hmem
      unfold Tok.val at hvc
      obtain ⟨t, ht⟩ : ∃ t, l[j]'hjl = t := ⟨_, rfl⟩
      have hvt : ∀ i (h : i < l.length), i < j + 1 → validT t = true → validT l[i] = true := fun i h hi hv => by
        by_cases h2 : i < j
        · exact hall.out i h h2
        · obtain rfl : i = j := by omega
          rw [ht]; exact hv
      rw [ht] at hvc hps p0 p1 p2 p3 htn
      have HVT := Lib.hid hvt
      have hno : validT t = false → res = none := fun hv => by
        rw [← HRES.out]; unfold textAll; rw [if_neg]
        intro ha
        rw [List.all_eq_true] at ha
        have := ha _ hmem
        rw [ht, hv] at this; cases this
      have HNO := Lib.hid hno
      clear hvt hno hmem hall
      obtain ⟨PJ, hPJ⟩ : ∃ p, pre l j = p := ⟨_, rfl⟩
      obtain ⟨PS, hPS⟩ : ∃ p, pre l (j + 1) = p := ⟨_, rfl⟩
      rw [hPJ] at hps hj0 ⊢
      rw [hPS] at hps hj1
      have HPS := Lib.hid hPS
      obtain ⟨kd, tx, n, at_⟩ := t
      dsimp only at hvc p0 p1 p2 p3 htn
      have HB := Lib.hid hb
      cases hv : validT ⟨kd, tx, n, at_⟩ with
      | false =>
        obtain rfl := HNO.out hv
        rw [hv] at hvc
        have HVC := Lib.hid hvc
        clear hvc hb hb1 hv ht hps hPJ hPS
        obtain ⟨x1, e2⟩ : ∃ k, str tx = k := ⟨_, rfl⟩
        obtain ⟨y1, e3⟩ : ∃ k, str PJ = k := ⟨_, rfl⟩
        rw [e2] at p1 HVC
        rw [e3]
        clear e2 e3
        go_wp2_with fail
        refine (HVC.out wr).mono ?_
        rintro e w4 ⟨rfl, hb4⟩
        have HF : Hid (Below w.heap.size w w4) := Lib.hid (HB.out.trans (hb4.mono hbs))
        clear hb4
        go_wp2
        go_ret2
        exact ⟨HF.out, rfl⟩
      | true =>
        rw [hv] at hvc
        have HVC := Lib.hid hvc
        have HVAL : Hid (∀ i (h : i < l.length), i < j + 1 → validT l[i] = true) := Lib.hid fun i h hi => HVT.out i h hi hv
        have hQ : ∃ Q : List UInt8, (if 0 < j then PJ ++ [32] else PJ) = Q ∧ PS = Q ++ textT ⟨kd, tx, n, at_⟩ := ⟨_, rfl, hps⟩
        obtain ⟨Q, hQ1, hQ2⟩ := hQ
        have hsum : (str Q).size + (str (textT ⟨kd, tx, n, at_⟩)).size ≤ 9223372036854775807 := by
          rw [str_size, str_size]
          have := congrArg List.length hQ2
          rw [List.length_append] at this
          omega
        have hsad := str_add Q (textT ⟨kd, tx, n, at_⟩)
        rw [← hQ2] at hsad
        have HSAD := Lib.hid hsad
        have hs32 : (str PJ).size + 1 ≤ 9223372036854775807 := by
          rw [str_size]; omega
        have h32 : str PJ ++ { data := #[32] } = str (PJ ++ [32]) := str_add PJ [32]
        by_cases k2 : kd = 2
        · subst k2
          have hn : 0 ≤ n ∧ n ≤ 1099511627776 := by
            simp [validT] at hv
            omega
          obtain ⟨u, rfl⟩ : ∃ u : Nat, n = (u : Int) := ⟨n.toNat, by omega⟩
          have eT : textT ⟨2, tx, (u : Int), at_⟩ = Lib.decDigits u := by unfold textT; rw [if_pos rfl]; exact Lib.itoa_nonneg u
          have hdc := fun W => rdec_any W u (by omega)
          rw [eT] at hsum HSAD
          have HDC := Lib.hid hdc
          obtain ⟨x1, e2⟩ : ∃ k, str tx = k := ⟨_, rfl⟩
          obtain ⟨D, e4⟩ : ∃ k, str (Lib.decDigits u) = k := ⟨_, rfl⟩
          rw [e2] at p1 HVC
          rw [e4] at hsum HSAD HDC
          clear hvc hb hb1 hv ht hps hPJ hPS hQ2 hn hdc e2 e4 eT hsad HNO HVT
          by_cases h0 : 0 < j
          · have d0 : decide (0 < j) = true := by simpa using h0
            rw [if_pos h0] at hQ1
            rw [hQ1] at h32
            obtain ⟨QS, e6⟩ : ∃ k, str Q = k := ⟨_, rfl⟩
            obtain ⟨y1, e5⟩ : ∃ k, str PJ = k := ⟨_, rfl⟩
            rw [e5] at hs32 h32 ⊢
            rw [e6] at hsum HSAD h32
            clear e5
            clear e6
            go_wp2_with fail
            refine (HVC.out wr).mono ?_
            rintro e w4 ⟨rfl, hb4⟩
            have q0 := (hb4.cell (p := ⟨b1, _, none⟩) (by show b1 < _; omega)).trans p0
            have q1 := (hb4.cell (p := ⟨b1, _, none⟩) (by show b1 < _; omega)).trans p1
            have q2 := (hb4.cell (p := ⟨b1, _, none⟩) (by show b1 < _; omega)).trans p2
            have HF : Hid (Below w.heap.size w w4) := Lib.hid (HB.out.trans (hb4.mono hbs))
            clear hb4 p0 p1 p2 p3
            go_wp2_with fail
            refine (HDC.out w4).mono ?_
            rintro e w5 ⟨rfl, hb5⟩
            have HF5 : Hid (Below w.heap.size w w5) := Lib.hid (HF.out.trans (hb5.mono HF.out.size))
            clear hb5 q0 q1 q2
            go_wp2_with fail
            refine ⟨⟨j + 1, by go_num, by omega, by rw [HPS.out, HSAD.out], HF5.out, HVAL⟩, ?_⟩
            simp [intOf]; omega
          · have d0 : decide (0 < j) = false := by simpa using h0
            rw [if_neg h0] at hQ1
            subst hQ1
            obtain ⟨QS, e6⟩ : ∃ k, str PJ = k := ⟨_, rfl⟩
            rw [e6] at hsum HSAD ⊢
            clear hs32 h32
            clear e6
            go_wp2_with fail
            refine (HVC.out wr).mono ?_
            rintro e w4 ⟨rfl, hb4⟩
            have q0 := (hb4.cell (p := ⟨b1, _, none⟩) (by show b1 < _; omega)).trans p0
            have q1 := (hb4.cell (p := ⟨b1, _, none⟩) (by show b1 < _; omega)).trans p1
            have q2 := (hb4.cell (p := ⟨b1, _, none⟩) (by show b1 < _; omega)).trans p2
            have HF : Hid (Below w.heap.size w w4) := Lib.hid (HB.out.trans (hb4.mono hbs))
            clear hb4 p0 p1 p2 p3
            go_wp2_with fail
            refine (HDC.out w4).mono ?_
            rintro e w5 ⟨rfl, hb5⟩
            have HF5 : Hid (Below w.heap.size w w5) := Lib.hid (HF.out.trans (hb5.mono HF.out.size))
            clear hb5 q0 q1 q2
            go_wp2_with fail
            refine ⟨⟨j + 1, by go_num, by omega, by rw [HPS.out, HSAD.out], HF5.out, HVAL⟩, ?_⟩
            simp [intOf]; omega
        · have dk : ((kd : Int) == 2) = false := by simpa using k2
          have eT : textT ⟨kd, tx, n, at_⟩ = tx := by unfold textT; rw [if_neg k2]
          rw [eT] at hsum HSAD
          obtain ⟨x1, e2⟩ : ∃ k, str tx = k := ⟨_, rfl⟩
          rw [e2] at p1 HVC hsum HSAD
          clear hvc hb hb1 hv ht hps hPJ hPS hQ2 e2 eT hsad HNO HVT k2
          by_cases h0 : 0 < j
          · have d0 : decide (0 < j) = true := by simpa using h0
            rw [if_pos h0] at hQ1
            rw [hQ1] at h32
            obtain ⟨QS, e6⟩ : ∃ k, str Q = k := ⟨_, rfl⟩
            obtain ⟨y1, e5⟩ : ∃ k, str PJ = k := ⟨_, rfl⟩
            rw [e5] at hs32 h32 ⊢
            rw [e6] at hsum HSAD h32
            clear e5
            clear e6
            go_wp2_with fail
            refine (HVC.out wr).mono ?_
            rintro e w4 ⟨rfl, hb4⟩
            have q0 := (hb4.cell (p := ⟨b1, _, none⟩) (by show b1 < _; omega)).trans p0
            have q1 := (hb4.cell (p := ⟨b1, _, none⟩) (by show b1 < _; omega)).trans p1
            have q2 := (hb4.cell (p := ⟨b1, _, none⟩) (by show b1 < _; omega)).trans p2
            have HF : Hid (Below w.heap.size w w4) := Lib.hid (HB.out.trans (hb4.mono hbs))
            clear hb4 p0 p1 p2 p3
            go_wp2_with fail
            refine ⟨⟨j + 1, by go_num, by omega, by rw [HPS.out, HSAD.out], HF.out, HVAL⟩, ?_⟩
            simp [intOf]; omega
          · have d0 : decide (0 < j) = false := by simpa using h0
            rw [if_neg h0] at hQ1
            subst hQ1
            obtain ⟨QS, e6⟩ : ∃ k, str PJ = k := ⟨_, rfl⟩
            rw [e6] at hsum HSAD ⊢
            clear hs32 h32
            clear e6
            go_wp2_with fail
            refine (HVC.out wr).mono ?_
            rintro e w4 ⟨rfl, hb4⟩
            have q0 := (hb4.cell (p := ⟨b1, _, none⟩) (by show b1 < _; omega)).trans p0
            have q1 := (hb4.cell (p := ⟨b1, _, none⟩) (by show b1 < _; omega)).trans p1
            have q2 := (hb4.cell (p := ⟨b1, _, none⟩) (by show b1 < _; omega)).trans p2
            have HF : Hid (Below w.heap.size w w4) := Lib.hid (HB.out.trans (hb4.mono hbs))
            clear hb4 p0 p1 p2 p3
            go_wp2_with fail
            refine ⟨⟨j + 1, by go_num, by omega, by rw [HPS.out, HSAD.out], HF.out, HVAL⟩, ?_⟩
            simp [intOf]; omega
    · obtain rfl : j = N := by omega
      have d : decide ((j : Int) < (j : Int)) = false := by simp
      have hva : l.all validT = true := all_take HN.out fun i hi hij => hall.out i hi hij
      have hr : res = some (pre l j) := by rw [← HRES.out]; unfold textAll; rw [if_pos hva, ← pre_all, HN.out]
      subst hr
      have HB := Lib.hid hb
      obtain ⟨S, hS⟩ : ∃ S, str (pre l j) = S := ⟨_, rfl⟩
      have HS := Lib.hid hS
      rw [hS]
      clear hb hva hS hall
      go_wp2
      go_ret2
      exact ⟨HB.out, by rw [← HS.out]; rfl⟩
end Go.Proofs.YtdcdldjbdjochaaDoor
