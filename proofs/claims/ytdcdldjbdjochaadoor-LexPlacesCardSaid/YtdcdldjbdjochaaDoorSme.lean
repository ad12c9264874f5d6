/- Equality of tokens. -/
import Derived.Test.YtdcdldjbdjochaaDoorTok
import Derived.BigQuiet
namespace Go.Proofs.YtdcdldjbdjochaaDoor
open Go.RowKit

/-- Tokens in a slice, all below B. -/
def TRow (w : World) (B : Nat) (v : Value) (l : List Tok) : Prop :=
  ∃ a cap, v = .slice a l.length cap ∧ l.length ≤ cap ∧ cap ≤ maxLen ∧ (l = [] ∨ ∃ b off, a = some ⟨b, off, none⟩ ∧ b < B ∧ ∀ i u, (tcells l)[i]? = some u → w.cell? ⟨b, off + i, none⟩ = some u)
theorem TRow.below {w w' : World} {B : Nat} {v : Value} {l : List Tok} (h : TRow w B v l) (hb : Below B w w') : TRow w' B v l := by
  obtain ⟨a, cap, h1, h2, h3, h4⟩ := h
  refine ⟨a, cap, h1, h2, h3, ?_⟩
  rcases h4 with h4 | ⟨b, off, h4, h5, h6⟩
  · exact .inl h4
  · exact .inr ⟨b, off, h4, h5, fun i u hu => (hb.cell (p := ⟨b, off + i, none⟩) h5).trans (h6 i u hu)⟩
theorem TRow.mono {w : World} {B B' : Nat} {v : Value} {l : List Tok} (h : TRow w B v l) (hb : B ≤ B') : TRow w B' v l := by
  obtain ⟨a, cap, h1, h2, h3, h4⟩ := h
  refine ⟨a, cap, h1, h2, h3, ?_⟩
  rcases h4 with h4 | ⟨b, off, h4, h5, h6⟩
  · exact .inl h4
  · exact .inr ⟨b, off, h4, by omega, h6⟩
theorem TRow.of_own {w : World} {B : Nat} {v : Value} {l : List Tok} (h : w.ownsRow B 35 4 v l.length (tcells l)) : TRow w w.heap.size v l := by
  have hlt := h.lt
  have hc := fun g hg i u hu => World.ownsRow.cells h (g := g) hg i u hu
  rcases h.2 with ⟨rfl, h0⟩ | ⟨g, cap, cur, rfl, _, _, hn, hm, _, _⟩
  · exact ⟨none, 0, by rw [h0], by omega, by unfold maxLen; omega, .inl (List.eq_nil_of_length_eq_zero h0)⟩
  · refine ⟨_, cap, rfl, hn, hm, .inr ⟨g, 0, rfl, (hlt g rfl).2, fun i u hu => ?_⟩⟩
    have := hc g rfl i u hu
    rw [show (⟨g, 0, none⟩ : Addr).add i = ⟨g, 0 + i, none⟩ by unfold Addr.add; split <;> simp_all] at this
    exact this
theorem tcells_at : ∀ (l : List Tok) (i : Nat) (h : i < l.length), (tcells l)[i * 4]? = some (.int .i64 l[i].kind) ∧ (tcells l)[i * 4 + 1]? = some (.string (str l[i].text)) ∧ (tcells l)[i * 4 + 2]? = some (.int .i64 l[i].n) ∧ (tcells l)[i * 4 + 3]? = some (.int .i64 l[i].at_)
  | t :: l, 0, _ => by simp [tcells, Tok.cells]
  | t :: l, i + 1, h => by
    have ih := tcells_at l i (by simpa using h)
    have e : tcells (t :: l) = t.cells ++ tcells l := by simp [tcells]
    have hlen : t.cells.length = 4 := rfl
    rw [e]
    refine ⟨?_, ?_, ?_, ?_⟩
    · rw [List.getElem?_append_right (by omega), hlen, show (i + 1) * 4 - 4 = i * 4 by omega]; exact ih.1
    · rw [List.getElem?_append_right (by omega), hlen, show (i + 1) * 4 + 1 - 4 = i * 4 + 1 by omega]; exact ih.2.1
    · rw [List.getElem?_append_right (by omega), hlen, show (i + 1) * 4 + 2 - 4 = i * 4 + 2 by omega]; exact ih.2.2.1
    · rw [List.getElem?_append_right (by omega), hlen, show (i + 1) * 4 + 3 - 4 = i * 4 + 3 by omega]; exact ih.2.2.2
theorem TRow.got {w : World} {B : Nat} {a : Option Addr} {len cap : Nat} {l : List Tok} (h : TRow w B (.slice a len cap) l) (i : Nat) (hi : i < l.length) : ∃ b off, a = some ⟨b, off, none⟩ ∧ b < B ∧
    w.cell? ⟨b, off + i * 4, none⟩ = some (.int .i64 l[i].kind) ∧ w.cell? ⟨b, off + i * 4 + 1, none⟩ = some (.string (str l[i].text)) ∧ w.cell? ⟨b, off + i * 4 + 2, none⟩ = some (.int .i64 l[i].n) ∧ w.cell? ⟨b, off + i * 4 + 3, none⟩ = some (.int .i64 l[i].at_) := by
  obtain ⟨a', cap', h1, h2, h3, h4⟩ := h
  injection h1 with e1 e2 e3
  subst e1
  rcases h4 with h4 | ⟨b, off, h4, h5, h6⟩
  · subst h4; simp at hi
  · obtain ⟨t0, t1, t2, t3⟩ := tcells_at l i hi
    refine ⟨b, off, h4, h5, h6 _ _ t0, ?_, ?_, ?_⟩
    · rw [Nat.add_assoc]; exact h6 _ _ t1
    · rw [Nat.add_assoc]; exact h6 _ _ t2
    · rw [Nat.add_assoc]; exact h6 _ _ t3

def tsame (a b : Tok) : Bool := a.kind == b.kind && (a.text == b.text && a.n == b.n)
def tsames : List Tok → List Tok → Bool
  | [], [] => true
  | a :: l, b :: m => tsame a b && tsames l m
  | _, _ => false
theorem tsames_len : ∀ (l m : List Tok), l.length ≠ m.length → tsames l m = false
  | [], [], h => by simp at h
  | [], b :: m, _ => rfl
  | a :: l, [], _ => rfl
  | a :: l, b :: m, h => by rw [tsames, tsames_len l m (by simpa using h)]; simp
theorem tsames_drop : ∀ (l m : List Tok) (i : Nat) (h1 : i < l.length) (h2 : i < m.length), tsames (l.drop i) (m.drop i) = (tsame l[i] m[i] && tsames (l.drop (i + 1)) (m.drop (i + 1))) := fun l m i h1 h2 => by
  rw [List.drop_eq_getElem_cons h1, List.drop_eq_getElem_cons h2, tsames]

set_option maxHeartbeats 1000000 in
theorem sameToken_any (w : World) (s t : Tok) : Calls Tryd.prog 36 #[s.val, t.val] w fun e w' => e = .returned (.bool (tsame s t)) ∧ Below w.heap.size w w' := by
  obtain ⟨k1, x1, n1, a1⟩ := s
  obtain ⟨k2, x2, n2, a2⟩ := t
  have hx1 := str_list x1
  have hx2 := str_list x2
  have hr : tsame ⟨k1, x1, n1, a1⟩ ⟨k2, x2, n2, a2⟩ = (k1 == k2 && (x1 == x2 && n1 == n2)) := rfl
  unfold Tok.val
  dsimp only
  rw [hr]
  obtain ⟨s1, h1⟩ : ∃ s, str x1 = s := ⟨_, rfl⟩
  obtain ⟨s2, h2⟩ : ∃ s, str x2 = s := ⟨_, rfl⟩
  rw [h1] at hx1 ⊢
  rw [h2] at hx2 ⊢
  rw [← hx1, ← hx2]
  clear h1 h2 hx1 hx2 hr
  by_cases ek : k1 = k2
  · subst ek
    by_cases ex : s1.toList = s2.toList
    · go_enter Tryd.func36, Tryd.ntmps36
      go_wp2
      go_ret
      exact ⟨by simp [ex], by go_grown⟩
    · go_enter Tryd.func36, Tryd.ntmps36
      go_wp2
      go_ret
      exact ⟨by simp [ex], by go_grown⟩
  · have dk : (k1 == k2) = false := by simpa using ek
    rw [dk, Bool.false_and]
    clear ek
    go_enter Tryd.func36, Tryd.ntmps36
    go_wp2
    go_ret
    exact ⟨rfl, by go_grown⟩

set_option maxHeartbeats 2000000 in
theorem equalFunc_any (w : World) (v1 v2 : Value) (l m : List Tok) (h1 : TRow w w.heap.size v1 l) (h2 : TRow w w.heap.size v2 m) :
    Calls Tryd.prog 35 #[v1, v2, .func (.func 36) #[] #[]] w fun e w' => e = .returned (.bool (tsames l m)) ∧ Below w.heap.size w w' := by
  have H1 := Lib.hid h1
  have H2 := Lib.hid h2
  obtain ⟨a1, c1, rfl, hl1, hm1, _⟩ := h1
  obtain ⟨a2, c2, rfl, hl2, hm2, _⟩ := h2
  unfold maxLen at hm1 hm2
  by_cases hne : l.length = m.length
  · obtain ⟨res, hres⟩ : ∃ res, tsames l m = res := ⟨_, rfl⟩
    rw [hres]
    have HR := Lib.hid hres
    obtain ⟨N, hN⟩ : ∃ N, l.length = N := ⟨_, rfl⟩
    have hN2 : m.length = N := by rw [← hne]; exact hN
    have HN := Lib.hid hN
    have HN2 := Lib.hid hN2
    rw [hN] at hl1 H1 ⊢
    rw [hN2] at hl2 H2 ⊢
    have dne : ((N : Int) != (N : Int)) = false := by simp
    clear hres hN hN2 hne
    go_enter Tryd.func35, Tryd.ntmps35
    go_wp2_with fail
    go_loopw [7, 8, 9, 17] (fun _ _ _ i wr => ∃ j : Nat, i = .int .i64 j ∧ j ≤ N ∧ Below w.heap.size w wr ∧ tsames (l.drop j) (m.drop j) = res) (fun _ _ _ i _ => N - (intOf i).toNat)
    case atStart => exact ⟨0, rfl, by omega, Below.refl _ _, by simpa using HR.out⟩
    case round =>
      obtain ⟨j, rfl, hj, hb, hrs⟩ := hrel
      by_cases hlt : j < N
      · have d : decide ((j : Int) < (N : Int)) = true := by simp; omega
        have hb1 := H1.out.below hb
        have hb2 := H2.out.below hb
        obtain ⟨b1, o1, rfl, hbl1, p0, p1, p2, p3⟩ := hb1.got j (by rw [HN.out]; exact hlt)
        obtain ⟨b2, o2, rfl, hbl2, q0, q1, q2, q3⟩ := hb2.got j (by rw [HN2.out]; exact hlt)
        have hsd := tsames_drop l m j (by rw [HN.out]; exact hlt) (by rw [HN2.out]; exact hlt)
        rw [hrs] at hsd
        have hcl := fun W => sameToken_any W (l[j]'(by rw [HN.out]; exact hlt)) (m[j]'(by rw [HN2.out]; exact hlt))
        obtain ⟨t, ht⟩ : ∃ t, tsame (l[j]'(by rw [HN.out]; exact hlt)) (m[j]'(by rw [HN2.out]; exact hlt)) = t := ⟨_, rfl⟩
        rw [ht] at hsd
        simp only [ht] at hcl
        unfold Tok.val at hcl
        obtain ⟨k1, e1⟩ : ∃ k, (l[j]'(by rw [HN.out]; exact hlt)).kind = k := ⟨_, rfl⟩
        obtain ⟨x1, e2⟩ : ∃ k, str (l[j]'(by rw [HN.out]; exact hlt)).text = k := ⟨_, rfl⟩
        obtain ⟨n1, e3⟩ : ∃ k, (l[j]'(by rw [HN.out]; exact hlt)).n = k := ⟨_, rfl⟩
        obtain ⟨t1, e4⟩ : ∃ k, (l[j]'(by rw [HN.out]; exact hlt)).at_ = k := ⟨_, rfl⟩
        obtain ⟨k2, g1⟩ : ∃ k, (m[j]'(by rw [HN2.out]; exact hlt)).kind = k := ⟨_, rfl⟩
        obtain ⟨x2, g2⟩ : ∃ k, str (m[j]'(by rw [HN2.out]; exact hlt)).text = k := ⟨_, rfl⟩
        obtain ⟨n2, g3⟩ : ∃ k, (m[j]'(by rw [HN2.out]; exact hlt)).n = k := ⟨_, rfl⟩
        obtain ⟨t2, g4⟩ : ∃ k, (m[j]'(by rw [HN2.out]; exact hlt)).at_ = k := ⟨_, rfl⟩
        rw [e1] at p0; rw [e2] at p1; rw [e3] at p2; rw [e4] at p3
        rw [g1] at q0; rw [g2] at q1; rw [g3] at q2; rw [g4] at q3
        simp only [e1, e2, e3, e4, g1, g2, g3, g4] at hcl
        have HCL := Lib.hid hcl
        have HSD := Lib.hid hsd
        have hbw := hb.size
        have HB := Lib.hid hb
        have r0 : ∀ o, (wr.alloc o).cell? ⟨b2, o2 + j * 4, none⟩ = some (.int .i64 k2) := fun o => (World.cell?_alloc_lt wr o ⟨b2, o2 + j * 4, none⟩ (by show b2 < _; omega)).trans q0
        have r1 : ∀ o, (wr.alloc o).cell? ⟨b2, o2 + j * 4 + 1, none⟩ = some (.string x2) := fun o => (World.cell?_alloc_lt wr o ⟨b2, o2 + j * 4 + 1, none⟩ (by show b2 < _; omega)).trans q1
        have r2 : ∀ o, (wr.alloc o).cell? ⟨b2, o2 + j * 4 + 2, none⟩ = some (.int .i64 n2) := fun o => (World.cell?_alloc_lt wr o ⟨b2, o2 + j * 4 + 2, none⟩ (by show b2 < _; omega)).trans q2
        have r3 : ∀ o, (wr.alloc o).cell? ⟨b2, o2 + j * 4 + 3, none⟩ = some (.int .i64 t2) := fun o => (World.cell?_alloc_lt wr o ⟨b2, o2 + j * 4 + 3, none⟩ (by show b2 < _; omega)).trans q3
        clear hb1 hb2 hsd hcl ht e1 e2 e3 e4 g1 g2 g3 g4 hrs hb
        go_wp2_with fail
        refine (HCL.out _).mono ?_
        rintro e w5 ⟨rfl, hb5⟩
        have HB5 : Hid (Below w.heap.size w w5) := Lib.hid (HB.out.trans ((((Below.refl wr.heap.size wr).alloc (Nat.le_refl _) _).alloc (by simp) _ |>.trans (hb5.mono (by simp; omega))).mono hbw))
        clear hb5 p0 p1 p2 p3 q0 q1 q2 q3 r0 r1 r2 r3
        cases t with
        | true =>
          go_wp2
          go_roundw
          case rel => exact ⟨j + 1, by go_num, by omega, HB5.out, by rw [HSD.out]; simp⟩
          case measure => simp [intOf]; omega
        | false =>
          have hr : false = res := by rw [HSD.out]; simp
          subst hr
          go_wp2
          go_ret
          exact ⟨rfl, HB5.out⟩
      · obtain rfl : j = N := by omega
        have d : decide ((j : Int) < (j : Int)) = false := by simp
        have hr : true = res := by rw [← hrs, ← HN.out, List.drop_length, HN.out, ← HN2.out, List.drop_length]; rfl
        subst hr
        have HB := Lib.hid hb
        clear hrs hb
        go_wp2
        go_ret
        exact ⟨rfl, HB.out⟩
  · rw [tsames_len l m hne]
    have d : ((l.length : Int) != (m.length : Int)) = true := by simp; omega
    clear hne H1 H2
    go_enter Tryd.func35, Tryd.ntmps35
    go_wp2
    go_ret
    exact ⟨rfl, by go_grown⟩
end Go.Proofs.YtdcdldjbdjochaaDoor
