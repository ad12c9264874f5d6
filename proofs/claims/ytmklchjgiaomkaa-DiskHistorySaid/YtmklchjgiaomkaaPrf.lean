/- Rows that are appended; slices.Clone, perform, torn. -/
import Derived.Test.YtmklchjgiaomkaaExt
import Derived.Deep.DeepAppendRoom
import Derived.Deep.AppendSrc
import Derived.Deep.Upon
namespace Go.Proofs.Ytmklchjgiaomkaa
open Go.RowKit

/-- What is appended: m elements whose cells are news. -/
def Piece (w : World) (v : Value) (m : Nat) (news : List Value) : Prop :=
  ∃ a c, v = .slice a m c ∧ ((m = 0 ∧ news = []) ∨ ∃ ad, a = some ad ∧ ∀ j u, news[j]? = some u → w.cell? (ad.add j) = some u)
theorem piece_run (t e : TypeId) (i : TypeInfo) (z : Value) (size bytes : Nat) (ht : Try.prog.underlying t = some (.slice e)) (hi : Try.prog.info? e = some i) (hz : i.zero = some z) (hsize : i.size = size) (hby : i.bytes = bytes) (hzs : z.cells.size = size) (hsz : 0 < size)
    {w : World} {base g n cap : Nat} {xs : List Value} (hown : w.ownsRow base e size (.slice (some ⟨g, 0, none⟩) n cap) n xs) {v : Value} {m : Nat} {news : List Value} (hv : Piece w v m news) (hl : news.length = m * size) (h1 : ∀ u ∈ news, u.oneCell' = true)
    (h63 : n + m ≤ maxLen) (hbytes : (n + m) * bytes ≤ 140737488355328) (hbase : base ≤ w.heap.size) (ty : TypeId) :
    ∃ g' cap' w', (Builtin.append_ #[t, t] ty #[.slice (some ⟨g, 0, none⟩) n cap, v]).run Try.prog w = .ok (.slice (some ⟨g', 0, none⟩) (n + m) cap') w' ∧ w'.ownsRow base e size (.slice (some ⟨g', 0, none⟩) (n + m) cap') (n + m) (xs ++ news) ∧ w.grownBy w' (some g) ∧ (g' = g ∨ g' = w.heap.size) := by
  obtain ⟨a, c, rfl, h⟩ := hv
  have none_ : news = [] → m = 0 → ∀ a c, ∃ g' cap' w', (Builtin.append_ #[t, t] ty #[.slice (some ⟨g, 0, none⟩) n cap, .slice a m c]).run Try.prog w = .ok (.slice (some ⟨g', 0, none⟩) (n + m) cap') w' ∧ w'.ownsRow base e size (.slice (some ⟨g', 0, none⟩) (n + m) cap') (n + m) (xs ++ news) ∧ w.grownBy w' (some g) ∧ (g' = g ∨ g' = w.heap.size) := by
    rintro rfl rfl a c
    have hle : n ≤ cap := by
      rcases hown.2 with ⟨h0, _⟩ | ⟨g1, cap1, cur, h0, _, _, hn, _⟩
      · cases h0
      · injection h0 with _ _ e; omega
    refine ⟨g, cap, w, run_append_nothing w t t ty e i ht hi (some ⟨g, 0, none⟩) n cap hle (.slice a 0 c) ?_, by simpa using hown, ⟨rfl, rfl, rfl, Nat.le_refl _, fun _ _ _ => rfl⟩, .inl rfl⟩
    rcases a with _ | p
    · exact Src.ofNil w ht c
    · exact Src.ofSlice w ht p 0 c [] (by simp) (by simp) (by simp)
  rcases h with ⟨rfl, rfl⟩ | ⟨ad, rfl, hc⟩
  · exact none_ rfl rfl a c
  · obtain ⟨v', w', hr, h2, h3, h4, h5⟩ := run_append_own_at (P := Try.prog) w base t ty e i z size bytes ht hi hz hsize hby hzs hsz _ n xs hown ad m c news hl hc h1 h63 hbytes hbase
    obtain ⟨g', cap', rfl⟩ : ∃ g' cap', v' = .slice (some ⟨g', 0, none⟩) (n + m) cap' := by
      rcases h2.2 with ⟨h0, _⟩ | ⟨g', cap', cur, hv, _⟩
      · have := (h4.1 h0).1; cases this
      · exact ⟨g', cap', hv⟩
    refine ⟨g', cap', w', hr, h2, h3, ?_⟩
    rcases h5 with h5 | h5 <;> simp [Value.ownBlock] at h5
    · exact .inl h5
    · exact .inr h5
theorem piece_own {W : World} {B e size n : Nat} {v : Value} {xs : List Value} (h : W.ownsRow B e size v n xs) : Piece W v n xs := by
  have hcl := @World.ownsRow.cells _ _ _ _ _ _ _ h
  rcases h.2 with ⟨rfl, h0⟩ | ⟨g, cap, cur, rfl, _⟩
  · exact ⟨none, 0, by rw [h0], .inl ⟨h0, List.eq_nil_of_length_eq_zero (by rw [h.1, h0, Nat.zero_mul])⟩⟩
  · exact ⟨_, cap, rfl, .inr ⟨_, rfl, fun j u hu => hcl (g := g) rfl j u hu⟩⟩
theorem Piece.kept {W W' : World} {v : Value} {n : Nat} {xs : List Value} (h : Piece W v n xs) (hb : Below W.heap.size W W') : Piece W' v n xs := by
  obtain ⟨a, c, rfl, h | ⟨ad, rfl, h⟩⟩ := h
  · exact ⟨a, c, rfl, .inl h⟩
  · exact ⟨_, c, rfl, .inr ⟨_, rfl, fun j u hu => (hb.cell (World.block_lt_of_cell? W (ad.add j) (h j u hu) : (ad.add j).block < W.heap.size)).trans (h j u hu)⟩⟩


theorem own_arr {w : World} {B e size n cap g : Nat} {cs : List Value} (h : w.ownsRow B e size (.slice (some ⟨g, 0, none⟩) n cap) n cs) : B ≤ g ∧ g < w.heap.size ∧ n ≤ cap ∧ cap ≤ maxLen ∧ Arr w g cs := by
  have hlt := h.lt g rfl
  obtain ⟨h1, h2⟩ := h
  rcases h2 with ⟨h3, _⟩ | ⟨g', cap', cur, hv, hbg, hg, hnc, hcm, hcs, htake⟩
  · cases h3
  · cases hv
    refine ⟨hbg, hlt.2, hnc, hcm, fun j v hv => ?_, fun j hj => ?_⟩
    · rw [← htake, List.getElem?_take] at hv
      split at hv
      · rw [Nat.zero_add]; simpa [World.cell?, hg] using hv
      · cases hv
    · have hj2 : j < cur.size := by rw [← htake, List.length_take] at hj; simp at hj; omega
      rw [Nat.zero_add]
      exact ⟨by simp [World.cell?, hg, hj2], by simp [World.frozen?, hg]⟩
theorem piece_sec {w : World} {B : Nat} {v : Value} {l : List By} (hB : B ≤ w.heap.size) (h : SecAt w B v l) : ∃ cs, secCells w (· < B) l cs ∧ Piece w v l.length cs := by
  obtain ⟨a, c, rfl, _, _, h | ⟨db, off, rfl, _, h⟩⟩ := h
  · subst h; exact ⟨[], ⟨rfl, fun i hi => absurd hi (by simp)⟩, a, c, rfl, .inl ⟨rfl, rfl⟩⟩
  · obtain ⟨cs, h1, h2⟩ := h.cells hB
    exact ⟨cs, h1, _, c, rfl, .inr ⟨_, rfl, fun j u hu => by rw [Addr.add_mid]; exact h2 j u hu⟩⟩
theorem piece_pen {w : World} {B : Nat} {v : Value} {l : List (Int × By)} (hB : B ≤ w.heap.size) (h : PenAt w B v l) : ∃ cs, penCells w (· < B) l cs ∧ Piece w v l.length cs := by
  obtain ⟨a, c, rfl, _, _, h | ⟨db, off, rfl, _, h⟩⟩ := h
  · subst h; exact ⟨[], ⟨rfl, fun i hi => absurd hi (by simp)⟩, a, c, rfl, .inl ⟨rfl, rfl⟩⟩
  · obtain ⟨cs, h1, h2⟩ := h.cells hB
    exact ⟨cs, h1, _, c, rfl, .inr ⟨_, rfl, fun j u hu => by rw [Addr.add_mid]; exact h2 j u hu⟩⟩
theorem piece_bytes {w : World} {B : Nat} {v : Value} {b : By} (h : BytesAt w B v b) : Piece w v b.length (cells8 b) := by
  obtain ⟨a, c, rfl, _, _, h | ⟨db, off, rfl, _, h⟩⟩ := h
  · subst h; exact ⟨a, c, rfl, .inl ⟨rfl, rfl⟩⟩
  · exact ⟨_, c, rfl, .inr ⟨_, rfl, bytes_news h⟩⟩

/-- A slice of sectors that the call owns. -/
def OwnSec (w : World) (B : Nat) (P : Nat → Prop) (v : Value) (k : Nat) (l : List By) : Prop := ∃ g cap cs, v = .slice (some ⟨g, 0, none⟩) k cap ∧ k ≤ cap ∧ cap ≤ maxLen ∧ B ≤ g ∧ g < w.heap.size ∧ Arr w g cs ∧ secCells w P l cs

theorem eql_nil (b off k cap : Nat) (w : World) : (binOp .eql 22 (.slice (some ⟨b, off, none⟩) k cap) (.slice none 0 0)).run Try.prog w = .ok (.bool false) w := by kernel_rfl

set_option maxHeartbeats 1000000 in
theorem clone_any (w : World) (v : Value) (l : List By) (k : Nat) (hk : l.length = k) (h0 : 0 < k) (hl : k ≤ 10000) (B : Nat) (hB : B ≤ w.heap.size) (hv : SecAt w B v l) :
    Calls Try.prog 39 #[v] w fun e w' => ∃ u, e = .returned u ∧ OwnSec w' w.heap.size (· < B) u k l ∧ Below w.heap.size w w' := by
  obtain ⟨w0, hw0⟩ : ∃ w0, w0 = w.alloc (.cells #[] 35) := ⟨_, rfl⟩
  have hB0 : Below w.heap.size w w0 := by rw [hw0]; go_grown
  obtain ⟨cs, hcs, hp⟩ := piece_sec (by have := hB0.size; omega) (hv.below (hB0.mono hB))
  obtain ⟨a, cap, rfl, hc1, hc2, h4⟩ := hv
  rw [hk] at hp hc1
  obtain ⟨db, off, rfl, hdb, _⟩ : ∃ db off, a = some ⟨db, off, none⟩ ∧ db < B ∧ SecIn w B db off l := by
    rcases h4 with h4 | ⟨db, off, h5, h6, h7⟩
    · subst h4; simp at hk; omega
    · exact ⟨db, off, h5, h6, h7⟩
  rw [hk]
  obtain ⟨i0, hi, hz0, hz1, hz2⟩ := info_parts Try.info35
  have hown0 : w0.ownsRow w.heap.size 35 1 (.slice (some ⟨w.heap.size, 0, none⟩) 0 0) 0 [] := by rw [hw0]; exact World.ownsRow_made (base := w.heap.size) w #[] 0 (Nat.le_refl _) (by unfold maxLen; omega) rfl
  obtain ⟨g', cap', W, hrun, hown, hgr, _⟩ := piece_run 22 35 i0 _ 1 24 Try.underlying22 hi hz0 hz1 hz2 rfl (by decide) hown0 hp (by rw [hcs.1, hk]; omega) (one_sec hcs) (by unfold maxLen; omega) (by omega) hB0.size 22
  rw [Nat.zero_add, List.nil_append] at hown
  rw [Nat.zero_add] at hrun
  have hz : w.heap.size < w0.heap.size := by rw [hw0]; simp
  have hBW : Below w.heap.size w W := below_grow hB0 hgr (fun j hj => by cases hj; exact Nat.le_refl _) (by omega)
  obtain ⟨o1, o2, o3, o4, o5⟩ := own_arr hown
  have hfin : OwnSec W w.heap.size (· < B) (.slice (some ⟨g', 0, none⟩) k cap') k l := ⟨g', cap', cs, rfl, o3, o4, o1, o2, o5, hcs.below ((below_grow (B := w.heap.size) (Below.refl _ _) hgr (fun j hj => by cases hj; exact Nat.le_refl _) (by omega)).mono hB) hgr.size⟩
  rw [hw0] at hrun
  have HR := Lib.hid hrun
  have HF := Lib.hid hfin
  have HB := Lib.hid hBW
  have hnil := eql_nil db off k cap w
  clear hrun hfin hBW hown hgr hown0 hp hcs hi hz0 hz1 hz2 o5 hk hB0 hw0 hz h4
  go_enter Try.func39, Try.ntmps39
  go_wp2_with (at_builtin; refine wpList_append_run rfl (.tmp 5) (.tmp 6) 22 22 rfl _ _ _ _ (by rfl) (by rfl) HR.out ?_)
  trace_state
  go_ret
  exact ⟨_, rfl, HF.out, HB.out⟩
end Go.Proofs.Ytmklchjgiaomkaa
