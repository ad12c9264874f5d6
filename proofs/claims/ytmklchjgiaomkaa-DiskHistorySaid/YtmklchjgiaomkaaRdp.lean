/- What reads and writes of disks say of each other, as plain data. -/
import Derived.Test.YtmklchjgiaomkaaRd
namespace Go.Proofs.Ytmklchjgiaomkaa

theorem curOf_snoc (k : Int) (l : List (Int × By)) (n : Int) (y z : By) : curOf k (l ++ [(n, y)]) z = if n = k then y else curOf k l z := by
  unfold curOf; rw [List.foldl_append]; rfl
theorem runs_of {d : Dk} (h1 : d.ok = true) (h2 : d.stop = false) : d.runs = true := by unfold Dk.runs; rw [h1, h2]; rfl
theorem ok_snoc {d : Dk} (h : d.ok = true) {n : Int} (hn : d.has n = true) (hp : d.pen.length ≠ 4096) {y : By} (hy : y.length = 128) : ({ d with pen := d.pen ++ [(n, y)] } : Dk).ok = true := by
  obtain ⟨⟨h1, h2, h3⟩, h4, h5, h6, h7⟩ := (ok_iff d).1 h
  have hh := has_iff.1 hn
  refine (ok_iff _).2 ⟨⟨h1, h2, ?_⟩, h4, ?_, h6, h7⟩
  · show (d.pen ++ [(n, y)]).length ≤ 4096
    rw [List.length_append, List.length_singleton]; omega
  · show okPen d.sec.length (d.pen ++ [(n, y)]) = true
    unfold okPen at *
    rw [List.all_append, h5]
    simp [hh.1, hh.2, hy]
theorem write_zero {d : Dk} {n : Int} {b : By} (hb : b.length ≤ 128) (h : (d.write n b).2 = 0) : d.runs = true ∧ d.has n = true ∧ d.pen.length ≠ 4096 ∧ (d.write n b).1 = { d with pen := d.pen ++ [(n, pad b)] } := by
  by_cases hc : (d.runs && d.has n) = true
  · obtain ⟨h1, h2⟩ := Bool.and_eq_true_iff.1 hc
    have hw : d.write n b = if d.pen.length = 4096 then (Dk.zero, 2) else ({ d with pen := d.pen ++ [(n, pad b)] }, 0) := by
      unfold Dk.write; rw [if_pos hc, if_neg (by omega)]
    rw [hw] at h ⊢
    by_cases h3 : d.pen.length = 4096
    · rw [if_pos h3] at h; cases h
    · rw [if_neg h3]; exact ⟨h1, h2, h3, rfl⟩
  · unfold Dk.write at h; rw [if_neg hc] at h; cases h
theorem write_two {d : Dk} {n : Int} {b : By} (hb : b.length ≤ 128) (h1 : d.runs = true) (h2 : d.has n = true) : (d.write n b).2 = 0 ∨ (d.write n b).2 = 2 := by
  unfold Dk.write
  rw [h1, h2, if_pos (by simp), if_neg (by omega)]
  by_cases h3 : d.pen.length = 4096
  · rw [if_pos h3]; exact .inr rfl
  · rw [if_neg h3]; exact .inl rfl
theorem read_zero {d : Dk} {n : Int} (h : (d.read n).2 = 0) : d.runs = true ∧ d.has n = true := by
  unfold Dk.read at h
  cases h1 : d.runs <;> cases h2 : d.has n <;> simp [h1, h2] at h
  exact ⟨rfl, rfl⟩
theorem read_ok {d : Dk} {n : Int} (h1 : d.runs = true) (h2 : d.has n = true) : d.read n = (d.cur n, 0) := by
  unfold Dk.read; rw [h1, h2]; rfl
theorem cur_snoc (d : Dk) (n k : Int) (y : By) : ({ d with pen := d.pen ++ [(n, y)] } : Dk).cur k = if n = k then y else d.cur k := by
  unfold Dk.cur; exact curOf_snoc _ _ _ _ _

theorem perf_get (l : List (Int × By)) (k : Nat) (h : ∀ x ∈ l, 0 ≤ x.1) : ∀ (s : List By), (∀ x ∈ l, x.1 < s.length) → k < s.length → (perf s l).getD k [] = curOf k l (s.getD k []) := by
  unfold perf curOf
  induction l with
  | nil => intro s _ _; rfl
  | cons x l ih =>
    intro s hs hk
    rw [List.foldl_cons, List.foldl_cons]
    have hx0 := h x (by simp)
    have hx1 := hs x (by simp)
    rw [ih (fun y hy => h y (List.mem_cons_of_mem _ hy)) _ (fun y hy => by rw [List.length_set]; exact hs y (List.mem_cons_of_mem _ hy)) (by rw [List.length_set]; exact hk)]
    congr 1
    by_cases e : x.1 = k
    · rw [if_pos e, e, Int.toNat_natCast]
      simp [List.getD_eq_getElem?_getD, hk]
    · rw [if_neg e]
      have : x.1.toNat ≠ k := by omega
      simp [List.getD_eq_getElem?_getD, List.getElem?_set_ne this]

/-- A sync that does not stop. -/
theorem sync_zero {d : Dk} (h1 : d.runs = true) (h : d.sync.2 = 0) : d.stops = false ∧ d.sync.1 = ⟨perf d.sec d.pen, [], if d.left < 0 then d.left else d.left - d.pen.length, false⟩ := by
  unfold Dk.sync at *
  rw [h1, if_pos rfl] at h ⊢
  cases hs : d.stops
  · rw [if_neg (by simp)]; exact ⟨rfl, rfl⟩
  · rw [hs, if_pos rfl] at h; cases h
theorem sync_two {d : Dk} (h1 : d.runs = true) : d.sync.2 = 0 ∨ (d.sync.2 = 40 ∧ d.sync.1.stop = true) := by
  unfold Dk.sync
  rw [h1, if_pos rfl]
  cases hs : d.stops
  · exact .inl (by simp)
  · exact .inr (by simp)
theorem stops_not {d : Dk} (h : d.stops = false) : d.left < 0 ∨ (d.pen.length : Int) ≤ d.left := by
  unfold Dk.stops at h; simp at h; omega
theorem perf_all (l : List (Int × By)) (h : ∀ x ∈ l, x.2.length = 128) : ∀ s : List By, (∀ y ∈ s, y.length = 128) → ∀ y ∈ perf s l, y.length = 128 := by
  unfold perf
  induction l with
  | nil => intro s hs; exact hs
  | cons x l ih =>
    intro s hs
    rw [List.foldl_cons]
    refine ih (fun y hy => h y (List.mem_cons_of_mem _ hy)) _ fun y hy => ?_
    rcases List.mem_or_eq_of_mem_set hy with hy | rfl
    · exact hs y hy
    · exact h x (by simp)
theorem sync_ok {d : Dk} (h : d.ok = true) (hs : d.stops = false) : (⟨perf d.sec d.pen, [], if d.left < 0 then d.left else d.left - d.pen.length, false⟩ : Dk).ok = true := by
  obtain ⟨l1, l2, l3, l4, l5, l6, l7⟩ := ok_lens h
  have h0 := stops_not hs
  refine (ok_iff _).2 ⟨⟨by show 1 ≤ (perf _ _).length; rw [perf_len]; exact l1, by show (perf _ _).length ≤ _; rw [perf_len]; exact l2, by show ([] : List (Int × By)).length ≤ _; simp⟩, ?_, rfl, ?_, ?_⟩
  · show okSec (perf _ _) = true
    unfold okSec
    rw [List.all_eq_true]
    intro s hs
    simpa using perf_all _ (fun x hx => (l5 x hx).2.2) _ l4 s hs
  · show -1 ≤ (if d.left < 0 then d.left else d.left - d.pen.length)
    split <;> omega
  · show (if d.left < 0 then d.left else d.left - d.pen.length) ≤ 65536
    split <;> omega

/-- All that DiskReads asks of the data. -/
theorem reads_pure {d : Dk} {n m : Int} {b c : By} (hb : b.length ≤ 128) (hc : c.length ≤ 128) (he : (d.read m).2 = 0) (hf : (d.write n b).2 = 0) :
    ((d.write n b).1.read m).2 = 0 ∧ (d.write n b).1.read n = (pad b, 0) ∧ (n ≠ m → ((d.write n b).1.read m).1 = (d.read m).1) ∧
    (((d.write n b).1.write m c).2 = 2 ∨ (((d.write n b).1.write m c).2 = 0 ∧
      (((((d.write n b).1.write m c).1.sync).2 = 40 ∧ (((d.write n b).1.write m c).1.sync).1.stop = true) ∨ ((((d.write n b).1.write m c).1.sync).2 = 0 ∧
        (((d.write n b).1.write m c).1.sync).1.pen.length = 0 ∧ (((d.write n b).1.write m c).1.sync).1.ok = true ∧
        ∀ k : Nat, k < d.sec.length → (((d.write n b).1.write m c).1.read k).2 = 0 ∧ (((d.write n b).1.write m c).1.sync).1.read k = ((((d.write n b).1.write m c).1.read k).1, 0))))) := by
  obtain ⟨hr, hm⟩ := read_zero he
  obtain ⟨_, hn, hp, hX⟩ := write_zero hb hf
  have ho := (runs_ok hr).1
  obtain ⟨X, hXe⟩ : ∃ X : Dk, X = { d with pen := d.pen ++ [(n, pad b)] } := ⟨_, rfl⟩
  rw [← hXe] at hX
  have hXo : X.ok = true := by rw [hXe]; exact ok_snoc ho hn hp (pad_len hb)
  have hXr : X.runs = true := runs_of hXo (by rw [hXe]; exact (runs_ok hr).2)
  have hXm : X.has m = true := by rw [hXe]; exact hm
  have hXn : X.has n = true := by rw [hXe]; exact hn
  rw [hX, read_ok hXr hXm, read_ok hXr hXn, read_ok hr hm]
  refine ⟨rfl, ?_, fun hne => ?_, ?_⟩
  · rw [hXe, cur_snoc, if_pos rfl]
  · show X.cur m = d.cur m
    rw [hXe, cur_snoc, if_neg hne]
  rcases write_two hc hXr hXm with h0 | h2
  · refine .inr ⟨h0, ?_⟩
    obtain ⟨_, _, hp2, hY⟩ := write_zero hc h0
    obtain ⟨Y, hYe⟩ : ∃ Y : Dk, Y = { X with pen := X.pen ++ [(m, pad c)] } := ⟨_, rfl⟩
    rw [← hYe] at hY
    have hYo : Y.ok = true := by rw [hYe]; exact ok_snoc hXo hXm hp2 (pad_len hc)
    have hYr : Y.runs = true := runs_of hYo (by rw [hYe, hXe]; exact (runs_ok hr).2)
    have hYs : Y.sec = d.sec := by rw [hYe, hXe]
    rw [hY]
    rcases sync_two hYr with hs | hs
    · refine .inr ⟨hs, ?_⟩
      obtain ⟨hst, hz⟩ := sync_zero hYr hs
      have hzo := sync_ok hYo hst
      rw [hz]
      refine ⟨rfl, hzo, fun k hk => ?_⟩
      have hYk : Y.has k = true := has_iff.2 ⟨by omega, by rw [hYs]; omega⟩
      rw [read_ok hYr hYk, read_ok (runs_of hzo rfl) (has_iff.2 ⟨by omega, by show (k : Int) < ((perf Y.sec Y.pen).length : Int); rw [perf_len, hYs]; omega⟩)]
      refine ⟨rfl, ?_⟩
      obtain ⟨l1, l2, l3, l4, l5, _⟩ := ok_lens hYo
      show ((perf Y.sec Y.pen).getD (k : Int).toNat [], (0 : Int)) = (curOf k Y.pen (Y.sec.getD (k : Int).toNat []), 0)
      rw [Int.toNat_natCast, perf_get _ _ (fun x hx => (l5 x hx).1) _ (fun x hx => (l5 x hx).2.1) (by rw [hYs]; exact hk)]
    · exact .inl hs
  · exact .inl h2
theorem read_has_len {d : Dk} {n : Int} (h : (d.read n).2 = 0) : (d.read n).1.length = 128 := by
  obtain ⟨h1, h2⟩ := read_zero h
  rw [read_ok h1 h2]
  obtain ⟨i0, i1⟩ := has_iff.1 h2
  obtain ⟨k, rfl⟩ : ∃ k : Nat, n = k := ⟨n.toNat, by omega⟩
  exact cur_len (runs_ok h1).1 (by omega)
end Go.Proofs.Ytmklchjgiaomkaa
