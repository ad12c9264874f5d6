/- Same of the reference answers what Dk.same answers. -/
import Derived.Test.YtmklchjgiaomkaaVld
import Derived.Lib.SlBytesRow
import Derived.Laws.EntriesVeiled
import Derived.Deep.QuietTactic
import Derived.BigQuiet
namespace Go.Proofs.Ytmklchjgiaomkaa
open Go.RowKit

theorem size_mk (l : By) : (⟨l.toArray⟩ : ByteArray).size = l.length := by simp [ByteArray.size]
theorem toList_mk (l : By) : (⟨l.toArray⟩ : ByteArray).data.toList = l := rfl
theorem mk_inj {a b : By} (h : (⟨a.toArray⟩ : ByteArray) = ⟨b.toArray⟩) : a = b := by
  have := congrArg (fun s => s.data.toList) h
  simpa using this

theorem conv_bytes (W : World) (a : Option Addr) (bs : By) (cap : Nat) (h : bs = [] ∨ ∃ b off, a = some ⟨b, off, none⟩ ∧ BytesIn W b off bs) :
    (convert 35 9 (.slice a bs.length cap)).run Try.prog W = .ok (.string ⟨bs.toArray⟩) W := by
  rcases h with h | ⟨b, off, rfl, h⟩
  · subst h
    rw [run_convert_bytes_string W 35 9 5 a _ _ Try.underlying35 Try.underlying5 Try.underlying9]
    cases a <;> simp [Conv.bytesToString, loadCells, loadCellsFrom] <;> rfl
  · have := Lib.run_convert_whole (P := Try.prog) W 35 5 9 Try.underlying35 Try.underlying5 Try.underlying9 b off ⟨bs.toArray⟩ (fun i hi => by rw [size_mk] at hi; exact h i hi) cap
    rw [size_mk] at this
    exact this
theorem BytesAt.conv {W : World} {B : Nat} {a : Option Addr} {n cap : Nat} {bs : By} (h : BytesAt W B (.slice a n cap) bs) :
    (convert 35 9 (.slice a n cap)).run Try.prog W = .ok (.string ⟨bs.toArray⟩) W := by
  obtain ⟨a', c', e, _, _, h4⟩ := h
  cases e
  refine conv_bytes W a bs cap ?_
  rcases h4 with h4 | ⟨b, off, h4, _, h5⟩
  · exact .inl h4
  · exact .inr ⟨b, off, h4, h5⟩
theorem BytesAt.drewN {W : World} {B : Nat} {v : Value} {bs : By} (h : BytesAt W B v bs) (q : Nat) : BytesAt (W.drewN q) B v bs := by
  obtain ⟨a, c, h1, h2, h3, h4⟩ := h
  refine ⟨a, c, h1, h2, h3, ?_⟩
  rcases h4 with h4 | ⟨b, off, h4, h5, h6⟩
  · exact .inl h4
  · exact .inr ⟨b, off, h4, h5, h6⟩

theorem same_iff (d d' : Dk) : d.same d' = true ↔ d.sec.length = d'.sec.length ∧ d.pen.length = d'.pen.length ∧ d.left = d'.left ∧ d.stop = d'.stop ∧ d.sec = d'.sec ∧ d.pen = d'.pen := by
  unfold Dk.same; simp only [Bool.and_eq_true, decide_eq_true_eq]
theorem same_bad {d d' : Dk} (h : ¬ (d.sec.length = d'.sec.length ∧ d.pen.length = d'.pen.length ∧ d.left = d'.left ∧ d.stop = d'.stop ∧ d.sec = d'.sec ∧ d.pen = d'.pen)) : d.same d' = false := by
  cases he : d.same d'
  · rfl
  · exact absurd ((same_iff d d').1 he) h
theorem take_next {α : Type} {a b : List α} {m : Nat} (h : a.take m = b.take m) (ha : m < a.length) (hb : m < b.length) (he : a[m] = b[m]) : a.take (m + 1) = b.take (m + 1) := by
  rw [List.take_add_one, List.take_add_one, h, List.getElem?_eq_getElem ha, List.getElem?_eq_getElem hb, he]
theorem str_ne {a b : By} (h : ¬ a = b) : ((⟨a.toArray⟩ : ByteArray).toList == (⟨b.toArray⟩ : ByteArray).toList) = false := by
  rw [beq_eq_false_iff_ne]
  intro e
  apply h
  have ha : ∀ l : By, (⟨l.toArray⟩ : ByteArray).toList = l := fun l => by
    rw [ByteArray.toList_eq]
  rw [ha, ha] at e
  exact e

set_option maxHeartbeats 4000000 in
theorem same_any (w : World) (d d' : Dk) (v v' : Value) (h : DkAt w w.heap.size v d) (h' : DkAt w w.heap.size v' d') :
    Calls Try.prog 14 #[v, v'] w fun e w' => e = .returned (.bool (d.same d')) ∧ Below w.heap.size w w' := by
  obtain ⟨sa, cs, ap, cp, rfl, hleft, hc1, hc2, hp1, hp2, hS, hP⟩ := h.open
  obtain ⟨sa', cs', ap', cp', rfl, hleft', hc1', hc2', hp1', hp2', hS', hP'⟩ := h'.open
  have hbad := @same_bad d d'
  have hgood := same_iff d d'
  obtain ⟨r, hr⟩ : ∃ x, d.same d' = x := ⟨_, rfl⟩
  obtain ⟨left, hle⟩ : ∃ x, d.left = x := ⟨_, rfl⟩
  obtain ⟨st, hst⟩ : ∃ x, d.stop = x := ⟨_, rfl⟩
  obtain ⟨k, hk⟩ : ∃ k, d.sec.length = k := ⟨_, rfl⟩
  obtain ⟨p, hp⟩ : ∃ k, d.pen.length = k := ⟨_, rfl⟩
  obtain ⟨left', hle'⟩ : ∃ x, d'.left = x := ⟨_, rfl⟩
  obtain ⟨st', hst'⟩ : ∃ x, d'.stop = x := ⟨_, rfl⟩
  obtain ⟨k', hk'⟩ : ∃ k, d'.sec.length = k := ⟨_, rfl⟩
  obtain ⟨p', hp'⟩ : ∃ k, d'.pen.length = k := ⟨_, rfl⟩
  rw [hr, hle, hst, hk, hp, hle', hst', hk', hp'] at hbad hgood
  rw [hr, hle, hst, hk, hp, hle', hst', hk', hp']
  rw [hk] at hc1 hS
  rw [hp] at hp1 hP
  rw [hle] at hleft
  rw [hk'] at hc1' hS'
  rw [hp'] at hp1' hP'
  rw [hle'] at hleft'
  have HK := Lib.hid hk
  have HP := Lib.hid hp
  have HS := Lib.hid hS
  have HPe := Lib.hid hP
  have HK' := Lib.hid hk'
  have HP' := Lib.hid hp'
  have HS' := Lib.hid hS'
  have HPe' := Lib.hid hP'
  have HBAD := Lib.hid hbad
  have HGOOD := Lib.hid hgood
  unfold maxLen at hc2 hp2 hc2' hp2'
  unfold In64 at hleft hleft'
  clear h h' hS hP hr hle hst hk hp hbad hgood hS' hP' hle' hst' hk' hp'
  by_cases n1 : ¬ k = k'
  · have d1 : ((k : Int) != (k' : Int)) = true := by simp; omega
    have d2 : (k != k') = true := by simpa using n1
    have hrf := HBAD.out (fun h => n1 h.1)
    subst hrf
    go_enter Try.func14, Try.ntmps14
    go_wp2
    go_ret
    exact ⟨rfl, by go_grown⟩
  obtain rfl := Decidable.of_not_not n1
  clear n1
  by_cases n2 : ¬ p = p'
  · have d1 : ((p : Int) != (p' : Int)) = true := by simp; omega
    have d2 : (p != p') = true := by simpa using n2
    have hrf := HBAD.out (fun h => n2 h.2.1)
    subst hrf
    go_enter Try.func14, Try.ntmps14
    go_wp2
    go_ret
    exact ⟨rfl, by go_grown⟩
  obtain rfl := Decidable.of_not_not n2
  clear n2
  by_cases n3 : ¬ left = left'
  · have d1 : (left != left') = true := by simpa using n3
    have hrf := HBAD.out (fun h => n3 h.2.2.1)
    subst hrf
    go_enter Try.func14, Try.ntmps14
    go_wp2
    go_ret
    exact ⟨rfl, by go_grown⟩
  obtain rfl := Decidable.of_not_not n3
  clear n3
  by_cases n4 : ¬ st = st'
  · have hrf := HBAD.out (fun h => n4 h.2.2.2.1)
    subst hrf
    cases st <;> cases st' <;> first | exact absurd rfl n4 | skip
    all_goals
      go_enter Try.func14, Try.ntmps14
      go_wp2
      go_ret
      exact ⟨rfl, by go_grown⟩
  obtain rfl := Decidable.of_not_not n4
  clear n4
  have s4 : (st != st) = false := by simp
  go_enter Try.func14, Try.ntmps14
  go_wp2
  obtain ⟨w0, hw0⟩ : ∃ w0, w0 = ((w.alloc (Obj.cells #[Value.slice sa k cs, Value.slice ap p cp, Value.int IntKind.i64 left, Value.bool st] 25)).alloc (Obj.cells #[Value.slice sa' k cs', Value.slice ap' p cp', Value.int IntKind.i64 left, Value.bool st] 25)) := ⟨_, rfl⟩
  rw [← hw0]
  have hB0 : Below w.heap.size w w0 := by rw [hw0]; go_grown
  have hz0 : w0.heap.size = w.heap.size + 2 := by rw [hw0]; simp
  have hX0 : Cells4 w0 w.heap.size (.slice sa k cs) (.slice ap p cp) (.int .i64 left) (.bool st) := by
    rw [hw0]; exact (Cells4.new w (Value.slice sa k cs) (Value.slice ap p cp) (Value.int IntKind.i64 left) (Value.bool st) 25).next (by go_grown)
  have hY0 : Cells4 w0 (w.heap.size + 1) (.slice sa' k cs') (.slice ap' p cp') (.int .i64 left) (.bool st) := by
    rw [hw0]
    have := Cells4.new (w.alloc (Obj.cells #[Value.slice sa k cs, Value.slice ap p cp, Value.int IntKind.i64 left, Value.bool st] 25)) (Value.slice sa' k cs') (Value.slice ap' p cp') (Value.int IntKind.i64 left) (Value.bool st) 25
    simpa using this
  have HX0 := Lib.hid hX0
  have HY0 := Lib.hid hY0
  have HB0 := Lib.hid hB0
  have HZ0 := Lib.hid hz0
  clear hw0 hX0 hY0 hz0 hB0
  go_loopw [5] (fun i wr => ∃ m : Nat, i = .int .i64 m ∧ m ≤ k ∧ d.sec.take m = d'.sec.take m ∧ Below w0.heap.size w0 wr) (fun i _ => k - (intOf i).toNat)
  case atStart => exact ⟨0, rfl, Nat.zero_le _, by simp, Below.refl _ _⟩
  case round =>
    obtain ⟨m, rfl, hmk, hok, hBr⟩ := hrel
    have hzr := hBr.size
    have hbw := HB0.out.trans (hBr.mono (by rw [HZ0.out]; omega))
    have HOK := Lib.hid hok
    have HBR := Lib.hid hBr
    have HBW := Lib.hid hbw
    have HXr := Lib.hid (HX0.out.below hBr (by rw [HZ0.out]; omega))
    have HYr := Lib.hid (HY0.out.below hBr (by rw [HZ0.out]; omega))
    obtain ⟨f0, f1, f2, f3⟩ := HXr.out
    obtain ⟨y0, y1, y2, y3⟩ := HYr.out
    clear hok hBr hbw
    by_cases hlt : m < k
    · obtain ⟨b, off, rfl, hb, hin⟩ := sec_get HS.out (by rw [HK.out]; omega)
      obtain ⟨b', off', rfl, hb', hin'⟩ := sec_get HS'.out (by rw [HK'.out]; omega)
      obtain ⟨a, c, g1, g2, g3, g4⟩ := (hin.below HBW.out hb).got m (by rw [HK.out]; exact hlt)
      obtain ⟨a', c', g1', g2', g3', g4'⟩ := (hin'.below HBW.out hb').got m (by rw [HK'.out]; exact hlt)
      have cv := fun q => (g4.drewN q).conv
      have cv' := fun q => (g4'.drewN q).conv
      have hnext := @take_next _ d.sec d'.sec m HOK.out (by rw [HK.out]; exact hlt) (by rw [HK'.out]; exact hlt)
      have hne := fun e => @str_ne (d.sec[m]'(by rw [HK.out]; exact hlt)) (d'.sec[m]'(by rw [HK'.out]; exact hlt)) e
      have hbd : ¬ (d.sec[m]'(by rw [HK.out]; exact hlt)) = (d'.sec[m]'(by rw [HK'.out]; exact hlt)) → ¬ d.sec = d'.sec := fun h e => h (by simp only [e])
      obtain ⟨x, hx⟩ : ∃ x, (d.sec[m]'(by rw [HK.out]; exact hlt)) = x := ⟨_, rfl⟩
      obtain ⟨x', hx'⟩ : ∃ x, (d'.sec[m]'(by rw [HK'.out]; exact hlt)) = x := ⟨_, rfl⟩
      rw [hx] at g1 g2 cv hnext hne hbd
      rw [hx'] at g1' g2' cv' hnext hne hbd
      obtain ⟨n, hn⟩ : ∃ n, x.length = n := ⟨_, rfl⟩
      obtain ⟨n', hn'⟩ : ∃ n, x'.length = n := ⟨_, rfl⟩
      rw [hn] at g1 g2 cv
      rw [hn'] at g1' g2' cv'
      have HNX := Lib.hid hnext
      have HNE := Lib.hid hne
      have HBD := Lib.hid hbd
      unfold maxLen at g3 g3'
      clear hx hx' hn hn' hnext hne hbd hin hin' g4 g4'
      by_cases he : ¬ x = x'
      · have hs := HNE.out he
        have hrf := HBAD.out (fun h => HBD.out he h.2.2.2.2.1)
        subst hrf
        obtain ⟨s, hss⟩ : ∃ s, (⟨x.toArray⟩ : ByteArray) = s := ⟨_, rfl⟩
        obtain ⟨s', hss'⟩ : ∃ s, (⟨x'.toArray⟩ : ByteArray) = s := ⟨_, rfl⟩
        rw [hss, hss'] at hs
        rw [hss] at cv
        rw [hss'] at cv'
        clear hss hss' HNX he
        go_wp2
        go_quiet (fail)
        go_wp2
        go_ret
        exact ⟨rfl, below_drewN HBW.out _⟩
      · obtain rfl := Decidable.of_not_not he
        obtain ⟨s, hss⟩ : ∃ s, (⟨x.toArray⟩ : ByteArray) = s := ⟨_, rfl⟩
        rw [hss] at cv cv'
        have hs : (s.toList == s.toList) = true := by simp
        clear hss he
        go_wp2
        go_quiet (fail)
        go_wp2
        go_roundw
        case rel => exact ⟨m + 1, by go_num, by omega, HNX.out trivial, below_drewN HBR.out _⟩
        case measure => simp [intOf]; omega
    · have hsec : d.sec = d'.sec := by
        have h1 := HOK.out
        rwa [List.take_of_length_le (by rw [HK.out]; omega), List.take_of_length_le (by rw [HK'.out]; omega)] at h1
      have HSEC := Lib.hid hsec
      clear hsec HOK
      have dl : decide ((m : Int) < (k : Int)) = false := by simpa using hlt
      go_wp2
      obtain ⟨w1, rfl⟩ : ∃ w1, w1 = wr := ⟨_, rfl⟩
      clear f0 f1 f2 f3 y0 y1 y2 y3
      go_loopw [6] (fun i wr => ∃ m : Nat, i = .int .i64 m ∧ m ≤ p ∧ d.pen.take m = d'.pen.take m ∧ Below w1.heap.size w1 wr) (fun i _ => p - (intOf i).toNat)
      case atStart => exact ⟨0, rfl, Nat.zero_le _, by simp, Below.refl _ _⟩
      case round =>
        obtain ⟨m, rfl, hmk, hok, hBr⟩ := hrel
        have hbw := HBW.out.trans (hBr.mono HBW.out.size)
        have HOK := Lib.hid hok
        have HX2 := Lib.hid (HXr.out.below hBr (by have := HBR.out.size; rw [HZ0.out] at this; omega))
        have HY2 := Lib.hid (HYr.out.below hBr (by have := HBR.out.size; rw [HZ0.out] at this; omega))
        have HBR2 := Lib.hid hBr
        have HBW2 := Lib.hid hbw
        obtain ⟨f0, f1, f2, f3⟩ := HX2.out
        obtain ⟨y0, y1, y2, y3⟩ := HY2.out
        clear hok hBr hbw
        by_cases hlt : m < p
        · obtain ⟨b, off, rfl, hb, hin⟩ := pen_get HPe.out (by rw [HP.out]; omega)
          obtain ⟨b', off', rfl, hb', hin'⟩ := pen_get HPe'.out (by rw [HP'.out]; omega)
          obtain ⟨hx64, gi, a, c, g1, g2, g3, g4⟩ := (hin.below HBW2.out hb).got m (by rw [HP.out]; exact hlt)
          obtain ⟨hx64', gi', a', c', g1', g2', g3', g4'⟩ := (hin'.below HBW2.out hb').got m (by rw [HP'.out]; exact hlt)
          have cv := fun q => (g4.drewN q).conv
          have cv' := fun q => (g4'.drewN q).conv
          have hnext := @take_next _ d.pen d'.pen m HOK.out (by rw [HP.out]; exact hlt) (by rw [HP'.out]; exact hlt)
          have hne := fun e => @str_ne (d.pen[m]'(by rw [HP.out]; exact hlt)).2 (d'.pen[m]'(by rw [HP'.out]; exact hlt)).2 e
          have hbd : ¬ (d.pen[m]'(by rw [HP.out]; exact hlt)) = (d'.pen[m]'(by rw [HP'.out]; exact hlt)) → ¬ d.pen = d'.pen := fun h e => h (by simp only [e])
          obtain ⟨⟨i, x⟩, hx⟩ : ∃ x, (d.pen[m]'(by rw [HP.out]; exact hlt)) = x := ⟨_, rfl⟩
          obtain ⟨⟨i', x'⟩, hx'⟩ : ∃ x, (d'.pen[m]'(by rw [HP'.out]; exact hlt)) = x := ⟨_, rfl⟩
          rw [hx] at g1 g2 cv hnext hne hbd hx64 gi
          rw [hx'] at g1' g2' cv' hnext hne hbd hx64' gi'
          simp only at g1 g2 cv hne hx64 gi g1' g2' cv' hx64' gi'
          obtain ⟨n, hn⟩ : ∃ n, x.length = n := ⟨_, rfl⟩
          obtain ⟨n', hn'⟩ : ∃ n, x'.length = n := ⟨_, rfl⟩
          rw [hn] at g1 g2 cv
          rw [hn'] at g1' g2' cv'
          have HNX := Lib.hid hnext
          have HNE := Lib.hid hne
          have HBD := Lib.hid hbd
          unfold maxLen at g3 g3'
          unfold In64 at hx64 hx64'
          clear hx hx' hn hn' hnext hne hbd hin hin' g4 g4'
          by_cases hi : ¬ i = i'
          · have hi2 : (i != i') = true := by simpa using hi
            have hrf := HBAD.out (fun h => HBD.out (fun e => hi (by cases e; rfl)) h.2.2.2.2.2)
            subst hrf
            go_wp2
            go_quiet (fail)
            go_wp2
            go_ret
            exact ⟨rfl, below_drewN HBW2.out _⟩
          obtain rfl := Decidable.of_not_not hi
          have hi2 : (i != i) = false := by simp
          clear hi
          by_cases he : ¬ x = x'
          · have hs := HNE.out he
            have hrf := HBAD.out (fun h => HBD.out (fun e => he (by cases e; rfl)) h.2.2.2.2.2)
            subst hrf
            obtain ⟨s, hss⟩ : ∃ s, (⟨x.toArray⟩ : ByteArray) = s := ⟨_, rfl⟩
            obtain ⟨s', hss'⟩ : ∃ s, (⟨x'.toArray⟩ : ByteArray) = s := ⟨_, rfl⟩
            rw [hss, hss'] at hs
            rw [hss] at cv
            rw [hss'] at cv'
            clear hss hss' HNX he
            go_wp2
            go_quiet (fail)
            go_wp2
            go_ret
            exact ⟨rfl, below_drewN HBW2.out _⟩
          · obtain rfl := Decidable.of_not_not he
            obtain ⟨s, hss⟩ : ∃ s, (⟨x.toArray⟩ : ByteArray) = s := ⟨_, rfl⟩
            rw [hss] at cv cv'
            have hs : (s.toList == s.toList) = true := by simp
            clear hss he
            go_wp2
            go_quiet (fail)
            go_wp2
            go_roundw
            case rel => exact ⟨m + 1, by go_num, by omega, HNX.out trivial, below_drewN HBR2.out _⟩
            case measure => simp [intOf]; omega
        · have dl : decide ((m : Int) < (p : Int)) = false := by simpa using hlt
          have hpen : d.pen = d'.pen := by
            have h1 := HOK.out
            rwa [List.take_of_length_le (by rw [HP.out]; omega), List.take_of_length_le (by rw [HP'.out]; omega)] at h1
          have hrf := HGOOD.out.2 (by refine ⟨?_, ?_, ?_, ?_, HSEC.out, hpen⟩ <;> trivial)
          subst hrf
          clear hpen
          go_wp2
          go_ret
          exact ⟨rfl, HBW2.out⟩
end Go.Proofs.Ytmklchjgiaomkaa
