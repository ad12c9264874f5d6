/- scanWhole: the tokens of a source. -/
import Derived.Test.YtdcdldjbdjochaaDoorScn
import Derived.StillTailTactics
import Derived.Handy
import Derived.OpenShut
namespace Go.Proofs.YtdcdldjbdjochaaDoor
open Go.RowKit

theorem cls_le (c : Nat) : cls c ≤ 6 := by unfold cls; (repeat' split) <;> omega
theorem cls_fig {c : Nat} (h : cls c = 3) : 48 ≤ c ∧ c ≤ 57 := by
  unfold cls at h
  (repeat' split at h) <;> first | assumption | (exfalso; omega)
theorem cls_slash {c : Nat} (h : cls c = 6) : c = 47 := by
  unfold cls at h
  (repeat' split at h) <;> first | assumption | (exfalso; omega)
theorem take_nlen (p : Nat → Bool) : ∀ (l : List UInt8), ∀ x ∈ l.take (nlen p l), p x.toNat = true
  | [], x, h => by simp at h
  | b :: r, x, h => by
    rw [nlen] at h
    by_cases hb : p b.toNat = true
    · rw [if_pos hb, List.take_succ_cons] at h
      rcases List.mem_cons.1 h with rfl | h
      · exact hb
      · exact take_nlen p r x h
    · rw [if_neg hb] at h; simp at h

theorem len_any (b : UInt8) (r : List UInt8) (K LF : Nat) (hK : cls b.toNat = K) (hL : (K = 2 ∧ LF = 38) ∨ (K = 3 ∧ LF = 51) ∨ (K = 6 ∧ LF = 54) ∨ (K ≠ 2 ∧ K ≠ 3 ∧ K ≠ 6 ∧ LF = 47)) (hl : (b :: r).length ≤ 1000000) (W : World) (hT : Tab W) :
    Calls Tryd.prog LF #[.string (str (b :: r))] W fun e w' => e = .returned (.int .i64 (stepL b r : Nat)) ∧ w' = W := by
  rcases hL with ⟨h1, rfl⟩ | ⟨h1, rfl⟩ | ⟨h1, rfl⟩ | ⟨h1, h2, h3, rfl⟩
  · have e : stepL b r = nlen isPart (b :: r) := by unfold stepL; rw [if_pos (hK.trans h1)]
    rw [e]; exact nameLength_any W _ hT (by omega)
  · have e : stepL b r = nlen isFig (b :: r) := by unfold stepL; rw [if_neg (by omega), if_pos (hK.trans h1)]
    rw [e]; exact numberLength_any W _ hT (by omega)
  · have hb : b = 47 := UInt8.toNat_inj.1 (cls_slash (hK.trans h1))
    have e : stepL b r = if Lib.hasPrefix (b :: r) [47, 47] then nlen notLF (b :: r) else 1 := by
      unfold stepL
      rw [if_neg (by omega), if_neg (by omega), hasPrefix_ss, hb]
      by_cases hr : r.head? = some 47
      · rw [if_pos ⟨by decide, hr⟩, hr]; rfl
      · rw [if_neg (fun h => hr h.2), if_neg (by simpa using hr)]
    rw [e]; exact slashLength_any W _ (by omega)
  · have e : stepL b r = 1 := by unfold stepL; rw [if_neg (by omega), if_neg (by omega), if_neg (by omega)]
    rw [e]; exact oneByte_any W _

theorem add_any (b : UInt8) (r : List UInt8) (K AF : Nat) (hK : cls b.toNat = K) (hA : (K = 0 ∧ AF = 48) ∨ (K = 1 ∧ AF = 49) ∨ (K = 2 ∧ AF = 50) ∨ (K = 3 ∧ AF = 52) ∨ (K = 4 ∧ AF = 48) ∨ (K = 5 ∧ AF = 53) ∨ (K = 6 ∧ AF = 55)) (hl : (b :: r).length ≤ 1000000)
    (W : World) (hT : Tab W) (sb B : Nat) (bs : List UInt8) (k : Nat) (v : Value) (l : List Tok) (h : Src W sb B bs k v l) (hll : l.length ≤ 1000000) :
    Calls Tryd.prog AF #[.pointer (some ⟨sb, 0, none⟩), .string (str ((b :: r).take (stepL b r)))] W (AddPost W sb B bs k l (stepA b r)) := by
  have hle := stepL_le b r
  have htl : ((b :: r).take (stepL b r)).length ≤ 1000000000 := by rw [List.length_take]; omega
  rcases hA with ⟨h1, rfl⟩ | ⟨h1, rfl⟩ | ⟨h1, rfl⟩ | ⟨h1, rfl⟩ | ⟨h1, rfl⟩ | ⟨h1, rfl⟩ | ⟨h1, rfl⟩ <;> rw [h1] at hK
  · have e : stepA b r = .no := by unfold stepA; rw [hK]; rfl
    rw [e]; exact refuse_any W sb B bs k v l _ h
  · have e : stepA b r = .pass := by unfold stepA; rw [hK]; rfl
    rw [e]; exact pass_any W sb B bs k v l _ h
  · have e : stepA b r = if nameOk ((b :: r).take (stepL b r)) then .tok 1 ((b :: r).take (stepL b r)) 0 else .no := by unfold stepA; rw [hK]; rfl
    rw [e]; exact addName_any W sb B bs k v l _ h hll hT htl
  · have e : stepA b r = if numOk ((b :: r).take (stepL b r)) then .tok 2 [] (val10 0 ((b :: r).take (stepL b r))) else .no := by unfold stepA; rw [hK]; rfl
    have eL : stepL b r = nlen isFig (b :: r) := by unfold stepL; rw [hK]; rfl
    have hp := stepL_pos b r
    obtain ⟨n, hn⟩ : ∃ n, stepL b r = n + 1 := ⟨stepL b r - 1, by omega⟩
    rw [e]
    refine addNumber_any W sb B bs k v l _ h hll hT htl b (r.take n) (by rw [hn, List.take_succ_cons]) fun x hx => ?_
    rw [eL] at hx
    have := take_nlen isFig _ x hx
    exact cls_fig (by simpa [isFig] using this)
  · have e : stepA b r = .no := by unfold stepA; rw [hK]; rfl
    rw [e]; exact refuse_any W sb B bs k v l _ h
  · have e : stepA b r = .tok 3 [b] 0 := by unfold stepA; rw [hK]; rfl
    have eL : stepL b r = 1 := by unfold stepL; rw [hK]; rfl
    rw [e, eL]; exact addSign_any W sb B bs k v l [b] h hll
  · have e : stepA b r = if r.head? = some 47 then .pass else .tok 3 [b] 0 := by unfold stepA; rw [hK]; rfl
    have hs := addSlash_any W sb B bs k v l ((b :: r).take (stepL b r)) h hll
    by_cases hr : r.head? = some 47
    · have eL : stepL b r = nlen notLF (b :: r) := by unfold stepL; rw [hK]; simp [hr]
      obtain ⟨q, hq⟩ : ∃ q, r = 47 :: q := by
        cases r with
        | nil => simp at hr
        | cons x q => simp at hr; subst hr; exact ⟨q, rfl⟩
      have h2 : ((b :: r).take (stepL b r)).length ≠ 1 := by
        rw [List.length_take, eL, hq, nlen, nlen]
        have hb : b = 47 := UInt8.toNat_inj.1 (cls_slash hK)
        rw [hb, if_pos (by decide), if_pos (by decide)]
        simp only [List.length_cons]
        omega
      rw [if_neg h2] at hs
      rw [e, if_pos hr]; exact hs
    · have eL : stepL b r = 1 := by unfold stepL; rw [hK]; simp [hr]
      rw [eL] at hs ⊢
      rw [e, if_neg hr]
      simpa using hs

/-- What scanWhole ends in. -/
def WholePost (w : World) (o : Res) (e : Ending) (w' : World) : Prop := match o with
  | .bad p => e = Pan p ∧ Below w.heap.size w w'
  | .ok l => ∃ v B, e = .returned v ∧ w.heap.size ≤ B ∧ w'.ownsRow B 35 4 v l.length (tcells l) ∧ Below w.heap.size w w'

def placeOf (w : World) (sb : Nat) : Nat := match w.cell? ⟨sb, 1, none⟩ with
  | some (.int _ k) => k.toNat
  | _ => 0
theorem Src.place {w : World} {sb B : Nat} {bs : List UInt8} {k : Nat} {v : Value} {l : List Tok} (h : Src w sb B bs k v l) : placeOf w sb = k := by unfold placeOf; rw [h.c1]; simp

theorem Kep.set (w : World) (sb B : Nat) (v : Value) : Kep w (w.setCell ⟨sb, 1, none⟩ v) sb B := ⟨rfl, rfl, rfl, by simp, fun b _ hne => Below.heap_setCell _ _ _ _ hne⟩
/-- What holds at the head of a round. -/
def SRel (w1 : World) (sb B : Nat) (bs : List UInt8) (wr : World) : Prop := ∃ k v l, k ≤ bs.length ∧ Src wr sb B bs k v l ∧ Kep w1 wr sb B ∧ l.length ≤ k ∧ lexAll bs = Res.app l (lexGo bs.length k (bs.drop k))
theorem Arr.kep {w w' : World} {sb B b : Nat} {cs : List Value} (h : Arr w b cs) (hk : Kep w w' sb B) (hb : b < B) (hne : b ≠ sb) : Arr w' b cs :=
  have hc : ∀ i, w'.cell? ⟨b, i, none⟩ = w.cell? ⟨b, i, none⟩ := fun i => World.cell?_of_block (a := ⟨b, i, none⟩) (hk.block b hb hne)
  have hf : ∀ i, w'.frozen? ⟨b, i, none⟩ = w.frozen? ⟨b, i, none⟩ := fun i => World.frozen?_of_block (a := ⟨b, i, none⟩) (hk.block b hb hne)
  ⟨fun j v hv => (hc _).trans (h.at_ j v hv), fun j hj => ⟨by rw [hc]; exact (h.there j hj).1, by rw [hf]; exact (h.there j hj).2⟩⟩
theorem Tab.kep {w w' : World} {sb B : Nat} (h : Tab w) (hk : Kep w w' sb B) (hs : 5 < sb) (hB : sb ≤ B) : Tab w' := by
  have hb : Below sb w w' := hk.below hB
  obtain ⟨te, pe, he⟩ := h.e
  refine ⟨fun i hi => (hb.cell (p := ⟨0, i, none⟩) (by show 0 < _; omega)).trans (h.c i hi), ⟨te, pe, (hb.cell (p := ⟨4, 0, none⟩) (by show 4 < _; omega)).trans he⟩, ?_, Nat.lt_of_lt_of_le h.lt hk.size⟩
  have hg : Tryd.prog.globalNamed "internal/strconv.uint64pow10" = some 2 := by kernel_rfl
  have hp := h.p
  unfold Lib.TabIs World.var? at hp ⊢
  rw [hg] at hp ⊢
  simp only [Option.bind_some] at hp ⊢
  rw [hb.block 2 (by omega)]
  exact hp

theorem Tryd.info59 : (Tryd.prog.info? 59).map (·.size) = some 2 := by kernel_rfl

set_option maxRecDepth 100000 in
set_option maxHeartbeats 8000000 in
theorem scanWhole_any (w : World) (bs : List UInt8) (hT : Tab w) (hl : bs.length ≤ 1000000) : Calls Tryd.prog 24 #[.string (str bs)] w (WholePost w (lexAll bs)) := by
  have hsz := str_size bs
  have hT5 := hT.lt
  obtain ⟨res, hres⟩ : ∃ res, lexAll bs = res := ⟨_, rfl⟩
  rw [hres]
  have HRES := Lib.hid hres
  have HT := Lib.hid hT
  obtain ⟨s, hs⟩ : ∃ s, str bs = s := ⟨_, rfl⟩
  rw [hs] at hsz ⊢
  have HS := Lib.hid hs
  obtain ⟨N, hN⟩ : ∃ N, bs.length = N := ⟨_, rfl⟩
  rw [hN] at hsz hl
  have HN := Lib.hid hN
  have HSC := Lib.hid (scanners_any w)
  clear hT hs hN hres
  go_enter Tryd.func24, Tryd.ntmps24
  go_wp2_with fail
  refine HSC.out.mono ?_
  rintro e w0 ⟨rfl, hb0⟩
  have hs0 := hb0.size
  have HB0 := Lib.hid hb0
  clear hb0 HSC
  have hA0 : ∀ o, Arr ((w0.alloc o).alloc (Obj.cells #[.nilFunc, .nilFunc, .nilFunc, .nilFunc, .nilFunc, .nilFunc, .nilFunc, .nilFunc, .nilFunc, .nilFunc, .nilFunc, .nilFunc, .nilFunc, .nilFunc] 60)) (w0.heap.size + 1) [.nilFunc, .nilFunc, .nilFunc, .nilFunc, .nilFunc, .nilFunc, .nilFunc, .nilFunc, .nilFunc, .nilFunc, .nilFunc, .nilFunc, .nilFunc, .nilFunc] := fun o => by
    have := Arr.new (w0.alloc o) #[.nilFunc, .nilFunc, .nilFunc, .nilFunc, .nilFunc, .nilFunc, .nilFunc, .nilFunc, .nilFunc, .nilFunc, .nilFunc, .nilFunc, .nilFunc, .nilFunc] 60
    rwa [World.size_alloc] at this
  have HA0 := Lib.hid hA0
  clear hA0
  go_wp2_with (refine store_new rfl 60 _ _ (by rfl) (w0.heap.size + 1) (w0.heap.size + 1) scs _ (by rfl) (by rfl) (w0 := w0.alloc (Obj.cells #[.string s, .int .i64 0, .slice none 0 0] 56)) (by go_grown) (by omega) (HA0.out _) (by rfl) Tryd.info60 scs_one ?_; intro W3 hB3 hA3 hz3)
  obtain ⟨sb, hsb⟩ : ∃ sb, w0.heap.size = sb := ⟨_, rfl⟩
  have hsz3 : sb + 2 ≤ W3.heap.size := by simp at hz3; omega
  have hb03 : Below sb w0 W3 := by
    rw [← hsb]
    exact Below.trans (b := w0.alloc (Obj.cells #[.string s, .int .i64 0, .slice none 0 0] 56)) (by go_grown) (hB3.mono (by omega))
  have hc3 : ∀ i u, (w0.alloc (Obj.cells #[.string s, .int .i64 0, .slice none 0 0] 56)).cell? ⟨sb, i, none⟩ = some u → W3.cell? ⟨sb, i, none⟩ = some u := fun i u hu => (hB3.cell (p := ⟨sb, i, none⟩) (by show sb < _; omega)).trans hu
  have hf3 : ∀ i, W3.frozen? ⟨sb, i, none⟩ = false := fun i => by
    rw [hB3.frozen (p := ⟨sb, i, none⟩) (by show sb < _; omega), ← hsb, World.frozen?_alloc_new]
  have hsrc : Src W3 sb (sb + 2) bs 0 (.slice none 0 0) [] := ⟨hc3 0 _ (by rw [HS.out, ← hsb]; go_cell), hc3 1 _ (by rw [← hsb]; go_cell), hc3 2 _ (by rw [← hsb]; go_cell), hf3 1, hf3 2, World.ownsRow_nil _ _ _ _, by omega, by omega⟩
  have hT3 : Tab W3 := HT.out.below (HB0.out.trans (hb03.mono (by omega)))
  have HB3 := Lib.hid hb03
  have HSRC := Lib.hid hsrc
  have HA3 := Lib.hid (hsb ▸ hA3)
  have HT3 := Lib.hid hT3
  rw [hsb]
  clear hB3 hA3 hz3 hb03 hc3 hf3 hsrc hT3 HA0 HT
  go_wp2_with fail
  simp only [Act.put]
  go_loopw [5, 6, 7] (fun _ _ _ wr => SRel W3 sb (sb + 2) bs wr) (fun _ _ _ wr => N - placeOf wr sb)
  case atStart => exact ⟨0, _, [], Nat.zero_le _, HSRC.out, Kep.refl _ _ _, Nat.le_refl _, by rw [Res.app_nil]; rfl⟩
  case round =>
    obtain ⟨k, v, l, hk, hsr, hkp, hlk, hlx⟩ := hrel
    rw [HN.out] at hk
    have hTr : Tab wr := HT3.out.kep hkp (by omega) (by omega)
    have har : Arr wr (sb + 1) scs := HA3.out.kep hkp (by omega) (by omega)
    by_cases hkN : k < N
    · obtain ⟨b, r, hbr⟩ : ∃ b r, bs.drop k = b :: r := ⟨_, _, List.drop_eq_getElem_cons (by rw [HN.out]; exact hkN)⟩
      have hlen : (b :: r).length = N - k := by rw [← hbr, List.length_drop, HN.out]
      have d : decide ((k : Int) < (N : Int)) = true := by simp; omega
      have c1 := hsr.c1
      have f1 := hsr.f1
      have hlt := hsr.lt
      -- the rest
      have hex : s.extract k N = str (b :: r) := by rw [← HS.out, str_extract, hbr, List.take_of_length_le (by omega)]
      have hix := fun W => run_str (b :: r) 0 (by simp) W
      rw [List.getElem_cons_zero] at hix
      have hlp := stepL_pos b r
      have hll := stepL_le b r
      rw [hlen] at hll
      have hex3 : (str (b :: r)).extract 0 (stepL b r) = str ((b :: r).take (stepL b r)) := by rw [str_extract]; simp
      have hs2 : (str (b :: r)).size = N - k := by rw [str_size, hlen]
      have hcls := fun W hW => classOf_any W b.toNat hW b.toNat_lt
      have hLEN := fun K LF hK hL W hW => len_any b r K LF hK hL (by omega) W hW
      have hADD := fun K AF hK hA W hW v l h => add_any b r K AF hK hA (by omega) W hW sb (sb + 2) bs k v l h
      have hlxn : lexAll bs = Res.app l (match stepA b r with
          | .no => .bad k
          | .pass => lexGo bs.length (k + stepL b r) (bs.drop (k + stepL b r))
          | .tok c t n => (lexGo bs.length (k + stepL b r) (bs.drop (k + stepL b r))).cons ⟨c, t, n, k⟩) := by
        rw [hlx, hbr, lexGo_cons _ _ _ _ (by rw [hlen, HN.out]; omega), ← List.drop_drop, hbr]
        cases stepA b r <;> rfl
      obtain ⟨L, hL⟩ : ∃ L, stepL b r = L := ⟨_, rfl⟩
      obtain ⟨A, hA⟩ : ∃ A, stepA b r = A := ⟨_, rfl⟩
      obtain ⟨K, hK⟩ : ∃ K, cls b.toNat = K := ⟨_, rfl⟩
      rw [hK] at hcls
      rw [hL] at hlp hll hex3
      simp only [hL, hA] at hlxn
      simp only [hL] at hLEN
      simp only [hL, hA] at hADD
      have hK6 : K ≤ 6 := by rw [← hK]; exact cls_le _
      obtain ⟨s3, hs3⟩ : ∃ s3, str ((b :: r).take L) = s3 := ⟨_, rfl⟩
      rw [hs3] at hex3
      simp only [hs3] at hADD
      obtain ⟨s2, hs2'⟩ : ∃ s2, str (b :: r) = s2 := ⟨_, rfl⟩
      rw [hs2'] at hex hex3 hs2
      simp only [hs2'] at hix hLEN
      obtain ⟨c, hc⟩ : ∃ c, b.toNat = c := ⟨_, rfl⟩
      simp only [hc] at hix hcls
      have HCLS := Lib.hid hcls
      have HLEN := Lib.hid hLEN
      have HADD := Lib.hid hADD
      have HLXN := Lib.hid hlxn
      have HSR := Lib.hid hsr
      have HKP := Lib.hid hkp
      have HTR := Lib.hid hTr
      have HAR := Lib.hid har
      have HLK := Lib.hid hlk
      have HKK := Lib.hid hK
      have hix' : ∀ W, (Instr.index 9 (.string s2) (.int .i64 0)).run Tryd.prog W = .ok (.int .u8 c) W := hix
      clear hcls hLEN hADD hlxn hsr hkp hTr har hlk hK hix hlx hbr hlen hL hA hs3 hs2' hc
      match K, hK6, HKK with
      | 0, _, HKK =>
        have a0 : wr.cell? ⟨sb + 1, 0, none⟩ = some (.func (.func 47) #[] #[]) := HAR.out.cell rfl
        have a1 : wr.cell? ⟨sb + 1, 1, none⟩ = some (.func (.func 48) #[] #[]) := HAR.out.cell rfl
        go_wp2_with fail
        refine (HCLS.out _ HTR.out).mono ?_
        rintro e w5 ⟨rfl, rfl⟩
        go_wp2_with (refine store_new rfl 59 _ _ (by rfl) w5.heap.size w5.heap.size [fn 47, fn 48] _ (by rfl) (by rfl) ((Below.refl w5.heap.size w5).alloc (Nat.le_refl _) _) (Nat.le_refl _) (Arr.new w5 _ 59) (by rfl) Tryd.info59 (by decide) ?_; intro W6 hB6 hA6 hz6; simp only [Act.put]; have m0 : W6.cell? ⟨w5.heap.size, 0, none⟩ = some (.func (.func 47) #[] #[]) := hA6.cell rfl; have m1 : W6.cell? ⟨w5.heap.size, 1, none⟩ = some (.func (.func 48) #[] #[]) := hA6.cell rfl; have HB6 := Lib.hid hB6; clear hB6 hA6 hz6)
        have HT6 := Lib.hid (HTR.out.below HB6.out)
        refine (HLEN.out 0 47 HKK.out (by omega) W6 HT6.out).mono ?_
        rintro e w7 ⟨rfl, rfl⟩
        go_wp2_with fail
        go_still_tail 5, (by kernel_rfl)
        change wpList _ _ _ _ _ w7.drew
        obtain ⟨w8, hw8⟩ : ∃ w8, w8 = w7.drew := ⟨_, rfl⟩
        rw [← hw8]
        have hb8 : Below w5.heap.size w5 w8 := by rw [hw8]; exact HB6.out.drew
        have hsr8 := HSR.out.below hb8
        have HADDC := Lib.hid (HADD.out 0 48 HKK.out (by omega) w8 (HTR.out.below hb8) v l hsr8 (by have := HLK.out; omega))
        have HB8 := Lib.hid hb8
        clear hb8 hsr8 hw8 m0 m1 a0 a1 c1 f1
        go_wp2_with fail
        refine HADDC.out.mono ?_
        rintro e w9 hpost
        have hsz5 := HSR.out.bl
        have hkc : ∀ W, Kep w8 W sb (sb + 2) → Kep W3 W sb (sb + 2) := fun W hW => HKP.out.trans ((Kep.of_below HB8.out hsz5).trans hW)
        have hbf : ∀ W, Kep W3 W sb (sb + 2) → Below w.heap.size w W := fun W hW => HB0.out.trans ((HB3.out.trans (hW.below (by omega))).mono (by omega))
        have HKC := Lib.hid hkc
        have HBF := Lib.hid hbf
        have HPL := Lib.hid HSR.out.place
        clear hkc hbf hsz5 HADDC
        cases A with
        | no =>
          obtain ⟨he, hkk⟩ := hpost
          have he : e = .panicked [{ v := .iface 42 (.int .i64 k), recovered := false }] := he
          subst he
          have hr : res = .bad k := by rw [← HRES.out, HLXN.out]; rfl
          subst hr
          have HF := Lib.hid (HBF.out _ (HKC.out _ hkk))
          clear hkk
          go_wp2
          simp [bodyPost, WholePost, Pan]
          exact HF.out
        | pass =>
          obtain ⟨he, ⟨v', hs'⟩, hkk⟩ := hpost
          have he : e = .returned (.tuple #[]) := he
          subst he
          have HS9 := Lib.hid hs'
          have HK9 := Lib.hid (HKC.out _ hkk)
          have g1 := hs'.c1
          have g2 := hs'.f1
          have wk : IntKind.i64.wrap ((k : Int) + (L : Int)) = (k : Int) + (L : Int) := by rw [IntKind.wrap_i64]; omega
          clear hs' hkk
          go_wp2
          go_roundw
          case rel =>
            refine ⟨k + L, v', l, by rw [HN.out]; omega, HS9.out.goTo (k + L) _ (by omega), HK9.out.trans (Kep.set _ _ _ _), by have := HLK.out; omega, HLXN.out⟩
          case measure =>
            rw [(HS9.out.goTo (k + L) ((k : Int) + (L : Int)) (by omega)).place, HPL.out]; omega
        | tok ck tx tn =>
          obtain ⟨he, ⟨v', hs'⟩, hkk⟩ := hpost
          have he : e = .returned (.tuple #[]) := he
          subst he
          have HS9 := Lib.hid hs'
          have HK9 := Lib.hid (HKC.out _ hkk)
          have g1 := hs'.c1
          have g2 := hs'.f1
          have wk : IntKind.i64.wrap ((k : Int) + (L : Int)) = (k : Int) + (L : Int) := by rw [IntKind.wrap_i64]; omega
          clear hs' hkk
          go_wp2
          go_roundw
          case rel =>
            refine ⟨k + L, v', l ++ [⟨ck, tx, tn, k⟩], by rw [HN.out]; omega, HS9.out.goTo (k + L) _ (by omega), HK9.out.trans (Kep.set _ _ _ _), by rw [List.length_append]; have := HLK.out; simp; omega, ?_⟩
            rw [HLXN.out, ← Res.app_cons]
          case measure =>
            rw [(HS9.out.goTo (k + L) ((k : Int) + (L : Int)) (by omega)).place, HPL.out]; omega
      | 1, _, HKK =>
        have a0 : wr.cell? ⟨sb + 1, 2, none⟩ = some (.func (.func 47) #[] #[]) := HAR.out.cell rfl
        have a1 : wr.cell? ⟨sb + 1, 3, none⟩ = some (.func (.func 49) #[] #[]) := HAR.out.cell rfl
        go_wp2_with fail
        refine (HCLS.out _ HTR.out).mono ?_
        rintro e w5 ⟨rfl, rfl⟩
        go_wp2_with (refine store_new rfl 59 _ _ (by rfl) w5.heap.size w5.heap.size [fn 47, fn 49] _ (by rfl) (by rfl) ((Below.refl w5.heap.size w5).alloc (Nat.le_refl _) _) (Nat.le_refl _) (Arr.new w5 _ 59) (by rfl) Tryd.info59 (by decide) ?_; intro W6 hB6 hA6 hz6; simp only [Act.put]; have m0 : W6.cell? ⟨w5.heap.size, 0, none⟩ = some (.func (.func 47) #[] #[]) := hA6.cell rfl; have m1 : W6.cell? ⟨w5.heap.size, 1, none⟩ = some (.func (.func 49) #[] #[]) := hA6.cell rfl; have HB6 := Lib.hid hB6; clear hB6 hA6 hz6)
        have HT6 := Lib.hid (HTR.out.below HB6.out)
        refine (HLEN.out 1 47 HKK.out (by omega) W6 HT6.out).mono ?_
        rintro e w7 ⟨rfl, rfl⟩
        go_wp2_with fail
        go_still_tail 5, (by kernel_rfl)
        change wpList _ _ _ _ _ w7.drew
        obtain ⟨w8, hw8⟩ : ∃ w8, w8 = w7.drew := ⟨_, rfl⟩
        rw [← hw8]
        have hb8 : Below w5.heap.size w5 w8 := by rw [hw8]; exact HB6.out.drew
        have hsr8 := HSR.out.below hb8
        have HADDC := Lib.hid (HADD.out 1 49 HKK.out (by omega) w8 (HTR.out.below hb8) v l hsr8 (by have := HLK.out; omega))
        have HB8 := Lib.hid hb8
        clear hb8 hsr8 hw8 m0 m1 a0 a1 c1 f1
        go_wp2_with fail
        refine HADDC.out.mono ?_
        rintro e w9 hpost
        have hsz5 := HSR.out.bl
        have hkc : ∀ W, Kep w8 W sb (sb + 2) → Kep W3 W sb (sb + 2) := fun W hW => HKP.out.trans ((Kep.of_below HB8.out hsz5).trans hW)
        have hbf : ∀ W, Kep W3 W sb (sb + 2) → Below w.heap.size w W := fun W hW => HB0.out.trans ((HB3.out.trans (hW.below (by omega))).mono (by omega))
        have HKC := Lib.hid hkc
        have HBF := Lib.hid hbf
        have HPL := Lib.hid HSR.out.place
        clear hkc hbf hsz5 HADDC
        cases A with
        | no =>
          obtain ⟨he, hkk⟩ := hpost
          have he : e = .panicked [{ v := .iface 42 (.int .i64 k), recovered := false }] := he
          subst he
          have hr : res = .bad k := by rw [← HRES.out, HLXN.out]; rfl
          subst hr
          have HF := Lib.hid (HBF.out _ (HKC.out _ hkk))
          clear hkk
          go_wp2
          simp [bodyPost, WholePost, Pan]
          exact HF.out
        | pass =>
          obtain ⟨he, ⟨v', hs'⟩, hkk⟩ := hpost
          have he : e = .returned (.tuple #[]) := he
          subst he
          have HS9 := Lib.hid hs'
          have HK9 := Lib.hid (HKC.out _ hkk)
          have g1 := hs'.c1
          have g2 := hs'.f1
          have wk : IntKind.i64.wrap ((k : Int) + (L : Int)) = (k : Int) + (L : Int) := by rw [IntKind.wrap_i64]; omega
          clear hs' hkk
          go_wp2
          go_roundw
          case rel =>
            refine ⟨k + L, v', l, by rw [HN.out]; omega, HS9.out.goTo (k + L) _ (by omega), HK9.out.trans (Kep.set _ _ _ _), by have := HLK.out; omega, HLXN.out⟩
          case measure =>
            rw [(HS9.out.goTo (k + L) ((k : Int) + (L : Int)) (by omega)).place, HPL.out]; omega
        | tok ck tx tn =>
          obtain ⟨he, ⟨v', hs'⟩, hkk⟩ := hpost
          have he : e = .returned (.tuple #[]) := he
          subst he
          have HS9 := Lib.hid hs'
          have HK9 := Lib.hid (HKC.out _ hkk)
          have g1 := hs'.c1
          have g2 := hs'.f1
          have wk : IntKind.i64.wrap ((k : Int) + (L : Int)) = (k : Int) + (L : Int) := by rw [IntKind.wrap_i64]; omega
          clear hs' hkk
          go_wp2
          go_roundw
          case rel =>
            refine ⟨k + L, v', l ++ [⟨ck, tx, tn, k⟩], by rw [HN.out]; omega, HS9.out.goTo (k + L) _ (by omega), HK9.out.trans (Kep.set _ _ _ _), by rw [List.length_append]; have := HLK.out; simp; omega, ?_⟩
            rw [HLXN.out, ← Res.app_cons]
          case measure =>
            rw [(HS9.out.goTo (k + L) ((k : Int) + (L : Int)) (by omega)).place, HPL.out]; omega
      | 2, _, HKK =>
        have a0 : wr.cell? ⟨sb + 1, 4, none⟩ = some (.func (.func 38) #[] #[]) := HAR.out.cell rfl
        have a1 : wr.cell? ⟨sb + 1, 5, none⟩ = some (.func (.func 50) #[] #[]) := HAR.out.cell rfl
        go_wp2_with fail
        refine (HCLS.out _ HTR.out).mono ?_
        rintro e w5 ⟨rfl, rfl⟩
        go_wp2_with (refine store_new rfl 59 _ _ (by rfl) w5.heap.size w5.heap.size [fn 38, fn 50] _ (by rfl) (by rfl) ((Below.refl w5.heap.size w5).alloc (Nat.le_refl _) _) (Nat.le_refl _) (Arr.new w5 _ 59) (by rfl) Tryd.info59 (by decide) ?_; intro W6 hB6 hA6 hz6; simp only [Act.put]; have m0 : W6.cell? ⟨w5.heap.size, 0, none⟩ = some (.func (.func 38) #[] #[]) := hA6.cell rfl; have m1 : W6.cell? ⟨w5.heap.size, 1, none⟩ = some (.func (.func 50) #[] #[]) := hA6.cell rfl; have HB6 := Lib.hid hB6; clear hB6 hA6 hz6)
        have HT6 := Lib.hid (HTR.out.below HB6.out)
        refine (HLEN.out 2 38 HKK.out (by omega) W6 HT6.out).mono ?_
        rintro e w7 ⟨rfl, rfl⟩
        go_wp2_with fail
        go_still_tail 5, (by kernel_rfl)
        change wpList _ _ _ _ _ w7.drew
        obtain ⟨w8, hw8⟩ : ∃ w8, w8 = w7.drew := ⟨_, rfl⟩
        rw [← hw8]
        have hb8 : Below w5.heap.size w5 w8 := by rw [hw8]; exact HB6.out.drew
        have hsr8 := HSR.out.below hb8
        have HADDC := Lib.hid (HADD.out 2 50 HKK.out (by omega) w8 (HTR.out.below hb8) v l hsr8 (by have := HLK.out; omega))
        have HB8 := Lib.hid hb8
        clear hb8 hsr8 hw8 m0 m1 a0 a1 c1 f1
        go_wp2_with fail
        refine HADDC.out.mono ?_
        rintro e w9 hpost
        have hsz5 := HSR.out.bl
        have hkc : ∀ W, Kep w8 W sb (sb + 2) → Kep W3 W sb (sb + 2) := fun W hW => HKP.out.trans ((Kep.of_below HB8.out hsz5).trans hW)
        have hbf : ∀ W, Kep W3 W sb (sb + 2) → Below w.heap.size w W := fun W hW => HB0.out.trans ((HB3.out.trans (hW.below (by omega))).mono (by omega))
        have HKC := Lib.hid hkc
        have HBF := Lib.hid hbf
        have HPL := Lib.hid HSR.out.place
        clear hkc hbf hsz5 HADDC
        cases A with
        | no =>
          obtain ⟨he, hkk⟩ := hpost
          have he : e = .panicked [{ v := .iface 42 (.int .i64 k), recovered := false }] := he
          subst he
          have hr : res = .bad k := by rw [← HRES.out, HLXN.out]; rfl
          subst hr
          have HF := Lib.hid (HBF.out _ (HKC.out _ hkk))
          clear hkk
          go_wp2
          simp [bodyPost, WholePost, Pan]
          exact HF.out
        | pass =>
          obtain ⟨he, ⟨v', hs'⟩, hkk⟩ := hpost
          have he : e = .returned (.tuple #[]) := he
          subst he
          have HS9 := Lib.hid hs'
          have HK9 := Lib.hid (HKC.out _ hkk)
          have g1 := hs'.c1
          have g2 := hs'.f1
          have wk : IntKind.i64.wrap ((k : Int) + (L : Int)) = (k : Int) + (L : Int) := by rw [IntKind.wrap_i64]; omega
          clear hs' hkk
          go_wp2
          go_roundw
          case rel =>
            refine ⟨k + L, v', l, by rw [HN.out]; omega, HS9.out.goTo (k + L) _ (by omega), HK9.out.trans (Kep.set _ _ _ _), by have := HLK.out; omega, HLXN.out⟩
          case measure =>
            rw [(HS9.out.goTo (k + L) ((k : Int) + (L : Int)) (by omega)).place, HPL.out]; omega
        | tok ck tx tn =>
          obtain ⟨he, ⟨v', hs'⟩, hkk⟩ := hpost
          have he : e = .returned (.tuple #[]) := he
          subst he
          have HS9 := Lib.hid hs'
          have HK9 := Lib.hid (HKC.out _ hkk)
          have g1 := hs'.c1
          have g2 := hs'.f1
          have wk : IntKind.i64.wrap ((k : Int) + (L : Int)) = (k : Int) + (L : Int) := by rw [IntKind.wrap_i64]; omega
          clear hs' hkk
          go_wp2
          go_roundw
          case rel =>
            refine ⟨k + L, v', l ++ [⟨ck, tx, tn, k⟩], by rw [HN.out]; omega, HS9.out.goTo (k + L) _ (by omega), HK9.out.trans (Kep.set _ _ _ _), by rw [List.length_append]; have := HLK.out; simp; omega, ?_⟩
            rw [HLXN.out, ← Res.app_cons]
          case measure =>
            rw [(HS9.out.goTo (k + L) ((k : Int) + (L : Int)) (by omega)).place, HPL.out]; omega
      | 3, _, HKK =>
        have a0 : wr.cell? ⟨sb + 1, 6, none⟩ = some (.func (.func 51) #[] #[]) := HAR.out.cell rfl
        have a1 : wr.cell? ⟨sb + 1, 7, none⟩ = some (.func (.func 52) #[] #[]) := HAR.out.cell rfl
        go_wp2_with fail
        refine (HCLS.out _ HTR.out).mono ?_
        rintro e w5 ⟨rfl, rfl⟩
        go_wp2_with (refine store_new rfl 59 _ _ (by rfl) w5.heap.size w5.heap.size [fn 51, fn 52] _ (by rfl) (by rfl) ((Below.refl w5.heap.size w5).alloc (Nat.le_refl _) _) (Nat.le_refl _) (Arr.new w5 _ 59) (by rfl) Tryd.info59 (by decide) ?_; intro W6 hB6 hA6 hz6; simp only [Act.put]; have m0 : W6.cell? ⟨w5.heap.size, 0, none⟩ = some (.func (.func 51) #[] #[]) := hA6.cell rfl; have m1 : W6.cell? ⟨w5.heap.size, 1, none⟩ = some (.func (.func 52) #[] #[]) := hA6.cell rfl; have HB6 := Lib.hid hB6; clear hB6 hA6 hz6)
        have HT6 := Lib.hid (HTR.out.below HB6.out)
        refine (HLEN.out 3 51 HKK.out (by omega) W6 HT6.out).mono ?_
        rintro e w7 ⟨rfl, rfl⟩
        go_wp2_with fail
        go_still_tail 5, (by kernel_rfl)
        change wpList _ _ _ _ _ w7.drew
        obtain ⟨w8, hw8⟩ : ∃ w8, w8 = w7.drew := ⟨_, rfl⟩
        rw [← hw8]
        have hb8 : Below w5.heap.size w5 w8 := by rw [hw8]; exact HB6.out.drew
        have hsr8 := HSR.out.below hb8
        have HADDC := Lib.hid (HADD.out 3 52 HKK.out (by omega) w8 (HTR.out.below hb8) v l hsr8 (by have := HLK.out; omega))
        have HB8 := Lib.hid hb8
        clear hb8 hsr8 hw8 m0 m1 a0 a1 c1 f1
        go_wp2_with fail
        refine HADDC.out.mono ?_
        rintro e w9 hpost
        have hsz5 := HSR.out.bl
        have hkc : ∀ W, Kep w8 W sb (sb + 2) → Kep W3 W sb (sb + 2) := fun W hW => HKP.out.trans ((Kep.of_below HB8.out hsz5).trans hW)
        have hbf : ∀ W, Kep W3 W sb (sb + 2) → Below w.heap.size w W := fun W hW => HB0.out.trans ((HB3.out.trans (hW.below (by omega))).mono (by omega))
        have HKC := Lib.hid hkc
        have HBF := Lib.hid hbf
        have HPL := Lib.hid HSR.out.place
        clear hkc hbf hsz5 HADDC
        cases A with
        | no =>
          obtain ⟨he, hkk⟩ := hpost
          have he : e = .panicked [{ v := .iface 42 (.int .i64 k), recovered := false }] := he
          subst he
          have hr : res = .bad k := by rw [← HRES.out, HLXN.out]; rfl
          subst hr
          have HF := Lib.hid (HBF.out _ (HKC.out _ hkk))
          clear hkk
          go_wp2
          simp [bodyPost, WholePost, Pan]
          exact HF.out
        | pass =>
          obtain ⟨he, ⟨v', hs'⟩, hkk⟩ := hpost
          have he : e = .returned (.tuple #[]) := he
          subst he
          have HS9 := Lib.hid hs'
          have HK9 := Lib.hid (HKC.out _ hkk)
          have g1 := hs'.c1
          have g2 := hs'.f1
          have wk : IntKind.i64.wrap ((k : Int) + (L : Int)) = (k : Int) + (L : Int) := by rw [IntKind.wrap_i64]; omega
          clear hs' hkk
          go_wp2
          go_roundw
          case rel =>
            refine ⟨k + L, v', l, by rw [HN.out]; omega, HS9.out.goTo (k + L) _ (by omega), HK9.out.trans (Kep.set _ _ _ _), by have := HLK.out; omega, HLXN.out⟩
          case measure =>
            rw [(HS9.out.goTo (k + L) ((k : Int) + (L : Int)) (by omega)).place, HPL.out]; omega
        | tok ck tx tn =>
          obtain ⟨he, ⟨v', hs'⟩, hkk⟩ := hpost
          have he : e = .returned (.tuple #[]) := he
          subst he
          have HS9 := Lib.hid hs'
          have HK9 := Lib.hid (HKC.out _ hkk)
          have g1 := hs'.c1
          have g2 := hs'.f1
          have wk : IntKind.i64.wrap ((k : Int) + (L : Int)) = (k : Int) + (L : Int) := by rw [IntKind.wrap_i64]; omega
          clear hs' hkk
          go_wp2
          go_roundw
          case rel =>
            refine ⟨k + L, v', l ++ [⟨ck, tx, tn, k⟩], by rw [HN.out]; omega, HS9.out.goTo (k + L) _ (by omega), HK9.out.trans (Kep.set _ _ _ _), by rw [List.length_append]; have := HLK.out; simp; omega, ?_⟩
            rw [HLXN.out, ← Res.app_cons]
          case measure =>
            rw [(HS9.out.goTo (k + L) ((k : Int) + (L : Int)) (by omega)).place, HPL.out]; omega
      | 4, _, HKK =>
        have a0 : wr.cell? ⟨sb + 1, 8, none⟩ = some (.func (.func 47) #[] #[]) := HAR.out.cell rfl
        have a1 : wr.cell? ⟨sb + 1, 9, none⟩ = some (.func (.func 48) #[] #[]) := HAR.out.cell rfl
        go_wp2_with fail
        refine (HCLS.out _ HTR.out).mono ?_
        rintro e w5 ⟨rfl, rfl⟩
        go_wp2_with (refine store_new rfl 59 _ _ (by rfl) w5.heap.size w5.heap.size [fn 47, fn 48] _ (by rfl) (by rfl) ((Below.refl w5.heap.size w5).alloc (Nat.le_refl _) _) (Nat.le_refl _) (Arr.new w5 _ 59) (by rfl) Tryd.info59 (by decide) ?_; intro W6 hB6 hA6 hz6; simp only [Act.put]; have m0 : W6.cell? ⟨w5.heap.size, 0, none⟩ = some (.func (.func 47) #[] #[]) := hA6.cell rfl; have m1 : W6.cell? ⟨w5.heap.size, 1, none⟩ = some (.func (.func 48) #[] #[]) := hA6.cell rfl; have HB6 := Lib.hid hB6; clear hB6 hA6 hz6)
        have HT6 := Lib.hid (HTR.out.below HB6.out)
        refine (HLEN.out 4 47 HKK.out (by omega) W6 HT6.out).mono ?_
        rintro e w7 ⟨rfl, rfl⟩
        go_wp2_with fail
        go_still_tail 5, (by kernel_rfl)
        change wpList _ _ _ _ _ w7.drew
        obtain ⟨w8, hw8⟩ : ∃ w8, w8 = w7.drew := ⟨_, rfl⟩
        rw [← hw8]
        have hb8 : Below w5.heap.size w5 w8 := by rw [hw8]; exact HB6.out.drew
        have hsr8 := HSR.out.below hb8
        have HADDC := Lib.hid (HADD.out 4 48 HKK.out (by omega) w8 (HTR.out.below hb8) v l hsr8 (by have := HLK.out; omega))
        have HB8 := Lib.hid hb8
        clear hb8 hsr8 hw8 m0 m1 a0 a1 c1 f1
        go_wp2_with fail
        refine HADDC.out.mono ?_
        rintro e w9 hpost
        have hsz5 := HSR.out.bl
        have hkc : ∀ W, Kep w8 W sb (sb + 2) → Kep W3 W sb (sb + 2) := fun W hW => HKP.out.trans ((Kep.of_below HB8.out hsz5).trans hW)
        have hbf : ∀ W, Kep W3 W sb (sb + 2) → Below w.heap.size w W := fun W hW => HB0.out.trans ((HB3.out.trans (hW.below (by omega))).mono (by omega))
        have HKC := Lib.hid hkc
        have HBF := Lib.hid hbf
        have HPL := Lib.hid HSR.out.place
        clear hkc hbf hsz5 HADDC
        cases A with
        | no =>
          obtain ⟨he, hkk⟩ := hpost
          have he : e = .panicked [{ v := .iface 42 (.int .i64 k), recovered := false }] := he
          subst he
          have hr : res = .bad k := by rw [← HRES.out, HLXN.out]; rfl
          subst hr
          have HF := Lib.hid (HBF.out _ (HKC.out _ hkk))
          clear hkk
          go_wp2
          simp [bodyPost, WholePost, Pan]
          exact HF.out
        | pass =>
          obtain ⟨he, ⟨v', hs'⟩, hkk⟩ := hpost
          have he : e = .returned (.tuple #[]) := he
          subst he
          have HS9 := Lib.hid hs'
          have HK9 := Lib.hid (HKC.out _ hkk)
          have g1 := hs'.c1
          have g2 := hs'.f1
          have wk : IntKind.i64.wrap ((k : Int) + (L : Int)) = (k : Int) + (L : Int) := by rw [IntKind.wrap_i64]; omega
          clear hs' hkk
          go_wp2
          go_roundw
          case rel =>
            refine ⟨k + L, v', l, by rw [HN.out]; omega, HS9.out.goTo (k + L) _ (by omega), HK9.out.trans (Kep.set _ _ _ _), by have := HLK.out; omega, HLXN.out⟩
          case measure =>
            rw [(HS9.out.goTo (k + L) ((k : Int) + (L : Int)) (by omega)).place, HPL.out]; omega
        | tok ck tx tn =>
          obtain ⟨he, ⟨v', hs'⟩, hkk⟩ := hpost
          have he : e = .returned (.tuple #[]) := he
          subst he
          have HS9 := Lib.hid hs'
          have HK9 := Lib.hid (HKC.out _ hkk)
          have g1 := hs'.c1
          have g2 := hs'.f1
          have wk : IntKind.i64.wrap ((k : Int) + (L : Int)) = (k : Int) + (L : Int) := by rw [IntKind.wrap_i64]; omega
          clear hs' hkk
          go_wp2
          go_roundw
          case rel =>
            refine ⟨k + L, v', l ++ [⟨ck, tx, tn, k⟩], by rw [HN.out]; omega, HS9.out.goTo (k + L) _ (by omega), HK9.out.trans (Kep.set _ _ _ _), by rw [List.length_append]; have := HLK.out; simp; omega, ?_⟩
            rw [HLXN.out, ← Res.app_cons]
          case measure =>
            rw [(HS9.out.goTo (k + L) ((k : Int) + (L : Int)) (by omega)).place, HPL.out]; omega
      | 5, _, HKK =>
        have a0 : wr.cell? ⟨sb + 1, 10, none⟩ = some (.func (.func 47) #[] #[]) := HAR.out.cell rfl
        have a1 : wr.cell? ⟨sb + 1, 11, none⟩ = some (.func (.func 53) #[] #[]) := HAR.out.cell rfl
        go_wp2_with fail
        refine (HCLS.out _ HTR.out).mono ?_
        rintro e w5 ⟨rfl, rfl⟩
        go_wp2_with (refine store_new rfl 59 _ _ (by rfl) w5.heap.size w5.heap.size [fn 47, fn 53] _ (by rfl) (by rfl) ((Below.refl w5.heap.size w5).alloc (Nat.le_refl _) _) (Nat.le_refl _) (Arr.new w5 _ 59) (by rfl) Tryd.info59 (by decide) ?_; intro W6 hB6 hA6 hz6; simp only [Act.put]; have m0 : W6.cell? ⟨w5.heap.size, 0, none⟩ = some (.func (.func 47) #[] #[]) := hA6.cell rfl; have m1 : W6.cell? ⟨w5.heap.size, 1, none⟩ = some (.func (.func 53) #[] #[]) := hA6.cell rfl; have HB6 := Lib.hid hB6; clear hB6 hA6 hz6)
        have HT6 := Lib.hid (HTR.out.below HB6.out)
        refine (HLEN.out 5 47 HKK.out (by omega) W6 HT6.out).mono ?_
        rintro e w7 ⟨rfl, rfl⟩
        go_wp2_with fail
        go_still_tail 5, (by kernel_rfl)
        change wpList _ _ _ _ _ w7.drew
        obtain ⟨w8, hw8⟩ : ∃ w8, w8 = w7.drew := ⟨_, rfl⟩
        rw [← hw8]
        have hb8 : Below w5.heap.size w5 w8 := by rw [hw8]; exact HB6.out.drew
        have hsr8 := HSR.out.below hb8
        have HADDC := Lib.hid (HADD.out 5 53 HKK.out (by omega) w8 (HTR.out.below hb8) v l hsr8 (by have := HLK.out; omega))
        have HB8 := Lib.hid hb8
        clear hb8 hsr8 hw8 m0 m1 a0 a1 c1 f1
        go_wp2_with fail
        refine HADDC.out.mono ?_
        rintro e w9 hpost
        have hsz5 := HSR.out.bl
        have hkc : ∀ W, Kep w8 W sb (sb + 2) → Kep W3 W sb (sb + 2) := fun W hW => HKP.out.trans ((Kep.of_below HB8.out hsz5).trans hW)
        have hbf : ∀ W, Kep W3 W sb (sb + 2) → Below w.heap.size w W := fun W hW => HB0.out.trans ((HB3.out.trans (hW.below (by omega))).mono (by omega))
        have HKC := Lib.hid hkc
        have HBF := Lib.hid hbf
        have HPL := Lib.hid HSR.out.place
        clear hkc hbf hsz5 HADDC
        cases A with
        | no =>
          obtain ⟨he, hkk⟩ := hpost
          have he : e = .panicked [{ v := .iface 42 (.int .i64 k), recovered := false }] := he
          subst he
          have hr : res = .bad k := by rw [← HRES.out, HLXN.out]; rfl
          subst hr
          have HF := Lib.hid (HBF.out _ (HKC.out _ hkk))
          clear hkk
          go_wp2
          simp [bodyPost, WholePost, Pan]
          exact HF.out
        | pass =>
          obtain ⟨he, ⟨v', hs'⟩, hkk⟩ := hpost
          have he : e = .returned (.tuple #[]) := he
          subst he
          have HS9 := Lib.hid hs'
          have HK9 := Lib.hid (HKC.out _ hkk)
          have g1 := hs'.c1
          have g2 := hs'.f1
          have wk : IntKind.i64.wrap ((k : Int) + (L : Int)) = (k : Int) + (L : Int) := by rw [IntKind.wrap_i64]; omega
          clear hs' hkk
          go_wp2
          go_roundw
          case rel =>
            refine ⟨k + L, v', l, by rw [HN.out]; omega, HS9.out.goTo (k + L) _ (by omega), HK9.out.trans (Kep.set _ _ _ _), by have := HLK.out; omega, HLXN.out⟩
          case measure =>
            rw [(HS9.out.goTo (k + L) ((k : Int) + (L : Int)) (by omega)).place, HPL.out]; omega
        | tok ck tx tn =>
          obtain ⟨he, ⟨v', hs'⟩, hkk⟩ := hpost
          have he : e = .returned (.tuple #[]) := he
          subst he
          have HS9 := Lib.hid hs'
          have HK9 := Lib.hid (HKC.out _ hkk)
          have g1 := hs'.c1
          have g2 := hs'.f1
          have wk : IntKind.i64.wrap ((k : Int) + (L : Int)) = (k : Int) + (L : Int) := by rw [IntKind.wrap_i64]; omega
          clear hs' hkk
          go_wp2
          go_roundw
          case rel =>
            refine ⟨k + L, v', l ++ [⟨ck, tx, tn, k⟩], by rw [HN.out]; omega, HS9.out.goTo (k + L) _ (by omega), HK9.out.trans (Kep.set _ _ _ _), by rw [List.length_append]; have := HLK.out; simp; omega, ?_⟩
            rw [HLXN.out, ← Res.app_cons]
          case measure =>
            rw [(HS9.out.goTo (k + L) ((k : Int) + (L : Int)) (by omega)).place, HPL.out]; omega
      | 6, _, HKK =>
        have a0 : wr.cell? ⟨sb + 1, 12, none⟩ = some (.func (.func 54) #[] #[]) := HAR.out.cell rfl
        have a1 : wr.cell? ⟨sb + 1, 13, none⟩ = some (.func (.func 55) #[] #[]) := HAR.out.cell rfl
        go_wp2_with fail
        refine (HCLS.out _ HTR.out).mono ?_
        rintro e w5 ⟨rfl, rfl⟩
        go_wp2_with (refine store_new rfl 59 _ _ (by rfl) w5.heap.size w5.heap.size [fn 54, fn 55] _ (by rfl) (by rfl) ((Below.refl w5.heap.size w5).alloc (Nat.le_refl _) _) (Nat.le_refl _) (Arr.new w5 _ 59) (by rfl) Tryd.info59 (by decide) ?_; intro W6 hB6 hA6 hz6; simp only [Act.put]; have m0 : W6.cell? ⟨w5.heap.size, 0, none⟩ = some (.func (.func 54) #[] #[]) := hA6.cell rfl; have m1 : W6.cell? ⟨w5.heap.size, 1, none⟩ = some (.func (.func 55) #[] #[]) := hA6.cell rfl; have HB6 := Lib.hid hB6; clear hB6 hA6 hz6)
        have HT6 := Lib.hid (HTR.out.below HB6.out)
        refine (HLEN.out 6 54 HKK.out (by omega) W6 HT6.out).mono ?_
        rintro e w7 ⟨rfl, rfl⟩
        go_wp2_with fail
        go_still_tail 5, (by kernel_rfl)
        change wpList _ _ _ _ _ w7.drew
        obtain ⟨w8, hw8⟩ : ∃ w8, w8 = w7.drew := ⟨_, rfl⟩
        rw [← hw8]
        have hb8 : Below w5.heap.size w5 w8 := by rw [hw8]; exact HB6.out.drew
        have hsr8 := HSR.out.below hb8
        have HADDC := Lib.hid (HADD.out 6 55 HKK.out (by omega) w8 (HTR.out.below hb8) v l hsr8 (by have := HLK.out; omega))
        have HB8 := Lib.hid hb8
        clear hb8 hsr8 hw8 m0 m1 a0 a1 c1 f1
        go_wp2_with fail
        refine HADDC.out.mono ?_
        rintro e w9 hpost
        have hsz5 := HSR.out.bl
        have hkc : ∀ W, Kep w8 W sb (sb + 2) → Kep W3 W sb (sb + 2) := fun W hW => HKP.out.trans ((Kep.of_below HB8.out hsz5).trans hW)
        have hbf : ∀ W, Kep W3 W sb (sb + 2) → Below w.heap.size w W := fun W hW => HB0.out.trans ((HB3.out.trans (hW.below (by omega))).mono (by omega))
        have HKC := Lib.hid hkc
        have HBF := Lib.hid hbf
        have HPL := Lib.hid HSR.out.place
        clear hkc hbf hsz5 HADDC
        cases A with
        | no =>
          obtain ⟨he, hkk⟩ := hpost
          have he : e = .panicked [{ v := .iface 42 (.int .i64 k), recovered := false }] := he
          subst he
          have hr : res = .bad k := by rw [← HRES.out, HLXN.out]; rfl
          subst hr
          have HF := Lib.hid (HBF.out _ (HKC.out _ hkk))
          clear hkk
          go_wp2
          simp [bodyPost, WholePost, Pan]
          exact HF.out
        | pass =>
          obtain ⟨he, ⟨v', hs'⟩, hkk⟩ := hpost
          have he : e = .returned (.tuple #[]) := he
          subst he
          have HS9 := Lib.hid hs'
          have HK9 := Lib.hid (HKC.out _ hkk)
          have g1 := hs'.c1
          have g2 := hs'.f1
          have wk : IntKind.i64.wrap ((k : Int) + (L : Int)) = (k : Int) + (L : Int) := by rw [IntKind.wrap_i64]; omega
          clear hs' hkk
          go_wp2
          go_roundw
          case rel =>
            refine ⟨k + L, v', l, by rw [HN.out]; omega, HS9.out.goTo (k + L) _ (by omega), HK9.out.trans (Kep.set _ _ _ _), by have := HLK.out; omega, HLXN.out⟩
          case measure =>
            rw [(HS9.out.goTo (k + L) ((k : Int) + (L : Int)) (by omega)).place, HPL.out]; omega
        | tok ck tx tn =>
          obtain ⟨he, ⟨v', hs'⟩, hkk⟩ := hpost
          have he : e = .returned (.tuple #[]) := he
          subst he
          have HS9 := Lib.hid hs'
          have HK9 := Lib.hid (HKC.out _ hkk)
          have g1 := hs'.c1
          have g2 := hs'.f1
          have wk : IntKind.i64.wrap ((k : Int) + (L : Int)) = (k : Int) + (L : Int) := by rw [IntKind.wrap_i64]; omega
          clear hs' hkk
          go_wp2
          go_roundw
          case rel =>
            refine ⟨k + L, v', l ++ [⟨ck, tx, tn, k⟩], by rw [HN.out]; omega, HS9.out.goTo (k + L) _ (by omega), HK9.out.trans (Kep.set _ _ _ _), by rw [List.length_append]; have := HLK.out; simp; omega, ?_⟩
            rw [HLXN.out, ← Res.app_cons]
          case measure =>
            rw [(HS9.out.goTo (k + L) ((k : Int) + (L : Int)) (by omega)).place, HPL.out]; omega

    · obtain rfl : k = N := by omega
      have d : decide ((k : Int) < (k : Int)) = false := by simp
      have hr : res = .ok l := by
        rw [← HRES.out, hlx, show bs.drop k = [] by rw [← HN.out, List.drop_length], lexGo_nil]; simp [Res.app]
      subst hr
      have c1 := hsr.c1
      have c2 := hsr.c2
      have HSR := Lib.hid hsr
      have HF : Hid (Below w.heap.size w wr) := Lib.hid (HB0.out.trans ((HB3.out.trans (hkp.below (by omega))).mono (by omega)))
      clear hsr hkp hlx hTr har hlk
      go_wp2
      go_ret
      exact ⟨v, sb + 2, rfl, by omega, HSR.out.own, HF.out⟩
end Go.Proofs.YtdcdldjbdjochaaDoor
