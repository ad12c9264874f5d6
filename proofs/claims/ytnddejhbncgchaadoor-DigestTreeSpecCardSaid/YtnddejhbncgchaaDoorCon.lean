/- slices.Concat of two rows of bytes. -/
import Derived.Test.YtnddejhbncgchaaDoorCat
namespace Go.Proofs.YtnddejhbncgchaaDoor
open Go.RowKit

/-- A slice that owns a row with room. -/
def Spare (w : World) (B g n cap : Nat) (l : List UInt8) : Prop := w.ownsRow B 5 1 (.slice (some ⟨g, 0, none⟩) n cap) n (cells8 l)
theorem Spare.below {w w' : World} {B g m cap : Nat} {l : List UInt8} (h : Spare w B g m cap l) (hb : Below w.heap.size w w') : Spare w' B g m cap l := World.ownsRow.kept h (gbelow (row := none) hb) (.inr (by simp [Value.ownBlock]))
theorem Spare.bytes {w : World} {B g n cap : Nat} {l : List UInt8} (h : Spare w B g n cap l) : B ≤ g ∧ g < w.heap.size ∧ n ≤ cap ∧ cap ≤ maxLen ∧ l.length = n ∧ BytesIn w g 0 l := by
  have hlt := World.ownsRow.lt h g rfl
  obtain ⟨h1, h2⟩ := h
  have hl : l.length = n := by simpa [cells8] using h1
  rcases h2 with ⟨h3, _⟩ | ⟨g', cap', cur, hv, hbg, hg, hnc, hcm, hcs, htake⟩
  · cases h3
  · cases hv
    refine ⟨hbg, hlt.2, hnc, hcm, hl, fun i hi => ?_⟩
    have hi2 : i < cur.size := by omega
    have e : (cells8 l)[i]? = some (.int .u8 l[i].toNat) := by simp [cells8, List.getElem?_eq_getElem hi]
    rw [← htake, List.getElem?_take, if_pos (by omega)] at e
    rw [Nat.zero_add]
    simpa [World.cell?, hg] using e

theorem bytes_news {w : World} {db off : Nat} {l : List UInt8} (h : BytesIn w db off l) : ∀ j u, (cells8 l)[j]? = some u → w.cell? ((⟨db, off, none⟩ : Addr).add j) = some u := fun j u hu => by
  have hj : j < l.length := by have := (List.getElem?_eq_some_iff.1 hu).1; simpa [cells8] using this
  rw [show (⟨db, off, none⟩ : Addr).add j = ⟨db, off + j, none⟩ from Addr.add_mid db off j, h j hj, ← hu]
  simp [cells8, List.getElem?_eq_getElem hj]

set_option maxRecDepth 100000 in
set_option maxHeartbeats 2000000 in
theorem concat_any (w : World) (lb db1 off1 c1 c2 : Nat) (a2 : Option Addr) (l1 l2 : List UInt8) (h1 : BytesIn w db1 off1 l1) (hd1 : db1 < w.heap.size) (h2 : l2 = [] ∨ ∃ db2 off2, a2 = some ⟨db2, off2, none⟩ ∧ db2 < w.heap.size ∧ BytesIn w db2 off2 l2)
    (hl0 : 0 < l1.length) (hl : l1.length + l2.length ≤ 1000000000) (hlb : lb < w.heap.size) (hc1 : w.cell? ⟨lb, 0, none⟩ = some (.slice (some ⟨db1, off1, none⟩) l1.length c1)) (hc2 : w.cell? ⟨lb, 1, none⟩ = some (.slice a2 l2.length c2)) :
    Calls Tryd.prog 34 #[.slice (some ⟨lb, 0, none⟩) 2 2] w fun e w' => ∃ g cap, e = .returned (.slice (some ⟨g, 0, none⟩) (l1.length + l2.length) cap) ∧ Spare w' w.heap.size g (l1.length + l2.length) cap (l1 ++ l2) ∧ Below w.heap.size w w' := by
  have HG := Lib.hid (fun W => grow_any W (l1.length + l2.length) (by omega) hl)
  have H1 := Lib.hid h1
  have H2 := Lib.hid h2
  have hc1' := Lib.hid hc1
  have hc2' := Lib.hid hc2
  obtain ⟨n1, hn1⟩ : ∃ n, l1.length = n := ⟨_, rfl⟩
  obtain ⟨n2, hn2⟩ : ∃ n, l2.length = n := ⟨_, rfl⟩
  rw [hn1, hn2] at HG hl ⊢
  rw [hn1] at hc1 hc1'
  rw [hn2] at hc2 hc2'
  have HN1 := Lib.hid hn1
  have HN2 := Lib.hid hn2
  have hl01 : 0 < n1 := by omega
  clear h1 h2 hn1 hn2 hl0
  have q1 : IntKind.i64.wrap (n1 : Int) = (n1 : Int) := by rw [IntKind.wrap_i64]; omega
  have q2 : IntKind.i64.wrap ((n1 : Int) + (n2 : Int)) = (n1 : Int) + (n2 : Int) := by rw [IntKind.wrap_i64]; omega
  have d1 : decide ((n1 : Int) < 0) = false := by simp
  have d2 : decide ((n1 : Int) + (n2 : Int) < 0) = false := by simp; omega
  go_enter Tryd.func34, Tryd.ntmps34
  go_wp2
  go_loopw [3, 11] (fun s i wr => w = wr ∧ ((i = .int .i64 0 ∧ s = .int .i64 0) ∨ (i = .int .i64 1 ∧ s = .int .i64 n1) ∨ (i = .int .i64 2 ∧ s = .int .i64 ((n1 : Int) + (n2 : Int))))) (fun _ i _ => 2 - (intOf i).toNat)
  case atStart => exact ⟨rfl, .inl ⟨rfl, rfl⟩⟩
  case round =>
    obtain ⟨rfl, ⟨rfl, rfl⟩ | ⟨rfl, rfl⟩ | ⟨rfl, rfl⟩⟩ := hrel
    · go_wp2
      go_roundw
      case rel => exact ⟨by simp, .inr (.inl ⟨rfl, rfl⟩)⟩
      case measure => simp [intOf]
    · go_wp2
      go_roundw
      case rel => exact ⟨by simp, .inr (.inr ⟨rfl, rfl⟩)⟩
      case measure => simp [intOf]
    · go_wp2_with fail
      have hgr := HG.out w
      rw [Int.natCast_add] at hgr
      refine hgr.mono ?_
      rintro e w3 ⟨g, cap, rfl, hg1, hncap, hown, hB3⟩
      have hm1 : w3.cell? ⟨lb, 0, none⟩ = some (.slice (some ⟨db1, off1, none⟩) n1 c1) := (hB3.cell (p := ⟨lb, 0, none⟩) hlb).trans hc1'.out
      have hm2 : w3.cell? ⟨lb, 1, none⟩ = some (.slice a2 n2 c2) := (hB3.cell (p := ⟨lb, 1, none⟩) hlb).trans hc2'.out
      have HOWN := Lib.hid hown
      have HB3 := Lib.hid hB3
      clear hown hB3 hc1 hc2
      have hroom : n1 + n2 ≤ cap := by omega
      obtain ⟨i0, hi, hz0, hz1, hz2⟩ := info_parts Tryd.infoU8
      go_wp2
      go_loopw [6, 27] (fun v i W => Below w.heap.size w W ∧ ((i = .int .i64 0 ∧ v = .slice (some ⟨g, 0, none⟩) 0 cap ∧ Spare W w.heap.size g 0 cap []) ∨ (i = .int .i64 1 ∧ v = .slice (some ⟨g, 0, none⟩) n1 cap ∧ Spare W w.heap.size g n1 cap l1)
        ∨ (i = .int .i64 2 ∧ v = .slice (some ⟨g, 0, none⟩) (n1 + n2) cap ∧ Spare W w.heap.size g (n1 + n2) cap (l1 ++ l2)))) (fun _ i _ => 2 - (intOf i).toNat)
      case atStart => exact ⟨HB3.out, .inl ⟨rfl, rfl, HOWN.out⟩⟩
      case round =>
        obtain ⟨hBW, ⟨rfl, rfl, hsp⟩ | ⟨rfl, rfl, hsp⟩ | ⟨rfl, rfl, hsp⟩⟩ := hrel
        · have hv1 : wr.cell? ⟨lb, 0, none⟩ = some (.slice (some ⟨db1, off1, none⟩) n1 c1) := (hBW.cell (p := ⟨lb, 0, none⟩) hlb).trans hc1'.out
          have hnews := H1.out.below hBW hd1
          have HSP := Lib.hid hsp
          have HBW := Lib.hid hBW
          have HN := Lib.hid hnews
          clear hsp hBW hnews hm1 hm2
          go_wp2_with (at_builtin; refine wpList_append_own_spare _ rfl (.tmp 31) (.tmp 32) 22 rfl w.heap.size 5 i0 1 Tryd.underlying22 hi hz1 g 0 cap _ rfl HSP.out ⟨db1, off1, none⟩ n1 c1 (cells8 l1) rfl (by rw [cells8_len, HN1.out]; omega) (bytes_news HN.out) (one_cells8 l1) (by omega) ?_; intro w4 hown4 hgrow4)
          have HO4 := Lib.hid hown4
          have HG4 := Lib.hid hgrow4
          clear hown4 hgrow4
          go_wp2
          go_roundw
          case rel => exact ⟨HBW.out.grown HG4.out HBW.out.size (fun k e => by cases e; exact HSP.out.bytes.1), .inr (.inl ⟨rfl, by simp, by have h := HO4.out; rw [Nat.zero_add] at h; exact h⟩)⟩
          case measure => simp [intOf]
        · have hv2 : wr.cell? ⟨lb, 1, none⟩ = some (.slice a2 n2 c2) := (hBW.cell (p := ⟨lb, 1, none⟩) hlb).trans hc2'.out
          have HSP := Lib.hid hsp
          have HBW := Lib.hid hBW
          clear hsp hBW hm1 hm2
          rcases H2.out with h20 | ⟨db2, off2, rfl, hd2, hb2⟩
          · have hn20 : n2 = 0 := by have := HN2.out; rw [h20] at this; simpa using this.symm
            subst hn20
            subst h20
            have hrun := fun ty => run_append_nothing wr 22 22 ty 5 i0 Tryd.underlying22 hi (some ⟨g, 0, none⟩) n1 cap (by omega) (.slice a2 0 c2) (by rcases a2 with _ | p; exact Src.ofNil wr Tryd.underlying22 c2; exact Src.ofSlice wr Tryd.underlying22 p 0 c2 [] (by simp) (fun j u h => by cases h) (fun _ h => by cases h))
            go_wp2_with (at_builtin; refine wpList_append_run rfl (.tmp 31) (.tmp 32) 22 22 rfl (.slice (some ⟨g, 0, none⟩) n1 cap) (.slice a2 0 c2) _ _ (by rfl) (by rfl) (hrun _) ?_)
            go_wp2
            go_roundw
            case rel => exact ⟨_, _, _, ⟨HBW.out, .inr (.inr ⟨rfl, rfl, HSP.out⟩)⟩, rfl, rfl, rfl⟩
            case measure => simp [intOf]
          · have hnews := hb2.below HBW.out hd2
            have HN := Lib.hid hnews
            clear hnews hb2
            go_wp2_with (at_builtin; refine wpList_append_own_spare _ rfl (.tmp 31) (.tmp 32) 22 rfl w.heap.size 5 i0 1 Tryd.underlying22 hi hz1 g n1 cap _ rfl HSP.out ⟨db2, off2, none⟩ n2 c2 (cells8 l2) rfl (by rw [cells8_len, HN2.out]; omega) (bytes_news HN.out) (one_cells8 l2) (by omega) ?_; intro w4 hown4 hgrow4)
            have HO4 := Lib.hid hown4
            have HG4 := Lib.hid hgrow4
            clear hown4 hgrow4
            go_wp2
            go_roundw
            case rel => exact ⟨HBW.out.grown HG4.out HBW.out.size (fun k e => by cases e; exact HSP.out.bytes.1), .inr (.inr ⟨rfl, rfl, by unfold Spare; rw [cells8_app]; exact HO4.out⟩)⟩
            case measure => simp [intOf]
        · go_wp2
          go_ret
          exact ⟨g, cap, rfl, hsp, hBW⟩
end Go.Proofs.YtnddejhbncgchaaDoor
