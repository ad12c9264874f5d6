/- A script of writes and syncs on a disk of four sectors, as data. -/
import Derived.Test.YtmklchjgiaomkaaHld
import Derived.Test.YtmklchjgiaomkaaBxs
namespace Go.Proofs.Ytmklchjgiaomkaa
open Go.RowKit

theorem write_ok4 {d : Dk} {n : Int} {b : By} (h1 : d.runs = true) (h2 : d.has n = true) (h3 : b.length ≤ 128) (h4 : d.pen.length ≠ 4096) : d.write n b = ({ d with pen := d.pen ++ [(n, pad b)] }, 0) := by
  unfold Dk.write; rw [h1, h2, Bool.true_and, if_pos rfl, if_neg (by omega), if_neg h4]
def wr4 (l : List Ac) : List (Int × By) := l.map fun a => (((a.at_.toNat % 4 : Nat) : Int), dbl a.byte)
def ups (F : List UInt8) (l : List Ac) : List UInt8 := l.foldl (fun F a => F.set (a.at_.toNat % 4) a.byte) F
theorem ups_len (l : List Ac) : ∀ F, (ups F l).length = F.length := by
  unfold ups
  induction l with
  | nil => intro F; rfl
  | cons a l ih => intro F; rw [List.foldl_cons, ih, List.length_set]
theorem ups_snoc (F : List UInt8) (l : List Ac) (a : Ac) : ups F (l ++ [a]) = (ups F l).set (a.at_.toNat % 4) a.byte := by unfold ups; rw [List.foldl_append]; rfl
theorem ups_next (F : List UInt8) (l : List Ac) (m : Nat) (h : m < l.length) : ups F (l.take (m + 1)) = (ups F (l.take m)).set (l[m].at_.toNat % 4) l[m].byte := by
  rw [List.take_succ_eq_append_getElem h, ups_snoc]
def zs (F S : List UInt8) : List By := List.zipWith hb F S
theorem zs_len {F S : List UInt8} (hF : F.length = 4) (hS : S.length = 4) : (zs F S).length = 4 := by simp [zs, hF, hS]
theorem zs_get {F S : List UInt8} {k : Nat} (h1 : k < F.length) (h2 : k < S.length) : (zs F S).getD k [] = hb F[k] S[k] := by
  have hl : k < (zs F S).length := by simp [zs]; omega
  rw [List.getD_eq_getElem?_getD, List.getElem?_eq_getElem hl]
  simp [zs]
theorem zs_set (F S : List UInt8) (i : Nat) (a b : UInt8) : (zs F S).set i (hb a b) = zs (F.set i a) (S.set i b) := by
  refine List.ext_getElem (by simp [zs]) fun j h1 h2 => ?_
  simp only [zs, List.getElem_set, List.getElem_zipWith]
  by_cases e : i = j <;> simp [e]
theorem zs_all {F S : List UInt8} : ∀ y ∈ zs F S, y.length = 128 := fun y hy => by
  unfold zs at hy
  obtain ⟨i, hi, rfl⟩ := List.mem_iff_getElem.1 hy
  rw [List.getElem_zipWith]; exact hb_len _ _
theorem perf_zs (l : List Ac) : ∀ F S, perf (zs F S) (wr4 l) = zs (ups F l) (ups S l) := by
  unfold perf wr4 ups
  induction l with
  | nil => intro F S; rfl
  | cons a l ih =>
    intro F S
    rw [List.map_cons, List.foldl_cons, List.foldl_cons, List.foldl_cons]
    have : (zs F S).set (((a.at_.toNat % 4 : Nat) : Int)).toNat (dbl a.byte) = zs (F.set (a.at_.toNat % 4) a.byte) (S.set (a.at_.toNat % 4) a.byte) := by
      rw [Int.toNat_natCast, dbl_hb, zs_set]
    show List.foldl _ ((zs F S).set (((a.at_.toNat % 4 : Nat) : Int)).toNat (dbl a.byte)) _ = _
    rw [this, ih]
theorem tear_hb (a b c : UInt8) : tear (hb a b) (dbl c) = hb c b := rfl

/-- The disk of the history. -/
def Hd (F : List UInt8) (wt : List Ac) (room : Nat) : Dk := ⟨zs F F, wr4 wt, room, false⟩
theorem wr4_len (l : List Ac) : (wr4 l).length = l.length := by simp [wr4]
theorem wr4_all {l : List Ac} : ∀ x ∈ wr4 l, 0 ≤ x.1 ∧ x.1 < (4 : Nat) ∧ x.2.length = 128 := fun x hx => by
  obtain ⟨a, _, rfl⟩ := List.mem_map.1 hx
  have := Nat.mod_lt a.at_.toNat (show 0 < 4 by omega)
  exact ⟨by show (0 : Int) ≤ ((a.at_.toNat % 4 : Nat) : Int); omega, by show ((a.at_.toNat % 4 : Nat) : Int) < (4 : Nat); omega, dbl_len _⟩
theorem hd_ok {F S : List UInt8} {wt : List Ac} {L : Int} (hF : F.length = 4) (hS : S.length = 4) (hw : wt.length ≤ 4096) (hL : -1 ≤ L ∧ L ≤ 65536) : (⟨zs F S, wr4 wt, L, false⟩ : Dk).ok = true := by
  refine (ok_iff _).2 ⟨⟨?_, ?_, ?_⟩, okSec_iff.2 zs_all, okPen_iff.2 ?_, hL⟩
  · show 1 ≤ (zs F S).length; rw [zs_len hF hS]; omega
  · show (zs F S).length ≤ 4096; rw [zs_len hF hS]; omega
  · show (wr4 wt).length ≤ 4096; rw [wr4_len]; exact hw
  · show ∀ x ∈ wr4 wt, 0 ≤ x.1 ∧ x.1 < ((zs F S).length : Int) ∧ _
    rw [zs_len hF hS]; exact wr4_all
theorem hd_write {F : List UInt8} {wt : List Ac} {room : Nat} (hF : F.length = 4) (hw : wt.length < 4096) (hr : room ≤ 65536) (a : Ac) : (Hd F wt room).write ((a.at_.toNat % 4 : Nat) : Int) (dbl a.byte) = (Hd F (wt ++ [a]) room, 0) := by
  have hok : (Hd F wt room).ok = true := hd_ok hF hF (by omega) ⟨by omega, by omega⟩
  have := Nat.mod_lt a.at_.toNat (show 0 < 4 by omega)
  rw [write_ok4 (runs_of hok rfl) (has_iff.2 ⟨by omega, by show _ < ((zs F F).length : Int); rw [zs_len hF hF]; omega⟩) (by rw [dbl_len]; omega) (by show (wr4 wt).length ≠ 4096; rw [wr4_len]; omega)]
  unfold Hd wr4
  rw [List.map_append, pad_full (dbl_len _)]; rfl
theorem hd_cur {F S : List UInt8} {wt : List Ac} {L : Int} (hF : F.length = 4) (hS : S.length = 4) (k : Nat) (h1 : k < (ups F wt).length) (h2 : k < (ups S wt).length) : (⟨zs F S, wr4 wt, L, false⟩ : Dk).cur k = hb (ups F wt)[k] (ups S wt)[k] := by
  unfold Dk.cur
  have hk : k < 4 := by rw [ups_len, hF] at h1; exact h1
  have := perf_get (wr4 wt) k (fun x hx => (wr4_all x hx).1) (zs F S) (fun x hx => by rw [zs_len hF hS]; exact (wr4_all x hx).2.1) (by rw [zs_len hF hS]; exact hk)
  rw [perf_zs, zs_get h1 h2] at this
  show curOf (k : Int) (wr4 wt) ((zs F S).getD (k : Int).toNat []) = _
  rw [Int.toNat_natCast]; exact this.symm
theorem hd_read {F S : List UInt8} {wt : List Ac} {L : Int} (hF : F.length = 4) (hS : S.length = 4) (hw : wt.length ≤ 4096) (hL : -1 ≤ L ∧ L ≤ 65536) (k : Nat) (h1 : k < (ups F wt).length) (h2 : k < (ups S wt).length) : (⟨zs F S, wr4 wt, L, false⟩ : Dk).read k = (hb (ups F wt)[k] (ups S wt)[k], 0) := by
  have hk : k < 4 := by rw [ups_len, hF] at h1; exact h1
  rw [read_ok (runs_of (hd_ok hF hS hw hL) rfl) (has_iff.2 ⟨by omega, by show (k : Int) < ((zs F S).length : Int); rw [zs_len hF hS]; omega⟩), hd_cur hF hS k h1 h2]
theorem hd_sync {F : List UInt8} {wt : List Ac} {room : Nat} (hF : F.length = 4) (hw : wt.length ≤ 4096) (hr : room ≤ 65536) (h : wt.length ≤ room) : (Hd F wt room).sync = (Hd (ups F wt) [] (room - wt.length), 0) := by
  have hok : (Hd F wt room).ok = true := hd_ok hF hF hw ⟨by omega, by omega⟩
  have hst : (Hd F wt room).stops = false := by
    unfold Dk.stops Hd
    rw [decide_eq_false_iff_not]
    rintro ⟨h1, h2⟩
    simp only [wr4_len] at h2
    omega
  rw [sync_of_runs (runs_of hok rfl), hst, if_neg Bool.false_ne_true]
  unfold Hd
  show ((⟨perf (zs F F) (wr4 wt), [], if (room : Int) < 0 then (room : Int) else (room : Int) - ((wr4 wt).length : Int), false⟩ : Dk), (0 : Int)) = (⟨zs (ups F wt) (ups F wt), wr4 [], ((room - wt.length : Nat) : Int), false⟩, 0)
  rw [perf_zs, if_neg (by omega), wr4_len, show (room : Int) - (wt.length : Int) = ((room - wt.length : Nat) : Int) by omega]
  rfl
theorem hd_stop {F : List UInt8} {wt : List Ac} {room : Nat} (hF : F.length = 4) (hw : wt.length ≤ 4096) (hr : room ≤ 65536) (h : room < wt.length) : (Hd F wt room).sync = (⟨zs (ups F (wt.take (room + 1))) (ups F (wt.take room)), [], 0, true⟩, 40) := by
  have hok : (Hd F wt room).ok = true := hd_ok hF hF hw ⟨by omega, by omega⟩
  have hst : (Hd F wt room).stops = true := by
    unfold Dk.stops Hd
    rw [decide_eq_true_eq]
    simp only [wr4_len]
    omega
  rw [sync_of_runs (runs_of hok rfl), hst, if_pos rfl]
  have hdone : (Hd F wt room).done = zs (ups F (wt.take room)) (ups F (wt.take room)) := by
    unfold Dk.done Hd
    show perf (zs F F) ((wr4 wt).take (room : Int).toNat) = _
    rw [Int.toNat_natCast, show (wr4 wt).take room = wr4 (wt.take room) by unfold wr4; rw [List.map_take], perf_zs]
  have hat : (Hd F wt room).at_ = (((wt[room].at_.toNat % 4 : Nat) : Int), dbl wt[room].byte) := by
    unfold Dk.at_ Hd
    show (wr4 wt).getD (room : Int).toNat (0, []) = _
    rw [Int.toNat_natCast, List.getD_eq_getElem?_getD, List.getElem?_eq_getElem (by rw [wr4_len]; exact h)]
    simp [wr4]
  rw [hdone, hat]
  simp only [Int.toNat_natCast]
  have h4 : wt[room].at_.toNat % 4 < (ups F (wt.take room)).length := by rw [ups_len, hF]; omega
  rw [zs_get h4 h4, tear_hb, zs_set, ups_next F wt room h]
  congr 3
  exact List.set_getElem_self h4
theorem hd_new : (Dk.new 4).1 = ⟨zs [0, 0, 0, 0] [0, 0, 0, 0], wr4 [], -1, false⟩ ∧ (Dk.new 4).2 = 0 := ⟨rfl, rfl⟩
theorem hd_halt {room : Nat} (hr : room ≤ 255) : (⟨zs [0, 0, 0, 0] [0, 0, 0, 0], wr4 [], -1, false⟩ : Dk).halt room = (Hd [0, 0, 0, 0] [] room, 0) := by
  unfold Dk.halt
  rw [runs_of (hd_ok rfl rfl (by simp) ⟨by omega, by omega⟩) rfl, if_pos rfl, if_neg (by omega)]
  rfl
end Go.Proofs.Ytmklchjgiaomkaa
