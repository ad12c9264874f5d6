/- Numerals and their sizes. -/
import Derived.Test.YtkecoohplpbgnaaVal
import Derived.WalkSpells
import Derived.WalkLawsBesides
import Derived.Handy
import Derived.Lib.Hide
import Derived.Laws.EntriesVeiled
import Derived.Test.YtkecoohplpbgnaaMath
import Derived.Test.YtkecoohplpbgnaaShelf
import Derived.Deep.DeepAppendRoom
namespace Go.Proofs.Ytkecoohplpbgnaa
open Go.RowKit

set_option maxHeartbeats 400000 in
theorem unsF_neg (k n : Int) (s : ByteArray) (a : Option Addr) (len cap : Nat) (w : World) (hn : In64 n) (h : n < 0) :
    Calls Try.prog 49 #[.agg #[.int .i64 k, .int .i64 n, .string s, .slice a len cap]] w
      fun e w' => e = .returned (.int .u64 (zig n)) ∧ Below w.heap.size w w' := by
  unfold In64 at hn
  have hd : decide (n < 0) = true := by simpa using h
  have HZ := Lib.hid (zig_wrap n hn h)
  go_enter Try.func49, Try.ntmps49
  go_wp2
  go_ret
  exact ⟨ret_int (HZ.out), by go_grown⟩

set_option maxHeartbeats 400000 in
theorem unsF_pos (k n : Int) (s : ByteArray) (a : Option Addr) (len cap : Nat) (w : World) (hn : In64 n) (h : ¬ n < 0) :
    Calls Try.prog 49 #[.agg #[.int .i64 k, .int .i64 n, .string s, .slice a len cap]] w
      fun e w' => e = .returned (.int .u64 (zig n)) ∧ Below w.heap.size w w' := by
  unfold In64 at hn
  have hd : decide (n < 0) = false := by simpa using h
  go_enter Try.func49, Try.ntmps49
  go_wp2
  go_ret
  exact ⟨ret_int (by unfold zig; rw [if_neg (by omega)]; omega), by go_grown⟩

set_option maxHeartbeats 400000 in
theorem txtL (k n : Int) (s : ByteArray) (hs : s.size ≤ maxLen) (a : Option Addr) (len cap : Nat) (w : World) :
    Calls Try.prog 51 #[.agg #[.int .i64 k, .int .i64 n, .string s, .slice a len cap]] w
      fun e w' => e = .returned (.int .u64 s.size) ∧ Below w.heap.size w w' := by
  unfold maxLen at hs
  go_enter Try.func51, Try.ntmps51
  go_wp2
  go_ret
  exact ⟨rfl, by go_grown⟩

set_option maxHeartbeats 400000 in
theorem lstL (k n : Int) (s : ByteArray) (a : Option Addr) (len cap : Nat) (hs : len ≤ maxLen) (w : World) :
    Calls Try.prog 53 #[.agg #[.int .i64 k, .int .i64 n, .string s, .slice a len cap]] w
      fun e w' => e = .returned (.int .u64 len) ∧ Below w.heap.size w w' := by
  unfold maxLen at hs
  go_enter Try.func53, Try.ntmps53
  go_wp2
  go_ret
  exact ⟨rfl, by go_grown⟩

set_option maxHeartbeats 400000 in
theorem wrNo (k n : Int) (s : ByteArray) (a : Option Addr) (len cap : Nat) (b : Option Addr) (m c : Nat) (w : World) :
    Calls Try.prog 50 #[.slice b m c, .agg #[.int .i64 k, .int .i64 n, .string s, .slice a len cap]] w
      fun e w' => e = .returned (.slice b m c) ∧ Below w.heap.size w w' := by
  go_enter Try.func50, Try.ntmps50
  go_wp2
  go_ret
  exact ⟨rfl, by go_grown⟩

set_option maxHeartbeats 400000 in
theorem writers_any (w : World) :
    Calls Try.prog 38 #[] w
      fun e w' => e = .returned (.agg #[.nilFunc, .nilFunc, .func (.func 49) #[] #[], .func (.func 50) #[] #[], .func (.func 51) #[] #[], .func (.func 52) #[] #[], .func (.func 53) #[] #[], .func (.func 54) #[] #[]]) ∧ Below w.heap.size w w' := by
  go_enter Try.func38, Try.ntmps38
  go_wp2
  go_returns
  exact ⟨rfl, by go_grown⟩

set_option maxHeartbeats 400000 in
theorem numSize (u : Nat) (hu : u < 18446744073709551616) (w : World) :
    Calls Try.prog 40 #[.int .u64 u] w fun e w' => e = .returned (.int .i64 ((num u).length : Nat)) ∧ w' = w := by
  have hl := num_len u hu
  have hle := num_len64 u hu
  have ho : bits .or .u64 (u : Int) 1 = ((u ||| 1 : Nat) : Int) := u64_or_nat u 1 hu (by omega)
  have hb : u ||| 1 < 18446744073709551616 := by rw [or_one_nat]; omega
  have hc := Go.Proofs.Try.bits_Len64 ((u ||| 1 : Nat) : Int) w (by omega) (by omega)
  rw [Int.toNat_natCast] at hc
  obtain ⟨m, hm⟩ : ∃ m, Lib.bitLen (u ||| 1) = m := ⟨_, rfl⟩
  rw [hm] at hl hc
  obtain ⟨x, hx⟩ : ∃ x, u ||| 1 = x := ⟨_, rfl⟩
  rw [hx] at ho hc hb
  obtain ⟨q, hq⟩ : ∃ q, (num u).length = q := ⟨_, rfl⟩
  rw [hq] at hl hle ⊢
  have hm2 : m ≤ 100 := by omega
  have HL := Lib.hid hl
  have HC := Lib.hid hc
  clear hl hc hm hx hq hb
  go_enter Try.func40, Try.ntmps40
  go_wp2_with fail
  refine HC.out.mono ?_
  rintro e w' ⟨rfl, rfl⟩
  go_wp2
  go_ret
  exact ⟨ret_int (by rw [HL.out]; push_cast; omega), rfl⟩

theorem Try.info5 : (Try.prog.info? 5).map (fun i => (i.zero, i.size, i.bytes)) = some (some (.int .u8 0), 1, 1) := by kernel_rfl

/-- Bytes as cells. -/
def cells8 (l : List UInt8) : List Value := l.map fun b => .int .u8 b.toNat

/-- A slice that owns a row with room. -/
def Spare (w : World) (g n cap : Nat) (l : List UInt8) : Prop := w.ownsRow 0 5 1 (.slice (some ⟨g, 0, none⟩) n cap) n (cells8 l)

set_option maxHeartbeats 400000 in
theorem wrNum (g cap : Nat) : ∀ (u : Nat), u < 18446744073709551616 → ∀ (n : Nat) (l : List UInt8) (w : World), Spare w g n cap l → n + (num u).length ≤ cap →
    Calls Try.prog 39 #[.slice (some ⟨g, 0, none⟩) n cap, .int .u64 u] w
      fun e w' => e = .returned (.slice (some ⟨g, 0, none⟩) (n + (num u).length) cap) ∧ Spare w' g (n + (num u).length) cap (l ++ num u) ∧ w.grownBy w' (some g) := by
  intro u hu n l w hs hr
  have HS := Lib.hid hs; clear hs
  have HR := Lib.hid hr; clear hr
  go_enter Try.func39, Try.ntmps39
  go_wp2
  go_loopw [0, 1] (fun b t wr => ∃ (m : Nat) (v : Nat) (l' : List UInt8), b = .slice (some ⟨g, 0, none⟩) m cap ∧ t = .int .u64 v ∧ v < 18446744073709551616 ∧ m + (num v).length = n + (num u).length ∧ l' ++ num v = l ++ num u ∧ Spare wr g m cap l' ∧ w.grownBy wr (some g)) (fun _ t _ => (intOf t).toNat)
  case atStart => exact ⟨n, u, l, rfl, rfl, hu, rfl, rfl, HS.out, ⟨rfl, rfl, rfl, Nat.le_refl _, fun _ _ _ => rfl⟩⟩
  case round =>
    obtain ⟨m, v, l', rfl, rfl, hv, hm, hl, hsp, hg⟩ := hrel
    have HM := Lib.hid hm; clear hm
    have HLL := Lib.hid hl; clear hl
    have HSP := Lib.hid hsp; clear hsp
    obtain ⟨i0, hi, hz0, hz1, hz2⟩ := info_parts Try.info5
    by_cases h : v < 128
    · have hd : decide (128 ≤ (v : Int)) = false := by simp; omega
      have hlv : (num v).length = 1 := by rw [num_lt v h]; rfl
      have e8 : ((UInt8.ofNat v).toNat : Int) = v := by simp; omega
      have hroom : m + 1 ≤ cap := by have h1 := HM.out; have h2 := HR.out; omega
      have hown : wr.ownsRow 0 5 1 (.slice (some ⟨g, 0, none⟩) m cap) m (cells8 l') := HSP.out
      have HE : Hid (((UInt8.ofNat v).toNat : Int) = v) := e8
      have HLV : Hid ((num v).length = 1) := hlv
      have HOWN := Lib.hid hown
      clear e8 hlv hown
      go_wp2_with ((at_builtin; refine wpList_append_own_spare _ rfl (.tmp 16) (.tmp 19) 27 rfl 0 5 i0 1 Try.underlying27 hi hz1 g m cap _ rfl (HOWN.out.alloc _) ⟨wr.heap.size, 0, none⟩ 1 1 [.int .u8 v] rfl rfl (cell_one_new _ _ _) (by intro u hu; simp at hu; subst hu; rfl) hroom ?_; intro w1 hown1 hgrow1))
      have HO1 := Lib.hid hown1
      clear hown1 HOWN HSP
      go_wp2
      go_ret
      have e1 : n + (num u).length = m + 1 := by have h1 := HM.out; have h2 := HLV.out; omega
      have e2 : l ++ num u = l' ++ [UInt8.ofNat v] := by rw [← HLL.out, num_lt v h]
      refine ⟨by rw [e1]; rfl, ?_, gtrans hg (gtrans (World.grownBy_alloc _ _ _) hgrow1)⟩
      rw [e1, e2]
      have := HO1.out
      unfold Spare cells8 at *
      rw [List.map_append, List.map_cons, List.map_nil, HE.out]
      exact this
    · have hd : decide (128 ≤ (v : Int)) = true := by simp; omega
      have hroom : m + 1 ≤ cap := by have h1 := HM.out; have h2 := HR.out; have := num_pos v; omega
      have hown : wr.ownsRow 0 5 1 (.slice (some ⟨g, 0, none⟩) m cap) m (cells8 l') := HSP.out
      have HOWN := Lib.hid hown
      clear hown
      go_wp2_with ((at_builtin; refine wpList_append_own_spare _ rfl (.tmp 7) (.tmp 12) 27 rfl 0 5 i0 1 Try.underlying27 hi hz1 g m cap _ rfl (HOWN.out.alloc _) ⟨wr.heap.size, 0, none⟩ 1 1 [.int .u8 (v % 128 + 128)] rfl rfl (cell_one_new _ _ _) (by intro u hu; simp at hu; subst hu; rfl) hroom ?_; intro w1 hown1 hgrow1))
      have HO1 := Lib.hid hown1
      clear hown1 HOWN HSP
      have e8 : ((UInt8.ofNat (v % 128 + 128)).toNat : Int) = (v : Int) % 128 + 128 := by simp; omega
      refine ⟨⟨m + 1, v / 128, l' ++ [UInt8.ofNat (v % 128 + 128)], rfl, by congr 1, by omega, ?_, ?_, ?_, gtrans hg (gtrans (World.grownBy_alloc _ _ _) hgrow1)⟩, by simp [intOf]; omega⟩
      · have h1 := HM.out; rw [num_ge v h, List.length_cons] at h1; omega
      · rw [← HLL.out, num_ge v h, List.append_assoc]; rfl
      · have := HO1.out
        unfold Spare cells8 at *
        rw [List.map_append, List.map_cons, List.map_nil, e8]
        exact this

end Go.Proofs.Ytkecoohplpbgnaa
