/- ref.numeral and ref.unsigned. -/
import Derived.Test.YtkecoohplpbgnaaRefForm
import Derived.Test.YtkecoohplpbgnaaEnc
import Derived.Test.YtkecoohplpbgnaaPure
import Derived.Deep.AppendLies
namespace Go.Proofs.Ytkecoohplpbgnaa
open Go.RowKit

/-- A call that ends in a new row. -/
def NewPost (w : World) (l : List UInt8) (e : Ending) (w' : World) : Prop := ∃ v, e = .returned v ∧ Made w l v w'

theorem own_below' {W W' : World} {B e size n : Nat} {v : Value} {xs : List Value} (h : W.ownsRow B e size v n xs) (hb : Below W.heap.size W W') : W'.ownsRow B e size v n xs := by
  refine World.ownsRow.kept h (gbelow (row := none) hb) ?_
  by_cases he : v.ownBlock = none
  · exact .inl he
  · exact .inr he

theorem made_of {w W : World} {g n cap : Nat} {l : List UInt8} (h : W.ownsRow w.heap.size 5 1 (.slice (some ⟨g, 0, none⟩) n cap) n (cells8 l)) (hn : n = l.length) (hb : Below w.heap.size w W) :
    Made w l (.slice (some ⟨g, 0, none⟩) n cap) W := by
  subst hn
  have hl := h.lt g rfl
  refine ⟨g, cap, rfl, hl.1, ⟨h.1, ?_⟩, hb⟩
  rcases h.2 with ⟨h1, _⟩ | ⟨g', cap', cur, h1, h2, h3⟩
  · cases h1
  · exact .inr ⟨g', cap', cur, h1, Nat.zero_le _, h3⟩

/-- A row of one byte, written out. -/
theorem lit1 (w : World) (b : Nat) (hb : b < 256) : (w.alloc (Obj.cells #[Value.int IntKind.u8 (b : Int)] 5)).ownsRow w.heap.size 5 1 (.slice (some ⟨w.heap.size, 0, none⟩) 1 1) 1 (cells8 [UInt8.ofNat b]) := by
  have h : cells8 [UInt8.ofNat b] = [Value.int IntKind.u8 (b : Int)] := by simp [cells8, u8_nat _ hb]
  rw [h]
  exact World.ownsRow_lit w #[Value.int IntKind.u8 (b : Int)] 1 (Nat.le_refl _) (by unfold maxLen; omega) rfl

set_option maxRecDepth 100000 in
set_option maxHeartbeats 400000 in
theorem rnum_1 (u : Nat) (hu : u < 128) (w : World) : Calls Try.prog 41 #[.int .u64 u] w (NewPost w (num u)) := by
  have hd : decide (u < 128) = true := by simpa using hu
  go_enter Try.func41, Try.ntmps41
  go_wp2
  go_ret
  rw [num_lt u hu]
  exact ⟨_, rfl, made_of (lit1 w u (by omega)) rfl ((Below.refl _ _).alloc (Nat.le_refl _) _)⟩

set_option maxRecDepth 100000 in
set_option maxHeartbeats 400000 in
theorem rnum_2 (u : Nat) (hu : ¬ u < 128) (hu2 : u < 18446744073709551616) (ih : ∀ w, Calls Try.prog 41 #[.int .u64 ((u / 128 : Nat) : Int)] w (NewPost w (num (u / 128)))) (w : World) : Calls Try.prog 41 #[.int .u64 u] w (NewPost w (num u)) := by
  have hd : decide (u < 128) = false := by simpa using hu
  have f1 : (u : Int) / 128 = ((u / 128 : Nat) : Int) := by omega
  have f2 : (u : Int) % 128 + 128 = ((u % 128 + 128 : Nat) : Int) := by omega
  have F1 := Lib.hid f1
  have F2 := Lib.hid f2
  clear f1 f2
  have hlen := num_len64 u hu2
  have hn := num_ge u (by omega)
  rw [hn, List.length_cons] at hlen
  rw [hn]
  clear hn
  have hp := num_pos (u / 128)
  have hlit0 := fun W : World => lit1 W (u % 128 + 128) (by omega)
  obtain ⟨b0, hb0⟩ : ∃ b0, UInt8.ofNat (u % 128 + 128) = b0 := ⟨_, rfl⟩
  rw [hb0] at hlit0 ⊢
  have HL0 := Lib.hid hlit0
  clear hb0 hlit0
  obtain ⟨E, hE⟩ : ∃ E, num (u / 128) = E := ⟨_, rfl⟩
  rw [hE] at ih hlen hp ⊢
  have IH := Lib.hid ih
  clear hE ih
  obtain ⟨i0, hi, hz0, hz2, hz3⟩ := info_parts Try.info5
  go_enter Try.func41, Try.ntmps41
  go_wp2_with fail
  rw [F1.out, F2.out]
  refine (IH.out _).mono ?_
  rintro e w3 ⟨v, rfl, g, cap, rfl, hg, hs, hb⟩
  have HS := Lib.hid hs
  have hlit := own_below' (HL0.out w) hb
  have HL := Lib.hid hlit
  have hB : Below w.heap.size w w3 := ((Below.refl _ _).alloc (Nat.le_refl _) _).trans (hb.mono (by simp))
  have hsz := hB.size
  clear hs hlit hb hd
  go_wp2_with ((at_builtin; refine wpList_append_lies _ rfl (.tmp 12) (.tmp 15) 27 rfl w.heap.size 5 i0 _ 1 1 Try.underlying27 hi hz0 hz2 hz3 rfl (by omega) (.slice (some ⟨w.heap.size, 0, none⟩) 1 1) 1 (cells8 [b0]) rfl HL.out ⟨g, 0, none⟩ E.length cap (cells8 E) rfl (by simp [cells8]) (World.ownsRow.cells HS.out (g := g) rfl) (by simp [cells8, Value.oneCell']) hp (by unfold maxLen; omega) (by omega) hsz w3.heap.size rfl ?_; intro g2 cap2 w4 hown4 hgr4 hat4 hlt4))
  have hB4 : Below w.heap.size w w4 := Below.grown hB hgr4 hsz (fun k hk => Nat.le_of_eq (by simpa [Value.ownBlock] using hk))
  clear hgr4 hat4 hlt4
  go_wp2
  go_ret
  exact ⟨_, rfl, made_of (l := b0 :: E) hown4 (by simp; omega) hB4⟩

theorem rnum_any : ∀ (u : Nat), u < 18446744073709551616 → ∀ (w : World), Calls Try.prog 41 #[.int .u64 u] w (NewPost w (num u)) := by
  intro u
  induction u using Nat.strongRecOn with
  | _ u ih =>
    intro hu w
    by_cases h : u < 128
    · exact rnum_1 u h w
    · exact rnum_2 u h hu (ih (u / 128) (by omega) (by omega)) w

set_option maxHeartbeats 400000 in
theorem runs_any (n : Int) (h : In64 n) (w : World) : Calls Try.prog 42 #[.int .i64 n] w fun e w' => e = .returned (.int .u64 (zig n)) ∧ Below w.heap.size w w' := by
  by_cases hn : 0 ≤ n
  · have hd : decide (0 ≤ n) = true := by simpa using hn
    go_enter Try.func42, Try.ntmps42
    go_wp2
    go_ret
    refine ⟨ret_int ?_, Below.refl _ _⟩
    unfold In64 at h
    unfold zig
    simp only [IntKind.wrap_u64]
    split <;> omega
  · have hd : decide (0 ≤ n) = false := by simpa using hn
    go_enter Try.func42, Try.ntmps42
    go_wp2
    go_ret
    refine ⟨ret_int ?_, Below.refl _ _⟩
    unfold In64 at h
    unfold zig
    simp only [IntKind.wrap_u64, wrap64]
    split <;> omega
end Go.Proofs.Ytkecoohplpbgnaa
