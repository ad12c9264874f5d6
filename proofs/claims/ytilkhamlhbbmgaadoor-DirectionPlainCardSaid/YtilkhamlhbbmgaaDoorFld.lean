/- Words of code points; what strings.FieldsFunc makes of a text. -/
import Derived.Test.YtilkhamlhbbmgaaDoorUtf
import Derived.Lib.FieldsP
namespace Go.Proofs.YtilkhamlhbbmgaaDoor

/-- The words, with one that is under way. -/
def flds (sp : Int → Bool) : List Int → List Int → List (List Int)
  | cur, [] => if cur = [] then [] else [cur]
  | cur, r :: l => if sp r then (if cur = [] then flds sp [] l else cur :: flds sp [] l) else flds sp (cur ++ [r]) l
theorem spans_flds (sp : Int → Bool) (s : ByteArray) : ∀ (l pre cur : List Int) (acc : List (Nat × Nat)) (f : Nat), (∀ r ∈ l, okPt r = true) → s = str (encs pre ++ encs cur ++ encs l) → (encs l).length ≤ f →
    (Lib.closeSpans s (Lib.spansFromP (fun x => sp (x : Int)) s f (encs pre ++ encs cur).length (if cur = [] then none else some (encs pre).length) acc)).map (fun x => s.extract x.1 x.2) = acc.map (fun x => s.extract x.1 x.2) ++ (flds sp cur l).map (fun w => str (encs w))
  | [], pre, cur, acc, f, hok, hs, hf => by
    have hsz : s.size = (encs pre ++ encs cur).length := by rw [hs, str_size]; simp [encs]
    rw [Lib.spansFromP_end _ _ _ _ _ _ (by omega)]
    unfold flds Lib.closeSpans
    by_cases hc : cur = []
    · simp [hc]
    · simp only [if_neg hc, List.map_append, List.map_cons, List.map_nil]
      congr 2
      rw [hsz, hs, str_extract]
      simp [encs_nil]
  | r :: l, pre, cur, acc, f, hok, hs, hf => by
    have hr := hok r (by simp)
    have ho := okPt_iff.1 hr
    have hl := enc_len r
    rw [encs_cons, List.length_append] at hf
    obtain ⟨f, rfl⟩ : ∃ g, f = g + 1 := ⟨f - 1, by omega⟩
    have hsz : s.size = (encs pre ++ encs cur).length + ((enc r).length + (encs l).length) := by rw [hs, str_size, encs_cons, List.length_append, List.length_append (as := enc r)]
    have hd : Utf8.decode s (encs pre ++ encs cur).length = (r.toNat, (enc r).length) := by rw [hs, dcd_at, encs_cons, dcd_enc hr]
    have hrz : ((r.toNat : Nat) : Int) = r := by omega
    have hok2 : ∀ x ∈ l, okPt x = true := fun x hx => hok x (by simp [hx])
    unfold Lib.spansFromP flds
    rw [if_pos (by omega), hd]
    dsimp only
    rw [hrz]
    by_cases hsp : sp r = true
    · rw [if_pos hsp, if_pos hsp]
      by_cases hc : cur = []
      · subst hc
        rw [if_pos rfl, if_pos rfl]
        dsimp only
        have ih := spans_flds sp s l (pre ++ [r]) [] acc f hok2 (by rw [hs]; simp [encs_app, encs_cons, encs_nil]) (by omega)
        rw [if_pos rfl] at ih
        rw [← ih]
        simp [encs_app, encs_one, encs_nil]
      · rw [if_neg hc, if_neg hc]
        dsimp only
        have ih := spans_flds sp s l (pre ++ cur ++ [r]) [] (acc ++ [((encs pre).length, (encs pre ++ encs cur).length)]) f hok2 (by rw [hs]; simp [encs_app, encs_cons, encs_nil]) (by omega)
        rw [if_pos rfl] at ih
        rw [show (encs (pre ++ cur ++ [r]) ++ encs []).length = (encs pre ++ encs cur).length + (enc r).length by simp [encs_app, encs_one, encs_nil]; omega] at ih
        rw [ih, List.map_append, List.map_cons, List.map_nil, List.append_assoc]
        congr 1
        rw [List.map_cons, List.singleton_append]
        congr 1
        rw [hs, str_extract]
        simp
    · rw [if_neg hsp, if_neg hsp]
      by_cases hc : cur = []
      · subst hc
        rw [if_pos rfl]
        dsimp only
        have ih := spans_flds sp s l pre [r] acc f hok2 (by rw [hs]; simp [encs_cons, encs_nil]) (by omega)
        rw [if_neg (by simp)] at ih
        rw [show ([] : List Int) ++ [r] = [r] from rfl, ← ih]
        simp [encs_one, encs_nil]
      · rw [if_neg hc]
        dsimp only
        have ih := spans_flds sp s l pre (cur ++ [r]) acc f hok2 (by rw [hs]; simp [encs_app, encs_cons, encs_nil]) (by omega)
        rw [if_neg (by simp)] at ih
        rw [show (encs pre ++ encs (cur ++ [r])).length = (encs pre ++ encs cur).length + (enc r).length by simp [encs_app, encs_one]; omega] at ih
        rw [ih]
/-- The words of a text. -/
theorem goFields_flds (sp : Int → Bool) (l : List Int) (h : ∀ r ∈ l, okPt r = true) : Lib.goFieldsP (fun x => sp (x : Int)) (str (encs l)) = (flds sp [] l).map (fun w => str (encs w)) := by
  have := spans_flds sp (str (encs l)) l [] [] [] (str (encs l)).size h (by simp [encs_nil]) (by rw [str_size]; omega)
  simpa [encs_nil, Lib.goFieldsP, Lib.spansOfP] using this
end Go.Proofs.YtilkhamlhbbmgaaDoor
