/- Layer 8: the chapter's examples. -/
import Derived.Test.YtpghkdmljanncaaInDx
import Derived.KernelRfl
namespace Go.Proofs.Ytpghkdmljanncaa
open Go.ChangeShapes Go.WideShapes Go.ChangeAt Go.RowKit Go.PlainAid
set_option linter.unusedSimpArgs false
set_option linter.unusedVariables false

theorem eqs_any {w : World} {B B' n m c d : Nat} {A A' : Option Addr} {L M : List Int} (hx : Row w B A L) (hn : L.length = n) (hy : Row w B' A' M) (hm : M.length = m) (h1 : n ≤ 1000000) (h2 : m ≤ 1000000) :
    Calls Try.prog 18 #[.slice A n c, .slice A' m d] w fun e w' => e = .returned (.bool (L == M)) ∧ ∃ q, w' = w.drewN q := by
  rcases hx with rfl | ⟨g, o, rfl, hg, hc⟩
  · obtain rfl : n = 0 := hn.symm
    refine (Try.slices_Equal_int_empty A A' c m d w (by omega)).mono ?_
    rintro e w' ⟨rfl, rfl⟩
    refine ⟨?_, 0, rfl⟩
    cases M with
    | nil => obtain rfl : m = 0 := hm.symm
             rfl
    | cons y r => rw [decide_eq_false (by rw [← hm]; simp)]; rfl
  · rcases hy with rfl | ⟨g', o', rfl, hg', hc'⟩
    · obtain rfl : m = 0 := hm.symm
      rcases Nat.eq_zero_or_pos n with h0 | h0
      · subst h0
        obtain rfl := List.eq_nil_of_length_eq_zero hn
        exact (Try.slices_Equal_int_empty _ A' c 0 d w (by omega)).mono (by rintro e w' ⟨rfl, rfl⟩; exact ⟨rfl, 0, rfl⟩)
      · refine (Try.slices_Equal_int_lens _ A' n c 0 d w (by omega)).mono ?_
        rintro e w' ⟨rfl, h⟩
        cases L with
        | nil => simp at hn; omega
        | cons x r => exact ⟨rfl, 0, h⟩
    · have h := Try.slices_Equal_int g o n c g' o' m d L M w (by omega) (by omega) (by omega) (by omega) (fun j hj => by
        rw [List.getD_eq_getElem?_getD, List.getElem?_eq_getElem hj]
        exact hc j _ (List.getElem?_eq_getElem hj)) (fun j hj => by
        rw [List.getD_eq_getElem?_getD, List.getElem?_eq_getElem hj]
        exact hc' j _ (List.getElem?_eq_getElem hj))
      rw [List.take_of_length_le (by omega), List.take_of_length_le (by omega)] at h
      exact h

def LW : List In := [inP 2 (-1) 0 0, inP 52 0 0 0]
theorem wk_1 : enE LW = 0 ∧ ofE LW = 0 ∧ ofP LW = [0, 2, 5] ∧ chkE LW = 0 := ⟨by kernel_rfl, by kernel_rfl, by kernel_rfl, by kernel_rfl⟩
theorem wk_2 : (enS LW).toList = [2, 255, 52, 0, 0] ∧ (enS LW).size = 5 := ⟨by kernel_rfl, by kernel_rfl⟩
def inT (A : Option Addr) : In := ⟨53, 7, 0, 0, none, 0, 0, [], A, 1, 1, [0], ⟨#[]⟩, ⟨#[]⟩, ⟨#[]⟩, ⟨#[]⟩⟩
theorem wk_3 (A : Option Addr) : enE [inT A] = 0 ∧ (enS [inT A]).size = 11 := ⟨by kernel_rfl, by kernel_rfl⟩
theorem wk_4 : rdV ⟨#[0]⟩ 0 1 false = 0 ∧ rdB ⟨#[0]⟩ 0 1 = true := ⟨by kernel_rfl, by kernel_rfl⟩
theorem wk_5 : rdV ⟨#[2]⟩ 0 1 false = 2 ∧ rdB ⟨#[2]⟩ 0 1 = true ∧ rdB ⟨#[2]⟩ 1 1 = false := ⟨by kernel_rfl, by kernel_rfl, by kernel_rfl⟩
theorem wk_6 : rdV ⟨#[250]⟩ 0 1 false = 250 ∧ rdB ⟨#[250]⟩ 0 1 = true := ⟨by kernel_rfl, by kernel_rfl⟩
theorem wk_7 : rdV ⟨#[52, 0, 1]⟩ 0 1 false = 52 ∧ rdB ⟨#[52, 0, 1]⟩ 0 1 = true ∧ rdB ⟨#[52, 0, 1]⟩ 1 2 = true ∧ rdV ⟨#[52, 0, 1]⟩ 1 2 false = 1 := ⟨by kernel_rfl, by kernel_rfl, by kernel_rfl, by kernel_rfl⟩

end Go.Proofs.Ytpghkdmljanncaa
