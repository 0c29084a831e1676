import Derived.Test.YtalejaklggnnpaaGreatDoorCg
import Derived.Test.YtalejaklggnnpaaGreatDoorVs
/- Layer 9: isReference, validVType and its closure. -/
namespace Go.Proofs.YtalejaklggnnpaaGreatDoor.I
open Go.ChangeShapes Go.WideShapes Go.ChangeAt Go.RowKit Go.PlainAid
set_option linter.unusedSimpArgs false
set_option linter.unusedVariables false
theorem fits_tg {L : List Cn} (h : Fits L) (i t : Int) : (tgC L i t).s.size ≤ 140737488351232 := by
 unfold tgC
 split
 ·
  split
  ·
   exact fits_at h i
  ·
   decide
 ·
  decide
def rfB (L : List Cn) (i : Int) (arr : Bool) : Bool :=
 if tgE L i 1 = 0 then (if paE (tgC L i 1).s = 0 then (if paD (tgC L i 1).s = 0 ∧ paB (tgC L i 1).s = 76 then true else arr && decide (0 < paD (tgC L i 1).s)) else false) else false
theorem rf_1 {L : List Cn} {i : Int} {arr : Bool} (h : ¬ tgE L i 1 = 0) : rfB L i arr = false := by unfold rfB; rw [if_neg h]
theorem rf_2 {L : List Cn} {i : Int} {arr : Bool} (h : tgE L i 1 = 0) (h1 : ¬ paE (tgC L i 1).s = 0) : rfB L i arr = false := by unfold rfB; rw [if_pos h, if_neg h1]
theorem rf_3 {L : List Cn} {i : Int} {arr : Bool} (h : tgE L i 1 = 0) (h1 : paE (tgC L i 1).s = 0) (h2 : paD (tgC L i 1).s = 0) (h3 : paB (tgC L i 1).s = 76) : rfB L i arr = true := by unfold rfB; rw [if_pos h, if_pos h1, if_pos ⟨h2, h3⟩]
theorem rf_4 {L : List Cn} {i : Int} {arr : Bool} (h : tgE L i 1 = 0) (h1 : paE (tgC L i 1).s = 0) (h2 : ¬ (paD (tgC L i 1).s = 0 ∧ paB (tgC L i 1).s = 76)) : rfB L i arr = (arr && decide (0 < paD (tgC L i 1).s)) := by unfold rfB; rw [if_pos h, if_pos h1, if_neg h2]
set_option maxRecDepth 100000 in
set_option maxHeartbeats 8000000 in
theorem rf_any {A : Option Addr} {n cap : Nat} {L : List Cn} (i : Int) (arr : Bool) (w : World) (hS : Fits L) (hn : L.length = n) (hN : n ≤ 100000) (hp : Pool w w.heap.size A L) :
  Calls Tryz.prog 114 #[.slice A n cap, .int .i64 i, .bool arr] w fun e w' => e = .returned (.bool (rfB L i arr)) ∧ Below w.heap.size w w' := by
 have HS := Lib.hid (fits_tg hS i 1)
 have HP := Lib.hid hp
 have HN := Lib.hid hn
 clear hS hp hn
 obtain ⟨r, hr⟩ : ∃ r, rfB L i arr = r := ⟨_, rfl⟩
 have HR := Lib.hid hr
 rw [hr]
 obtain ⟨te, hte⟩ : ∃ x, tgE L i 1 = x := ⟨_, rfl⟩
 have HTE := Lib.hid hte
 obtain ⟨s, hs⟩ : ∃ x, (tgC L i 1).s = x := ⟨_, rfl⟩
 have HSS := Lib.hid hs
 obtain ⟨pe, hpe⟩ : ∃ x, paE s = x := ⟨_, rfl⟩
 have HPE := Lib.hid hpe
 obtain ⟨pd, hpd⟩ : ∃ x, paD s = x := ⟨_, rfl⟩
 have HPD := Lib.hid hpd
 obtain ⟨pb, hpb⟩ : ∃ x, paB s = x := ⟨_, rfl⟩
 have HPB := Lib.hid hpb
 rw [hs] at HS
 clear hr hte hs hpe hpd hpb
 by_cases hE : te = 0
 ·
  have HE := Lib.hid (show tgE L i 1 = 0 by rw [HTE.out]; exact hE)
  rw [hE] at HTE
  by_cases h1 : pe = 0
  ·
   have H1 := Lib.hid (show paE (tgC L i 1).s = 0 by rw [HSS.out, HPE.out]; exact h1)
   rw [h1] at HPE
   by_cases h2 : pd = 0
   ·
    rw [h2] at HPD
    by_cases h3 : pb = 76
    ·
     rw [h3] at HPB
     have H := Lib.hid (rf_3 (arr := arr) HE.out H1.out (by rw [HSS.out, HPD.out]) (by rw [HSS.out, HPB.out]))
     clear h1 h2 h3 hE
     go_enter Tryz.func114, Tryz.ntmps114
     go_wp2_with (first | (go_at_call 153; refine (utf_any i HN.out hN HP.out _ (Below.refl _ _)).mono ?_; rintro e w1 ⟨rfl, hb1⟩; rw [HTE.out, HSS.out]) | (go_at_call 110; refine (parse_any s (by have := HS.out; omega) _).mono ?_; rintro e w3 ⟨rfl, hb3⟩; rw [HPE.out, HPB.out, HPD.out]))
     go_ret
     exact ⟨by rw [← HR.out, H.out]; rfl, below_al (below_on hb1 hb3) _⟩
    ·
     have H := Lib.hid (rf_4 (arr := arr) HE.out H1.out (fun e => h3 (by rw [← HPB.out, ← HSS.out]; exact e.2)))
     have e3 : (pb == 76) = false := by simpa using h3
     have H9 := Lib.hid (show r = false by rw [← HR.out, H.out, HSS.out, HPD.out]; simp)
     clear h1 h2 h3 hE
     cases arr with
     | true =>
      go_enter Tryz.func114, Tryz.ntmps114
      go_wp2_with (first | (go_at_call 153; refine (utf_any i HN.out hN HP.out _ (Below.refl _ _)).mono ?_; rintro e w1 ⟨rfl, hb1⟩; rw [HTE.out, HSS.out]) | (go_at_call 110; refine (parse_any s (by have := HS.out; omega) _).mono ?_; rintro e w3 ⟨rfl, hb3⟩; rw [HPE.out, HPB.out, HPD.out]))
      go_ret
      exact ⟨by rw [H9.out]; rfl, below_al (below_on hb1 hb3) _⟩
     | false =>
      go_enter Tryz.func114, Tryz.ntmps114
      go_wp2_with (first | (go_at_call 153; refine (utf_any i HN.out hN HP.out _ (Below.refl _ _)).mono ?_; rintro e w1 ⟨rfl, hb1⟩; rw [HTE.out, HSS.out]) | (go_at_call 110; refine (parse_any s (by have := HS.out; omega) _).mono ?_; rintro e w3 ⟨rfl, hb3⟩; rw [HPE.out, HPB.out, HPD.out]))
      go_ret
      exact ⟨by rw [H9.out]; rfl, below_al (below_on hb1 hb3) _⟩
   ·
    have H := Lib.hid (rf_4 (arr := arr) HE.out H1.out (fun e => h2 (by rw [← HPD.out, ← HSS.out]; exact e.1)))
    have e2 : (pd == 0) = false := by simpa using h2
    cases arr with
    | false =>
     have H9 := Lib.hid (show r = false by rw [← HR.out, H.out]; rfl)
     clear h1 hE
     go_enter Tryz.func114, Tryz.ntmps114
     go_wp2_with (first | (go_at_call 153; refine (utf_any i HN.out hN HP.out _ (Below.refl _ _)).mono ?_; rintro e w1 ⟨rfl, hb1⟩; rw [HTE.out, HSS.out]) | (go_at_call 110; refine (parse_any s (by have := HS.out; omega) _).mono ?_; rintro e w3 ⟨rfl, hb3⟩; rw [HPE.out, HPB.out, HPD.out]))
     go_ret
     exact ⟨by rw [H9.out]; rfl, below_al (below_on hb1 hb3) _⟩
    | true =>
     have H9 := Lib.hid (show r = decide (0 < pd) by rw [← HR.out, H.out, HSS.out, HPD.out]; simp)
     clear h1 hE
     go_enter Tryz.func114, Tryz.ntmps114
     go_wp2_with (first | (go_at_call 153; refine (utf_any i HN.out hN HP.out _ (Below.refl _ _)).mono ?_; rintro e w1 ⟨rfl, hb1⟩; rw [HTE.out, HSS.out]) | (go_at_call 110; refine (parse_any s (by have := HS.out; omega) _).mono ?_; rintro e w3 ⟨rfl, hb3⟩; rw [HPE.out, HPB.out, HPD.out]))
     go_ret
     exact ⟨by rw [H9.out]; rfl, below_al (below_on hb1 hb3) _⟩
  ·
   have H := Lib.hid (rf_2 (arr := arr) HE.out (by rw [HSS.out, HPE.out]; exact h1))
   have e1 : (pe == 0) = false := by simpa using h1
   clear hE
   go_enter Tryz.func114, Tryz.ntmps114
   go_wp2_with (first | (go_at_call 153; refine (utf_any i HN.out hN HP.out _ (Below.refl _ _)).mono ?_; rintro e w1 ⟨rfl, hb1⟩; rw [HTE.out, HSS.out]) | (go_at_call 110; refine (parse_any s (by have := HS.out; omega) _).mono ?_; rintro e w3 ⟨rfl, hb3⟩; rw [HPE.out, HPB.out, HPD.out]))
   go_ret
   exact ⟨by rw [← HR.out, H.out]; rfl, below_al (below_on hb1 hb3) _⟩
 ·
  have H := Lib.hid (rf_1 (arr := arr) (show ¬ tgE L i 1 = 0 by rw [HTE.out]; exact hE))
  have e0 : (te != 0) = true := by simpa using hE
  go_enter Tryz.func114, Tryz.ntmps114
  go_wp2_with (go_at_call 153; refine (utf_any i HN.out hN HP.out _ (Below.refl _ _)).mono ?_; rintro e w1 ⟨rfl, hb1⟩; rw [HTE.out, HSS.out])
  go_ret
  exact ⟨by rw [← HR.out, H.out]; rfl, hb1⟩
/-- what validVType says of a verification type -/
def vkB (c : Cd) (v : VT) : Bool := if v.k = 5 then (match c.is[v.n.toNat]? with | some i => exB c.n v.n && (i.op == 67) | none => false) else v.n == 0
def vpB (L : List Cn) (v : VT) : Bool := if v.k = 0 ∨ v.k = 1 ∨ v.k = 2 ∨ v.k = 3 then v.p == 0 else if v.k = 4 ∨ v.k = 5 ∨ v.k = 6 then rfB L v.p (v.k == 4) else false
def vvT (L : List Cn) (c : Cd) (v : VT) : Bool := tyE v.ty tyZ && (vkB c v && vpB L v)
theorem vv_1 {L : List Cn} {c : Cd} {v : VT} (h : tyE v.ty tyZ = false) : vvT L c v = false := by unfold vvT; rw [h]; rfl
theorem vv_2 {L : List Cn} {c : Cd} {v : VT} (h : vkB c v = false) : vvT L c v = false := by unfold vvT; rw [h]; simp
theorem vv_3 {L : List Cn} {c : Cd} {v : VT} (h : tyE v.ty tyZ = true) (h1 : vkB c v = true) : vvT L c v = vpB L v := by unfold vvT; rw [h, h1]; simp
theorem vk_n5 {c : Cd} {v : VT} (h : ¬ v.k = 5) : vkB c v = (v.n == 0) := by unfold vkB; rw [if_neg h]
theorem vk_5a {c : Cd} {v : VT} (h : v.k = 5) (h1 : exB c.n v.n = false) : vkB c v = false := by
 unfold vkB; rw [if_pos h, h1]; split <;> rfl
theorem vk_5b {c : Cd} {v : VT} {i : In} (h : v.k = 5) (h1 : exB c.n v.n = true) (hi : c.is[v.n.toNat]? = some i) : vkB c v = (i.op == 67) := by
 unfold vkB; rw [if_pos h, hi, h1]; simp
theorem vp_0 {L : List Cn} {v : VT} {k : Int} (hk : v.k = k) (h : k = 0 ∨ k = 1 ∨ k = 2 ∨ k = 3) : vpB L v = (v.p == 0) := by subst hk; unfold vpB; rw [if_pos h]
theorem vp_4 {L : List Cn} {v : VT} {k : Int} (hk : v.k = k) (h : k = 4 ∨ k = 5 ∨ k = 6) : vpB L v = rfB L v.p (k == 4) := by subst hk; unfold vpB; rw [if_neg (by omega), if_pos h]
theorem vp_o {L : List Cn} {v : VT} {k : Int} (hk : v.k = k) (h : ¬ (k = 0 ∨ k = 1 ∨ k = 2 ∨ k = 3)) (h1 : ¬ (k = 4 ∨ k = 5 ∨ k = 6)) : vpB L v = false := by subst hk; unfold vpB; rw [if_neg h, if_neg h1]
end Go.Proofs.YtalejaklggnnpaaGreatDoor.I
