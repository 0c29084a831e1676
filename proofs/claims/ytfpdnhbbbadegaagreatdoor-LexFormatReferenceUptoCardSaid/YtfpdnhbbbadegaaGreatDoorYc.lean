/- Layer 53: the text of a scanned token is scanned to the same token, pure. -/
import Derived.Test.YtfpdnhbbbadegaaGreatDoorYb
namespace Go.Proofs.YtfpdnhbbbadegaaGreatDoor
open Go.ChangeShapes Go.WideShapes Go.ChangeAt Go.RowKit Go.PlainAid
set_option linter.unusedSimpArgs false
set_option linter.unusedVariables false

def Sc.tup (t : Sc) : Int × List UInt8 × Int × Nat := (t.k, t.s, t.n, t.z)
theorem Sc.of_tup {x : Option Sc} {k n : Int} {s : List UInt8} {z : Nat} (h : x.map Sc.tup = some (k, s, n, z)) : x = some ⟨k, s, n, z⟩ := by
  cases x with
  | none => cases h
  | some t =>
    obtain ⟨k', s', n', z'⟩ := t
    simp only [Option.map_some, Option.some.injEq, Sc.tup, Prod.mk.injEq] at h
    obtain ⟨rfl, rfl, rfl, rfl⟩ := h
    rfl
theorem kw_sc : ∀ w ∈ kwL, (scL w).map Sc.tup = some (2, w, 0, w.length) := by decide +kernel
theorem op_sc : ∀ w ∈ opL, (scL w).map Sc.tup = some (6, w, 0, w.length) := by decide +kernel
theorem op_ne : ∀ w ∈ opL, w ≠ [] := by decide +kernel
theorem kw_ne : ∀ w ∈ kwL, w ≠ [] := by decide +kernel

/-! names -/
theorem name47 {c : UInt8} (h : nameB c = true) : c ≠ 47 ∧ c.toNat ≠ 47 := by
  have : c.toNat ≠ 47 := by
    intro e
    unfold nameB letB digB at h
    rw [e] at h
    simp at h
  exact ⟨fun e => this (by rw [e]; rfl), this⟩
theorem okL_all {p : List UInt8} (h : okL p = true) : ∀ c ∈ p, nameB c = true := by
  cases p with
  | nil => cases h
  | cons a p =>
    unfold okL at h
    rw [Bool.and_eq_true, List.all_eq_true] at h
    intro c hc
    rcases List.mem_cons.1 hc with rfl | hc
    · unfold nameB; rw [h.1]; rfl
    · exact h.2 c hc
theorem okL_ne {p : List UInt8} (h : okL p = true) : p ≠ [] := by
  rintro rfl; cases h
theorem tw_all {q : UInt8 → Bool} {p r : List UInt8} (h : ∀ c ∈ p, q c = true) (hr : r.takeWhile q = []) : (p ++ r).takeWhile q = p := by
  induction p with
  | nil => simpa using hr
  | cons a p ih =>
    rw [List.cons_append, List.takeWhile_cons, if_pos (h a List.mem_cons_self), ih (fun c hc => h c (List.mem_cons_of_mem _ hc))]
theorem part_ok {p r : List UInt8} (h : okL p = true) (hr : r.takeWhile nameB = []) : partL (p ++ r) = p.length := by
  cases p with
  | nil => cases h
  | cons a p =>
    have h1 := okL_all h
    unfold okL at h
    rw [Bool.and_eq_true] at h
    show (if lt8 a = true then 1 + ((p ++ r).takeWhile nameB).length else 0) = _
    rw [if_pos (show lt8 a = true from h.1), tw_all (fun c hc => h1 c (List.mem_cons_of_mem _ hc)) hr, List.length_cons]
    omega
theorem rp_no {p : List UInt8} (h : ∀ c ∈ p, nameB c = true) (r : List UInt8) : rpL (p ++ r) = p ++ rpL r := by
  induction p with
  | nil => rfl
  | cons a p ih =>
    have ha := (name47 (h a List.mem_cons_self)).2
    show (if a.toNat = 47 then [58, 58] else [a]) ++ rpL (p ++ r) = a :: p ++ rpL r
    rw [if_neg ha, ih (fun c hc => h c (List.mem_cons_of_mem _ hc))]
    rfl
theorem cls_split (w : List UInt8) (h : clsL w = true) : (okL w = true) ∨ ∃ p b, w = p ++ 47 :: b ∧ okL p = true ∧ clsL b = true := by
  by_cases h0 : ∀ x ∈ w, x ≠ 47
  · left; rwa [cls_no w h0] at h
  · right
    have key : ∀ w : List UInt8, ¬ (∀ x ∈ w, x ≠ 47) → ∃ p b, w = p ++ 47 :: b ∧ ∀ x ∈ p, x ≠ 47 := by
      intro w
      induction w with
      | nil => intro h; exact absurd (fun x hx => by cases hx) h
      | cons a w ih =>
        intro h
        by_cases ha : a = 47
        · exact ⟨[], w, by rw [ha]; rfl, fun x hx => by cases hx⟩
        · obtain ⟨p, b, rfl, hp⟩ := ih (fun h2 => h (fun x hx => by
            rcases List.mem_cons.1 hx with rfl | hx
            · exact ha
            · exact h2 x hx))
          exact ⟨a :: p, b, rfl, fun x hx => by
            rcases List.mem_cons.1 hx with rfl | hx
            · exact ha
            · exact hp x hx⟩
    obtain ⟨p, b, rfl, hp⟩ := key w h0
    rw [cls_cut p b hp, Bool.and_eq_true] at h
    exact ⟨p, b, rfl, h.1, h.2⟩
theorem tw58 (r : List UInt8) : (58 :: r).takeWhile nameB = [] := by rw [List.takeWhile_cons, show nameB 58 = false by decide]; rfl
/-- a name's text: its first part, and what stands behind -/
theorem nm_text : ∀ (n : Nat) (w : List UInt8), w.length ≤ n → clsL w = true → ∃ p : List UInt8, okL p = true ∧ partL (rpL w) = p.length ∧ (rpL w).take p.length = p ∧
    ∀ f, (rpL w).length ≤ f → (p ++ (nmGo f ((rpL w).drop p.length)).1 = w ∧ p.length + (nmGo f ((rpL w).drop p.length)).2 = (rpL w).length)
  | 0, w, hn, h => by
    obtain rfl := List.eq_nil_of_length_eq_zero (Nat.le_zero.1 hn)
    cases h
  | n + 1, w, hn, h => by
    rcases cls_split w h with h1 | ⟨p, b, rfl, hp, hb⟩
    · have e : rpL w = w := by
        have := rp_no (okL_all h1) []
        rwa [List.append_nil, show rpL [] = [] from rfl, List.append_nil] at this
      refine ⟨w, h1, ?_, by rw [e, List.take_length], fun f hf => ?_⟩
      · have := part_ok (r := []) h1 rfl
        rw [List.append_nil] at this
        rw [e, this]
      · rw [e, List.drop_length]
        have : nmGo f [] = ([], 0) := by cases f <;> rfl
        rw [this]
        simp
    · have e : rpL (p ++ 47 :: b) = p ++ 58 :: 58 :: rpL b := by rw [rp_no (okL_all hp)]; rfl
      obtain ⟨q, hq, k1, k2, k3⟩ := nm_text n b (by simp at hn; omega) hb
      refine ⟨p, hp, by rw [e]; exact part_ok hp (tw58 _), by rw [e]; exact List.take_left, fun f hf => ?_⟩
      rw [e] at hf ⊢
      rw [List.drop_left]
      simp only [List.length_append, List.length_cons] at hf ⊢
      cases f with
      | zero => omega
      | succ f =>
        have hqn : q.length ≠ 0 := fun h0 => okL_ne hq (List.eq_nil_of_length_eq_zero h0)
        have hgo : nmGo (f + 1) (58 :: 58 :: rpL b) = (47 :: (rpL b).take (partL (rpL b)) ++ (nmGo f ((rpL b).drop (partL (rpL b)))).1, 2 + partL (rpL b) + (nmGo f ((rpL b).drop (partL (rpL b)))).2) := by
          show (if [58, 58].isPrefixOf (58 :: 58 :: rpL b) = true then (if partL (rpL b) = 0 then _ else (47 :: (rpL b).take (partL (rpL b)) ++ (nmGo f ((58 :: 58 :: rpL b).drop (2 + partL (rpL b)))).1, 2 + partL (rpL b) + (nmGo f ((58 :: 58 :: rpL b).drop (2 + partL (rpL b)))).2)) else _) = _
          rw [if_pos (show [58, 58].isPrefixOf (58 :: 58 :: rpL b) = true from pfx_self [58, 58] (rpL b)), if_neg (by rw [k1]; exact hqn)]
          have : (58 :: 58 :: rpL b).drop (2 + partL (rpL b)) = (rpL b).drop (partL (rpL b)) := by rw [Nat.add_comm]; rfl
          rw [this]
        obtain ⟨j1, j2⟩ := k3 f (by omega)
        rw [hgo, k1, k2]
        refine ⟨by rw [List.cons_append, j1], by show p.length + (2 + q.length + _) = _; omega⟩
theorem nmT_text {w : List UInt8} (h : clsL w = true) : nmT (rpL w) = w ∧ nmZ (rpL w) = (rpL w).length := by
  obtain ⟨p, hp, k1, k2, k3⟩ := nm_text w.length w (Nat.le_refl _) h
  unfold nmT nmZ
  rw [k1, k2]
  exact k3 _ (Nat.le_refl _)
theorem cls_first {w : List UInt8} (h : clsL w = true) : ∃ c r, rpL w = c :: r ∧ lt8 c = true := by
  obtain ⟨p, hp, k1, k2, _⟩ := nm_text w.length w (Nat.le_refl _) h
  cases p with
  | nil => cases hp
  | cons a p =>
    cases hr : rpL w with
    | nil => rw [hr] at k2; simp at k2
    | cons c r =>
      rw [hr] at k2
      simp at k2
      refine ⟨c, r, rfl, ?_⟩
      unfold okL at hp
      rw [Bool.and_eq_true] at hp
      rw [k2.1]; exact hp.1

/-! numbers -/
theorem dg_of (d : Nat) (h : d < 10) : (UInt8.ofNat (48 + d)).toNat = 48 + d := by
  rw [UInt8.toNat_ofNat']; omega
def synN : Lib.NumEnd Nat := Lib.parseUintM 0 0 [0]
theorem synN_ok {v : Nat} : synN ≠ .ok v := by unfold synN Lib.parseUintM; rw [if_neg (by decide)]; intro h; cases h
theorem pu_cons (M acc : Nat) (c : UInt8) (r : List UInt8) : Lib.parseUintM M acc (c :: r) = if 48 ≤ c.toNat ∧ c.toNat ≤ 57 then (if 1844674407370955162 ≤ acc then .range else if M < acc * 10 + (c.toNat - 48) then .range else Lib.parseUintM M (acc * 10 + (c.toNat - 48)) r) else synN := rfl
theorem parse_app (M : Nat) : ∀ (a b : List UInt8) (acc v : Nat), Lib.parseUintM M acc a = .ok v → Lib.parseUintM M acc (a ++ b) = Lib.parseUintM M v b
  | [], b, acc, v, h => by
    have : acc = v := by unfold Lib.parseUintM at h; injection h
    rw [this]; rfl
  | c :: a, b, acc, v, h => by
    rw [List.cons_append, pu_cons]
    rw [pu_cons] at h
    split at h
    · rename_i h1
      rw [if_pos h1]
      split at h
      · cases h
      · rename_i h2
        rw [if_neg h2]
        split at h
        · cases h
        · rename_i h3
          rw [if_neg h3]
          exact parse_app M a b _ v h
    · cases h
theorem dec_facts (M : Nat) (u : Nat) (hu : u ≤ M) (hM : u < 18446744073709551616) : Lib.parseUintM M 0 (Lib.decDigits u) = .ok u ∧ (∀ c ∈ Lib.decDigits u, dg8 c = true) ∧ Lib.decDigits u ≠ [] ∧ (0 < u → (Lib.decDigits u).head? ≠ some 48) := by
  induction u using Nat.strongRecOn with
  | _ u ih =>
    by_cases h : u < 10
    · rw [Lib.decDigits, dif_pos h]
      have hd := dg_of u h
      refine ⟨?_, ?_, by simp, ?_⟩
      · unfold Lib.parseUintM
        rw [if_pos (by omega), if_neg (by omega), hd, if_neg (by omega)]
        unfold Lib.parseUintM
        congr 1; omega
      · intro c hc
        obtain rfl := List.mem_singleton.1 hc
        unfold dg8 digB
        rw [hd, decide_eq_true_eq]; omega
      · intro h0 e
        simp only [List.head?_cons, Option.some.injEq] at e
        have := congrArg UInt8.toNat e
        rw [hd] at this
        have : (48 : UInt8).toNat = 48 := rfl
        omega
    · obtain ⟨k1, k2, k3, k4⟩ := ih (u / 10) (by omega) (by omega) (by omega)
      rw [Lib.decDigits, dif_neg h]
      have hd := dg_of (u % 10) (by omega)
      refine ⟨?_, ?_, by simp, ?_⟩
      · rw [parse_app M _ _ _ _ k1]
        unfold Lib.parseUintM
        rw [if_pos (by omega), if_neg (by omega), hd, if_neg (by omega)]
        unfold Lib.parseUintM
        congr 1; omega
      · intro c hc
        rcases List.mem_append.1 hc with hc | hc
        · exact k2 c hc
        · obtain rfl := List.mem_singleton.1 hc
          unfold dg8 digB
          rw [hd, decide_eq_true_eq]; omega
      · intro _ e
        cases hq : Lib.decDigits (u / 10) with
        | nil => exact k3 hq
        | cons a q =>
          rw [hq] at e k4
          exact k4 (by omega) e
theorem parse_dec (B : Nat) (hB : B = 32 ∨ B = 64) (u : Nat) (hu : u < 2 ^ (B - 1)) : Lib.parseIntB B (Lib.decDigits u) = .ok (u : Int) := by
  have hu2 : u ≤ 2 ^ B - 1 := by rcases hB with rfl | rfl <;> omega
  have hu3 : u < 18446744073709551616 := by rcases hB with rfl | rfl <;> omega
  obtain ⟨k1, k2, k3, k4⟩ := dec_facts (2 ^ B - 1) u hu2 hu3
  cases hq : Lib.decDigits u with
  | nil => exact absurd hq k3
  | cons c r =>
    rw [hq] at k1 k2
    have hc := k2 c List.mem_cons_self
    unfold dg8 digB at hc
    rw [decide_eq_true_eq] at hc
    have hp : Lib.parseUintB B (c :: r) = .ok u := by unfold Lib.parseUintB; rw [if_neg (by simp)]; exact k1
    unfold Lib.parseIntB
    simp only
    rw [if_neg (by omega), hp]
    simp only
    rw [if_neg (by omega), if_neg (by omega), if_neg (by omega)]
theorem num_text {u : Nat} (t : List UInt8) (ht : t.takeWhile dg8 = []) (hu : u < 9223372036854775808) : dgN (Lib.decDigits u ++ t) = (Lib.decDigits u).length ∧ ¬ (1 < dgN (Lib.decDigits u ++ t) ∧ (Lib.decDigits u ++ t).head? = some 48) := by
  obtain ⟨k1, k2, k3, k4⟩ := dec_facts (2 ^ 64 - 1) u (by omega) (by omega)
  have hd : dgN (Lib.decDigits u ++ t) = (Lib.decDigits u).length := by unfold dgN; rw [tw_all k2 ht]
  refine ⟨hd, ?_⟩
  rintro ⟨h1, h2⟩
  rw [hd] at h1
  have hh : (Lib.decDigits u ++ t).head? = (Lib.decDigits u).head? := by
    cases hq : Lib.decDigits u with
    | nil => exact absurd hq k3
    | cons a q => rfl
  rw [hh] at h2
  by_cases h0 : 0 < u
  · exact k4 h0 h2
  · obtain rfl : u = 0 := by omega
    rw [Lib.decDigits, dif_pos (by decide)] at h1
    simp at h1
theorem itoa_nat (u : Nat) : Lib.itoa (u : Int) = Lib.decDigits u := by unfold Lib.itoa; rw [if_neg (by omega)]; rfl
theorem int_text {u : Nat} (hu : u < 2147483648) : scNu (Lib.itoa (u : Int)) = some ⟨3, [], (u : Int), (Lib.itoa (u : Int)).length⟩ := by
  rw [itoa_nat]
  obtain ⟨k1, k2⟩ := num_text (u := u) [] rfl (by omega)
  rw [List.append_nil] at k1 k2
  unfold scNu
  rw [if_neg k2, k1, List.drop_length, if_neg (by simp), List.take_length, parse_dec 32 (Or.inl rfl) u (by omega)]
  rfl
theorem long_text {u : Nat} (hu : u < 9223372036854775808) : scNu (Lib.itoa (u : Int) ++ [76]) = some ⟨4, [], (u : Int), (Lib.itoa (u : Int) ++ [76]).length⟩ := by
  rw [itoa_nat]
  obtain ⟨k1, k2⟩ := num_text (u := u) [76] (by decide) hu
  unfold scNu
  rw [if_neg k2, k1, List.drop_left, if_pos (show ([76] : List UInt8).head? = some 76 from rfl), List.take_left, parse_dec 64 (Or.inr rfl) u (by omega)]
  simp [okI]
theorem num_first (u : Nat) (hu : u < 9223372036854775808) (t : List UInt8) : ∃ c r, Lib.itoa (u : Int) ++ t = c :: r ∧ lt8 c = false ∧ dg8 c = true := by
  rw [itoa_nat]
  obtain ⟨k1, k2, k3, k4⟩ := dec_facts (2 ^ 64 - 1) u (by omega) (by omega)
  cases hq : Lib.decDigits u with
  | nil => exact absurd hq k3
  | cons a q =>
    rw [hq] at k2
    have hc := k2 a List.mem_cons_self
    refine ⟨a, q ++ t, rfl, ?_, hc⟩
    unfold dg8 digB at hc
    rw [decide_eq_true_eq] at hc
    unfold lt8 letB
    rw [decide_eq_false_iff_not]
    omega
theorem okI_rng {B : Nat} {l : List UInt8} {v : Int} (h : okI (Lib.parseIntB B l) = some v) (hl : ∀ c ∈ l, dg8 c = true) : ∃ u : Nat, v = (u : Int) ∧ u < 2 ^ (B - 1) := by
  cases l with
  | nil => cases h
  | cons c r =>
    have hc := hl c List.mem_cons_self
    unfold dg8 digB at hc
    rw [decide_eq_true_eq] at hc
    unfold Lib.parseIntB at h
    simp only at h
    rw [if_neg (by omega)] at h
    cases hp : Lib.parseUintB B (c :: r) with
    | ok u =>
      rw [hp] at h
      simp only at h
      split at h
      · cases h
      · rename_i h1
        rw [if_neg (by omega), if_neg (by omega)] at h
        injection h with h
        exact ⟨u, h.symm, by omega⟩
    | range => rw [hp] at h; cases h
    | _ => rw [hp] at h; cases h

/-! strings -/
theorem hx_of : ∀ i, i < 16 → hxV (hxC i) = (i : Int) := by decide
theorem qt_go (c : UInt8) (r : List UInt8) (b : List UInt8) (z f : Nat) (h : strGo f r = some (b, z)) : strGo (f + 1) (qtC c ++ r) = some (c :: b, (qtC c).length + z) := by
  unfold qtC
  split
  · rename_i h1
    show (if (92 : UInt8).toNat = 34 then _ else if (92 : UInt8).toNat < 32 ∨ 126 < (92 : UInt8).toNat then none else if (92 : UInt8).toNat = 92 then (match escL (c :: r) with | none => none | some (e, n) => (strGo f ((c :: r).drop n)).map fun x => (e :: x.1, 1 + n + x.2)) else _) = _
    rw [if_neg (by decide), if_neg (by decide), if_pos (by decide)]
    have : escL (c :: r) = some (c, 1) := by rw [esc_cons, if_pos h1]
    rw [this]
    simp only [List.drop_succ_cons, List.drop_zero, h, Option.map_some, List.length_cons, List.length_nil]
  · rename_i h1
    split
    · rename_i h2
      show (if (92 : UInt8).toNat = 34 then _ else if (92 : UInt8).toNat < 32 ∨ 126 < (92 : UInt8).toNat then none else if (92 : UInt8).toNat = 92 then (match escL (110 :: r) with | none => none | some (e, n) => (strGo f ((110 :: r).drop n)).map fun x => (e :: x.1, 1 + n + x.2)) else _) = _
      rw [if_neg (by decide), if_neg (by decide), if_pos (by decide)]
      have : escL (110 :: r) = some (10, 1) := by rw [esc_cons, if_neg (by decide), if_pos (by decide)]
      have e : c = 10 := UInt8.toNat_inj.1 (by rw [h2]; rfl)
      rw [this, e]
      simp only [List.drop_succ_cons, List.drop_zero, h, Option.map_some, List.length_cons, List.length_nil]
    · rename_i h2
      split
      · rename_i h3
        have hc := c.toNat_lt
        show (if (92 : UInt8).toNat = 34 then _ else if (92 : UInt8).toNat < 32 ∨ 126 < (92 : UInt8).toNat then none else if (92 : UInt8).toNat = 92 then (match escL (120 :: hxC (c.toNat / 16) :: hxC (c.toNat % 16) :: r) with | none => none | some (e, n) => (strGo f ((120 :: hxC (c.toNat / 16) :: hxC (c.toNat % 16) :: r).drop n)).map fun x => (e :: x.1, 1 + n + x.2)) else _) = _
        rw [if_neg (by decide), if_neg (by decide), if_pos (by decide)]
        have a1 := hx_of (c.toNat / 16) (by omega)
        have a2 := hx_of (c.toNat % 16) (by omega)
        have : escL (120 :: hxC (c.toNat / 16) :: hxC (c.toNat % 16) :: r) = some (c, 3) := by
          rw [esc_cons, if_neg (by decide), if_neg (by decide), if_pos (by decide)]
          simp only
          rw [a1, a2, if_pos (by omega)]
          have : UInt8.ofNat (((c.toNat / 16 : Nat) : Int).toNat * 16 + ((c.toNat % 16 : Nat) : Int).toNat) = c := by
            refine UInt8.toNat_inj.1 ?_
            rw [Int.toNat_natCast, Int.toNat_natCast, UInt8.toNat_ofNat']
            omega
          rw [this]
        rw [this]
        simp only [List.drop_succ_cons, List.drop_zero, h, Option.map_some, List.length_cons, List.length_nil]
      · rename_i h3
        show (if c.toNat = 34 then _ else if c.toNat < 32 ∨ 126 < c.toNat then none else if c.toNat = 92 then _ else (strGo f r).map fun x => (c :: x.1, 1 + x.2)) = _
        rw [if_neg (by omega), if_neg h3, if_neg (by omega), h]
        simp only [Option.map_some, List.length_cons, List.length_nil]
theorem quo_go (r : List UInt8) : ∀ (b : List UInt8) (f : Nat), b.length < f → strGo f (b.flatMap qtC ++ 34 :: r) = some (b, (b.flatMap qtC).length + 1)
  | [], f, hf => by
    cases f with
    | zero => simp at hf
    | succ f =>
      show (if (34 : UInt8).toNat = 34 then some ([], 1) else _) = _
      rw [if_pos (by decide)]; rfl
  | c :: b, f, hf => by
    cases f with
    | zero => simp at hf
    | succ f =>
      have ih := quo_go r b f (by simpa using hf)
      rw [List.flatMap_cons, List.append_assoc, qt_go c _ _ _ _ ih, List.length_append]
      congr 2
theorem fm_len (b : List UInt8) : b.length ≤ (b.flatMap qtC).length := by
  induction b with
  | nil => exact Nat.le_refl _
  | cons c b ih =>
    have : 1 ≤ (qtC c).length := by
      unfold qtC
      split
      · simp
      · split
        · simp
        · split <;> simp
    rw [List.flatMap_cons, List.length_append, List.length_cons]
    omega
theorem str_text {b : List UInt8} (h : b.length ≤ 1024) : scSt (quL b) = some ⟨5, b, 0, (quL b).length⟩ := by
  have hq := fm_len b
  have hl : (quL b).length = (b.flatMap qtC).length + 2 := by unfold quL; simp
  unfold scSt
  have e : (quL b).drop 1 = b.flatMap qtC ++ 34 :: [] := rfl
  rw [e, quo_go [] b _ (by omega)]
  simp only
  rw [if_pos h, hl]
  congr 2; omega

/-! all kinds -/
theorem tw_mem {q : UInt8 → Bool} {x : UInt8} : ∀ {l : List UInt8}, x ∈ l.takeWhile q → q x = true
  | [], h => by cases h
  | a :: l, h => by
    rw [List.takeWhile_cons] at h
    split at h
    · rename_i ha
      rcases List.mem_cons.1 h with rfl | h
      · exact ha
      · exact tw_mem h
    · cases h
theorem scl_lt {l : List UInt8} (h : ∃ c r, l = c :: r ∧ lt8 c = true) : scL l = scNm l := by
  obtain ⟨c, r, rfl, hc⟩ := h
  rw [sc_cons, if_pos hc]
theorem scl_dg {l : List UInt8} (h : ∃ c r, l = c :: r ∧ lt8 c = false ∧ dg8 c = true) : scL l = scNu l := by
  obtain ⟨c, r, rfl, hc, hd⟩ := h
  rw [sc_cons, if_neg (by rw [hc]; decide), if_pos hd]
theorem scl_st (b : List UInt8) : scL (quL b) = scSt (quL b) := by
  unfold quL
  rw [sc_cons, if_neg (by decide), if_neg (by decide), if_pos (by decide)]
/-- what a scanned token is -/
theorem sc_kind {l : List UInt8} {t : Sc} (h : scL l = some t) :
    (t.k = 1 ∧ clsT t.s = true ∧ kwB t.s = false ∧ t.n = 0) ∨ (t.k = 2 ∧ t.s ∈ kwL ∧ t.n = 0) ∨ (t.k = 3 ∧ t.s = [] ∧ ∃ u : Nat, t.n = u ∧ u < 2147483648) ∨ (t.k = 4 ∧ t.s = [] ∧ ∃ u : Nat, t.n = u ∧ u < 9223372036854775808) ∨
    (t.k = 5 ∧ t.s.length ≤ 1024 ∧ t.n = 0) ∨ (t.k = 6 ∧ t.s ∈ opL ∧ t.n = 0) := by
  cases l with
  | nil => cases h
  | cons c l =>
    rw [sc_cons] at h
    split at h
    · unfold scNm at h
      split at h
      · rename_i h2
        cases h
        by_cases hk : kwB (nmT (c :: l)) = true
        · right; left
          refine ⟨by simp only; rw [if_pos hk], ?_, rfl⟩
          unfold kwB at hk
          simpa using hk
        · left
          exact ⟨by simp only; rw [if_neg hk], h2, by simpa using hk, rfl⟩
      · cases h
    · split at h
      · unfold scNu at h
        have hd : ∀ x ∈ (c :: l).take (dgN (c :: l)), dg8 x = true := by
          intro x hx
          have e : (c :: l).take (dgN (c :: l)) = (c :: l).takeWhile dg8 := by
            unfold dgN
            exact (List.prefix_iff_eq_take.1 (List.takeWhile_prefix dg8)).symm
          rw [e] at hx
          exact tw_mem hx
        split at h
        · cases h
        · split at h
          · cases hp : okI (Lib.parseIntB 64 ((c :: l).take (dgN (c :: l)))) with
            | none => rw [hp] at h; cases h
            | some v =>
              rw [hp] at h
              cases h
              obtain ⟨u, rfl, hu⟩ := okI_rng hp hd
              exact Or.inr (Or.inr (Or.inr (Or.inl ⟨rfl, rfl, u, rfl, by omega⟩)))
          · cases hp : okI (Lib.parseIntB 32 ((c :: l).take (dgN (c :: l)))) with
            | none => rw [hp] at h; cases h
            | some v =>
              rw [hp] at h
              cases h
              obtain ⟨u, rfl, hu⟩ := okI_rng hp hd
              exact Or.inr (Or.inr (Or.inl ⟨rfl, rfl, u, rfl, by omega⟩))
      · split at h
        · unfold scSt at h
          cases hs : strGo (c :: l).length ((c :: l).drop 1) with
          | none => rw [hs] at h; cases h
          | some x =>
            rw [hs] at h
            simp only at h
            split at h
            · rename_i h5
              cases h
              exact Or.inr (Or.inr (Or.inr (Or.inr (Or.inl ⟨rfl, h5, rfl⟩))))
            · cases h
        · unfold scOp at h
          cases hf : opL.find? (·.isPrefixOf (c :: l)) with
          | none => rw [hf] at h; cases h
          | some o =>
            rw [hf] at h
            cases h
            exact Or.inr (Or.inr (Or.inr (Or.inr (Or.inr ⟨rfl, List.mem_of_find?_eq_some hf, rfl⟩))))
/-- the text of a scanned token is scanned to it -/
theorem sc_text {l : List UInt8} {t : Sc} (h : scL l = some t) : scL (txL t.k t.s t.n) = some ⟨t.k, t.s, t.n, (txL t.k t.s t.n).length⟩ ∧ txL t.k t.s t.n ≠ [] := by
  rcases sc_kind h with ⟨hk, hc, hw, hn⟩ | ⟨hk, hw, hn⟩ | ⟨hk, hs, u, hu, hb⟩ | ⟨hk, hs, u, hu, hb⟩ | ⟨hk, hl, hn⟩ | ⟨hk, hw, hn⟩
  · have hcl : clsL t.s = true := by unfold clsT at hc; rw [Bool.and_eq_true] at hc; exact hc.2
    have e : txL t.k t.s t.n = rpL t.s := by unfold txL; rw [hk, if_pos rfl]
    have hf := cls_first hcl
    obtain ⟨k1, k2⟩ := nmT_text hcl
    rw [e, scl_lt hf, hk, hn]
    refine ⟨?_, by obtain ⟨c, r, hr, _⟩ := hf; rw [hr]; simp⟩
    unfold scNm
    rw [k1, k2, if_pos hc, if_neg (by rw [hw]; decide)]
  · have e : txL t.k t.s t.n = t.s := by unfold txL; rw [hk, if_neg (by decide), if_neg (by decide), if_neg (by decide), if_neg (by decide)]
    rw [e, hk, hn]
    exact ⟨Sc.of_tup (kw_sc _ hw), kw_ne _ hw⟩
  · have e : txL t.k t.s t.n = Lib.itoa (u : Int) := by unfold txL; rw [hk, hu, if_neg (by decide), if_pos rfl]
    have hf := num_first u (by omega) []
    rw [List.append_nil] at hf
    rw [e, scl_dg hf, hk, hs, hu]
    exact ⟨int_text hb, by obtain ⟨c, r, hr, _⟩ := hf; rw [hr]; simp⟩
  · have e : txL t.k t.s t.n = Lib.itoa (u : Int) ++ [76] := by unfold txL; rw [hk, hu, if_neg (by decide), if_neg (by decide), if_pos rfl]
    have hf := num_first u hb [76]
    rw [e, scl_dg hf, hk, hs, hu]
    exact ⟨long_text hb, by simp⟩
  · have e : txL t.k t.s t.n = quL t.s := by unfold txL; rw [hk, if_neg (by decide), if_neg (by decide), if_neg (by decide), if_pos rfl]
    rw [e, scl_st, hk, hn]
    exact ⟨str_text hl, by unfold quL; simp⟩
  · have e : txL t.k t.s t.n = t.s := by unfold txL; rw [hk, if_neg (by decide), if_neg (by decide), if_neg (by decide), if_neg (by decide)]
    rw [e, hk, hn]
    exact ⟨Sc.of_tup (op_sc _ hw), op_ne _ hw⟩
theorem sc_fmt {l : List UInt8} {t : Sc} (h : scL l = some t) : fmB t.k t.s t.n = true := by
  unfold fmB
  rw [(sc_text h).1]
  simp

end Go.Proofs.YtfpdnhbbbadegaaGreatDoor
