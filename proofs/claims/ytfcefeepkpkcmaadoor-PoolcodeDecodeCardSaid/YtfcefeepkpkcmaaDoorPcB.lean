import Derived.Test.YtfcefeepkpkcmaaDoorPcA
import Derived.Test.YtfcefeepkpkcmaaDoorPoolCk
import Derived.Test.YtfcefeepkpkcmaaDoorPoolValid

/- PcDec -/
/- Layer 6: one constant read, in the package and in its reference. -/
namespace Go.Proofs.YtfcefeepkpkcmaaDoor
open Go.ChangeShapes Go.WideShapes Go.ChangeAt Go.RowKit Go.PlainAid
set_option linter.unusedSimpArgs false
set_option linter.unusedVariables false

def dcE (s : ByteArray) (p : Int) : Int :=
  if unsE s p 1 = 0 then
    if unsV s p 1 = 1 then gsE s (p + 1)
    else if unsV s p 1 = 3 then unsE s (p + 1) 4
    else if unsV s p 1 = 5 then unsE s (p + 1) 8
    else if unsV s p 1 = 7 ∨ unsV s p 1 = 8 then unsE s (p + 1) 2
    else if mtB (unsV s p 1) = true ∨ unsV s p 1 = 12 then (if unsE s (p + 1) 2 = 0 then unsE s (p + 3) 2 else unsE s (p + 1) 2)
    else 11
  else unsE s p 1
def dcC (s : ByteArray) (p : Int) : Cn :=
  if unsV s p 1 = 1 then ⟨1, gsB s (p + 1), 0, 0, 0⟩
  else if unsV s p 1 = 3 then ⟨3, ⟨#[]⟩, sigV s (p + 1) 4, 0, 0⟩
  else if unsV s p 1 = 5 then ⟨5, ⟨#[]⟩, sigV s (p + 1) 8, 0, 0⟩
  else if unsV s p 1 = 7 ∨ unsV s p 1 = 8 then ⟨unsV s p 1, ⟨#[]⟩, 0, unsV s (p + 1) 2, 0⟩
  else ⟨unsV s p 1, ⟨#[]⟩, 0, unsV s (p + 1) 2, unsV s (p + 3) 2⟩
def dcN (s : ByteArray) (p : Int) : Int :=
  if unsV s p 1 = 1 then gsN s (p + 1)
  else if unsV s p 1 = 3 then p + 5
  else if unsV s p 1 = 5 then p + 9
  else if unsV s p 1 = 7 ∨ unsV s p 1 = 8 then p + 3
  else p + 5
theorem un_e {s : ByteArray} {p z : Int} (hp : 0 ≤ p ∧ p ≤ s.size) (hz : okSize z) : unsE s p z = 0 ∨ unsE s p z = 3 := by
  unfold unsE
  rw [if_neg (by simpa using hz), if_neg (by omega)]
  split
  · exact Or.inr rfl
  · exact Or.inl rfl
theorem un_0 {s : ByteArray} {p z : Int} (hz : okSize z) (h : unsE s p z = 0) : 0 ≤ p ∧ p + z ≤ s.size := by
  unfold unsE at h
  rw [if_neg (by simpa using hz)] at h
  split at h
  · cases h
  · split at h
    · cases h
    · omega
theorem ok1 : okSize 1 := by decide
theorem ok2 : okSize 2 := by decide
theorem ok4 : okSize 4 := by decide
theorem ok8 : okSize 8 := by decide

theorem dw_0 {s : ByteArray} {p : Int} (h : ¬ unsE s p 1 = 0) : dcE s p = unsE s p 1 := by unfold dcE; rw [if_neg h]
theorem dw_1 {s : ByteArray} {p : Int} (h : unsE s p 1 = 0) (h1 : unsV s p 1 = 1) : dcE s p = gsE s (p + 1) ∧ dcC s p = ⟨unsV s p 1, gsB s (p + 1), 0, 0, 0⟩ ∧ dcN s p = gsN s (p + 1) := by
  unfold dcE dcC dcN; rw [if_pos h, if_pos h1, if_pos h1, if_pos h1, h1]; exact ⟨rfl, rfl, rfl⟩
theorem dw_3 {s : ByteArray} {p : Int} (h : unsE s p 1 = 0) (h1 : unsV s p 1 = 3) : dcE s p = unsE s (p + 1) 4 ∧ dcC s p = ⟨unsV s p 1, ⟨#[]⟩, sigV s (p + 1) 4, 0, 0⟩ ∧ dcN s p = p + 5 := by
  have n1 : ¬ unsV s p 1 = 1 := by omega
  unfold dcE dcC dcN; rw [if_pos h, if_neg n1, if_pos h1, if_neg n1, if_pos h1, if_neg n1, if_pos h1, h1]; exact ⟨rfl, rfl, rfl⟩
theorem dw_5 {s : ByteArray} {p : Int} (h : unsE s p 1 = 0) (h1 : unsV s p 1 = 5) : dcE s p = unsE s (p + 1) 8 ∧ dcC s p = ⟨unsV s p 1, ⟨#[]⟩, sigV s (p + 1) 8, 0, 0⟩ ∧ dcN s p = p + 9 := by
  have n1 : ¬ unsV s p 1 = 1 := by omega
  have n3 : ¬ unsV s p 1 = 3 := by omega
  unfold dcE dcC dcN; rw [if_pos h, if_neg n1, if_neg n3, if_pos h1, if_neg n1, if_neg n3, if_pos h1, if_neg n1, if_neg n3, if_pos h1, h1]; exact ⟨rfl, rfl, rfl⟩
theorem dw_7 {s : ByteArray} {p : Int} (h : unsE s p 1 = 0) (h1 : unsV s p 1 = 7 ∨ unsV s p 1 = 8) : dcE s p = unsE s (p + 1) 2 ∧ dcC s p = ⟨unsV s p 1, ⟨#[]⟩, 0, unsV s (p + 1) 2, 0⟩ ∧ dcN s p = p + 3 := by
  have n1 : ¬ unsV s p 1 = 1 := by omega
  have n3 : ¬ unsV s p 1 = 3 := by omega
  have n5 : ¬ unsV s p 1 = 5 := by omega
  unfold dcE dcC dcN; rw [if_pos h, if_neg n1, if_neg n3, if_neg n5, if_pos h1, if_neg n1, if_neg n3, if_neg n5, if_pos h1, if_neg n1, if_neg n3, if_neg n5, if_pos h1]; exact ⟨rfl, rfl, rfl⟩
theorem mt_or {t : Int} (h : 9 ≤ t ∧ t ≤ 12) : mtB t = true ∨ t = 12 := by
  rcases (by omega : t = 9 ∨ t = 10 ∨ t = 11 ∨ t = 12) with rfl | rfl | rfl | rfl
  · exact Or.inl rfl
  · exact Or.inl rfl
  · exact Or.inl rfl
  · exact Or.inr rfl
theorem dw_m {s : ByteArray} {p : Int} (h : unsE s p 1 = 0) (h1 : 9 ≤ unsV s p 1 ∧ unsV s p 1 ≤ 12) (h2 : unsE s (p + 1) 2 = 0) : dcE s p = unsE s (p + 3) 2 ∧ dcC s p = ⟨unsV s p 1, ⟨#[]⟩, 0, unsV s (p + 1) 2, unsV s (p + 3) 2⟩ ∧ dcN s p = p + 5 := by
  have n1 : ¬ unsV s p 1 = 1 := by omega
  have n3 : ¬ unsV s p 1 = 3 := by omega
  have n5 : ¬ unsV s p 1 = 5 := by omega
  have n7 : ¬ (unsV s p 1 = 7 ∨ unsV s p 1 = 8) := by omega
  unfold dcE dcC dcN; rw [if_pos h, if_neg n1, if_neg n3, if_neg n5, if_neg n7, if_pos (mt_or h1), if_pos h2, if_neg n1, if_neg n3, if_neg n5, if_neg n7, if_neg n1, if_neg n3, if_neg n5, if_neg n7]; exact ⟨rfl, rfl, rfl⟩
theorem dw_n {s : ByteArray} {p : Int} (h : unsE s p 1 = 0) (h1 : 9 ≤ unsV s p 1 ∧ unsV s p 1 ≤ 12) (h2 : ¬ unsE s (p + 1) 2 = 0) : dcE s p = unsE s (p + 1) 2 := by
  unfold dcE; rw [if_pos h, if_neg (by omega), if_neg (by omega), if_neg (by omega), if_neg (by omega), if_pos (mt_or h1), if_neg h2]
theorem dw_u {s : ByteArray} {p : Int} (h : unsE s p 1 = 0) (h1 : knB (unsV s p 1) = false) : dcE s p = 11 := by
  have hx : ¬ unsV s p 1 = 1 ∧ ¬ unsV s p 1 = 3 ∧ ¬ unsV s p 1 = 5 ∧ ¬ (unsV s p 1 = 7 ∨ unsV s p 1 = 8) ∧ ¬ (mtB (unsV s p 1) = true ∨ unsV s p 1 = 12) := by
    refine ⟨?_, ?_, ?_, ?_, ?_⟩
    · intro e; rw [e] at h1; cases h1
    · intro e; rw [e] at h1; cases h1
    · intro e; rw [e] at h1; cases h1
    · rintro (e | e) <;> (rw [e] at h1; cases h1)
    · rintro (e | e)
      · unfold knB at h1; rw [e] at h1; simp at h1
      · rw [e] at h1; cases h1
  unfold dcE; rw [if_pos h, if_neg hx.1, if_neg hx.2.1, if_neg hx.2.2.1, if_neg hx.2.2.2.1, if_neg hx.2.2.2.2]
theorem kn_no {t : Int} (h1 : (t == 1) = false) (h3 : (t == 3) = false) (h5 : (t == 5) = false) (h7 : (t == 7) = false) (h8 : (t == 8) = false) (h9 : (t == 9) = false) (h10 : (t == 10) = false) (h11 : (t == 11) = false) (h12 : (t == 12) = false) : knB t = false := by
  unfold knB mtB; rw [h1, h3, h5, h7, h8, h9, h10, h11, h12]; rfl

/-- what the reader of one constant hands back -/
def DcRet (w : World) (s : ByteArray) (p : Int) (r : Ending) (w' : World) : Prop :=
  ∃ c q, r = .returned (.tuple #[(Value.agg #[Value.int IntKind.i64 (Cn.t c), Value.string (Cn.s c), Value.int IntKind.i64 (Cn.n c), Value.int IntKind.i64 (Cn.a c), Value.int IntKind.i64 (Cn.b c)]), .int .i64 q, .int .i64 (dcE s p)]) ∧ (dcE s p = 0 → c = dcC s p ∧ q = dcN s p) ∧ Below w.heap.size w w'

set_option maxRecDepth 100000 in
set_option maxHeartbeats 4000000 in
theorem dc_any (s : ByteArray) (p : Int) (hs : s.size ≤ 140737488355328) (hp : 0 ≤ p ∧ p ≤ s.size) (w : World) :
    Calls Tryd.prog 65 #[.string s, .int .i64 p] w (DcRet w s p) := by
  have hB : Below w.heap.size w w := Below.refl _ _
  obtain ⟨hp0, hp1⟩ := hp
  have h3 : p + 1 + 2 = p + 3 := by omega
  go_enter Tryd.func65, Tryd.ntmps65
  go_wp2_with (first | (go_at_call 64; refine (uns_any s _ _ (by omega) _).mono ?_; rintro e w' ⟨rfl, rfl⟩) | (go_at_call 80; refine (sig_any s _ _ (by omega) _).mono ?_; rintro e w' ⟨rfl, rfl⟩) | (go_at_call 79; refine (gets_any s _ (by omega) _).mono ?_; rintro e w' ⟨rfl, rfl⟩))
  · have g := dw_0 (s := s) (p := p) (bneT (by with_reducible assumption))
    refine bodyPost_ret (v := .tuple #[(Value.agg #[Value.int IntKind.i64 (Cn.t ((⟨0, ⟨#[]⟩, 0, 0, 0⟩ : Cn))), Value.string (Cn.s ((⟨0, ⟨#[]⟩, 0, 0, 0⟩ : Cn))), Value.int IntKind.i64 (Cn.n ((⟨0, ⟨#[]⟩, 0, 0, 0⟩ : Cn))), Value.int IntKind.i64 (Cn.a ((⟨0, ⟨#[]⟩, 0, 0, 0⟩ : Cn))), Value.int IntKind.i64 (Cn.b ((⟨0, ⟨#[]⟩, 0, 0, 0⟩ : Cn)))]), .int .i64 (0), .int .i64 (unsE s p 1)]) ?_ rfl ⟨⟨0, ⟨#[]⟩, 0, 0, 0⟩, 0, by rw [g], fun h => absurd (g.symm.trans h) (bneT (by with_reducible assumption)), below_al hB _⟩
    simp [results, Tryd.f65, go_sem, set_same, *]
  · have g := dw_1 (s := s) (p := p) (bneF (by with_reducible assumption)) (eqT (by with_reducible assumption))
    refine bodyPost_ret (v := .tuple #[(Value.agg #[Value.int IntKind.i64 (Cn.t ((⟨unsV s p 1, gsB s (p + 1), 0, 0, 0⟩ : Cn))), Value.string (Cn.s ((⟨unsV s p 1, gsB s (p + 1), 0, 0, 0⟩ : Cn))), Value.int IntKind.i64 (Cn.n ((⟨unsV s p 1, gsB s (p + 1), 0, 0, 0⟩ : Cn))), Value.int IntKind.i64 (Cn.a ((⟨unsV s p 1, gsB s (p + 1), 0, 0, 0⟩ : Cn))), Value.int IntKind.i64 (Cn.b ((⟨unsV s p 1, gsB s (p + 1), 0, 0, 0⟩ : Cn)))]), .int .i64 (gsN s (p + 1)), .int .i64 (gsE s (p + 1))]) ?_ rfl ⟨⟨unsV s p 1, gsB s (p + 1), 0, 0, 0⟩, gsN s (p + 1), by rw [g.1], fun _ => ⟨g.2.1.symm, g.2.2.symm⟩, below_al (below_al hB _) _⟩
    simp [results, Tryd.f65, go_sem, set_same, *]
  · have g := dw_3 (s := s) (p := p) (bneF (by with_reducible assumption)) (eqT (by with_reducible assumption))
    refine bodyPost_ret (v := .tuple #[(Value.agg #[Value.int IntKind.i64 (Cn.t ((⟨unsV s p 1, ⟨#[]⟩, sigV s (p + 1) 4, 0, 0⟩ : Cn))), Value.string (Cn.s ((⟨unsV s p 1, ⟨#[]⟩, sigV s (p + 1) 4, 0, 0⟩ : Cn))), Value.int IntKind.i64 (Cn.n ((⟨unsV s p 1, ⟨#[]⟩, sigV s (p + 1) 4, 0, 0⟩ : Cn))), Value.int IntKind.i64 (Cn.a ((⟨unsV s p 1, ⟨#[]⟩, sigV s (p + 1) 4, 0, 0⟩ : Cn))), Value.int IntKind.i64 (Cn.b ((⟨unsV s p 1, ⟨#[]⟩, sigV s (p + 1) 4, 0, 0⟩ : Cn)))]), .int .i64 (p + 1 + 4), .int .i64 (unsE s (p + 1) 4)]) ?_ rfl ⟨⟨unsV s p 1, ⟨#[]⟩, sigV s (p + 1) 4, 0, 0⟩, p + 1 + 4, by rw [g.1], fun _ => ⟨g.2.1.symm, by rw [g.2.2]; omega⟩, below_al (below_al hB _) _⟩
    simp [results, Tryd.f65, go_sem, set_same, *]
  · have g := dw_5 (s := s) (p := p) (bneF (by with_reducible assumption)) (eqT (by with_reducible assumption))
    refine bodyPost_ret (v := .tuple #[(Value.agg #[Value.int IntKind.i64 (Cn.t ((⟨unsV s p 1, ⟨#[]⟩, sigV s (p + 1) 8, 0, 0⟩ : Cn))), Value.string (Cn.s ((⟨unsV s p 1, ⟨#[]⟩, sigV s (p + 1) 8, 0, 0⟩ : Cn))), Value.int IntKind.i64 (Cn.n ((⟨unsV s p 1, ⟨#[]⟩, sigV s (p + 1) 8, 0, 0⟩ : Cn))), Value.int IntKind.i64 (Cn.a ((⟨unsV s p 1, ⟨#[]⟩, sigV s (p + 1) 8, 0, 0⟩ : Cn))), Value.int IntKind.i64 (Cn.b ((⟨unsV s p 1, ⟨#[]⟩, sigV s (p + 1) 8, 0, 0⟩ : Cn)))]), .int .i64 (p + 1 + 8), .int .i64 (unsE s (p + 1) 8)]) ?_ rfl ⟨⟨unsV s p 1, ⟨#[]⟩, sigV s (p + 1) 8, 0, 0⟩, p + 1 + 8, by rw [g.1], fun _ => ⟨g.2.1.symm, by rw [g.2.2]; omega⟩, below_al (below_al hB _) _⟩
    simp [results, Tryd.f65, go_sem, set_same, *]
  · have g := dw_7 (s := s) (p := p) (bneF (by with_reducible assumption)) (Or.inl (eqT (by with_reducible assumption)))
    refine bodyPost_ret (v := .tuple #[(Value.agg #[Value.int IntKind.i64 (Cn.t ((⟨unsV s p 1, ⟨#[]⟩, 0, unsV s (p + 1) 2, 0⟩ : Cn))), Value.string (Cn.s ((⟨unsV s p 1, ⟨#[]⟩, 0, unsV s (p + 1) 2, 0⟩ : Cn))), Value.int IntKind.i64 (Cn.n ((⟨unsV s p 1, ⟨#[]⟩, 0, unsV s (p + 1) 2, 0⟩ : Cn))), Value.int IntKind.i64 (Cn.a ((⟨unsV s p 1, ⟨#[]⟩, 0, unsV s (p + 1) 2, 0⟩ : Cn))), Value.int IntKind.i64 (Cn.b ((⟨unsV s p 1, ⟨#[]⟩, 0, unsV s (p + 1) 2, 0⟩ : Cn)))]), .int .i64 (p + 1 + 2), .int .i64 (unsE s (p + 1) 2)]) ?_ rfl ⟨⟨unsV s p 1, ⟨#[]⟩, 0, unsV s (p + 1) 2, 0⟩, p + 1 + 2, by rw [g.1], fun _ => ⟨g.2.1.symm, by rw [g.2.2]; omega⟩, below_al (below_al hB _) _⟩
    simp [results, Tryd.f65, go_sem, set_same, *]
  · have g := dw_7 (s := s) (p := p) (bneF (by with_reducible assumption)) (Or.inr (eqT (by with_reducible assumption)))
    refine bodyPost_ret (v := .tuple #[(Value.agg #[Value.int IntKind.i64 (Cn.t ((⟨unsV s p 1, ⟨#[]⟩, 0, unsV s (p + 1) 2, 0⟩ : Cn))), Value.string (Cn.s ((⟨unsV s p 1, ⟨#[]⟩, 0, unsV s (p + 1) 2, 0⟩ : Cn))), Value.int IntKind.i64 (Cn.n ((⟨unsV s p 1, ⟨#[]⟩, 0, unsV s (p + 1) 2, 0⟩ : Cn))), Value.int IntKind.i64 (Cn.a ((⟨unsV s p 1, ⟨#[]⟩, 0, unsV s (p + 1) 2, 0⟩ : Cn))), Value.int IntKind.i64 (Cn.b ((⟨unsV s p 1, ⟨#[]⟩, 0, unsV s (p + 1) 2, 0⟩ : Cn)))]), .int .i64 (p + 1 + 2), .int .i64 (unsE s (p + 1) 2)]) ?_ rfl ⟨⟨unsV s p 1, ⟨#[]⟩, 0, unsV s (p + 1) 2, 0⟩, p + 1 + 2, by rw [g.1], fun _ => ⟨g.2.1.symm, by rw [g.2.2]; omega⟩, below_al (below_al hB _) _⟩
    simp [results, Tryd.f65, go_sem, set_same, *]
  · have g := dw_m (s := s) (p := p) (bneF (by with_reducible assumption)) (by have h9 : unsV s p 1 = 9 := (eqT (by with_reducible assumption)); omega) (eqT (by with_reducible assumption))
    refine bodyPost_ret (v := .tuple #[(Value.agg #[Value.int IntKind.i64 (Cn.t ((⟨unsV s p 1, ⟨#[]⟩, 0, unsV s (p + 1) 2, unsV s (p + 3) 2⟩ : Cn))), Value.string (Cn.s ((⟨unsV s p 1, ⟨#[]⟩, 0, unsV s (p + 1) 2, unsV s (p + 3) 2⟩ : Cn))), Value.int IntKind.i64 (Cn.n ((⟨unsV s p 1, ⟨#[]⟩, 0, unsV s (p + 1) 2, unsV s (p + 3) 2⟩ : Cn))), Value.int IntKind.i64 (Cn.a ((⟨unsV s p 1, ⟨#[]⟩, 0, unsV s (p + 1) 2, unsV s (p + 3) 2⟩ : Cn))), Value.int IntKind.i64 (Cn.b ((⟨unsV s p 1, ⟨#[]⟩, 0, unsV s (p + 1) 2, unsV s (p + 3) 2⟩ : Cn)))]), .int .i64 (p + 1 + 4), .int .i64 (unsE s (p + 3) 2)]) ?_ rfl ⟨⟨unsV s p 1, ⟨#[]⟩, 0, unsV s (p + 1) 2, unsV s (p + 3) 2⟩, p + 1 + 4, by rw [g.1], fun _ => ⟨g.2.1.symm, by rw [g.2.2]; omega⟩, below_al (below_al hB _) _⟩
    simp [results, Tryd.f65, go_sem, set_same, *]
  · have g := dw_n (s := s) (p := p) (bneF (by with_reducible assumption)) (by have h9 : unsV s p 1 = 9 := (eqT (by with_reducible assumption)); omega) (eqF (by with_reducible assumption))
    refine bodyPost_ret (v := .tuple #[(Value.agg #[Value.int IntKind.i64 (Cn.t ((⟨unsV s p 1, ⟨#[]⟩, 0, unsV s (p + 1) 2, 0⟩ : Cn))), Value.string (Cn.s ((⟨unsV s p 1, ⟨#[]⟩, 0, unsV s (p + 1) 2, 0⟩ : Cn))), Value.int IntKind.i64 (Cn.n ((⟨unsV s p 1, ⟨#[]⟩, 0, unsV s (p + 1) 2, 0⟩ : Cn))), Value.int IntKind.i64 (Cn.a ((⟨unsV s p 1, ⟨#[]⟩, 0, unsV s (p + 1) 2, 0⟩ : Cn))), Value.int IntKind.i64 (Cn.b ((⟨unsV s p 1, ⟨#[]⟩, 0, unsV s (p + 1) 2, 0⟩ : Cn)))]), .int .i64 (p + 1 + 4), .int .i64 (unsE s (p + 1) 2)]) ?_ rfl ⟨⟨unsV s p 1, ⟨#[]⟩, 0, unsV s (p + 1) 2, 0⟩, p + 1 + 4, by rw [g], fun h => absurd (g.symm.trans h) (eqF (by with_reducible assumption)), below_al (below_al hB _) _⟩
    simp [results, Tryd.f65, go_sem, set_same, *]
  · have g := dw_m (s := s) (p := p) (bneF (by with_reducible assumption)) (by have h9 : unsV s p 1 = 10 := (eqT (by with_reducible assumption)); omega) (eqT (by with_reducible assumption))
    refine bodyPost_ret (v := .tuple #[(Value.agg #[Value.int IntKind.i64 (Cn.t ((⟨unsV s p 1, ⟨#[]⟩, 0, unsV s (p + 1) 2, unsV s (p + 3) 2⟩ : Cn))), Value.string (Cn.s ((⟨unsV s p 1, ⟨#[]⟩, 0, unsV s (p + 1) 2, unsV s (p + 3) 2⟩ : Cn))), Value.int IntKind.i64 (Cn.n ((⟨unsV s p 1, ⟨#[]⟩, 0, unsV s (p + 1) 2, unsV s (p + 3) 2⟩ : Cn))), Value.int IntKind.i64 (Cn.a ((⟨unsV s p 1, ⟨#[]⟩, 0, unsV s (p + 1) 2, unsV s (p + 3) 2⟩ : Cn))), Value.int IntKind.i64 (Cn.b ((⟨unsV s p 1, ⟨#[]⟩, 0, unsV s (p + 1) 2, unsV s (p + 3) 2⟩ : Cn)))]), .int .i64 (p + 1 + 4), .int .i64 (unsE s (p + 3) 2)]) ?_ rfl ⟨⟨unsV s p 1, ⟨#[]⟩, 0, unsV s (p + 1) 2, unsV s (p + 3) 2⟩, p + 1 + 4, by rw [g.1], fun _ => ⟨g.2.1.symm, by rw [g.2.2]; omega⟩, below_al (below_al hB _) _⟩
    simp [results, Tryd.f65, go_sem, set_same, *]
  · have g := dw_n (s := s) (p := p) (bneF (by with_reducible assumption)) (by have h9 : unsV s p 1 = 10 := (eqT (by with_reducible assumption)); omega) (eqF (by with_reducible assumption))
    refine bodyPost_ret (v := .tuple #[(Value.agg #[Value.int IntKind.i64 (Cn.t ((⟨unsV s p 1, ⟨#[]⟩, 0, unsV s (p + 1) 2, 0⟩ : Cn))), Value.string (Cn.s ((⟨unsV s p 1, ⟨#[]⟩, 0, unsV s (p + 1) 2, 0⟩ : Cn))), Value.int IntKind.i64 (Cn.n ((⟨unsV s p 1, ⟨#[]⟩, 0, unsV s (p + 1) 2, 0⟩ : Cn))), Value.int IntKind.i64 (Cn.a ((⟨unsV s p 1, ⟨#[]⟩, 0, unsV s (p + 1) 2, 0⟩ : Cn))), Value.int IntKind.i64 (Cn.b ((⟨unsV s p 1, ⟨#[]⟩, 0, unsV s (p + 1) 2, 0⟩ : Cn)))]), .int .i64 (p + 1 + 4), .int .i64 (unsE s (p + 1) 2)]) ?_ rfl ⟨⟨unsV s p 1, ⟨#[]⟩, 0, unsV s (p + 1) 2, 0⟩, p + 1 + 4, by rw [g], fun h => absurd (g.symm.trans h) (eqF (by with_reducible assumption)), below_al (below_al hB _) _⟩
    simp [results, Tryd.f65, go_sem, set_same, *]
  · have g := dw_m (s := s) (p := p) (bneF (by with_reducible assumption)) (by have h9 : unsV s p 1 = 11 := (eqT (by with_reducible assumption)); omega) (eqT (by with_reducible assumption))
    refine bodyPost_ret (v := .tuple #[(Value.agg #[Value.int IntKind.i64 (Cn.t ((⟨unsV s p 1, ⟨#[]⟩, 0, unsV s (p + 1) 2, unsV s (p + 3) 2⟩ : Cn))), Value.string (Cn.s ((⟨unsV s p 1, ⟨#[]⟩, 0, unsV s (p + 1) 2, unsV s (p + 3) 2⟩ : Cn))), Value.int IntKind.i64 (Cn.n ((⟨unsV s p 1, ⟨#[]⟩, 0, unsV s (p + 1) 2, unsV s (p + 3) 2⟩ : Cn))), Value.int IntKind.i64 (Cn.a ((⟨unsV s p 1, ⟨#[]⟩, 0, unsV s (p + 1) 2, unsV s (p + 3) 2⟩ : Cn))), Value.int IntKind.i64 (Cn.b ((⟨unsV s p 1, ⟨#[]⟩, 0, unsV s (p + 1) 2, unsV s (p + 3) 2⟩ : Cn)))]), .int .i64 (p + 1 + 4), .int .i64 (unsE s (p + 3) 2)]) ?_ rfl ⟨⟨unsV s p 1, ⟨#[]⟩, 0, unsV s (p + 1) 2, unsV s (p + 3) 2⟩, p + 1 + 4, by rw [g.1], fun _ => ⟨g.2.1.symm, by rw [g.2.2]; omega⟩, below_al (below_al hB _) _⟩
    simp [results, Tryd.f65, go_sem, set_same, *]
  · have g := dw_n (s := s) (p := p) (bneF (by with_reducible assumption)) (by have h9 : unsV s p 1 = 11 := (eqT (by with_reducible assumption)); omega) (eqF (by with_reducible assumption))
    refine bodyPost_ret (v := .tuple #[(Value.agg #[Value.int IntKind.i64 (Cn.t ((⟨unsV s p 1, ⟨#[]⟩, 0, unsV s (p + 1) 2, 0⟩ : Cn))), Value.string (Cn.s ((⟨unsV s p 1, ⟨#[]⟩, 0, unsV s (p + 1) 2, 0⟩ : Cn))), Value.int IntKind.i64 (Cn.n ((⟨unsV s p 1, ⟨#[]⟩, 0, unsV s (p + 1) 2, 0⟩ : Cn))), Value.int IntKind.i64 (Cn.a ((⟨unsV s p 1, ⟨#[]⟩, 0, unsV s (p + 1) 2, 0⟩ : Cn))), Value.int IntKind.i64 (Cn.b ((⟨unsV s p 1, ⟨#[]⟩, 0, unsV s (p + 1) 2, 0⟩ : Cn)))]), .int .i64 (p + 1 + 4), .int .i64 (unsE s (p + 1) 2)]) ?_ rfl ⟨⟨unsV s p 1, ⟨#[]⟩, 0, unsV s (p + 1) 2, 0⟩, p + 1 + 4, by rw [g], fun h => absurd (g.symm.trans h) (eqF (by with_reducible assumption)), below_al (below_al hB _) _⟩
    simp [results, Tryd.f65, go_sem, set_same, *]
  · have g := dw_m (s := s) (p := p) (bneF (by with_reducible assumption)) (by have h9 : unsV s p 1 = 12 := (eqT (by with_reducible assumption)); omega) (eqT (by with_reducible assumption))
    refine bodyPost_ret (v := .tuple #[(Value.agg #[Value.int IntKind.i64 (Cn.t ((⟨unsV s p 1, ⟨#[]⟩, 0, unsV s (p + 1) 2, unsV s (p + 3) 2⟩ : Cn))), Value.string (Cn.s ((⟨unsV s p 1, ⟨#[]⟩, 0, unsV s (p + 1) 2, unsV s (p + 3) 2⟩ : Cn))), Value.int IntKind.i64 (Cn.n ((⟨unsV s p 1, ⟨#[]⟩, 0, unsV s (p + 1) 2, unsV s (p + 3) 2⟩ : Cn))), Value.int IntKind.i64 (Cn.a ((⟨unsV s p 1, ⟨#[]⟩, 0, unsV s (p + 1) 2, unsV s (p + 3) 2⟩ : Cn))), Value.int IntKind.i64 (Cn.b ((⟨unsV s p 1, ⟨#[]⟩, 0, unsV s (p + 1) 2, unsV s (p + 3) 2⟩ : Cn)))]), .int .i64 (p + 1 + 4), .int .i64 (unsE s (p + 3) 2)]) ?_ rfl ⟨⟨unsV s p 1, ⟨#[]⟩, 0, unsV s (p + 1) 2, unsV s (p + 3) 2⟩, p + 1 + 4, by rw [g.1], fun _ => ⟨g.2.1.symm, by rw [g.2.2]; omega⟩, below_al (below_al hB _) _⟩
    simp [results, Tryd.f65, go_sem, set_same, *]
  · have g := dw_n (s := s) (p := p) (bneF (by with_reducible assumption)) (by have h9 : unsV s p 1 = 12 := (eqT (by with_reducible assumption)); omega) (eqF (by with_reducible assumption))
    refine bodyPost_ret (v := .tuple #[(Value.agg #[Value.int IntKind.i64 (Cn.t ((⟨unsV s p 1, ⟨#[]⟩, 0, unsV s (p + 1) 2, 0⟩ : Cn))), Value.string (Cn.s ((⟨unsV s p 1, ⟨#[]⟩, 0, unsV s (p + 1) 2, 0⟩ : Cn))), Value.int IntKind.i64 (Cn.n ((⟨unsV s p 1, ⟨#[]⟩, 0, unsV s (p + 1) 2, 0⟩ : Cn))), Value.int IntKind.i64 (Cn.a ((⟨unsV s p 1, ⟨#[]⟩, 0, unsV s (p + 1) 2, 0⟩ : Cn))), Value.int IntKind.i64 (Cn.b ((⟨unsV s p 1, ⟨#[]⟩, 0, unsV s (p + 1) 2, 0⟩ : Cn)))]), .int .i64 (p + 1 + 4), .int .i64 (unsE s (p + 1) 2)]) ?_ rfl ⟨⟨unsV s p 1, ⟨#[]⟩, 0, unsV s (p + 1) 2, 0⟩, p + 1 + 4, by rw [g], fun h => absurd (g.symm.trans h) (eqF (by with_reducible assumption)), below_al (below_al hB _) _⟩
    simp [results, Tryd.f65, go_sem, set_same, *]
  · have g := dw_u (s := s) (p := p) (bneF (by with_reducible assumption)) (kn_no (by with_reducible assumption) (by with_reducible assumption) (by with_reducible assumption) (by with_reducible assumption) (by with_reducible assumption) (by with_reducible assumption) (by with_reducible assumption) (by with_reducible assumption) (by with_reducible assumption))
    refine bodyPost_ret (v := .tuple #[(Value.agg #[Value.int IntKind.i64 (Cn.t ((⟨unsV s p 1, ⟨#[]⟩, 0, 0, 0⟩ : Cn))), Value.string (Cn.s ((⟨unsV s p 1, ⟨#[]⟩, 0, 0, 0⟩ : Cn))), Value.int IntKind.i64 (Cn.n ((⟨unsV s p 1, ⟨#[]⟩, 0, 0, 0⟩ : Cn))), Value.int IntKind.i64 (Cn.a ((⟨unsV s p 1, ⟨#[]⟩, 0, 0, 0⟩ : Cn))), Value.int IntKind.i64 (Cn.b ((⟨unsV s p 1, ⟨#[]⟩, 0, 0, 0⟩ : Cn)))]), .int .i64 (p + 1), .int .i64 (11)]) ?_ rfl ⟨⟨unsV s p 1, ⟨#[]⟩, 0, 0, 0⟩, p + 1, by rw [g], fun h => absurd (g.symm.trans h) (by decide), below_al (below_al hB _) _⟩
    simp [results, Tryd.f65, go_sem, set_same, *]

end Go.Proofs.YtfcefeepkpkcmaaDoor

/- PcTake -/
/- Layer 6: one constant read, in the reference. -/
namespace Go.Proofs.YtfcefeepkpkcmaaDoor
open Go.ChangeShapes Go.WideShapes Go.ChangeAt Go.RowKit Go.PlainAid
set_option linter.unusedSimpArgs false
set_option linter.unusedVariables false

def nbN (s : ByteArray) (p z : Int) : Int := if unsE s p z = 0 then p + z else 0
theorem nb_ok {s : ByteArray} {p z : Int} (h : unsE s p z = 0) : nbN s p z = p + z := by unfold nbN; rw [if_pos h]
theorem nb_no {s : ByteArray} {p z : Int} (h : ¬ unsE s p z = 0) : nbN s p z = 0 ∧ unsV s p z = 0 := by unfold nbN unsV; rw [if_neg h, if_neg h]; exact ⟨rfl, rfl⟩
theorem sg_no {s : ByteArray} {p z : Int} (hz : okSize z) (h : ¬ unsE s p z = 0) : sigV s p z = 0 := by
  unfold sigV; rw [(nb_no h).2]
  rcases hz with rfl | rfl | rfl | rfl <;> decide
theorem gs_e {s : ByteArray} {p : Int} (hp : 0 ≤ p ∧ p ≤ s.size) : gsE s p = 0 ∨ gsE s p = 3 := by
  unfold gsE
  rcases un_e hp ok2 with h | h <;> rw [h]
  · rw [if_neg (by decide)]
    split
    · exact Or.inr rfl
    · exact Or.inl rfl
  · rw [if_pos (by decide)]; exact Or.inr rfl
theorem numU_any (s : ByteArray) (p z : Int) (hz : okSize z) (hs : s.size ≤ 140737488355328) (hp : 0 ≤ p ∧ p ≤ s.size) (w : World) :
    Calls Tryd.prog 66 #[.string s, .int .i64 p, .int .i64 z, .bool false] w fun e w' => e = .returned (.tuple #[.int .i64 (unsV s p z), .int .i64 (nbN s p z), .int .i64 (unsE s p z)]) ∧ w = w' := by
  obtain ⟨hp0, hp1⟩ := hp
  have hz' : 1 ≤ z ∧ z ≤ 8 := by rcases hz with rfl | rfl | rfl | rfl <;> omega
  obtain ⟨z0, z1⟩ := hz'
  rcases un_e ⟨hp0, hp1⟩ hz with h | h
  · have g := nb_ok h
    have hle := (un_0 hz h).2
    go_enter Tryd.func66, Tryd.ntmps66
    go_wp2_with (first | (go_at_call 81; refine (runs_any s _ _ (by omega) _).mono ?_; rintro e w' ⟨rfl, rfl⟩) | (go_at_call 82; refine (rsigned_any s _ _ (by omega) _).mono ?_; rintro e w' ⟨rfl, rfl⟩))
    go_ret3
    exact ⟨by rw [g, h]; rfl, rfl⟩
  · have g := nb_no (s := s) (p := p) (z := z) (by omega)
    go_enter Tryd.func66, Tryd.ntmps66
    go_wp2_with (first | (go_at_call 81; refine (runs_any s _ _ (by omega) _).mono ?_; rintro e w' ⟨rfl, rfl⟩) | (go_at_call 82; refine (rsigned_any s _ _ (by omega) _).mono ?_; rintro e w' ⟨rfl, rfl⟩))
    go_ret3
    exact ⟨by rw [g.1, g.2, h]; rfl, rfl⟩
theorem numS_any (s : ByteArray) (p z : Int) (hz : okSize z) (hs : s.size ≤ 140737488355328) (hp : 0 ≤ p ∧ p ≤ s.size) (w : World) :
    Calls Tryd.prog 66 #[.string s, .int .i64 p, .int .i64 z, .bool true] w fun e w' => e = .returned (.tuple #[.int .i64 (sigV s p z), .int .i64 (nbN s p z), .int .i64 (unsE s p z)]) ∧ w = w' := by
  obtain ⟨hp0, hp1⟩ := hp
  have hz' : 1 ≤ z ∧ z ≤ 8 := by rcases hz with rfl | rfl | rfl | rfl <;> omega
  obtain ⟨z0, z1⟩ := hz'
  rcases un_e ⟨hp0, hp1⟩ hz with h | h
  · have g := nb_ok h
    have hle := (un_0 hz h).2
    go_enter Tryd.func66, Tryd.ntmps66
    go_wp2_with (first | (go_at_call 81; refine (runs_any s _ _ (by omega) _).mono ?_; rintro e w' ⟨rfl, rfl⟩) | (go_at_call 82; refine (rsigned_any s _ _ (by omega) _).mono ?_; rintro e w' ⟨rfl, rfl⟩))
    go_ret3
    exact ⟨by rw [g, h]; rfl, rfl⟩
  · have g := nb_no (s := s) (p := p) (z := z) (by omega)
    have g2 := sg_no hz (s := s) (p := p) (by omega)
    go_enter Tryd.func66, Tryd.ntmps66
    go_wp2_with (first | (go_at_call 81; refine (runs_any s _ _ (by omega) _).mono ?_; rintro e w' ⟨rfl, rfl⟩) | (go_at_call 82; refine (rsigned_any s _ _ (by omega) _).mono ?_; rintro e w' ⟨rfl, rfl⟩))
    go_ret3
    exact ⟨by rw [g.1, g2, h]; rfl, rfl⟩

theorem numU_ok (s : ByteArray) (p z : Int) (hz : okSize z) (hs : s.size ≤ 140737488355328) (h : unsE s p z = 0) (w : World) :
    Calls Tryd.prog 66 #[.string s, .int .i64 p, .int .i64 z, .bool false] w fun e w' => e = .returned (.tuple #[.int .i64 (unsV s p z), .int .i64 (p + z), .int .i64 0]) ∧ w = w' := by
  have hl := un_0 hz h
  have hz' : 1 ≤ z := by rcases hz with rfl | rfl | rfl | rfl <;> omega
  have g := numU_any s p z hz hs ⟨hl.1, by omega⟩ w
  rwa [nb_ok h, h] at g
theorem numS_ok (s : ByteArray) (p z : Int) (hz : okSize z) (hs : s.size ≤ 140737488355328) (h : unsE s p z = 0) (w : World) :
    Calls Tryd.prog 66 #[.string s, .int .i64 p, .int .i64 z, .bool true] w fun e w' => e = .returned (.tuple #[.int .i64 (sigV s p z), .int .i64 (p + z), .int .i64 0]) ∧ w = w' := by
  have hl := un_0 hz h
  have hz' : 1 ≤ z := by rcases hz with rfl | rfl | rfl | rfl <;> omega
  have g := numS_any s p z hz hs ⟨hl.1, by omega⟩ w
  rwa [nb_ok h, h] at g
theorem numU_no (s : ByteArray) (p z : Int) (hz : okSize z) (hs : s.size ≤ 140737488355328) (hp : 0 ≤ p ∧ p ≤ s.size) (h : unsE s p z = 3) (w : World) :
    Calls Tryd.prog 66 #[.string s, .int .i64 p, .int .i64 z, .bool false] w fun e w' => e = .returned (.tuple #[.int .i64 0, .int .i64 0, .int .i64 3]) ∧ w = w' := by
  have g := numU_any s p z hz hs hp w
  have g2 := nb_no (s := s) (p := p) (z := z) (by omega)
  rwa [g2.1, g2.2, h] at g
theorem numS_no (s : ByteArray) (p z : Int) (hz : okSize z) (hs : s.size ≤ 140737488355328) (hp : 0 ≤ p ∧ p ≤ s.size) (h : unsE s p z = 3) (w : World) :
    Calls Tryd.prog 66 #[.string s, .int .i64 p, .int .i64 z, .bool true] w fun e w' => e = .returned (.tuple #[.int .i64 0, .int .i64 0, .int .i64 3]) ∧ w = w' := by
  have g := numS_any s p z hz hs hp w
  have g2 := nb_no (s := s) (p := p) (z := z) (by omega)
  have g3 := sg_no hz (s := s) (p := p) (by omega)
  rwa [g2.1, g3, h] at g

set_option maxRecDepth 100000 in
theorem tk_e (s : ByteArray) (p : Int) (hs : s.size ≤ 140737488355328) (hp : 0 ≤ p ∧ p ≤ s.size) (h0 : unsE s p 1 = 3)  (w : World) : Calls Tryd.prog 67 #[.string s, .int .i64 p] w (DcRet w s p) := by
  have hB : Below w.heap.size w w := Below.refl _ _
  have g : dcE s p = 3 := by rw [dw_0 (by omega), h0]
  go_enter Tryd.func67, Tryd.ntmps67
  go_wp2_with (first | (go_at_call 66; (with_reducible refine (numU_no s p 1 ok1 hs hp h0 _).mono ?_); rintro e w' ⟨rfl, rfl⟩))
  refine bodyPost_ret (v := .tuple #[(Value.agg #[Value.int IntKind.i64 (Cn.t ((⟨0, ⟨#[]⟩, 0, 0, 0⟩ : Cn))), Value.string (Cn.s ((⟨0, ⟨#[]⟩, 0, 0, 0⟩ : Cn))), Value.int IntKind.i64 (Cn.n ((⟨0, ⟨#[]⟩, 0, 0, 0⟩ : Cn))), Value.int IntKind.i64 (Cn.a ((⟨0, ⟨#[]⟩, 0, 0, 0⟩ : Cn))), Value.int IntKind.i64 (Cn.b ((⟨0, ⟨#[]⟩, 0, 0, 0⟩ : Cn)))]), .int .i64 (0), .int .i64 3]) ?_ rfl ⟨⟨0, ⟨#[]⟩, 0, 0, 0⟩, 0, by rw [g], fun h => absurd (g.symm.trans h) (by decide), below_al (below_al hB _) _⟩
  simp [results, Tryd.f67, go_sem, set_same, *]
set_option maxRecDepth 100000 in
theorem tk_1 (s : ByteArray) (p : Int) (hs : s.size ≤ 140737488355328) (hp : 0 ≤ p ∧ p ≤ s.size) (h0 : unsE s p 1 = 0) (hv : unsV s p 1 = 1) (h1 : gsE s (p + 1) = 0) (w : World) : Calls Tryd.prog 67 #[.string s, .int .i64 p] w (DcRet w s p) := by
  have hB : Below w.heap.size w w := Below.refl _ _
  have hl := un_0 ok1 h0
  have g := dw_1 h0 hv
  rw [hv] at g
  have e0 : dcE s p = 0 := by rw [g.1]; exact h1
  have G := Lib.hid g
  clear g
  go_enter Tryd.func67, Tryd.ntmps67
  go_wp2_with (first | (go_at_call 66; (with_reducible refine (numU_ok s p 1 ok1 hs h0 _).mono ?_); rintro e w' ⟨rfl, rfl⟩) | (go_at_call 83; (with_reducible refine (rgets_any s (p + 1) (by omega) _).mono ?_); rintro e w' ⟨rfl, rfl⟩))
  refine bodyPost_ret (v := .tuple #[(Value.agg #[Value.int IntKind.i64 (Cn.t ((⟨1, gsB s (p + 1), 0, 0, 0⟩ : Cn))), Value.string (Cn.s ((⟨1, gsB s (p + 1), 0, 0, 0⟩ : Cn))), Value.int IntKind.i64 (Cn.n ((⟨1, gsB s (p + 1), 0, 0, 0⟩ : Cn))), Value.int IntKind.i64 (Cn.a ((⟨1, gsB s (p + 1), 0, 0, 0⟩ : Cn))), Value.int IntKind.i64 (Cn.b ((⟨1, gsB s (p + 1), 0, 0, 0⟩ : Cn)))]), .int .i64 (gsN s (p + 1)), .int .i64 0]) ?_ rfl ⟨⟨1, gsB s (p + 1), 0, 0, 0⟩, gsN s (p + 1), by rw [e0], fun _ => ⟨G.out.2.1.symm, by rw [G.out.2.2]⟩, below_al (below_al hB _) _⟩
  simp [results, Tryd.f67, go_sem, set_same, *]
set_option maxRecDepth 100000 in
theorem tk_1n (s : ByteArray) (p : Int) (hs : s.size ≤ 140737488355328) (hp : 0 ≤ p ∧ p ≤ s.size) (h0 : unsE s p 1 = 0) (hv : unsV s p 1 = 1) (h1 : gsE s (p + 1) = 3) (w : World) : Calls Tryd.prog 67 #[.string s, .int .i64 p] w (DcRet w s p) := by
  have hB : Below w.heap.size w w := Below.refl _ _
  have hl := un_0 ok1 h0
  have e0 : dcE s p = 3 := (dw_1 h0 hv).1.trans h1
  have G := Lib.hid e0
  clear e0
  go_enter Tryd.func67, Tryd.ntmps67
  go_wp2_with (first | (go_at_call 66; (with_reducible refine (numU_ok s p 1 ok1 hs h0 _).mono ?_); rintro e w' ⟨rfl, rfl⟩) | (go_at_call 83; (with_reducible refine (rgets_any s (p + 1) (by omega) _).mono ?_); rintro e w' ⟨rfl, rfl⟩))
  refine bodyPost_ret (v := .tuple #[(Value.agg #[Value.int IntKind.i64 (Cn.t ((⟨1, gsB s (p + 1), 0, 0, 0⟩ : Cn))), Value.string (Cn.s ((⟨1, gsB s (p + 1), 0, 0, 0⟩ : Cn))), Value.int IntKind.i64 (Cn.n ((⟨1, gsB s (p + 1), 0, 0, 0⟩ : Cn))), Value.int IntKind.i64 (Cn.a ((⟨1, gsB s (p + 1), 0, 0, 0⟩ : Cn))), Value.int IntKind.i64 (Cn.b ((⟨1, gsB s (p + 1), 0, 0, 0⟩ : Cn)))]), .int .i64 0, .int .i64 3]) ?_ rfl ⟨⟨1, gsB s (p + 1), 0, 0, 0⟩, 0, by rw [G.out], fun h => absurd (G.out.symm.trans h) (by decide), below_al (below_al hB _) _⟩
  simp [results, Tryd.f67, go_sem, set_same, *]
set_option maxRecDepth 100000 in
theorem tk_3 (s : ByteArray) (p : Int) (hs : s.size ≤ 140737488355328) (hp : 0 ≤ p ∧ p ≤ s.size) (h0 : unsE s p 1 = 0) (hv : unsV s p 1 = 3) (h1 : unsE s (p + 1) 4 = 0) (w : World) : Calls Tryd.prog 67 #[.string s, .int .i64 p] w (DcRet w s p) := by
  have hB : Below w.heap.size w w := Below.refl _ _
  have hl := un_0 ok1 h0
  have g := dw_3 h0 hv
  rw [hv] at g
  have e0 : dcE s p = 0 := by rw [g.1]; exact h1
  have G := Lib.hid g
  clear g
  go_enter Tryd.func67, Tryd.ntmps67
  go_wp2_with (first | (go_at_call 66; (with_reducible refine (numU_ok s p 1 ok1 hs h0 _).mono ?_); rintro e w' ⟨rfl, rfl⟩) | (go_at_call 66; (with_reducible refine (numS_ok s (p + 1) 4 ok4 hs h1 _).mono ?_); rintro e w' ⟨rfl, rfl⟩))
  refine bodyPost_ret (v := .tuple #[(Value.agg #[Value.int IntKind.i64 (Cn.t ((⟨3, ⟨#[]⟩, sigV s (p + 1) 4, 0, 0⟩ : Cn))), Value.string (Cn.s ((⟨3, ⟨#[]⟩, sigV s (p + 1) 4, 0, 0⟩ : Cn))), Value.int IntKind.i64 (Cn.n ((⟨3, ⟨#[]⟩, sigV s (p + 1) 4, 0, 0⟩ : Cn))), Value.int IntKind.i64 (Cn.a ((⟨3, ⟨#[]⟩, sigV s (p + 1) 4, 0, 0⟩ : Cn))), Value.int IntKind.i64 (Cn.b ((⟨3, ⟨#[]⟩, sigV s (p + 1) 4, 0, 0⟩ : Cn)))]), .int .i64 (p + 1 + 4), .int .i64 0]) ?_ rfl ⟨⟨3, ⟨#[]⟩, sigV s (p + 1) 4, 0, 0⟩, p + 1 + 4, by rw [e0], fun _ => ⟨G.out.2.1.symm, by rw [G.out.2.2]; omega⟩, below_al (below_al hB _) _⟩
  simp [results, Tryd.f67, go_sem, set_same, *]
set_option maxRecDepth 100000 in
theorem tk_3n (s : ByteArray) (p : Int) (hs : s.size ≤ 140737488355328) (hp : 0 ≤ p ∧ p ≤ s.size) (h0 : unsE s p 1 = 0) (hv : unsV s p 1 = 3) (h1 : unsE s (p + 1) 4 = 3) (w : World) : Calls Tryd.prog 67 #[.string s, .int .i64 p] w (DcRet w s p) := by
  have hB : Below w.heap.size w w := Below.refl _ _
  have hl := un_0 ok1 h0
  have e0 : dcE s p = 3 := (dw_3 h0 hv).1.trans h1
  have G := Lib.hid e0
  clear e0
  go_enter Tryd.func67, Tryd.ntmps67
  go_wp2_with (first | (go_at_call 66; (with_reducible refine (numU_ok s p 1 ok1 hs h0 _).mono ?_); rintro e w' ⟨rfl, rfl⟩) | (go_at_call 66; (with_reducible refine (numS_no s (p + 1) 4 ok4 hs (by omega) h1 _).mono ?_); rintro e w' ⟨rfl, rfl⟩))
  refine bodyPost_ret (v := .tuple #[(Value.agg #[Value.int IntKind.i64 (Cn.t ((⟨3, ⟨#[]⟩, 0, 0, 0⟩ : Cn))), Value.string (Cn.s ((⟨3, ⟨#[]⟩, 0, 0, 0⟩ : Cn))), Value.int IntKind.i64 (Cn.n ((⟨3, ⟨#[]⟩, 0, 0, 0⟩ : Cn))), Value.int IntKind.i64 (Cn.a ((⟨3, ⟨#[]⟩, 0, 0, 0⟩ : Cn))), Value.int IntKind.i64 (Cn.b ((⟨3, ⟨#[]⟩, 0, 0, 0⟩ : Cn)))]), .int .i64 0, .int .i64 3]) ?_ rfl ⟨⟨3, ⟨#[]⟩, 0, 0, 0⟩, 0, by rw [G.out], fun h => absurd (G.out.symm.trans h) (by decide), below_al (below_al hB _) _⟩
  simp [results, Tryd.f67, go_sem, set_same, *]
set_option maxRecDepth 100000 in
theorem tk_5 (s : ByteArray) (p : Int) (hs : s.size ≤ 140737488355328) (hp : 0 ≤ p ∧ p ≤ s.size) (h0 : unsE s p 1 = 0) (hv : unsV s p 1 = 5) (h1 : unsE s (p + 1) 8 = 0) (w : World) : Calls Tryd.prog 67 #[.string s, .int .i64 p] w (DcRet w s p) := by
  have hB : Below w.heap.size w w := Below.refl _ _
  have hl := un_0 ok1 h0
  have g := dw_5 h0 hv
  rw [hv] at g
  have e0 : dcE s p = 0 := by rw [g.1]; exact h1
  have G := Lib.hid g
  clear g
  go_enter Tryd.func67, Tryd.ntmps67
  go_wp2_with (first | (go_at_call 66; (with_reducible refine (numU_ok s p 1 ok1 hs h0 _).mono ?_); rintro e w' ⟨rfl, rfl⟩) | (go_at_call 66; (with_reducible refine (numS_ok s (p + 1) 8 ok8 hs h1 _).mono ?_); rintro e w' ⟨rfl, rfl⟩))
  refine bodyPost_ret (v := .tuple #[(Value.agg #[Value.int IntKind.i64 (Cn.t ((⟨5, ⟨#[]⟩, sigV s (p + 1) 8, 0, 0⟩ : Cn))), Value.string (Cn.s ((⟨5, ⟨#[]⟩, sigV s (p + 1) 8, 0, 0⟩ : Cn))), Value.int IntKind.i64 (Cn.n ((⟨5, ⟨#[]⟩, sigV s (p + 1) 8, 0, 0⟩ : Cn))), Value.int IntKind.i64 (Cn.a ((⟨5, ⟨#[]⟩, sigV s (p + 1) 8, 0, 0⟩ : Cn))), Value.int IntKind.i64 (Cn.b ((⟨5, ⟨#[]⟩, sigV s (p + 1) 8, 0, 0⟩ : Cn)))]), .int .i64 (p + 1 + 8), .int .i64 0]) ?_ rfl ⟨⟨5, ⟨#[]⟩, sigV s (p + 1) 8, 0, 0⟩, p + 1 + 8, by rw [e0], fun _ => ⟨G.out.2.1.symm, by rw [G.out.2.2]; omega⟩, below_al (below_al hB _) _⟩
  simp [results, Tryd.f67, go_sem, set_same, *]
set_option maxRecDepth 100000 in
theorem tk_5n (s : ByteArray) (p : Int) (hs : s.size ≤ 140737488355328) (hp : 0 ≤ p ∧ p ≤ s.size) (h0 : unsE s p 1 = 0) (hv : unsV s p 1 = 5) (h1 : unsE s (p + 1) 8 = 3) (w : World) : Calls Tryd.prog 67 #[.string s, .int .i64 p] w (DcRet w s p) := by
  have hB : Below w.heap.size w w := Below.refl _ _
  have hl := un_0 ok1 h0
  have e0 : dcE s p = 3 := (dw_5 h0 hv).1.trans h1
  have G := Lib.hid e0
  clear e0
  go_enter Tryd.func67, Tryd.ntmps67
  go_wp2_with (first | (go_at_call 66; (with_reducible refine (numU_ok s p 1 ok1 hs h0 _).mono ?_); rintro e w' ⟨rfl, rfl⟩) | (go_at_call 66; (with_reducible refine (numS_no s (p + 1) 8 ok8 hs (by omega) h1 _).mono ?_); rintro e w' ⟨rfl, rfl⟩))
  refine bodyPost_ret (v := .tuple #[(Value.agg #[Value.int IntKind.i64 (Cn.t ((⟨5, ⟨#[]⟩, 0, 0, 0⟩ : Cn))), Value.string (Cn.s ((⟨5, ⟨#[]⟩, 0, 0, 0⟩ : Cn))), Value.int IntKind.i64 (Cn.n ((⟨5, ⟨#[]⟩, 0, 0, 0⟩ : Cn))), Value.int IntKind.i64 (Cn.a ((⟨5, ⟨#[]⟩, 0, 0, 0⟩ : Cn))), Value.int IntKind.i64 (Cn.b ((⟨5, ⟨#[]⟩, 0, 0, 0⟩ : Cn)))]), .int .i64 0, .int .i64 3]) ?_ rfl ⟨⟨5, ⟨#[]⟩, 0, 0, 0⟩, 0, by rw [G.out], fun h => absurd (G.out.symm.trans h) (by decide), below_al (below_al hB _) _⟩
  simp [results, Tryd.f67, go_sem, set_same, *]
set_option maxRecDepth 100000 in
theorem tk_7 (s : ByteArray) (p : Int) (hs : s.size ≤ 140737488355328) (hp : 0 ≤ p ∧ p ≤ s.size) (h0 : unsE s p 1 = 0) (hv : unsV s p 1 = 7) (h1 : unsE s (p + 1) 2 = 0) (w : World) : Calls Tryd.prog 67 #[.string s, .int .i64 p] w (DcRet w s p) := by
  have hB : Below w.heap.size w w := Below.refl _ _
  have hl := un_0 ok1 h0
  have g := dw_7 h0 (Or.inl hv)
  rw [hv] at g
  have e0 : dcE s p = 0 := by rw [g.1]; exact h1
  have G := Lib.hid g
  clear g
  go_enter Tryd.func67, Tryd.ntmps67
  go_wp2_with (first | (go_at_call 66; (with_reducible refine (numU_ok s p 1 ok1 hs h0 _).mono ?_); rintro e w' ⟨rfl, rfl⟩) | (go_at_call 66; (with_reducible refine (numU_ok s (p + 1) 2 ok2 hs h1 _).mono ?_); rintro e w' ⟨rfl, rfl⟩))
  refine bodyPost_ret (v := .tuple #[(Value.agg #[Value.int IntKind.i64 (Cn.t ((⟨7, ⟨#[]⟩, 0, unsV s (p + 1) 2, 0⟩ : Cn))), Value.string (Cn.s ((⟨7, ⟨#[]⟩, 0, unsV s (p + 1) 2, 0⟩ : Cn))), Value.int IntKind.i64 (Cn.n ((⟨7, ⟨#[]⟩, 0, unsV s (p + 1) 2, 0⟩ : Cn))), Value.int IntKind.i64 (Cn.a ((⟨7, ⟨#[]⟩, 0, unsV s (p + 1) 2, 0⟩ : Cn))), Value.int IntKind.i64 (Cn.b ((⟨7, ⟨#[]⟩, 0, unsV s (p + 1) 2, 0⟩ : Cn)))]), .int .i64 (p + 1 + 2), .int .i64 0]) ?_ rfl ⟨⟨7, ⟨#[]⟩, 0, unsV s (p + 1) 2, 0⟩, p + 1 + 2, by rw [e0], fun _ => ⟨G.out.2.1.symm, by rw [G.out.2.2]; omega⟩, below_al (below_al hB _) _⟩
  simp [results, Tryd.f67, go_sem, set_same, *]
set_option maxRecDepth 100000 in
theorem tk_7n (s : ByteArray) (p : Int) (hs : s.size ≤ 140737488355328) (hp : 0 ≤ p ∧ p ≤ s.size) (h0 : unsE s p 1 = 0) (hv : unsV s p 1 = 7) (h1 : unsE s (p + 1) 2 = 3) (w : World) : Calls Tryd.prog 67 #[.string s, .int .i64 p] w (DcRet w s p) := by
  have hB : Below w.heap.size w w := Below.refl _ _
  have hl := un_0 ok1 h0
  have e0 : dcE s p = 3 := (dw_7 h0 (Or.inl hv)).1.trans h1
  have G := Lib.hid e0
  clear e0
  go_enter Tryd.func67, Tryd.ntmps67
  go_wp2_with (first | (go_at_call 66; (with_reducible refine (numU_ok s p 1 ok1 hs h0 _).mono ?_); rintro e w' ⟨rfl, rfl⟩) | (go_at_call 66; (with_reducible refine (numU_no s (p + 1) 2 ok2 hs (by omega) h1 _).mono ?_); rintro e w' ⟨rfl, rfl⟩))
  refine bodyPost_ret (v := .tuple #[(Value.agg #[Value.int IntKind.i64 (Cn.t ((⟨7, ⟨#[]⟩, 0, 0, 0⟩ : Cn))), Value.string (Cn.s ((⟨7, ⟨#[]⟩, 0, 0, 0⟩ : Cn))), Value.int IntKind.i64 (Cn.n ((⟨7, ⟨#[]⟩, 0, 0, 0⟩ : Cn))), Value.int IntKind.i64 (Cn.a ((⟨7, ⟨#[]⟩, 0, 0, 0⟩ : Cn))), Value.int IntKind.i64 (Cn.b ((⟨7, ⟨#[]⟩, 0, 0, 0⟩ : Cn)))]), .int .i64 0, .int .i64 3]) ?_ rfl ⟨⟨7, ⟨#[]⟩, 0, 0, 0⟩, 0, by rw [G.out], fun h => absurd (G.out.symm.trans h) (by decide), below_al (below_al hB _) _⟩
  simp [results, Tryd.f67, go_sem, set_same, *]
set_option maxRecDepth 100000 in
theorem tk_8 (s : ByteArray) (p : Int) (hs : s.size ≤ 140737488355328) (hp : 0 ≤ p ∧ p ≤ s.size) (h0 : unsE s p 1 = 0) (hv : unsV s p 1 = 8) (h1 : unsE s (p + 1) 2 = 0) (w : World) : Calls Tryd.prog 67 #[.string s, .int .i64 p] w (DcRet w s p) := by
  have hB : Below w.heap.size w w := Below.refl _ _
  have hl := un_0 ok1 h0
  have g := dw_7 h0 (Or.inr hv)
  rw [hv] at g
  have e0 : dcE s p = 0 := by rw [g.1]; exact h1
  have G := Lib.hid g
  clear g
  go_enter Tryd.func67, Tryd.ntmps67
  go_wp2_with (first | (go_at_call 66; (with_reducible refine (numU_ok s p 1 ok1 hs h0 _).mono ?_); rintro e w' ⟨rfl, rfl⟩) | (go_at_call 66; (with_reducible refine (numU_ok s (p + 1) 2 ok2 hs h1 _).mono ?_); rintro e w' ⟨rfl, rfl⟩))
  refine bodyPost_ret (v := .tuple #[(Value.agg #[Value.int IntKind.i64 (Cn.t ((⟨8, ⟨#[]⟩, 0, unsV s (p + 1) 2, 0⟩ : Cn))), Value.string (Cn.s ((⟨8, ⟨#[]⟩, 0, unsV s (p + 1) 2, 0⟩ : Cn))), Value.int IntKind.i64 (Cn.n ((⟨8, ⟨#[]⟩, 0, unsV s (p + 1) 2, 0⟩ : Cn))), Value.int IntKind.i64 (Cn.a ((⟨8, ⟨#[]⟩, 0, unsV s (p + 1) 2, 0⟩ : Cn))), Value.int IntKind.i64 (Cn.b ((⟨8, ⟨#[]⟩, 0, unsV s (p + 1) 2, 0⟩ : Cn)))]), .int .i64 (p + 1 + 2), .int .i64 0]) ?_ rfl ⟨⟨8, ⟨#[]⟩, 0, unsV s (p + 1) 2, 0⟩, p + 1 + 2, by rw [e0], fun _ => ⟨G.out.2.1.symm, by rw [G.out.2.2]; omega⟩, below_al (below_al hB _) _⟩
  simp [results, Tryd.f67, go_sem, set_same, *]
set_option maxRecDepth 100000 in
theorem tk_8n (s : ByteArray) (p : Int) (hs : s.size ≤ 140737488355328) (hp : 0 ≤ p ∧ p ≤ s.size) (h0 : unsE s p 1 = 0) (hv : unsV s p 1 = 8) (h1 : unsE s (p + 1) 2 = 3) (w : World) : Calls Tryd.prog 67 #[.string s, .int .i64 p] w (DcRet w s p) := by
  have hB : Below w.heap.size w w := Below.refl _ _
  have hl := un_0 ok1 h0
  have e0 : dcE s p = 3 := (dw_7 h0 (Or.inr hv)).1.trans h1
  have G := Lib.hid e0
  clear e0
  go_enter Tryd.func67, Tryd.ntmps67
  go_wp2_with (first | (go_at_call 66; (with_reducible refine (numU_ok s p 1 ok1 hs h0 _).mono ?_); rintro e w' ⟨rfl, rfl⟩) | (go_at_call 66; (with_reducible refine (numU_no s (p + 1) 2 ok2 hs (by omega) h1 _).mono ?_); rintro e w' ⟨rfl, rfl⟩))
  refine bodyPost_ret (v := .tuple #[(Value.agg #[Value.int IntKind.i64 (Cn.t ((⟨8, ⟨#[]⟩, 0, 0, 0⟩ : Cn))), Value.string (Cn.s ((⟨8, ⟨#[]⟩, 0, 0, 0⟩ : Cn))), Value.int IntKind.i64 (Cn.n ((⟨8, ⟨#[]⟩, 0, 0, 0⟩ : Cn))), Value.int IntKind.i64 (Cn.a ((⟨8, ⟨#[]⟩, 0, 0, 0⟩ : Cn))), Value.int IntKind.i64 (Cn.b ((⟨8, ⟨#[]⟩, 0, 0, 0⟩ : Cn)))]), .int .i64 0, .int .i64 3]) ?_ rfl ⟨⟨8, ⟨#[]⟩, 0, 0, 0⟩, 0, by rw [G.out], fun h => absurd (G.out.symm.trans h) (by decide), below_al (below_al hB _) _⟩
  simp [results, Tryd.f67, go_sem, set_same, *]
set_option maxRecDepth 100000 in
theorem tk_9 (s : ByteArray) (p : Int) (hs : s.size ≤ 140737488355328) (hp : 0 ≤ p ∧ p ≤ s.size) (h0 : unsE s p 1 = 0) (hv : unsV s p 1 = 9) (h1 : unsE s (p + 1) 2 = 0) (h2 : unsE s (p + 1 + 2) 2 = 0) (w : World) : Calls Tryd.prog 67 #[.string s, .int .i64 p] w (DcRet w s p) := by
  have hB : Below w.heap.size w w := Below.refl _ _
  have hl := un_0 ok1 h0
  have g := dw_m h0 (by rw [hv]; decide) h1
  rw [show p + 3 = p + 1 + 2 by omega] at g
  rw [hv] at g
  have e0 : dcE s p = 0 := by rw [g.1]; exact h2
  have G := Lib.hid g
  clear g
  go_enter Tryd.func67, Tryd.ntmps67
  go_wp2_with (first | (go_at_call 66; (with_reducible refine (numU_ok s p 1 ok1 hs h0 _).mono ?_); rintro e w' ⟨rfl, rfl⟩) | (go_at_call 66; (with_reducible refine (numU_ok s (p + 1) 2 ok2 hs h1 _).mono ?_); rintro e w' ⟨rfl, rfl⟩) | (go_at_call 66; (with_reducible refine (numU_ok s (p + 1 + 2) 2 ok2 hs h2 _).mono ?_); rintro e w' ⟨rfl, rfl⟩))
  refine bodyPost_ret (v := .tuple #[(Value.agg #[Value.int IntKind.i64 (Cn.t ((⟨9, ⟨#[]⟩, 0, unsV s (p + 1) 2, unsV s (p + 1 + 2) 2⟩ : Cn))), Value.string (Cn.s ((⟨9, ⟨#[]⟩, 0, unsV s (p + 1) 2, unsV s (p + 1 + 2) 2⟩ : Cn))), Value.int IntKind.i64 (Cn.n ((⟨9, ⟨#[]⟩, 0, unsV s (p + 1) 2, unsV s (p + 1 + 2) 2⟩ : Cn))), Value.int IntKind.i64 (Cn.a ((⟨9, ⟨#[]⟩, 0, unsV s (p + 1) 2, unsV s (p + 1 + 2) 2⟩ : Cn))), Value.int IntKind.i64 (Cn.b ((⟨9, ⟨#[]⟩, 0, unsV s (p + 1) 2, unsV s (p + 1 + 2) 2⟩ : Cn)))]), .int .i64 (p + 1 + 2 + 2), .int .i64 0]) ?_ rfl ⟨⟨9, ⟨#[]⟩, 0, unsV s (p + 1) 2, unsV s (p + 1 + 2) 2⟩, p + 1 + 2 + 2, by rw [e0], fun _ => ⟨G.out.2.1.symm, by rw [G.out.2.2]; omega⟩, below_al (below_al hB _) _⟩
  simp [results, Tryd.f67, go_sem, set_same, *]
set_option maxRecDepth 100000 in
theorem tk_9m (s : ByteArray) (p : Int) (hs : s.size ≤ 140737488355328) (hp : 0 ≤ p ∧ p ≤ s.size) (h0 : unsE s p 1 = 0) (hv : unsV s p 1 = 9) (h1 : unsE s (p + 1) 2 = 0) (h2 : unsE s (p + 1 + 2) 2 = 3) (w : World) : Calls Tryd.prog 67 #[.string s, .int .i64 p] w (DcRet w s p) := by
  have hB : Below w.heap.size w w := Below.refl _ _
  have hl := un_0 ok1 h0
  have e0 : dcE s p = 3 := (dw_m h0 (by rw [hv]; decide) h1).1.trans (by rw [show p + 3 = p + 1 + 2 by omega]; exact h2)
  have G := Lib.hid e0
  clear e0
  go_enter Tryd.func67, Tryd.ntmps67
  go_wp2_with (first | (go_at_call 66; (with_reducible refine (numU_ok s p 1 ok1 hs h0 _).mono ?_); rintro e w' ⟨rfl, rfl⟩) | (go_at_call 66; (with_reducible refine (numU_ok s (p + 1) 2 ok2 hs h1 _).mono ?_); rintro e w' ⟨rfl, rfl⟩) | (go_at_call 66; (with_reducible refine (numU_no s (p + 1 + 2) 2 ok2 hs (by have := (un_0 ok2 h1).2; omega) h2 _).mono ?_); rintro e w' ⟨rfl, rfl⟩))
  refine bodyPost_ret (v := .tuple #[(Value.agg #[Value.int IntKind.i64 (Cn.t ((⟨9, ⟨#[]⟩, 0, unsV s (p + 1) 2, 0⟩ : Cn))), Value.string (Cn.s ((⟨9, ⟨#[]⟩, 0, unsV s (p + 1) 2, 0⟩ : Cn))), Value.int IntKind.i64 (Cn.n ((⟨9, ⟨#[]⟩, 0, unsV s (p + 1) 2, 0⟩ : Cn))), Value.int IntKind.i64 (Cn.a ((⟨9, ⟨#[]⟩, 0, unsV s (p + 1) 2, 0⟩ : Cn))), Value.int IntKind.i64 (Cn.b ((⟨9, ⟨#[]⟩, 0, unsV s (p + 1) 2, 0⟩ : Cn)))]), .int .i64 0, .int .i64 3]) ?_ rfl ⟨⟨9, ⟨#[]⟩, 0, unsV s (p + 1) 2, 0⟩, 0, by rw [G.out], fun h => absurd (G.out.symm.trans h) (by decide), below_al (below_al hB _) _⟩
  simp [results, Tryd.f67, go_sem, set_same, *]
set_option maxRecDepth 100000 in
theorem tk_9n (s : ByteArray) (p : Int) (hs : s.size ≤ 140737488355328) (hp : 0 ≤ p ∧ p ≤ s.size) (h0 : unsE s p 1 = 0) (hv : unsV s p 1 = 9) (h1 : unsE s (p + 1) 2 = 3) (w : World) : Calls Tryd.prog 67 #[.string s, .int .i64 p] w (DcRet w s p) := by
  have hB : Below w.heap.size w w := Below.refl _ _
  have hl := un_0 ok1 h0
  have e0 : dcE s p = 3 := (dw_n h0 (by rw [hv]; decide) (by omega)).trans h1
  have G := Lib.hid e0
  clear e0
  go_enter Tryd.func67, Tryd.ntmps67
  go_wp2_with (first | (go_at_call 66; (with_reducible refine (numU_ok s p 1 ok1 hs h0 _).mono ?_); rintro e w' ⟨rfl, rfl⟩) | (go_at_call 66; (with_reducible refine (numU_no s (p + 1) 2 ok2 hs (by omega) h1 _).mono ?_); rintro e w' ⟨rfl, rfl⟩))
  refine bodyPost_ret (v := .tuple #[(Value.agg #[Value.int IntKind.i64 (Cn.t ((⟨9, ⟨#[]⟩, 0, 0, 0⟩ : Cn))), Value.string (Cn.s ((⟨9, ⟨#[]⟩, 0, 0, 0⟩ : Cn))), Value.int IntKind.i64 (Cn.n ((⟨9, ⟨#[]⟩, 0, 0, 0⟩ : Cn))), Value.int IntKind.i64 (Cn.a ((⟨9, ⟨#[]⟩, 0, 0, 0⟩ : Cn))), Value.int IntKind.i64 (Cn.b ((⟨9, ⟨#[]⟩, 0, 0, 0⟩ : Cn)))]), .int .i64 0, .int .i64 3]) ?_ rfl ⟨⟨9, ⟨#[]⟩, 0, 0, 0⟩, 0, by rw [G.out], fun h => absurd (G.out.symm.trans h) (by decide), below_al (below_al hB _) _⟩
  simp [results, Tryd.f67, go_sem, set_same, *]
set_option maxRecDepth 100000 in
theorem tk_10 (s : ByteArray) (p : Int) (hs : s.size ≤ 140737488355328) (hp : 0 ≤ p ∧ p ≤ s.size) (h0 : unsE s p 1 = 0) (hv : unsV s p 1 = 10) (h1 : unsE s (p + 1) 2 = 0) (h2 : unsE s (p + 1 + 2) 2 = 0) (w : World) : Calls Tryd.prog 67 #[.string s, .int .i64 p] w (DcRet w s p) := by
  have hB : Below w.heap.size w w := Below.refl _ _
  have hl := un_0 ok1 h0
  have g := dw_m h0 (by rw [hv]; decide) h1
  rw [show p + 3 = p + 1 + 2 by omega] at g
  rw [hv] at g
  have e0 : dcE s p = 0 := by rw [g.1]; exact h2
  have G := Lib.hid g
  clear g
  go_enter Tryd.func67, Tryd.ntmps67
  go_wp2_with (first | (go_at_call 66; (with_reducible refine (numU_ok s p 1 ok1 hs h0 _).mono ?_); rintro e w' ⟨rfl, rfl⟩) | (go_at_call 66; (with_reducible refine (numU_ok s (p + 1) 2 ok2 hs h1 _).mono ?_); rintro e w' ⟨rfl, rfl⟩) | (go_at_call 66; (with_reducible refine (numU_ok s (p + 1 + 2) 2 ok2 hs h2 _).mono ?_); rintro e w' ⟨rfl, rfl⟩))
  refine bodyPost_ret (v := .tuple #[(Value.agg #[Value.int IntKind.i64 (Cn.t ((⟨10, ⟨#[]⟩, 0, unsV s (p + 1) 2, unsV s (p + 1 + 2) 2⟩ : Cn))), Value.string (Cn.s ((⟨10, ⟨#[]⟩, 0, unsV s (p + 1) 2, unsV s (p + 1 + 2) 2⟩ : Cn))), Value.int IntKind.i64 (Cn.n ((⟨10, ⟨#[]⟩, 0, unsV s (p + 1) 2, unsV s (p + 1 + 2) 2⟩ : Cn))), Value.int IntKind.i64 (Cn.a ((⟨10, ⟨#[]⟩, 0, unsV s (p + 1) 2, unsV s (p + 1 + 2) 2⟩ : Cn))), Value.int IntKind.i64 (Cn.b ((⟨10, ⟨#[]⟩, 0, unsV s (p + 1) 2, unsV s (p + 1 + 2) 2⟩ : Cn)))]), .int .i64 (p + 1 + 2 + 2), .int .i64 0]) ?_ rfl ⟨⟨10, ⟨#[]⟩, 0, unsV s (p + 1) 2, unsV s (p + 1 + 2) 2⟩, p + 1 + 2 + 2, by rw [e0], fun _ => ⟨G.out.2.1.symm, by rw [G.out.2.2]; omega⟩, below_al (below_al hB _) _⟩
  simp [results, Tryd.f67, go_sem, set_same, *]
set_option maxRecDepth 100000 in
theorem tk_10m (s : ByteArray) (p : Int) (hs : s.size ≤ 140737488355328) (hp : 0 ≤ p ∧ p ≤ s.size) (h0 : unsE s p 1 = 0) (hv : unsV s p 1 = 10) (h1 : unsE s (p + 1) 2 = 0) (h2 : unsE s (p + 1 + 2) 2 = 3) (w : World) : Calls Tryd.prog 67 #[.string s, .int .i64 p] w (DcRet w s p) := by
  have hB : Below w.heap.size w w := Below.refl _ _
  have hl := un_0 ok1 h0
  have e0 : dcE s p = 3 := (dw_m h0 (by rw [hv]; decide) h1).1.trans (by rw [show p + 3 = p + 1 + 2 by omega]; exact h2)
  have G := Lib.hid e0
  clear e0
  go_enter Tryd.func67, Tryd.ntmps67
  go_wp2_with (first | (go_at_call 66; (with_reducible refine (numU_ok s p 1 ok1 hs h0 _).mono ?_); rintro e w' ⟨rfl, rfl⟩) | (go_at_call 66; (with_reducible refine (numU_ok s (p + 1) 2 ok2 hs h1 _).mono ?_); rintro e w' ⟨rfl, rfl⟩) | (go_at_call 66; (with_reducible refine (numU_no s (p + 1 + 2) 2 ok2 hs (by have := (un_0 ok2 h1).2; omega) h2 _).mono ?_); rintro e w' ⟨rfl, rfl⟩))
  refine bodyPost_ret (v := .tuple #[(Value.agg #[Value.int IntKind.i64 (Cn.t ((⟨10, ⟨#[]⟩, 0, unsV s (p + 1) 2, 0⟩ : Cn))), Value.string (Cn.s ((⟨10, ⟨#[]⟩, 0, unsV s (p + 1) 2, 0⟩ : Cn))), Value.int IntKind.i64 (Cn.n ((⟨10, ⟨#[]⟩, 0, unsV s (p + 1) 2, 0⟩ : Cn))), Value.int IntKind.i64 (Cn.a ((⟨10, ⟨#[]⟩, 0, unsV s (p + 1) 2, 0⟩ : Cn))), Value.int IntKind.i64 (Cn.b ((⟨10, ⟨#[]⟩, 0, unsV s (p + 1) 2, 0⟩ : Cn)))]), .int .i64 0, .int .i64 3]) ?_ rfl ⟨⟨10, ⟨#[]⟩, 0, unsV s (p + 1) 2, 0⟩, 0, by rw [G.out], fun h => absurd (G.out.symm.trans h) (by decide), below_al (below_al hB _) _⟩
  simp [results, Tryd.f67, go_sem, set_same, *]
set_option maxRecDepth 100000 in
theorem tk_10n (s : ByteArray) (p : Int) (hs : s.size ≤ 140737488355328) (hp : 0 ≤ p ∧ p ≤ s.size) (h0 : unsE s p 1 = 0) (hv : unsV s p 1 = 10) (h1 : unsE s (p + 1) 2 = 3) (w : World) : Calls Tryd.prog 67 #[.string s, .int .i64 p] w (DcRet w s p) := by
  have hB : Below w.heap.size w w := Below.refl _ _
  have hl := un_0 ok1 h0
  have e0 : dcE s p = 3 := (dw_n h0 (by rw [hv]; decide) (by omega)).trans h1
  have G := Lib.hid e0
  clear e0
  go_enter Tryd.func67, Tryd.ntmps67
  go_wp2_with (first | (go_at_call 66; (with_reducible refine (numU_ok s p 1 ok1 hs h0 _).mono ?_); rintro e w' ⟨rfl, rfl⟩) | (go_at_call 66; (with_reducible refine (numU_no s (p + 1) 2 ok2 hs (by omega) h1 _).mono ?_); rintro e w' ⟨rfl, rfl⟩))
  refine bodyPost_ret (v := .tuple #[(Value.agg #[Value.int IntKind.i64 (Cn.t ((⟨10, ⟨#[]⟩, 0, 0, 0⟩ : Cn))), Value.string (Cn.s ((⟨10, ⟨#[]⟩, 0, 0, 0⟩ : Cn))), Value.int IntKind.i64 (Cn.n ((⟨10, ⟨#[]⟩, 0, 0, 0⟩ : Cn))), Value.int IntKind.i64 (Cn.a ((⟨10, ⟨#[]⟩, 0, 0, 0⟩ : Cn))), Value.int IntKind.i64 (Cn.b ((⟨10, ⟨#[]⟩, 0, 0, 0⟩ : Cn)))]), .int .i64 0, .int .i64 3]) ?_ rfl ⟨⟨10, ⟨#[]⟩, 0, 0, 0⟩, 0, by rw [G.out], fun h => absurd (G.out.symm.trans h) (by decide), below_al (below_al hB _) _⟩
  simp [results, Tryd.f67, go_sem, set_same, *]
set_option maxRecDepth 100000 in
theorem tk_11 (s : ByteArray) (p : Int) (hs : s.size ≤ 140737488355328) (hp : 0 ≤ p ∧ p ≤ s.size) (h0 : unsE s p 1 = 0) (hv : unsV s p 1 = 11) (h1 : unsE s (p + 1) 2 = 0) (h2 : unsE s (p + 1 + 2) 2 = 0) (w : World) : Calls Tryd.prog 67 #[.string s, .int .i64 p] w (DcRet w s p) := by
  have hB : Below w.heap.size w w := Below.refl _ _
  have hl := un_0 ok1 h0
  have g := dw_m h0 (by rw [hv]; decide) h1
  rw [show p + 3 = p + 1 + 2 by omega] at g
  rw [hv] at g
  have e0 : dcE s p = 0 := by rw [g.1]; exact h2
  have G := Lib.hid g
  clear g
  go_enter Tryd.func67, Tryd.ntmps67
  go_wp2_with (first | (go_at_call 66; (with_reducible refine (numU_ok s p 1 ok1 hs h0 _).mono ?_); rintro e w' ⟨rfl, rfl⟩) | (go_at_call 66; (with_reducible refine (numU_ok s (p + 1) 2 ok2 hs h1 _).mono ?_); rintro e w' ⟨rfl, rfl⟩) | (go_at_call 66; (with_reducible refine (numU_ok s (p + 1 + 2) 2 ok2 hs h2 _).mono ?_); rintro e w' ⟨rfl, rfl⟩))
  refine bodyPost_ret (v := .tuple #[(Value.agg #[Value.int IntKind.i64 (Cn.t ((⟨11, ⟨#[]⟩, 0, unsV s (p + 1) 2, unsV s (p + 1 + 2) 2⟩ : Cn))), Value.string (Cn.s ((⟨11, ⟨#[]⟩, 0, unsV s (p + 1) 2, unsV s (p + 1 + 2) 2⟩ : Cn))), Value.int IntKind.i64 (Cn.n ((⟨11, ⟨#[]⟩, 0, unsV s (p + 1) 2, unsV s (p + 1 + 2) 2⟩ : Cn))), Value.int IntKind.i64 (Cn.a ((⟨11, ⟨#[]⟩, 0, unsV s (p + 1) 2, unsV s (p + 1 + 2) 2⟩ : Cn))), Value.int IntKind.i64 (Cn.b ((⟨11, ⟨#[]⟩, 0, unsV s (p + 1) 2, unsV s (p + 1 + 2) 2⟩ : Cn)))]), .int .i64 (p + 1 + 2 + 2), .int .i64 0]) ?_ rfl ⟨⟨11, ⟨#[]⟩, 0, unsV s (p + 1) 2, unsV s (p + 1 + 2) 2⟩, p + 1 + 2 + 2, by rw [e0], fun _ => ⟨G.out.2.1.symm, by rw [G.out.2.2]; omega⟩, below_al (below_al hB _) _⟩
  simp [results, Tryd.f67, go_sem, set_same, *]
set_option maxRecDepth 100000 in
theorem tk_11m (s : ByteArray) (p : Int) (hs : s.size ≤ 140737488355328) (hp : 0 ≤ p ∧ p ≤ s.size) (h0 : unsE s p 1 = 0) (hv : unsV s p 1 = 11) (h1 : unsE s (p + 1) 2 = 0) (h2 : unsE s (p + 1 + 2) 2 = 3) (w : World) : Calls Tryd.prog 67 #[.string s, .int .i64 p] w (DcRet w s p) := by
  have hB : Below w.heap.size w w := Below.refl _ _
  have hl := un_0 ok1 h0
  have e0 : dcE s p = 3 := (dw_m h0 (by rw [hv]; decide) h1).1.trans (by rw [show p + 3 = p + 1 + 2 by omega]; exact h2)
  have G := Lib.hid e0
  clear e0
  go_enter Tryd.func67, Tryd.ntmps67
  go_wp2_with (first | (go_at_call 66; (with_reducible refine (numU_ok s p 1 ok1 hs h0 _).mono ?_); rintro e w' ⟨rfl, rfl⟩) | (go_at_call 66; (with_reducible refine (numU_ok s (p + 1) 2 ok2 hs h1 _).mono ?_); rintro e w' ⟨rfl, rfl⟩) | (go_at_call 66; (with_reducible refine (numU_no s (p + 1 + 2) 2 ok2 hs (by have := (un_0 ok2 h1).2; omega) h2 _).mono ?_); rintro e w' ⟨rfl, rfl⟩))
  refine bodyPost_ret (v := .tuple #[(Value.agg #[Value.int IntKind.i64 (Cn.t ((⟨11, ⟨#[]⟩, 0, unsV s (p + 1) 2, 0⟩ : Cn))), Value.string (Cn.s ((⟨11, ⟨#[]⟩, 0, unsV s (p + 1) 2, 0⟩ : Cn))), Value.int IntKind.i64 (Cn.n ((⟨11, ⟨#[]⟩, 0, unsV s (p + 1) 2, 0⟩ : Cn))), Value.int IntKind.i64 (Cn.a ((⟨11, ⟨#[]⟩, 0, unsV s (p + 1) 2, 0⟩ : Cn))), Value.int IntKind.i64 (Cn.b ((⟨11, ⟨#[]⟩, 0, unsV s (p + 1) 2, 0⟩ : Cn)))]), .int .i64 0, .int .i64 3]) ?_ rfl ⟨⟨11, ⟨#[]⟩, 0, unsV s (p + 1) 2, 0⟩, 0, by rw [G.out], fun h => absurd (G.out.symm.trans h) (by decide), below_al (below_al hB _) _⟩
  simp [results, Tryd.f67, go_sem, set_same, *]
set_option maxRecDepth 100000 in
theorem tk_11n (s : ByteArray) (p : Int) (hs : s.size ≤ 140737488355328) (hp : 0 ≤ p ∧ p ≤ s.size) (h0 : unsE s p 1 = 0) (hv : unsV s p 1 = 11) (h1 : unsE s (p + 1) 2 = 3) (w : World) : Calls Tryd.prog 67 #[.string s, .int .i64 p] w (DcRet w s p) := by
  have hB : Below w.heap.size w w := Below.refl _ _
  have hl := un_0 ok1 h0
  have e0 : dcE s p = 3 := (dw_n h0 (by rw [hv]; decide) (by omega)).trans h1
  have G := Lib.hid e0
  clear e0
  go_enter Tryd.func67, Tryd.ntmps67
  go_wp2_with (first | (go_at_call 66; (with_reducible refine (numU_ok s p 1 ok1 hs h0 _).mono ?_); rintro e w' ⟨rfl, rfl⟩) | (go_at_call 66; (with_reducible refine (numU_no s (p + 1) 2 ok2 hs (by omega) h1 _).mono ?_); rintro e w' ⟨rfl, rfl⟩))
  refine bodyPost_ret (v := .tuple #[(Value.agg #[Value.int IntKind.i64 (Cn.t ((⟨11, ⟨#[]⟩, 0, 0, 0⟩ : Cn))), Value.string (Cn.s ((⟨11, ⟨#[]⟩, 0, 0, 0⟩ : Cn))), Value.int IntKind.i64 (Cn.n ((⟨11, ⟨#[]⟩, 0, 0, 0⟩ : Cn))), Value.int IntKind.i64 (Cn.a ((⟨11, ⟨#[]⟩, 0, 0, 0⟩ : Cn))), Value.int IntKind.i64 (Cn.b ((⟨11, ⟨#[]⟩, 0, 0, 0⟩ : Cn)))]), .int .i64 0, .int .i64 3]) ?_ rfl ⟨⟨11, ⟨#[]⟩, 0, 0, 0⟩, 0, by rw [G.out], fun h => absurd (G.out.symm.trans h) (by decide), below_al (below_al hB _) _⟩
  simp [results, Tryd.f67, go_sem, set_same, *]
set_option maxRecDepth 100000 in
theorem tk_12 (s : ByteArray) (p : Int) (hs : s.size ≤ 140737488355328) (hp : 0 ≤ p ∧ p ≤ s.size) (h0 : unsE s p 1 = 0) (hv : unsV s p 1 = 12) (h1 : unsE s (p + 1) 2 = 0) (h2 : unsE s (p + 1 + 2) 2 = 0) (w : World) : Calls Tryd.prog 67 #[.string s, .int .i64 p] w (DcRet w s p) := by
  have hB : Below w.heap.size w w := Below.refl _ _
  have hl := un_0 ok1 h0
  have g := dw_m h0 (by rw [hv]; decide) h1
  rw [show p + 3 = p + 1 + 2 by omega] at g
  rw [hv] at g
  have e0 : dcE s p = 0 := by rw [g.1]; exact h2
  have G := Lib.hid g
  clear g
  go_enter Tryd.func67, Tryd.ntmps67
  go_wp2_with (first | (go_at_call 66; (with_reducible refine (numU_ok s p 1 ok1 hs h0 _).mono ?_); rintro e w' ⟨rfl, rfl⟩) | (go_at_call 66; (with_reducible refine (numU_ok s (p + 1) 2 ok2 hs h1 _).mono ?_); rintro e w' ⟨rfl, rfl⟩) | (go_at_call 66; (with_reducible refine (numU_ok s (p + 1 + 2) 2 ok2 hs h2 _).mono ?_); rintro e w' ⟨rfl, rfl⟩))
  refine bodyPost_ret (v := .tuple #[(Value.agg #[Value.int IntKind.i64 (Cn.t ((⟨12, ⟨#[]⟩, 0, unsV s (p + 1) 2, unsV s (p + 1 + 2) 2⟩ : Cn))), Value.string (Cn.s ((⟨12, ⟨#[]⟩, 0, unsV s (p + 1) 2, unsV s (p + 1 + 2) 2⟩ : Cn))), Value.int IntKind.i64 (Cn.n ((⟨12, ⟨#[]⟩, 0, unsV s (p + 1) 2, unsV s (p + 1 + 2) 2⟩ : Cn))), Value.int IntKind.i64 (Cn.a ((⟨12, ⟨#[]⟩, 0, unsV s (p + 1) 2, unsV s (p + 1 + 2) 2⟩ : Cn))), Value.int IntKind.i64 (Cn.b ((⟨12, ⟨#[]⟩, 0, unsV s (p + 1) 2, unsV s (p + 1 + 2) 2⟩ : Cn)))]), .int .i64 (p + 1 + 2 + 2), .int .i64 0]) ?_ rfl ⟨⟨12, ⟨#[]⟩, 0, unsV s (p + 1) 2, unsV s (p + 1 + 2) 2⟩, p + 1 + 2 + 2, by rw [e0], fun _ => ⟨G.out.2.1.symm, by rw [G.out.2.2]; omega⟩, below_al (below_al hB _) _⟩
  simp [results, Tryd.f67, go_sem, set_same, *]
set_option maxRecDepth 100000 in
theorem tk_12m (s : ByteArray) (p : Int) (hs : s.size ≤ 140737488355328) (hp : 0 ≤ p ∧ p ≤ s.size) (h0 : unsE s p 1 = 0) (hv : unsV s p 1 = 12) (h1 : unsE s (p + 1) 2 = 0) (h2 : unsE s (p + 1 + 2) 2 = 3) (w : World) : Calls Tryd.prog 67 #[.string s, .int .i64 p] w (DcRet w s p) := by
  have hB : Below w.heap.size w w := Below.refl _ _
  have hl := un_0 ok1 h0
  have e0 : dcE s p = 3 := (dw_m h0 (by rw [hv]; decide) h1).1.trans (by rw [show p + 3 = p + 1 + 2 by omega]; exact h2)
  have G := Lib.hid e0
  clear e0
  go_enter Tryd.func67, Tryd.ntmps67
  go_wp2_with (first | (go_at_call 66; (with_reducible refine (numU_ok s p 1 ok1 hs h0 _).mono ?_); rintro e w' ⟨rfl, rfl⟩) | (go_at_call 66; (with_reducible refine (numU_ok s (p + 1) 2 ok2 hs h1 _).mono ?_); rintro e w' ⟨rfl, rfl⟩) | (go_at_call 66; (with_reducible refine (numU_no s (p + 1 + 2) 2 ok2 hs (by have := (un_0 ok2 h1).2; omega) h2 _).mono ?_); rintro e w' ⟨rfl, rfl⟩))
  refine bodyPost_ret (v := .tuple #[(Value.agg #[Value.int IntKind.i64 (Cn.t ((⟨12, ⟨#[]⟩, 0, unsV s (p + 1) 2, 0⟩ : Cn))), Value.string (Cn.s ((⟨12, ⟨#[]⟩, 0, unsV s (p + 1) 2, 0⟩ : Cn))), Value.int IntKind.i64 (Cn.n ((⟨12, ⟨#[]⟩, 0, unsV s (p + 1) 2, 0⟩ : Cn))), Value.int IntKind.i64 (Cn.a ((⟨12, ⟨#[]⟩, 0, unsV s (p + 1) 2, 0⟩ : Cn))), Value.int IntKind.i64 (Cn.b ((⟨12, ⟨#[]⟩, 0, unsV s (p + 1) 2, 0⟩ : Cn)))]), .int .i64 0, .int .i64 3]) ?_ rfl ⟨⟨12, ⟨#[]⟩, 0, unsV s (p + 1) 2, 0⟩, 0, by rw [G.out], fun h => absurd (G.out.symm.trans h) (by decide), below_al (below_al hB _) _⟩
  simp [results, Tryd.f67, go_sem, set_same, *]
set_option maxRecDepth 100000 in
theorem tk_12n (s : ByteArray) (p : Int) (hs : s.size ≤ 140737488355328) (hp : 0 ≤ p ∧ p ≤ s.size) (h0 : unsE s p 1 = 0) (hv : unsV s p 1 = 12) (h1 : unsE s (p + 1) 2 = 3) (w : World) : Calls Tryd.prog 67 #[.string s, .int .i64 p] w (DcRet w s p) := by
  have hB : Below w.heap.size w w := Below.refl _ _
  have hl := un_0 ok1 h0
  have e0 : dcE s p = 3 := (dw_n h0 (by rw [hv]; decide) (by omega)).trans h1
  have G := Lib.hid e0
  clear e0
  go_enter Tryd.func67, Tryd.ntmps67
  go_wp2_with (first | (go_at_call 66; (with_reducible refine (numU_ok s p 1 ok1 hs h0 _).mono ?_); rintro e w' ⟨rfl, rfl⟩) | (go_at_call 66; (with_reducible refine (numU_no s (p + 1) 2 ok2 hs (by omega) h1 _).mono ?_); rintro e w' ⟨rfl, rfl⟩))
  refine bodyPost_ret (v := .tuple #[(Value.agg #[Value.int IntKind.i64 (Cn.t ((⟨12, ⟨#[]⟩, 0, 0, 0⟩ : Cn))), Value.string (Cn.s ((⟨12, ⟨#[]⟩, 0, 0, 0⟩ : Cn))), Value.int IntKind.i64 (Cn.n ((⟨12, ⟨#[]⟩, 0, 0, 0⟩ : Cn))), Value.int IntKind.i64 (Cn.a ((⟨12, ⟨#[]⟩, 0, 0, 0⟩ : Cn))), Value.int IntKind.i64 (Cn.b ((⟨12, ⟨#[]⟩, 0, 0, 0⟩ : Cn)))]), .int .i64 0, .int .i64 3]) ?_ rfl ⟨⟨12, ⟨#[]⟩, 0, 0, 0⟩, 0, by rw [G.out], fun h => absurd (G.out.symm.trans h) (by decide), below_al (below_al hB _) _⟩
  simp [results, Tryd.f67, go_sem, set_same, *]
set_option maxRecDepth 100000 in
theorem tk_u (s : ByteArray) (p : Int) (hs : s.size ≤ 140737488355328) (hp : 0 ≤ p ∧ p ≤ s.size) (h0 : unsE s p 1 = 0) (hk : knB (unsV s p 1) = false) (w : World) : Calls Tryd.prog 67 #[.string s, .int .i64 p] w (DcRet w s p) := by
  have hB : Below w.heap.size w w := Below.refl _ _
  have hl := un_0 ok1 h0
  have hne : ¬ unsV s p 1 = 1 ∧ ¬ unsV s p 1 = 3 ∧ ¬ unsV s p 1 = 5 ∧ ¬ unsV s p 1 = 7 ∧ ¬ unsV s p 1 = 8 ∧ ¬ unsV s p 1 = 12 ∧ ¬ unsV s p 1 = 9 ∧ ¬ unsV s p 1 = 10 ∧ ¬ unsV s p 1 = 11 := by
    refine ⟨?_, ?_, ?_, ?_, ?_, ?_, ?_, ?_, ?_⟩ <;> (intro e; rw [e] at hk; revert hk; decide)
  obtain ⟨x1, x3, x5, x7, x8, x12, x9, x10, x11⟩ := hne
  have y1 := beqF x1
  have y3 := beqF x3
  have y5 := beqF x5
  have y7 := beqF x7
  have y8 := beqF x8
  have y12 := beqF x12
  have y9 := beqF x9
  have y10 := beqF x10
  have y11 := beqF x11
  have G := Lib.hid (dw_u h0 hk)
  clear x1 x3 x5 x7 x8 x12 x9 x10 x11
  go_enter Tryd.func67, Tryd.ntmps67
  go_wp2_with (go_at_call 66; (with_reducible refine (numU_ok s p 1 ok1 hs h0 _).mono ?_); rintro e w' ⟨rfl, rfl⟩)
  refine bodyPost_ret (v := .tuple #[(Value.agg #[Value.int IntKind.i64 (Cn.t ((⟨unsV s p 1, ⟨#[]⟩, 0, 0, 0⟩ : Cn))), Value.string (Cn.s ((⟨unsV s p 1, ⟨#[]⟩, 0, 0, 0⟩ : Cn))), Value.int IntKind.i64 (Cn.n ((⟨unsV s p 1, ⟨#[]⟩, 0, 0, 0⟩ : Cn))), Value.int IntKind.i64 (Cn.a ((⟨unsV s p 1, ⟨#[]⟩, 0, 0, 0⟩ : Cn))), Value.int IntKind.i64 (Cn.b ((⟨unsV s p 1, ⟨#[]⟩, 0, 0, 0⟩ : Cn)))]), .int .i64 0, .int .i64 11]) ?_ rfl ⟨⟨unsV s p 1, ⟨#[]⟩, 0, 0, 0⟩, 0, by rw [G.out], fun h => absurd (G.out.symm.trans h) (by decide), below_al (below_al hB _) _⟩
  simp [results, Tryd.f67, go_sem, set_same, *]

theorem tk_any (s : ByteArray) (p : Int) (hs : s.size ≤ 140737488355328) (hp : 0 ≤ p ∧ p ≤ s.size) (w : World) : Calls Tryd.prog 67 #[.string s, .int .i64 p] w (DcRet w s p) := by
  rcases un_e hp ok1 with h0 | h0
  rotate_left
  · exact tk_e s p hs hp h0 w
  have hl := un_0 ok1 h0
  have hp1 : 0 ≤ p + 1 ∧ p + 1 ≤ s.size := by omega
  cases hk : knB (unsV s p 1) with
  | false => exact tk_u s p hs hp h0 hk w
  | true =>
    rcases kn_cases hk with hv | hv | hv | hv | hv | hv | hv | hv | hv
    · rcases gs_e hp1 with h1 | h1
      · exact tk_1 s p hs hp h0 hv h1 w
      · exact tk_1n s p hs hp h0 hv h1 w
    · rcases un_e hp1 ok4 with h1 | h1
      · exact tk_3 s p hs hp h0 hv h1 w
      · exact tk_3n s p hs hp h0 hv h1 w
    · rcases un_e hp1 ok8 with h1 | h1
      · exact tk_5 s p hs hp h0 hv h1 w
      · exact tk_5n s p hs hp h0 hv h1 w
    · rcases un_e hp1 ok2 with h1 | h1
      · exact tk_7 s p hs hp h0 hv h1 w
      · exact tk_7n s p hs hp h0 hv h1 w
    · rcases un_e hp1 ok2 with h1 | h1
      · exact tk_8 s p hs hp h0 hv h1 w
      · exact tk_8n s p hs hp h0 hv h1 w
    · rcases un_e hp1 ok2 with h1 | h1
      · have hl2 := un_0 ok2 h1
        rcases un_e (s := s) (p := p + 1 + 2) (by omega) ok2 with h2 | h2
        · exact tk_12 s p hs hp h0 hv h1 h2 w
        · exact tk_12m s p hs hp h0 hv h1 h2 w
      · exact tk_12n s p hs hp h0 hv h1 w
    · rcases un_e hp1 ok2 with h1 | h1
      · have hl2 := un_0 ok2 h1
        rcases un_e (s := s) (p := p + 1 + 2) (by omega) ok2 with h2 | h2
        · exact tk_9 s p hs hp h0 hv h1 h2 w
        · exact tk_9m s p hs hp h0 hv h1 h2 w
      · exact tk_9n s p hs hp h0 hv h1 w
    · rcases un_e hp1 ok2 with h1 | h1
      · have hl2 := un_0 ok2 h1
        rcases un_e (s := s) (p := p + 1 + 2) (by omega) ok2 with h2 | h2
        · exact tk_10 s p hs hp h0 hv h1 h2 w
        · exact tk_10m s p hs hp h0 hv h1 h2 w
      · exact tk_10n s p hs hp h0 hv h1 w
    · rcases un_e hp1 ok2 with h1 | h1
      · have hl2 := un_0 ok2 h1
        rcases un_e (s := s) (p := p + 1 + 2) (by omega) ok2 with h2 | h2
        · exact tk_11 s p hs hp h0 hv h1 h2 w
        · exact tk_11m s p hs hp h0 hv h1 h2 w
      · exact tk_11n s p hs hp h0 hv h1 w

end Go.Proofs.YtfcefeepkpkcmaaDoor

/- PcDecode -/
/- Layer 6: Decode, in the package and in its reference. -/
namespace Go.Proofs.YtfcefeepkpkcmaaDoor
open Go.ChangeShapes Go.WideShapes Go.ChangeAt Go.RowKit Go.PlainAid
set_option linter.unusedSimpArgs false
set_option linter.unusedVariables false

def dk (s : ByteArray) (p : Int) : Nat → List Cn × Int × Int
  | 0 => ([], p, 0)
  | k + 1 => ((dk s p k).1 ++ [dcC s (dk s p k).2.1], dcN s (dk s p k).2.1, if (dk s p k).2.2 = 0 then dcE s (dk s p k).2.1 else (dk s p k).2.2)
theorem bneT' {a b : Int} (h : ¬ a = b) : (a != b) = true := by simpa using h
def dkL (s : ByteArray) (p : Int) (k : Nat) : List Cn := (dk s p k).1
def dkN (s : ByteArray) (p : Int) (k : Nat) : Int := (dk s p k).2.1
def dkE (s : ByteArray) (p : Int) (k : Nat) : Int := (dk s p k).2.2
theorem dkE_ok {s : ByteArray} {p : Int} {k : Nat} (h : dkE s p k = 0) : dkE s p (k + 1) = dcE s (dkN s p k) := by
  unfold dkE at h
  show (if (dk s p k).2.2 = 0 then dcE s (dk s p k).2.1 else (dk s p k).2.2) = _
  rw [if_pos h]; rfl
theorem dkE_no {s : ByteArray} {p : Int} {k : Nat} (h : ¬ dkE s p k = 0) : dkE s p (k + 1) = dkE s p k := by
  unfold dkE at h
  show (if (dk s p k).2.2 = 0 then dcE s (dk s p k).2.1 else (dk s p k).2.2) = _
  rw [if_neg h]; rfl
theorem dkE_stay {s : ByteArray} {p : Int} {k : Nat} (h : ¬ dkE s p k = 0) : ∀ n, k ≤ n → dkE s p n = dkE s p k
  | 0, hn => by obtain rfl : k = 0 := by omega
                rfl
  | n + 1, hn => by
    rcases (by omega : k = n + 1 ∨ k ≤ n) with rfl | h1
    · rfl
    · have := dkE_stay h n h1
      rw [dkE_no (by rw [this]; exact h), this]
theorem dkL_snoc (s : ByteArray) (p : Int) (k : Nat) : dkL s p (k + 1) = dkL s p k ++ [dcC s (dkN s p k)] := rfl
theorem dkN_snoc (s : ByteArray) (p : Int) (k : Nat) : dkN s p (k + 1) = dcN s (dkN s p k) := rfl
theorem dkL_len (s : ByteArray) (p : Int) : ∀ k, (dkL s p k).length = k
  | 0 => rfl
  | k + 1 => by rw [dkL_snoc, List.length_append, dkL_len s p k]; rfl
theorem dc_pos {s : ByteArray} {q : Int} (hq : 0 ≤ q ∧ q ≤ s.size) (h : dcE s q = 0) : q ≤ dcN s q ∧ dcN s q ≤ s.size := by
  have h0 : unsE s q 1 = 0 := by
    rcases un_e hq ok1 with h1 | h1
    · exact h1
    · rw [dw_0 (by omega)] at h; omega
  have hl := un_0 ok1 h0
  have hq1 : 0 ≤ q + 1 ∧ q + 1 ≤ s.size := by omega
  cases hk : knB (unsV s q 1) with
  | false => rw [dw_u h0 hk] at h; cases h
  | true =>
    rcases kn_cases hk with hv | hv | hv | hv | hv | hv | hv | hv | hv
    · obtain ⟨a, b, c⟩ := dw_1 h0 hv
      rw [a] at h
      rw [c]
      have hu := uns2_bd s (q + 1)
      unfold gsN
      rw [if_pos h]
      unfold gsE at h
      split at h
      · rename_i h1; exact absurd h h1
      · split at h
        · cases h
        · omega
    · obtain ⟨a, b, c⟩ := dw_3 h0 hv
      rw [a] at h; rw [c]; have := un_0 ok4 h; omega
    · obtain ⟨a, b, c⟩ := dw_5 h0 hv
      rw [a] at h; rw [c]; have := un_0 ok8 h; omega
    · obtain ⟨a, b, c⟩ := dw_7 h0 (Or.inl hv)
      rw [a] at h; rw [c]; have := un_0 ok2 h; omega
    · obtain ⟨a, b, c⟩ := dw_7 h0 (Or.inr hv)
      rw [a] at h; rw [c]; have := un_0 ok2 h; omega
    all_goals
      by_cases h1 : unsE s (q + 1) 2 = 0
      · obtain ⟨a, b, c⟩ := dw_m h0 (by rw [hv]; decide) h1
        rw [a] at h; rw [c]; have := un_0 ok2 h; omega
      · rw [dw_n h0 (by rw [hv]; decide) h1] at h; exact absurd h h1
theorem dk_pos {s : ByteArray} {p : Int} (hp : 0 ≤ p ∧ p ≤ s.size) : ∀ k, dkE s p k = 0 → 0 ≤ dkN s p k ∧ dkN s p k ≤ s.size
  | 0, _ => hp
  | k + 1, h => by
    by_cases h1 : dkE s p k = 0
    · have ih := dk_pos hp k h1
      rw [dkE_ok h1] at h
      have := dc_pos ih h
      rw [dkN_snoc]; omega
    · rw [dkE_no h1] at h; exact absurd h h1
theorem dc_short (s : ByteArray) (q : Int) : (dcC s q).s.size ≤ s.size := by
  unfold dcC
  repeat' split
  all_goals first | exact Nat.zero_le _ | skip
  show (gsB s (q + 1)).size ≤ s.size
  unfold gsB
  split
  · rw [ByteArray.size_extract]; omega
  · exact Nat.zero_le _
theorem dk_short {s : ByteArray} (hs : s.size ≤ 2000000) (p : Int) : ∀ k, Short (dkL s p k)
  | 0 => fun c hc => by cases hc
  | k + 1 => fun c hc => by
    rw [dkL_snoc] at hc
    rcases List.mem_append.1 hc with h | h
    · exact dk_short hs p k c h
    · have : c = dcC s (dkN s p k) := by simpa using h
      subst this
      exact Nat.le_trans (dc_short _ _) hs

/-- Decode's pool, offset and error -/
def de (s : ByteArray) (p : Int) : List Cn × Int × Int :=
  if 0 ≤ p ∧ p ≤ s.size then
    if unsE s p 2 = 0 then
      if dkE s (p + 2) (unsV s p 2).toNat = 0 then
        if chE (dkL s (p + 2) (unsV s p 2).toNat) = 0 then (dkL s (p + 2) (unsV s p 2).toNat, dkN s (p + 2) (unsV s p 2).toNat, 0)
        else ([], 0, chE (dkL s (p + 2) (unsV s p 2).toNat))
      else ([], 0, dkE s (p + 2) (unsV s p 2).toNat)
    else ([], 0, unsE s p 2)
  else ([], 0, 2)
def deL (s : ByteArray) (p : Int) : List Cn := (de s p).1
def deN (s : ByteArray) (p : Int) : Int := (de s p).2.1
def deE (s : ByteArray) (p : Int) : Int := (de s p).2.2
theorem de_1 {s : ByteArray} {p : Int} (h : ¬ (0 ≤ p ∧ p ≤ s.size)) : deL s p = [] ∧ deN s p = 0 ∧ deE s p = 2 := by unfold deL deN deE de; rw [if_neg h]; exact ⟨rfl, rfl, rfl⟩
theorem de_2 {s : ByteArray} {p : Int} (h : 0 ≤ p ∧ p ≤ s.size) (h2 : ¬ unsE s p 2 = 0) : deL s p = [] ∧ deN s p = 0 ∧ deE s p = unsE s p 2 := by unfold deL deN deE de; rw [if_pos h, if_neg h2]; exact ⟨rfl, rfl, rfl⟩
theorem de_3 {s : ByteArray} {p : Int} (h : 0 ≤ p ∧ p ≤ s.size) (h2 : unsE s p 2 = 0) (h3 : ¬ dkE s (p + 2) (unsV s p 2).toNat = 0) : deL s p = [] ∧ deN s p = 0 ∧ deE s p = dkE s (p + 2) (unsV s p 2).toNat := by unfold deL deN deE de; rw [if_pos h, if_pos h2, if_neg h3]; exact ⟨rfl, rfl, rfl⟩
theorem de_4 {s : ByteArray} {p : Int} (h : 0 ≤ p ∧ p ≤ s.size) (h2 : unsE s p 2 = 0) (h3 : dkE s (p + 2) (unsV s p 2).toNat = 0) (h4 : ¬ chE (dkL s (p + 2) (unsV s p 2).toNat) = 0) : deL s p = [] ∧ deN s p = 0 ∧ deE s p = chE (dkL s (p + 2) (unsV s p 2).toNat) := by unfold deL deN deE de; rw [if_pos h, if_pos h2, if_pos h3, if_neg h4]; exact ⟨rfl, rfl, rfl⟩
theorem de_5 {s : ByteArray} {p : Int} (h : 0 ≤ p ∧ p ≤ s.size) (h2 : unsE s p 2 = 0) (h3 : dkE s (p + 2) (unsV s p 2).toNat = 0) (h4 : chE (dkL s (p + 2) (unsV s p 2).toNat) = 0) : deL s p = dkL s (p + 2) (unsV s p 2).toNat ∧ deN s p = dkN s (p + 2) (unsV s p 2).toNat ∧ deE s p = 0 := by unfold deL deN deE de; rw [if_pos h, if_pos h2, if_pos h3, if_pos h4]; exact ⟨rfl, rfl, rfl⟩

/-- what Decode hands back -/
def DeRet (w : World) (s : ByteArray) (p : Int) (r : Ending) (w' : World) : Prop :=
  ∃ A n c, r = .returned (.tuple #[.slice A n c, .int .i64 (deN s p), .int .i64 (deE s p)]) ∧ (deL s p).length = n ∧ n ≤ c ∧ Pool w' w'.heap.size A (deL s p) ∧ Below w.heap.size w w'
theorem DeRet.nil {w w' : World} {s : ByteArray} {p e : Int} (h : deL s p = [] ∧ deN s p = 0 ∧ deE s p = e) (hb : Below w.heap.size w w') : DeRet w s p (.returned (.tuple #[.slice none 0 0, .int .i64 0, .int .i64 e])) w' :=
  ⟨none, 0, 0, by rw [h.2.1, h.2.2], by rw [h.1]; rfl, Nat.le_refl _, by rw [h.1]; exact Pool.nil _ _ _, hb⟩

set_option maxRecDepth 100000 in
set_option maxHeartbeats 1000000 in
theorem dec_out (s : ByteArray) (p : Int) (hp : ¬ (0 ≤ p ∧ p ≤ s.size)) (w : World) : Calls Tryd.prog 44 #[.string s, .int .i64 p] w (DeRet w s p) := by
  have hB : Below w.heap.size w w := Below.refl _ _
  have g := de_1 hp
  rcases (by omega : p < 0 ∨ (0 ≤ p ∧ (s.size : Int) < p)) with h | ⟨h, h'⟩
  all_goals
    go_enter Tryd.func44, Tryd.ntmps44
    go_wp2
    go_ret3
    exact DeRet.nil g hB
set_option maxRecDepth 100000 in
set_option maxHeartbeats 1000000 in
theorem rdec_out (s : ByteArray) (p : Int) (hp : ¬ (0 ≤ p ∧ p ≤ s.size)) (w : World) : Calls Tryd.prog 45 #[.string s, .int .i64 p] w (DeRet w s p) := by
  have hB : Below w.heap.size w w := Below.refl _ _
  have g := de_1 hp
  rcases (by omega : p < 0 ∨ (0 ≤ p ∧ (s.size : Int) < p)) with h | ⟨h, h'⟩
  all_goals
    go_enter Tryd.func45, Tryd.ntmps45
    go_wp2
    go_ret3
    exact DeRet.nil g hB

set_option maxRecDepth 100000 in
set_option maxHeartbeats 1000000 in
theorem dec_cut (s : ByteArray) (p : Int) (hs : s.size ≤ 2000000) (hp : 0 ≤ p ∧ p ≤ s.size) (h2 : ¬ unsE s p 2 = 0) (w : World) : Calls Tryd.prog 44 #[.string s, .int .i64 p] w (DeRet w s p) := by
  have hB : Below w.heap.size w w := Below.refl _ _
  have g := de_2 hp h2
  have h2' := bneT' h2
  obtain ⟨hp0, hp1⟩ := hp
  clear h2
  go_enter Tryd.func44, Tryd.ntmps44
  go_wp2_with (go_at_call 64; refine (uns_any s _ _ (by omega) _).mono ?_; rintro e w' ⟨rfl, rfl⟩)
  go_ret3
  exact DeRet.nil g hB
set_option maxRecDepth 100000 in
set_option maxHeartbeats 1000000 in
theorem rdec_cut (s : ByteArray) (p : Int) (hs : s.size ≤ 2000000) (hp : 0 ≤ p ∧ p ≤ s.size) (h2 : ¬ unsE s p 2 = 0) (w : World) : Calls Tryd.prog 45 #[.string s, .int .i64 p] w (DeRet w s p) := by
  have hB : Below w.heap.size w w := Below.refl _ _
  have g := de_2 hp h2
  have h3 : unsE s p 2 = 3 := (un_e hp ok2).resolve_left h2
  rw [h3] at g
  have hp' := hp
  obtain ⟨hp0, hp1⟩ := hp
  clear h2
  go_enter Tryd.func45, Tryd.ntmps45
  go_wp2_with (go_at_call 66; refine (numU_no s p 2 ok2 (by omega) hp' h3 _).mono ?_; rintro e w' ⟨rfl, rfl⟩)
  go_ret3
  exact DeRet.nil g hB

set_option maxRecDepth 100000 in
set_option maxHeartbeats 1000000 in
theorem dec_in (s : ByteArray) (p : Int) (hs : s.size ≤ 2000000) (hp : 0 ≤ p ∧ p ≤ s.size) (h2 : unsE s p 2 = 0) (w : World) : Calls Tryd.prog 44 #[.string s, .int .i64 p] w (DeRet w s p) := by
  have hB : Below w.heap.size w w := Below.refl _ _
  have hl := un_0 ok2 h2
  have hu := uns2_bd s p
  have HP := Lib.hid hp
  obtain ⟨m, hm⟩ : ∃ m : Nat, unsV s p 2 = (m : Int) := ⟨(unsV s p 2).toNat, by omega⟩
  obtain ⟨hp0, hp1⟩ := hp
  rw [hm] at hu
  go_enter Tryd.func44, Tryd.ntmps44
  go_wp2_with (go_at_call 64; refine (uns_any s _ _ (by omega) _).mono ?_; rintro e w' ⟨rfl, rfl⟩)
  go_loopw [1, 9, 33] (fun at' v ctr wr => ∃ (k : Nat) (A : Option Addr) (c : Nat), k ≤ m ∧ ctr = .int .i64 k ∧ at' = .int .i64 (dkN s (p + 2) k) ∧ dkE s (p + 2) k = 0 ∧ v = .slice A k c ∧ OwnP wr w.heap.size A k c (dkL s (p + 2) k) ∧ Below w.heap.size w wr) (fun at' v ctr _ => m - (intOf ctr).toNat)
  case atStart => exact ⟨0, _, 0, Nat.zero_le _, rfl, rfl, rfl, rfl, ⟨rfl, Nat.le_refl _, Or.inl ⟨rfl, rfl⟩⟩, hB⟩
  case round =>
    obtain ⟨k, A, c, hk, rfl, rfl, hE, rfl, hO, hBr⟩ := hrel
    have hpos := dk_pos (s := s) (p := p + 2) (by omega) k hE
    by_cases hlt : k < m
    · have hsz := hBr.size
      have HO := Lib.hid hO
      have HPOS := Lib.hid hpos
      clear hO hpos
      go_wp2_with (first | (go_at_call 65; refine (dc_any s _ (by omega) HPOS.out _).mono ?_; rintro e w1 ⟨c', q', rfl, hcq, hb1⟩; have kc := first_box hb1; obtain ⟨c0, c1, c2, c3, c4, r0, r1, r2, r3, r4⟩ := five_cells kc; have HBW := below_on (w := wr) (below_al (Below.refl _ _) _) hb1; have hza : wr.heap.size ≤ w1.heap.size := HBW.size; have hzb : wr.heap.size < w1.heap.size := lt_heap kc; have HCQ := Lib.hid hcq; clear hcq hb1 kc) | (at_builtin; refine wpList_append_own (n := k) (m := 1) (M := [c']) (by rfl) _ _ (by rfl) (by rfl) (HO.out.below (by repeat (first | with_reducible exact HBW | with_reducible refine below_al ?_ _ | with_reducible refine below_st ?_ (by first | exact Nat.le_refl _ | (simp; omega)) _))) (by omega) (by simp; omega) (by rfl) (one_cells (new_at (by simp; done))) rfl Nat.zero_lt_one (by show 1 ≤ 100000; omega) ?_; intro A2 d2 w2 hO2 hb2))
      · have hd : ¬ dcE s (dkN s (p + 2) k) = 0 := bneT (by with_reducible assumption)
        have e1 := dkE_ok hE
        have e2 := dkE_stay (s := s) (p := p + 2) (k := k + 1) (by rw [e1]; exact hd) m (by omega)
        have g := de_3 HP.out h2 (by rw [hm, Int.toNat_natCast, e2, e1]; exact hd)
        rw [hm, Int.toNat_natCast, e2, e1] at g
        go_ret3
        exact DeRet.nil g (below_on hBr (by repeat (first | with_reducible exact HBW | with_reducible refine below_al ?_ _ | with_reducible refine below_st ?_ (by first | exact Nat.le_refl _ | (simp; omega)) _)))
      · have hd : dcE s (dkN s (p + 2) k) = 0 := bneF (by with_reducible assumption)
        obtain ⟨x1, x2⟩ := HCQ.out hd
        subst x1
        subst x2
        go_roundw
        case rel => exact ⟨k + 1, A2, d2, by omega, by go_num, rfl, (dkE_ok hE).trans hd, rfl, hO2, (below_on hBr (by repeat (first | with_reducible exact HBW | with_reducible refine below_al ?_ _ | with_reducible refine below_st ?_ (by first | exact Nat.le_refl _ | (simp; omega)) _))).trans hb2⟩
        case measure => simp [intOf]; omega
    · obtain rfl : k = m := by omega
      have hS := dk_short hs (p + 2) k
      have HS := Lib.hid hS
      have HO := Lib.hid hO
      have HPL := Lib.hid hO.pool
      clear hO
      go_wp2_with (go_at_call 26; refine (check_any HS.out.fits (dkL_len s (p + 2) k) (by omega) HPL.out _ (Below.refl _ _)).mono ?_; rintro e w1 ⟨rfl, hb1⟩)
      · have hc : ¬ chE (dkL s (p + 2) k) = 0 := bneT (by with_reducible assumption)
        have g := de_4 HP.out h2 (by rw [hm, Int.toNat_natCast]; exact hE) (by rw [hm, Int.toNat_natCast]; exact hc)
        rw [hm, Int.toNat_natCast] at g
        go_ret3
        exact DeRet.nil g (below_on hBr hb1)
      · have hc : chE (dkL s (p + 2) k) = 0 := bneF (by with_reducible assumption)
        have g := de_5 HP.out h2 (by rw [hm, Int.toNat_natCast]; exact hE) (by rw [hm, Int.toNat_natCast]; exact hc)
        rw [hm, Int.toNat_natCast] at g
        go_ret3
        exact ⟨A, k, c, by rw [g.2.1, g.2.2]; rfl, by rw [g.1]; exact dkL_len _ _ _, HO.out.2.1, by rw [g.1]; exact HPL.out.up hb1, below_on hBr hb1⟩

set_option maxRecDepth 100000 in
set_option maxHeartbeats 1000000 in
theorem rdec_in (s : ByteArray) (p : Int) (hs : s.size ≤ 2000000) (hp : 0 ≤ p ∧ p ≤ s.size) (h2 : unsE s p 2 = 0) (w : World) : Calls Tryd.prog 45 #[.string s, .int .i64 p] w (DeRet w s p) := by
  have hB : Below w.heap.size w w := Below.refl _ _
  have hl := un_0 ok2 h2
  have hu := uns2_bd s p
  have HP := Lib.hid hp
  obtain ⟨m, hm⟩ : ∃ m : Nat, unsV s p 2 = (m : Int) := ⟨(unsV s p 2).toNat, by omega⟩
  obtain ⟨hp0, hp1⟩ := hp
  rw [hm] at hu
  go_enter Tryd.func45, Tryd.ntmps45
  go_wp2_with (go_at_call 66; refine (numU_ok s p 2 ok2 (by omega) h2 _).mono ?_; rintro e w' ⟨rfl, rfl⟩)
  go_loopw [1, 9, 10] (fun at' v ctr wr => ∃ (k : Nat) (A : Option Addr) (c : Nat), k ≤ m ∧ ctr = .int .i64 k ∧ at' = .int .i64 (dkN s (p + 2) k) ∧ dkE s (p + 2) k = 0 ∧ v = .slice A k c ∧ OwnP wr w.heap.size A k c (dkL s (p + 2) k) ∧ Below w.heap.size w wr) (fun at' v ctr _ => m - (intOf ctr).toNat)
  case atStart => exact ⟨0, _, 0, Nat.zero_le _, rfl, rfl, rfl, rfl, ⟨rfl, Nat.le_refl _, Or.inl ⟨rfl, rfl⟩⟩, below_al hB _⟩
  case round =>
    obtain ⟨k, A, c, hk, rfl, rfl, hE, rfl, hO, hBr⟩ := hrel
    have hpos := dk_pos (s := s) (p := p + 2) (by omega) k hE
    by_cases hlt : k < m
    · have hsz := hBr.size
      have HO := Lib.hid hO
      have HPOS := Lib.hid hpos
      clear hO hpos
      go_wp2_with (first | (go_at_call 67; refine (tk_any s _ (by omega) HPOS.out _).mono ?_; rintro e w1 ⟨c', q', rfl, hcq, hb1⟩; have HBW := hb1; have hza : wr.heap.size ≤ w1.heap.size := HBW.size; have HCQ := Lib.hid hcq; clear hcq hb1) | (at_builtin; refine wpList_append_own (n := k) (m := 1) (M := [c']) (by rfl) _ _ (by rfl) (by rfl) (HO.out.below (by repeat (first | with_reducible exact HBW | with_reducible refine below_al ?_ _ | with_reducible refine below_st ?_ (by first | exact Nat.le_refl _ | (simp; omega)) _))) (by omega) (by simp; omega) (by rfl) (one_cells (new_at (by simp; done))) rfl Nat.zero_lt_one (by show 1 ≤ 100000; omega) ?_; intro A2 d2 w2 hO2 hb2))
      · have hd : ¬ dcE s (dkN s (p + 2) k) = 0 := bneT (by with_reducible assumption)
        have e1 := dkE_ok hE
        have e2 := dkE_stay (s := s) (p := p + 2) (k := k + 1) (by rw [e1]; exact hd) m (by omega)
        have g := de_3 HP.out h2 (by rw [hm, Int.toNat_natCast, e2, e1]; exact hd)
        rw [hm, Int.toNat_natCast, e2, e1] at g
        go_ret3
        exact DeRet.nil g (below_on hBr (by repeat (first | with_reducible exact HBW | with_reducible refine below_al ?_ _ | with_reducible refine below_st ?_ (by first | exact Nat.le_refl _ | (simp; omega)) _)))
      · have hd : dcE s (dkN s (p + 2) k) = 0 := bneF (by with_reducible assumption)
        obtain ⟨x1, x2⟩ := HCQ.out hd
        subst x1
        subst x2
        go_roundw
        case rel => exact ⟨k + 1, A2, d2, by omega, by go_num, rfl, (dkE_ok hE).trans hd, rfl, hO2, (below_on hBr (by repeat (first | with_reducible exact HBW | with_reducible refine below_al ?_ _ | with_reducible refine below_st ?_ (by first | exact Nat.le_refl _ | (simp; omega)) _))).trans hb2⟩
        case measure => simp [intOf]; omega
    · obtain rfl : k = m := by omega
      have hS := dk_short hs (p + 2) k
      have HS := Lib.hid hS
      have HO := Lib.hid hO
      have HPL := Lib.hid hO.pool
      clear hO
      go_wp2_with (go_at_call 27; refine (rcheck_any HS.out (dkL_len s (p + 2) k) (by omega) HPL.out _ (Below.refl _ _)).mono ?_; rintro e w1 ⟨rfl, hb1⟩)
      · have hc : ¬ chE (dkL s (p + 2) k) = 0 := bneT (by with_reducible assumption)
        have g := de_4 HP.out h2 (by rw [hm, Int.toNat_natCast]; exact hE) (by rw [hm, Int.toNat_natCast]; exact hc)
        rw [hm, Int.toNat_natCast] at g
        go_ret3
        exact DeRet.nil g (below_on hBr hb1)
      · have hc : chE (dkL s (p + 2) k) = 0 := bneF (by with_reducible assumption)
        have g := de_5 HP.out h2 (by rw [hm, Int.toNat_natCast]; exact hE) (by rw [hm, Int.toNat_natCast]; exact hc)
        rw [hm, Int.toNat_natCast] at g
        go_ret3
        exact ⟨A, k, c, by rw [g.2.1, g.2.2]; rfl, by rw [g.1]; exact dkL_len _ _ _, HO.out.2.1, by rw [g.1]; exact HPL.out.up hb1, below_on hBr hb1⟩

end Go.Proofs.YtfcefeepkpkcmaaDoor
