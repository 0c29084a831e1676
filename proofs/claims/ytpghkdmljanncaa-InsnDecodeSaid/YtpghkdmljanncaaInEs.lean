/- Layer 8: the bytes of an instruction, pure. -/
import Derived.Test.YtpghkdmljanncaaInPut
import Derived.Test.YtpghkdmljanncaaInPure
import Derived.Test.YtpghkdmljanncaaInTg
namespace Go.Proofs.Ytpghkdmljanncaa
set_option linter.unusedSimpArgs false
set_option linter.unusedVariables false

/-- the offset at an index -/
def plN (P : List Int) (x : Int) : Int := P.getD x.toNat 0
def tsF (P : List Int) (b : ByteArray) (l : List Int) : ByteArray := l.foldl (fun b x => b ++ putB (plN P x) 2) b
def ksF (P : List Int) (b : ByteArray) (l : List (Int × Int)) : ByteArray := l.foldl (fun b x => b ++ putB x.1 4 ++ putB (plN P x.2) 2) b
def st6 (P : List Int) (i : In) : ByteArray := putB i.op 1 ++ putB (plN P i.t) 2 ++ putB i.a 4 ++ putB i.tn 2
def st7 (P : List Int) (i : In) : ByteArray := putB i.op 1 ++ putB (plN P i.t) 2 ++ putB i.kn 2
def opK (k : Int) (P : List Int) (i : In) : ByteArray :=
  if k = 1 then putB i.op 1 ++ putB i.a 1 else if k = 4 then putB i.op 1 ++ putB i.a 1 else if k = 2 then putB i.op 1 ++ putB i.a 2
  else if k = 3 then putB i.op 1 ++ putB (plN P i.t) 2 else if k = 5 then putB i.op 1 ++ putB i.a 1 ++ putB i.b 1
  else if k = 6 then tsF P (st6 P i) i.ts else if k = 7 then ksF P (st7 P i) (i.ks.zip i.ts) else putB i.op 1
def opB (P : List Int) (i : In) : ByteArray := opK (kindV i.op) P i
theorem tsF_snoc (P : List Int) (b : ByteArray) (l : List Int) (x : Int) : tsF P b (l ++ [x]) = tsF P b l ++ putB (plN P x) 2 := by unfold tsF; rw [List.foldl_append]; rfl
theorem ksF_snoc (P : List Int) (b : ByteArray) (l : List (Int × Int)) (x : Int × Int) : ksF P b (l ++ [x]) = ksF P b l ++ putB x.1 4 ++ putB (plN P x.2) 2 := by unfold ksF; rw [List.foldl_append]; rfl
theorem tsF_size (P : List Int) : ∀ (l : List Int) (b : ByteArray), (tsF P b l).size ≤ b.size + 8 * l.length
  | [], b => by simp [tsF]
  | x :: l, b => by
    have h := tsF_size P l (b ++ putB (plN P x) 2)
    have h2 := putB_size (plN P x) 2
    rw [ByteArray.size_append] at h
    simp only [List.length_cons]
    show (tsF P (b ++ putB (plN P x) 2) l).size ≤ _
    omega
theorem ksF_size (P : List Int) : ∀ (l : List (Int × Int)) (b : ByteArray), (ksF P b l).size ≤ b.size + 16 * l.length
  | [], b => by simp [ksF]
  | x :: l, b => by
    have h := ksF_size P l (b ++ putB x.1 4 ++ putB (plN P x.2) 2)
    have h2 := putB_size (plN P x.2) 2
    have h3 := putB_size x.1 4
    rw [ByteArray.size_append, ByteArray.size_append] at h
    simp only [List.length_cons]
    show (ksF P (b ++ putB x.1 4 ++ putB (plN P x.2) 2) l).size ≤ _
    omega
theorem st6_size (P : List Int) (i : In) : (st6 P i).size ≤ 32 := by
  have h1 := putB_size i.op 1
  have h2 := putB_size (plN P i.t) 2
  have h3 := putB_size i.a 4
  have h4 := putB_size i.tn 2
  unfold st6
  simp only [ByteArray.size_append]
  omega
theorem st7_size (P : List Int) (i : In) : (st7 P i).size ≤ 24 := by
  have h1 := putB_size i.op 1
  have h2 := putB_size (plN P i.t) 2
  have h4 := putB_size i.kn 2
  unfold st7
  simp only [ByteArray.size_append]
  omega
theorem take_snoc {α : Type} {l : List α} {k : Nat} {x : α} (h : l[k]? = some x) : l.take (k + 1) = l.take k ++ [x] := by rw [List.take_add_one, h]; rfl
theorem opB_size (P : List Int) (i : In) (h1 : i.ts.length ≤ 100) (h2 : i.ks.length ≤ 100) : (opB P i).size ≤ 2000 := by
  have s1 := putB_size i.op 1
  have s2 := putB_size (plN P i.t) 2
  have s3 := putB_size i.a 1
  have s4 := putB_size i.a 2
  have s5 := putB_size i.b 1
  have s6 := tsF_size P i.ts (st6 P i)
  have s7 := ksF_size P (i.ks.zip i.ts) (st7 P i)
  have s8 := st6_size P i
  have s9 := st7_size P i
  have s10 : (i.ks.zip i.ts).length ≤ 100 := by rw [List.length_zip]; omega
  unfold opB opK
  repeat' split
  all_goals ((try simp only [ByteArray.size_append]); omega)
theorem br_kind {o : Int} (h : kindV o = 3 ∨ kindV o = 6 ∨ kindV o = 7) : brB o = true := by
  unfold kindV at h
  unfold brB
  repeat' split at h
  all_goals first | (exact decide_eq_true (by omega)) | omega
theorem tg_kind {i : In} (h : kindV i.op = 3 ∨ kindV i.op = 6 ∨ kindV i.op = 7) : tgL i = i.t :: i.ts := by unfold tgL; rw [if_pos (br_kind h)]
/-- the targets lie among the offsets -/
def TgOk (P : List Int) (i : In) : Prop := ∀ x ∈ tgL i, 0 ≤ x ∧ x < P.length

end Go.Proofs.Ytpghkdmljanncaa
