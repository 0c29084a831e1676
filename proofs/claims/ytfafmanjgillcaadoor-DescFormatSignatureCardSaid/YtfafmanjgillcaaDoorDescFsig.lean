/- Layer 4: desc.FormatSignature. -/
import Derived.Test.YtfafmanjgillcaaDoorDescRound
import Derived.Test.YtfafmanjgillcaaDoorBuild
namespace Go.Proofs.YtfafmanjgillcaaDoor
open Go.ChangeShapes Go.WideShapes Go.ChangeAt Go.RowKit Go.PlainAid
set_option linter.unusedSimpArgs false
set_option linter.unusedVariables false

def fsOk (p : Ty) : Bool := validB p.1 p.2.1 p.2.2 && !decide (p.2.1 = 86)
def txL (p : Ty) : List UInt8 := (txt p.1 p.2.1 p.2.2).data.toList
def fsL (ps : List Ty) (r : Ty) : List UInt8 := 40 :: (ps.flatMap txL ++ 41 :: txL r)
def fs (ps : List Ty) (r : Ty) : ByteArray × Int :=
  if 16 < ps.length then (⟨#[]⟩, 5) else if ps.all fsOk && validB r.1 r.2.1 r.2.2 then (⟨(fsL ps r).toArray⟩, 0) else (⟨#[]⟩, 13)
def fsS (ps : List Ty) (r : Ty) : ByteArray := (fs ps r).1
def fsE (ps : List Ty) (r : Ty) : Int := (fs ps r).2
theorem fs_many {ps : List Ty} {r : Ty} (h : 16 < ps.length) : fsS ps r = ⟨#[]⟩ ∧ fsE ps r = 5 := by unfold fsS fsE fs; rw [if_pos h]; exact ⟨rfl, rfl⟩
theorem fs_bad {ps : List Ty} {r : Ty} (h : ¬ 16 < ps.length) (hb : (ps.all fsOk && validB r.1 r.2.1 r.2.2) = false) : fsS ps r = ⟨#[]⟩ ∧ fsE ps r = 13 := by unfold fsS fsE fs; rw [if_neg h, hb]; exact ⟨rfl, rfl⟩
theorem fs_ok {ps : List Ty} {r : Ty} (h : ¬ 16 < ps.length) (hb : (ps.all fsOk && validB r.1 r.2.1 r.2.2) = true) : fsS ps r = ⟨(fsL ps r).toArray⟩ ∧ fsE ps r = 0 := by unfold fsS fsE fs; rw [if_neg h, if_pos hb]; exact ⟨rfl, rfl⟩
theorem all_bad {ps : List Ty} {k : Nat} {p : Ty} (hp : ps[k]? = some p) (h : fsOk p = false) (r : Bool) : (ps.all fsOk && r) = false := by
  have : ps.all fsOk = false := by
    cases hh : ps.all fsOk with
    | false => rfl
    | true =>
      have := List.all_eq_true.1 hh p (List.mem_of_getElem? hp)
      rw [h] at this; cases this
  rw [this, Bool.false_and]
theorem valid_name {d b : Int} {n : ByteArray} (h : validB d b n = true) : n.size ≤ 64 := by
  rw [valid_in (valid_bd h)] at h
  have e : n.toList.isEmpty = true → n.size ≤ 64 := by
    intro h
    rw [Lib.toList_data, List.isEmpty_iff] at h
    have := len_data n
    rw [h] at this; simp at this; omega
  by_cases h1 : b = 73 ∨ b = 74
  · rw [if_pos h1] at h; exact e h
  · rw [if_neg h1] at h
    by_cases h2 : b = 76
    · rw [if_pos h2] at h; exact cls_small h
    · rw [if_neg h2] at h
      by_cases h3 : b = 86
      · rw [if_pos h3, Bool.and_eq_true] at h; exact e h.2
      · rw [if_neg h3] at h; cases h
theorem txL_len {p : Ty} (h : validB p.1 p.2.1 p.2.2 = true) : (txL p).length ≤ 74 := by
  unfold txL
  rw [len_data]
  have := txt_size h
  have := valid_name h
  omega
theorem fsOk_valid {p : Ty} (h : fsOk p = true) : validB p.1 p.2.1 p.2.2 = true := by unfold fsOk at h; rw [Bool.and_eq_true] at h; exact h.1
theorem flat_len : ∀ (ps : List Ty), ps.all fsOk = true → (ps.flatMap txL).length ≤ ps.length * 74
  | [], _ => by simp
  | p :: ps, h => by
    rw [List.all_cons, Bool.and_eq_true] at h
    have h1 := txL_len (fsOk_valid h.1)
    have h2 := flat_len ps h.2
    rw [List.flatMap_cons, List.length_append, List.length_cons]
    omega
theorem bytes_app (l m : List UInt8) : Lib.byteCells l ++ Lib.byteCells m = Lib.byteCells (l ++ m) := by unfold Lib.byteCells; rw [List.map_append]
theorem built_below {B b : Nat} {p : Value} {bs : List Value} {w w' : World} (h : Lib.BuilderAt 63 5 B b p bs w) (hb : Below w.heap.size w w') : Lib.BuilderAt 63 5 B b p bs w' := by
  have hlt := h.lt
  obtain ⟨h1, v, h2, h3, h4⟩ := h
  exact ⟨h1, v, (hb.block b hlt).trans h2, owns_below h3 hb, h4⟩
theorem built_al {B b : Nat} {p : Value} {bs : List Value} {w : World} (h : Lib.BuilderAt 63 5 B b p bs w) (o : Obj) : Lib.BuilderAt 63 5 B b p bs (w.alloc o) := built_below h (below_al (Below.refl _ _) o)

/-- the loop over the parameters -/
structure FsInv (w W0 wr : World) (ps : List Ty) (k : Nat) : Prop where
  ok : (ps.take k).all fsOk = true
  bld : Lib.BuilderAt 63 5 (w.heap.size + 1) (w.heap.size + 1) (.pointer (some ⟨w.heap.size + 1, 0, none⟩)) (Lib.byteCells (40 :: (ps.take k).flatMap txL)) wr
  bel : Below (w.heap.size + 1) W0 wr
  size : w.heap.size + 2 ≤ wr.heap.size
theorem FsInv.len {w W0 wr : World} {ps : List Ty} {k : Nat} (I : FsInv w W0 wr ps k) (h16 : ps.length ≤ 16) : (Lib.byteCells (40 :: (ps.take k).flatMap txL)).length ≤ 1185 := by
  rw [Lib.byteCells_length, List.length_cons]
  have := flat_len _ I.ok
  have h2 : (ps.take k).length ≤ 16 := by rw [List.length_take]; omega
  omega
theorem fs_start (w : World) (o : Obj) {w1 : World} (h : Lib.BuilderAt 63 5 (w.heap.size + 1) (w.heap.size + 1) (.pointer (some ⟨w.heap.size + 1, 0, none⟩)) ([] ++ [.int .u8 40]) w1) (hb : Below (w.heap.size + 1) ((w.alloc o).alloc (.cells #[.pointer none, .slice none 0 0] 63)) w1) (ps : List Ty) :
    FsInv w (w.alloc o) w1 ps 0 := by
  have hs := hb.size
  simp only [World.size_alloc] at hs
  exact ⟨rfl, h, ((Below.refl _ _).alloc (by simp) _).trans hb, by omega⟩
theorem fs_fresh (w : World) (o : Obj) : Lib.IsBuilder 63 5 (w.heap.size + 1) (w.heap.size + 1) [] ((w.alloc o).alloc (.cells #[.pointer none, .slice none 0 0] 63)) := by
  refine Or.inl ⟨Nat.le_refl _, .slice none 0 0, ?_, World.ownsRow_nil _ _ _ _, by simp [Value.ownBlock]⟩
  have := heap_alloc_new (w.alloc o) (.cells #[.pointer none, .slice none 0 0] 63)
  rwa [World.size_alloc] at this
theorem fs_next {w W0 wr w3 : World} {ps : List Ty} {k : Nat} {p : Ty} (I : FsInv w W0 wr ps k) (hp : ps[k]? = some p) (h : fsOk p = true)
    (hb : Lib.BuilderAt 63 5 (w.heap.size + 1) (w.heap.size + 1) (.pointer (some ⟨w.heap.size + 1, 0, none⟩)) (Lib.byteCells (40 :: (ps.take k).flatMap txL) ++ Lib.strCells (txt p.1 p.2.1 p.2.2)) w3)
    (hbel : Below (w.heap.size + 1) wr w3) : FsInv w W0 w3 ps (k + 1) := by
  have ht : ps.take (k + 1) = ps.take k ++ [p] := by
    rw [List.take_add_one, hp]; rfl
  refine ⟨?_, ?_, I.bel.trans hbel, Nat.le_trans I.size hbel.size⟩
  · rw [ht, List.all_append, I.ok]; simp [h]
  · rw [Lib.strCells_eq, bytes_app] at hb
    rw [ht, List.flatMap_append]
    simpa [txL] using hb

theorem fs_end {w W0 wr w4 : World} {ps : List Ty} {k : Nat} {r : Ty} (I : FsInv w W0 wr ps k) (hk : ps.length = k)
    (hb : Lib.BuilderAt 63 5 (w.heap.size + 1) (w.heap.size + 1) (.pointer (some ⟨w.heap.size + 1, 0, none⟩)) ((Lib.byteCells (40 :: (ps.take k).flatMap txL) ++ [.int .u8 41]) ++ Lib.strCells (txt r.1 r.2.1 r.2.2)) w4) :
    ps.all fsOk = true ∧ Lib.IsBuilder 63 5 (w.heap.size + 1) (w.heap.size + 1) (Lib.byteCells (fsL ps r)) w4 := by
  have ht : ps.take k = ps := List.take_of_length_le (by omega)
  have hok := I.ok
  rw [ht] at hb hok
  refine ⟨hok, Or.inr ?_⟩
  have e : (Lib.byteCells (40 :: ps.flatMap txL) ++ [.int .u8 41]) ++ Lib.strCells (txt r.1 r.2.1 r.2.2) = Lib.byteCells (fsL ps r) := by
    rw [Lib.strCells_eq, show ([.int .u8 41] : List Value) = Lib.byteCells [41] from rfl, bytes_app, bytes_app]
    unfold fsL txL
    simp
  rw [e] at hb
  exact hb

end Go.Proofs.YtfafmanjgillcaaDoor
