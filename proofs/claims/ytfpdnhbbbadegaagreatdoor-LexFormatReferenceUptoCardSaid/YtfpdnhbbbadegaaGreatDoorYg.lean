/- Layer 53: what is laid; keywords; a token in memory; scanName. -/
import Derived.Test.YtfpdnhbbbadegaaGreatDoorYf
import Derived.Test.YtfpdnhbbbadegaaGreatDoorNameLast
import Derived.Test.YtfpdnhbbbadegaaGreatDoorBase
import Derived.Lib.LaidTab
import Derived.Lib.SlicesS
import Derived.Laws.ResultCell
namespace Go.Proofs.YtfpdnhbbbadegaaGreatDoor
open Go.ChangeShapes Go.WideShapes Go.ChangeAt Go.RowKit Go.PlainAid
set_option linter.unusedSimpArgs false
set_option linter.unusedVariables false

theorem tab_up {w w' : World} {name : String} {k : IntKind} {zs : List Int} (h : Lib.TabIs Tryz.prog w name k zs) (hb : Below w.heap.size w w') : Lib.TabIs Tryz.prog w' name k zs := by
  unfold Lib.TabIs World.var? at h ⊢
  cases hg : Tryz.prog.globalNamed name with
  | none => rw [hg] at h; cases h
  | some g =>
    rw [hg] at h
    simp only [Option.bind_some] at h ⊢
    cases ho : w.heap[g]? with
    | none => rw [ho] at h; cases h
    | some o => rw [(hb.block g (lt_heap ho)).trans ho]; rw [ho] at h; exact h
/-- the package-level variables that the lexer's calls read -/
structure Laid (w : World) : Prop where
  sp : Lib.TabIs Tryz.prog w "strings.asciiSpace" .u8 Lib.asciiSpaceTab
  pw : Lib.TabIs Tryz.prog w "internal/strconv.uint64pow10" .u64 Lib.pow10Tab
  er : ∃ ev, w.cell? ⟨7, 0, none⟩ = some ev ∧ (ev = .nilIface ∨ ∃ te pe, ev = .iface te pe)
  mx : ∃ m, w.cell? ⟨2, 0, none⟩ = some (.int .i64 m)
theorem cell_lt8 {w : World} {g : Nat} {v : Value} (h : w.cell? ⟨g, 0, none⟩ = some v) : g < w.heap.size := by
  rcases Nat.lt_or_ge g w.heap.size with h' | h'
  · exact h'
  · simp [World.cell?, Array.getElem?_eq_none h'] at h
theorem Laid.up {w w' : World} (h : Laid w) (hb : Below w.heap.size w w') : Laid w' := by
  obtain ⟨ev, he, hv⟩ := h.er
  obtain ⟨m, hm⟩ := h.mx
  exact ⟨tab_up h.sp hb, tab_up h.pw hb, ⟨ev, (hb.cell (p := ⟨_, 0, none⟩) (cell_lt8 he)).trans he, hv⟩, ⟨m, (hb.cell (p := ⟨_, 0, none⟩) (cell_lt8 hm)).trans hm⟩⟩

def bsB (l : List UInt8) : ByteArray := ⟨l.toArray⟩
theorem bsB_data (l : List UInt8) : (bsB l).data.toList = l := rfl
theorem bsB_of {s : ByteArray} {l : List UInt8} (h : s.data.toList = l) : s = bsB l := ba_ext (by rw [h, bsB_data])
theorem bsB_size (l : List UInt8) : (bsB l).size = l.length := by rw [← len_data, bsB_data]
def kwT : ByteArray := ⟨#[97, 98, 115, 116, 114, 97, 99, 116, 32, 97, 115, 32, 99, 97, 116, 99, 104, 32, 99, 108, 97, 115, 115, 32, 101, 108, 115, 101, 32, 101, 120, 116, 101, 110, 100, 115, 32, 102, 105, 110, 97, 108, 32, 105, 102, 32, 105, 109, 112, 108, 101, 109, 101, 110, 116, 115, 32, 105, 110, 116, 32, 105, 110, 116, 101, 114, 102, 97, 99, 101, 32, 105, 115, 32, 108, 101, 110, 32, 108, 111, 110, 103, 32, 110, 101, 119, 32, 110, 117, 108, 108, 32, 112, 114, 105, 118, 97, 116, 101, 32, 112, 114, 111, 116, 101, 99, 116, 101, 100, 32, 112, 117, 98, 108, 105, 99, 32, 114, 101, 116, 117, 114, 110, 32, 115, 116, 97, 116, 105, 99, 32, 115, 117, 112, 101, 114, 32, 115, 121, 110, 99, 32, 116, 104, 105, 115, 32, 116, 104, 114, 111, 119, 32, 116, 114, 121, 32, 118, 111, 105, 100, 32, 119, 104, 105, 108, 101]⟩
theorem kw_fields : Lib.fields kwT.data.toList = kwL := by kernel_rfl
theorem kw_ascii : ∀ b ∈ kwT.data.toList, b.toNat < 128 := by decide +kernel
def kwO : Obj := .cells (kwL.map fun l => Value.string (bsB l)).toArray 9
theorem kws_any (w : World) (hL : Laid w) : Calls Tryz.prog 13 #[] w fun e w' => e = .returned (.slice (some ⟨w.heap.size, 0, none⟩) 28 28) ∧ w' = w.alloc kwO := by
  have K := Lib.hid (show Calls Tryz.prog 29 #[.string kwT] w fun e w' => e = .returned (.slice (some ⟨w.heap.size, 0, none⟩) 28 28) ∧ w' = w.alloc kwO by
    have h := Tryz.strings_Fields kwT w (by decide +kernel) (fun j b hb => kw_ascii b (List.mem_of_getElem? hb)) hL.sp
    rw [kw_fields] at h
    exact h)
  unfold kwT at K
  clear hL
  go_enter Tryz.func13, Tryz.ntmps13
  go_wp2_with (go_at_call 29; refine K.out.mono ?_; rintro e w' ⟨rfl, rfl⟩)
  go_ret
  exact ⟨rfl, rfl⟩
theorem kw_mem (t : ByteArray) : Lib.containsS ((kwL.map bsB).take 28) t = kwB t.data.toList := by
  rw [Bool.eq_iff_iff, Lib.containsS_iff, List.take_of_length_le (by decide)]
  unfold kwB
  rw [List.contains_iff_mem, List.mem_map]
  constructor
  · rintro ⟨l, hl, rfl⟩; rwa [bsB_data]
  · intro h; exact ⟨_, h, (bsB_of rfl).symm⟩
theorem isKw_any (t : ByteArray) (w : World) (hL : Laid w) : Calls Tryz.prog 66 #[.string t] w fun e w' => e = .returned (.bool (kwB t.data.toList)) ∧ Below w.heap.size w w' := by
  have K1 := Lib.hid (kws_any w hL)
  have K2 := Lib.hid (show Calls Tryz.prog 84 #[.slice (some ⟨w.heap.size, 0, none⟩) 28 28, .string t] (w.alloc kwO) fun e w' => e = .returned (.bool (kwB t.data.toList)) ∧ w.alloc kwO = w' by
    have h0 := World.alloc_heap_new w kwO
    have h := Tryz.slices_Contains_string w.heap.size 0 28 28 (kwL.map bsB) t (w.alloc kwO) (by decide) (by decide) (fun j hj => by
      rw [List.length_map] at hj
      generalize w.alloc kwO = W at h0
      unfold kwO at h0
      simp only [World.cell?, h0, Nat.zero_add]
      simp [hj])
    rw [kw_mem] at h
    exact h.mono fun e w' k => ⟨k.1, k.2.symm⟩)
  have hB := below_al (Below.refl w.heap.size w) kwO
  generalize w.alloc kwO = W at K1 K2 hB
  clear hL
  go_enter Tryz.func66, Tryz.ntmps66
  go_wp2_with (first | (go_at_call 13; refine K1.out.mono ?_; rintro e w' ⟨rfl, rfl⟩) | (go_at_call 84; refine K2.out.mono ?_; rintro e w' ⟨rfl, rfl⟩))
  go_ret
  exact ⟨rfl, hB⟩

/-! a token in memory -/
def tkV (k : Int) (s : List UInt8) (n a : Int) : Value := .agg #[.int .i64 k, .string (bsB s), .int .i64 n, .int .i64 a]
def scV : Option Sc → Value
  | none => .tuple #[.agg #[.int .i64 0, .string ⟨#[]⟩, .int .i64 0, .int .i64 0], .int .i64 0]
  | some t => .tuple #[.agg #[.int .i64 t.k, .string (bsB t.s), .int .i64 t.n, .int .i64 0], .int .i64 (t.z : Int)]
def tkO (a b c d : Value) : Obj := .cells #[a, b, c, d] 27
theorem tok_size : (Tryz.prog.info? 27).map (·.size) = some 4 := by kernel_rfl
theorem tok_under : ∃ fs, Tryz.prog.underlying 27 = some (.struct fs) := ⟨_, Tryz.underlying27⟩
theorem tk_ret {fn : Func} (hf : fn.results = #[.cell 2 27, .tmp 3]) {a : Act} {w : World} {B : Nat} {x0 x1 x2 x3 : Value} (ht : a.tmps.getD 2 undef = .pointer (some ⟨B, 0, none⟩)) (hg : w.heap[B]? = some (.cells #[x0, x1, x2, x3] 27)) :
    (results fn a.tmps).run Tryz.prog w = .ok (.tuple #[.agg #[x0, x1, x2, x3], a.tmps.getD 3 undef]) w := by
  rw [results_cell_tmp hf, ht]
  obtain ⟨fs, hu⟩ := tok_under
  have hl := run_loadVar_row (P := Tryz.prog) w B 27 27 #[x0, x1, x2, x3] (0, 0) _ hg hu rfl tok_size
  simp [asAddr, Result.andThen, hl]
theorem set_fourT {w : World} {B : Nat} {t : TypeId} {x0 x1 x2 x3 a b c d : Value} (hh : w.heap[B]? = some (.cells #[x0, x1, x2, x3] t)) :
    ((((w.setCell ⟨B, 0, none⟩ a).setCell ⟨B, 1, none⟩ b).setCell ⟨B, 2, none⟩ c).setCell ⟨B, 3, none⟩ d).heap[B]? = some (.cells #[a, b, c, d] t) := by
  have h0 : (w.setCell ⟨B, 0, none⟩ a).heap[B]? = some (.cells #[a, x1, x2, x3] t) := heap_setCell_same w B 0 _ _ a hh
  generalize w.setCell ⟨B, 0, none⟩ a = w0 at h0 ⊢
  have h1 : (w0.setCell ⟨B, 1, none⟩ b).heap[B]? = some (.cells #[a, b, x2, x3] t) := heap_setCell_same w0 B 1 _ _ b h0
  generalize w0.setCell ⟨B, 1, none⟩ b = w1 at h1 ⊢
  have h2 : (w1.setCell ⟨B, 2, none⟩ c).heap[B]? = some (.cells #[a, b, c, x3] t) := heap_setCell_same w1 B 2 _ _ c h1
  generalize w1.setCell ⟨B, 2, none⟩ c = w2 at h2 ⊢
  exact heap_setCell_same w2 B 3 _ _ d h2
theorem four_belowT {w W : World} {B : Nat} {a b c d : Value} (hb : Below w.heap.size w W) (hB : w.heap.size ≤ B) : Below w.heap.size w ((((W.setCell ⟨B, 0, none⟩ a).setCell ⟨B, 1, none⟩ b).setCell ⟨B, 2, none⟩ c).setCell ⟨B, 3, none⟩ d) := by
  iterate 4 refine below_st ?_ (by exact hB) _
  exact hb
theorem four_cellsT {W : World} {B : Nat} {a b c d : Value} {t : TypeId} (hh : W.heap[B]? = some (.cells #[a, b, c, d] t)) :
    (W.cell? ⟨B, 0, none⟩ = some a ∧ W.cell? ⟨B, 1, none⟩ = some b ∧ W.cell? ⟨B, 2, none⟩ = some c ∧ W.cell? ⟨B, 3, none⟩ = some d) ∧ (∀ j, W.frozen? ⟨B, j, none⟩ = false) ∧ B < W.heap.size := by
  refine ⟨⟨?_, ?_, ?_, ?_⟩, fun j => ?_, lt_heap hh⟩ <;> simp [World.cell?, World.frozen?, hh]

end Go.Proofs.YtfpdnhbbbadegaaGreatDoor
