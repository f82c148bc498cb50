/- Strings as lists of bytes: what the walk reads of them, and makes of them. -/
import Derived.Test.YtmefdgmbpihdfaaDoorArgsB
import Derived.Laws.BytesArg
import Derived.Laws.Strings2
import Derived.Laws.Strings3
import Derived.Laws.Concat
import Derived.Lib.Strings
set_option linter.unusedSimpArgs false
set_option linter.unusedVariables false
namespace Go.Proofs.YtmefdgmbpihdfaaDoor.Txt
open Go.RowKit RU8

/-- The string of these bytes. -/
def str (l : List Nat) : ByteArray := strOfNums (l.map Int.ofNat)
/-- The bytes of a string. -/
def bytesOf (s : ByteArray) : List Nat := s.data.toList.map UInt8.toNat
theorem str_data (l : List Nat) : (str l).data.toList = l.map UInt8.ofNat := by
  unfold str
  rw [strOfNums_data, List.map_map]
  refine List.map_congr_left fun n hn => ?_
  simp
theorem map_back {l : List Nat} (h : Bytes l) : (l.map UInt8.ofNat).map UInt8.toNat = l := by
  rw [List.map_map]
  refine (List.map_congr_left (g := id) fun y hy => ?_).trans (List.map_id l)
  have := h y hy
  simp [Function.comp]
  omega
theorem bytesOf_str {l : List Nat} (h : Bytes l) : bytesOf (str l) = l := by
  unfold bytesOf
  rw [str_data, map_back h]
theorem bytesOf_bytes (s : ByteArray) : Bytes (bytesOf s) := by
  intro y hy
  obtain ⟨u, _, rfl⟩ := List.mem_map.1 hy
  exact UInt8.toNat_lt u
theorem ext {a b : ByteArray} (h : a.data.toList = b.data.toList) : a = b := by
  obtain ⟨a⟩ := a
  obtain ⟨b⟩ := b
  exact congrArg ByteArray.mk (Array.toList_inj.1 h)
theorem str_bytesOf (s : ByteArray) : str (bytesOf s) = s := by
  refine ext ?_
  rw [str_data]
  unfold bytesOf
  rw [List.map_map]
  refine (List.map_congr_left (g := id) fun u hu => ?_).trans (List.map_id _)
  simp [Function.comp]
theorem str_size (l : List Nat) : (str l).size = l.length := by rw [Lib.size_eq, str_data, List.length_map]
theorem str_inj {a b : List Nat} (ha : Bytes a) (hb : Bytes b) (h : str a = str b) : a = b := by rw [← bytesOf_str ha, ← bytesOf_str hb, h]
theorem str_append (a b : List Nat) : str a ++ str b = str (a ++ b) := by
  refine ext ?_
  rw [str_data, List.map_append, ← str_data, ← str_data]
  simp
theorem str_extract (l : List Nat) (a b : Nat) : (str l).extract a b = str ((l.drop a).take (b - a)) := by
  refine ext ?_
  rw [Lib.extract_data, str_data, str_data, List.map_take, List.map_drop]
theorem str_get {l : List Nat} (hb : Bytes l) (k : Nat) (h : k < (str l).size) : ((str l)[k]'h).toNat = l.getD k 0 := by
  have hk : k < l.length := by rwa [str_size] at h
  have e : (str l)[k]'h = (str l).data.toList[k]'(by rw [str_data, List.length_map]; exact hk) := by
    rw [Array.getElem_toList]; rfl
  have e2 : (str l).data.toList[k]'(by rw [str_data, List.length_map]; exact hk) = UInt8.ofNat (l[k]'hk) := by simp [str_data]
  rw [e, e2, List.getD_eq_getElem?_getD, List.getElem?_eq_getElem hk]
  have := hb _ (List.getElem_mem hk)
  simp
  omega
theorem str_beq {a b : List Nat} (ha : Bytes a) (hb : Bytes b) : ((str a).toList == (str b).toList) = decide (a = b) := by
  rw [Bool.eq_iff_iff, beq_iff_eq, decide_eq_true_iff, ByteArray.toList_eq, ByteArray.toList_eq]
  exact ⟨fun h => str_inj ha hb (ext h), fun h => by rw [h]⟩
theorem str_nil : str [] = ByteArray.empty := rfl
theorem bytes_nil : Bytes [] := fun y hy => by cases hy
theorem bytes_cons {c : Nat} {l : List Nat} (hc : c < 256) (h : Bytes l) : Bytes (c :: l) := fun y hy => by
  rcases List.mem_cons.1 hy with rfl | h1
  · exact hc
  · exact h y h1
theorem bytes_drop {l : List Nat} (h : Bytes l) (n : Nat) : Bytes (l.drop n) := fun y hy => h y (List.mem_of_mem_drop hy)
theorem run_add {P : Program} (a b : List Nat) (w : World) (h : a.length + b.length ≤ 9223372036854775807) : (Op.stringOp .add (str a) (str b)).run P w = .ok (.string (str (a ++ b))) w := by
  rw [run_string_add_sum w _ _ (by rw [str_size, str_size]; exact h), str_append]
/-- A row of bytes as a string. -/
theorem conv {P : Program} (src e dst : TypeId) (hs : P.underlying src = some (.slice e)) (he : P.underlying e = some (.int .u8)) (hd : P.underlying dst = some .string) {w : World} {A : Option Addr} {n : Nat} {ys : List Nat} (hv : Vals w A n ys) (c : Nat) :
    (convert src dst (.slice A n c)).run P w = .ok (.string (str ys)) w := by
  have hlen := hv.len_
  rcases A with _ | x
  · have h0 : n = 0 := by
      rcases Nat.eq_zero_or_pos n with h0 | h0
      · exact h0
      · obtain ⟨x, hx, _⟩ := hv.cells h0
        cases hx
    subst h0
    obtain rfl : ys = [] := List.eq_nil_of_length_eq_zero hlen
    rw [run_convert_bytes_nil w src e hs he 0 c dst hd]
    rfl
  · have hl : (loadCells x n).run P w = .ok ((ys.map Int.ofNat).map (Value.int .u8)).toArray w := by
      have := run_loadCells_list (P := P) w x ((ys.map Int.ofNat).map (Value.int .u8)) (fun j v hj => hv.get j v (by rw [← hj]; simp [vals]; rfl))
      simpa [hlen] using this
    rw [run_convert_bytes_string w src dst e _ n c hs he hd, run_bytesToString w _ n c _ hl, foldl_push_bytes]
    simp [str, strOfNums, ByteArray.empty, ByteArray.emptyWithCapacity]
    rfl
end Go.Proofs.YtmefdgmbpihdfaaDoor.Txt
