/- A row and its check; bytes as a string. Nothing here speaks of a function. -/
import Derived.Test.YtlhjligeigkbnaaCrcMath
import Derived.Test.YtlhjligeigkbnaaArgsB
import Derived.Laws.BytesArg
set_option linter.unusedSimpArgs false
set_option linter.unusedVariables false
namespace Go.Proofs.Ytlhjligeigkbnaa.Crc
open Go.RowKit RU8

/-- The sum behind the first j bytes. -/
theorem goZ_take (s : Nat) (ys : List Nat) (j : Nat) (hj : j < ys.length) : nextZ (goZ s (ys.take j)) (ys.getD j 0) = goZ s (ys.take (j + 1)) := by
  rw [List.take_succ_eq_append_getElem hj, goZ_append, List.getD_eq_getElem?_getD, List.getElem?_eq_getElem hj]
  rfl
/-- A row's check: the sum's lower byte and its upper one. -/
def checkZ (ys : List Nat) : List Nat := [sumZ ys % 256, sumZ ys / 256]
def sealZ (ys : List Nat) : List Nat := ys ++ checkZ ys
theorem check_bytes (ys : List Nat) : Bytes (checkZ ys) := by
  have := sumZ_lt ys
  intro y hy
  simp [checkZ] at hy
  omega
theorem seal_bytes {ys : List Nat} (h : Bytes ys) : Bytes (sealZ ys) := h.append (check_bytes ys)
def strOf (ys : List Nat) : ByteArray := strOfNums (ys.map Int.ofNat)
theorem strOf_inj {a b : List Nat} (ha : Bytes a) (hb : Bytes b) (h : strOf a = strOf b) : a = b := by
  have h1 : (strOf a).data.toList = (strOf b).data.toList := by rw [h]
  unfold strOf at h1
  rw [strOfNums_data, strOfNums_data, List.map_map, List.map_map] at h1
  have e : ∀ l : List Nat, Bytes l → (l.map ((fun n : Int => UInt8.ofNat n.toNat) ∘ Int.ofNat)).map UInt8.toNat = l := fun l hl => by
    rw [List.map_map]
    refine (List.map_congr_left (g := id) fun y hy => ?_).trans (List.map_id l)
    have := hl y hy
    simp [Function.comp]
    omega
  rw [← e a ha, ← e b hb, h1]
theorem conv_vals {P : Program} (src e dst : TypeId) (hs : P.underlying src = some (.slice e)) (he : P.underlying e = some (.int .u8)) (hd : P.underlying dst = some .string) {w : World} {A : Option Addr} {n : Nat} {ys : List Nat} (hv : Vals w A n ys) (c : Nat) :
    (convert src dst (.slice A n c)).run P w = .ok (.string (strOf ys)) w := by
  have hlen := hv.len_
  rcases A with _ | x
  · have h0 : n = 0 := by
      rcases Nat.eq_zero_or_pos n with h0 | h0
      · exact h0
      · obtain ⟨x, hx, _⟩ := hv.cells h0
        cases hx
    subst h0
    obtain rfl : ys = [] := List.eq_nil_of_length_eq_zero hlen
    rw [run_convert_bytes_nil w src e hs he 0 c dst hd]
    rfl
  · have hl : (loadCells x n).run P w = .ok ((ys.map Int.ofNat).map (Value.int .u8)).toArray w := by
      have := run_loadCells_list (P := P) w x ((ys.map Int.ofNat).map (Value.int .u8)) (fun j v hj => hv.get j v (by rw [← hj]; simp [vals]; rfl))
      simpa [hlen] using this
    rw [run_convert_bytes_string w src dst e _ n c hs he hd, run_bytesToString w _ n c _ hl, foldl_push_bytes]
    simp [strOf, strOfNums, ByteArray.empty, ByteArray.emptyWithCapacity]
    rfl
end Go.Proofs.Ytlhjligeigkbnaa.Crc
