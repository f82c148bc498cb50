/- A frame of which bits are turned, reckoned. Nothing here speaks of a program. -/
import Derived.Test.YtokgcbdpmbjagaaFrameBackMath
set_option linter.unusedSimpArgs false
set_option linter.unusedVariables false
namespace Go.Proofs.Ytokgcbdpmbjagaa.Frm
open Go.RowKit RU8

theorem frame_body (q : Nat) (l : List Samp) (i : Nat) (hi : i < 2 + 3 * l.length) : (frameT q l).getD (i + 2) 0 = (bodyT q l).getD i 0 := by
  have hl := bodyT_length q l
  rw [List.getD_eq_getElem?_getD, List.getD_eq_getElem?_getD]
  unfold frameT Crc.sealZ
  rw [List.getElem?_append_right (by simp), show i + 2 - [165, 90].length = i by simp, List.getElem?_append_left (by omega)]
theorem frame_check (q : Nat) (l : List Samp) : (frameT q l).getD (4 + 3 * l.length) 0 = Crc.sumZ (bodyT q l) % 256 ∧ (frameT q l).getD (5 + 3 * l.length) 0 = Crc.sumZ (bodyT q l) / 256 := by
  have hl := bodyT_length q l
  constructor
  · rw [List.getD_eq_getElem?_getD]
    unfold frameT Crc.sealZ Crc.checkZ
    rw [List.getElem?_append_right (by simp; omega), List.getElem?_append_right (by simp; omega), show 4 + 3 * l.length - [165, 90].length - (bodyT q l).length = 0 by simp; omega]
    rfl
  · rw [List.getD_eq_getElem?_getD]
    unfold frameT Crc.sealZ Crc.checkZ
    rw [List.getElem?_append_right (by simp; omega), List.getElem?_append_right (by simp; omega), show 5 + 3 * l.length - [165, 90].length - (bodyT q l).length = 1 by simp; omega]
    rfl
theorem body_bit (q : Nat) (l : List Samp) (k : Nat) (hk : k / 8 < 2 + 3 * l.length) : Crc.bitAt (bodyT q l) k = Crc.bitAt (frameT q l) (k + 16) := by
  unfold Crc.bitAt
  rw [show (k + 16) / 8 = k / 8 + 2 by omega, show (k + 16) % 8 = k % 8 by omega, frame_body q l _ hk]
/-- A frame of which bits are turned within sixteen places, but for those of how many samples there are and of the check, is none any more. -/
theorem turned_look {q : Nat} {l : List Samp} (hm : mayT l = true) {F' : List Nat} {p : Nat} {some : Bool} (hb : Bytes F') (hD : Crc.Differ (frameT q l) p 16 some F') (h3 : F'.getD 3 0 = l.length)
    (hlast : ∀ i, 4 + 3 * l.length ≤ i → F'.getD i 0 = (frameT q l).getD i 0) (hs : some = true) : lookE F' ≠ 0 := by
  intro hL
  obtain ⟨hm', hfr, _, _⟩ := look_made hb hL
  obtain ⟨e1, e2, e3⟩ := look_ok hL
  have hn' : (lookL F').length = l.length := by rw [e2, unsampsT_length, h3]
  have hN : lookN F' = 6 + 3 * l.length := by rw [e3]; unfold sizeT; rw [h3]
  have hlen : F'.length = 6 + 3 * l.length := by rw [hD.1, frameT_length]
  rw [hN, List.take_of_length_le (by omega)] at hfr
  generalize lookSeq F' = q' at *
  generalize lookL F' = l' at *
  subst hfr
  obtain ⟨k, hk⟩ := hD.2.2.1 hs
  have c1 := frame_check q l
  have c2 := frame_check q' l'
  rw [hn'] at c2
  have d1 := hlast (4 + 3 * l.length) (Nat.le_refl _)
  have d2 := hlast (5 + 3 * l.length) (by omega)
  rw [c1.1, c2.1] at d1
  rw [c1.2, c2.2] at d2
  have hsum : Crc.sumZ (bodyT q' l') = Crc.sumZ (bodyT q l) := by omega
  have hg1 := bodyT_length q l
  have hg2 := bodyT_length q' l'
  have hall := (Crc.sums_unlike (bodyT q' l') (bodyT q l) (by omega) (p - 16) fun j hj => by
    by_cases hjn : j / 8 < 2 + 3 * l.length
    · rw [body_bit q l j hjn, body_bit q' l' j (by omega)] at hj
      have := hD.2.1 _ hj
      omega
    · exfalso
      apply hj
      unfold Crc.bitAt
      rw [List.getD_eq_getElem?_getD, List.getD_eq_getElem?_getD, List.getElem?_eq_none (by omega), List.getElem?_eq_none (by omega)]).1 hsum
  apply hk
  have g1 := frame_head q l []
  have g2 := frame_head q' l' []
  rw [List.append_nil] at g1 g2
  rcases (by omega : k / 8 = 0 ∨ k / 8 = 1 ∨ (2 ≤ k / 8 ∧ k / 8 < 4 + 3 * l.length) ∨ 4 + 3 * l.length ≤ k / 8) with h1 | h1 | h1 | h1
  · unfold Crc.bitAt
    rw [h1, g1.1, g2.1]
  · unfold Crc.bitAt
    rw [h1, g1.2.1, g2.2.1]
  · have := hall (k - 16)
    rw [body_bit q l _ (by omega), body_bit q' l' _ (by omega), show k - 16 + 16 = k by omega] at this
    exact this
  · unfold Crc.bitAt
    rw [hlast _ h1]
end Go.Proofs.Ytokgcbdpmbjagaa.Frm
