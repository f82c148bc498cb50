/- Frames there and back, reckoned. Nothing here speaks of a program. -/
import Derived.Test.YtlhjligeigkbnaaFrameRefMake
import Derived.Test.YtlhjligeigkbnaaFrameLookMath
set_option linter.unusedSimpArgs false
set_option linter.unusedVariables false
namespace Go.Proofs.Ytlhjligeigkbnaa.Frm
open Go.RowKit RU8

theorem seal_sealed (ys : List Nat) : Crc.sealedB (Crc.sealZ ys) = true := by
  have hl : (Crc.sealZ ys).length = ys.length + 2 := by simp [Crc.sealZ, Crc.checkZ]
  unfold Crc.sealedB
  rw [hl, decide_eq_true (by omega), Bool.true_and, Nat.add_sub_cancel]
  have e : (Crc.sealZ ys).take ys.length = ys := by unfold Crc.sealZ; rw [List.take_append_of_le_length (Nat.le_refl _), List.take_length]
  rw [e]
  simp
theorem sealed_is {ys : List Nat} (h : Crc.sealedB ys = true) : 2 ≤ ys.length ∧ Crc.sealZ (ys.take (ys.length - 2)) = ys := by
  unfold Crc.sealedB at h
  rw [Bool.and_eq_true, decide_eq_true_iff, decide_eq_true_iff] at h
  exact h
/-- Sample k's bytes among all of them. -/
theorem samps_get (l : List Samp) (k m : Nat) (hk : k < l.length) (hm : m < 3) : (sampsT l)[3 * k + m]? = (sampT (l.getD k (0, false)))[m]? := by
  induction l generalizing k with
  | nil => simp at hk
  | cons s l ih =>
    rw [show sampsT (s :: l) = sampT s ++ sampsT l from rfl]
    have h3 : (sampT s).length = 3 := rfl
    cases k with
    | zero => rw [Nat.mul_zero, Nat.zero_add, List.getElem?_append_left (by omega)]; rfl
    | succ k =>
      rw [List.getElem?_append_right (by omega), h3, show 3 * (k + 1) + m - 3 = 3 * k + m by omega, ih k (by simpa using hk)]
      rfl
theorem frame_drop (seq : Nat) (l : List Samp) (r : List Nat) : ((frameT seq l ++ r).take (6 + 3 * l.length)).drop 2 = Crc.sealZ (bodyT seq l) := by
  rw [← frameT_length seq l, List.take_left']
  · rfl
  · rfl
/-- What stands where in a frame. -/
theorem frame_head (seq : Nat) (l : List Samp) (r : List Nat) : (frameT seq l ++ r).getD 0 0 = 165 ∧ (frameT seq l ++ r).getD 1 0 = 90 ∧ (frameT seq l ++ r).getD 2 0 = seq ∧ (frameT seq l ++ r).getD 3 0 = l.length := ⟨rfl, rfl, rfl, rfl⟩
theorem frame_samp (seq : Nat) (l : List Samp) (r : List Nat) (k m : Nat) (hk : k < l.length) (hm : m < 3) : (frameT seq l ++ r).getD (4 + 3 * k + m) 0 = (sampT (l.getD k (0, false))).getD m 0 := by
  have hs := sampsT_length l
  rw [List.getD_eq_getElem?_getD, List.getD_eq_getElem?_getD, ← samps_get l k m hk hm, show frameT seq l ++ r = [165, 90, seq, l.length] ++ (sampsT l ++ (Crc.checkZ (bodyT seq l) ++ r)) by
    unfold frameT Crc.sealZ bodyT
    simp]
  rw [List.getElem?_append_right (by simp; omega), show 4 + 3 * k + m - [165, 90, seq, l.length].length = 3 * k + m by simp; omega, List.getElem?_append_left (by omega)]
theorem val_back {v : Int} (h : -32768 ≤ v ∧ v ≤ 32767) : valT2 (modT v % 256) (modT v / 256) = v := by
  unfold valT2 modT
  split <;> omega
theorem val_there {lo hi : Nat} (h1 : lo < 256) (h2 : hi < 256) : modT (valT2 lo hi) = lo + 256 * hi ∧ -32768 ≤ valT2 lo hi ∧ valT2 lo hi ≤ 32767 := by
  unfold valT2 modT
  split <;> omega
/-- Bytes that are a frame's as far as byte i have nothing wrong at byte i. -/
theorem err_zero {b : List Nat} {seq : Nat} {l : List Samp} (hm : mayT l = true) {i : Nat} (hi : i < b.length) (hg : ∀ j, j ≤ i → j < 6 + 3 * l.length → b.getD j 0 = (frameT seq l).getD j 0)
    (hs : i + 1 = 6 + 3 * l.length → (b.take (6 + 3 * l.length)).drop 2 = Crc.sealZ (bodyT seq l)) : errAt b i = 0 := by
  unfold mayT at hm
  have hl := of_decide_eq_true hm
  have hf := frame_head seq l []
  rw [List.append_nil] at hf
  unfold errAt
  by_cases h4 : 4 ≤ i
  · have hz : sizeT b = 6 + 3 * l.length := by unfold sizeT; rw [hg 3 (by omega) (by omega), hf.2.2.2]
    rw [hz]
    by_cases hin : 6 + 3 * l.length ≤ i
    · rw [if_pos ⟨h4, hin⟩]
    · rw [if_neg (by omega), if_neg (by omega), if_neg (by omega), if_neg (by omega), if_neg (by omega), if_neg, if_neg]
      · rintro ⟨h1, h2⟩
        rw [hs h1, seal_sealed] at h2
        cases h2
      · rintro ⟨h1, h2, h3⟩
        obtain ⟨k, rfl⟩ : ∃ k, i = 4 + 3 * k + 0 := ⟨(i - 4) / 3, by omega⟩
        have := frame_samp seq l [] k 0 (by omega) (by omega)
        rw [List.append_nil] at this
        rw [hg _ (Nat.le_refl _) (by omega), this] at h3
        have e : (sampT (l.getD k (0, false))).getD 0 0 = if (l.getD k (0, false)).2 then 1 else 0 := rfl
        rw [e] at h3
        split at h3 <;> omega
  · rw [if_neg (by omega), if_neg (by omega)]
    rcases (by omega : i = 0 ∨ i = 1 ∨ i = 2 ∨ i = 3) with rfl | rfl | rfl | rfl
    · rw [hg 0 (by omega) (by omega), hf.1, if_neg (by omega), if_neg (by omega), if_pos (by omega)]
    · rw [hg 1 (by omega) (by omega), hf.2.1, if_neg (by omega), if_neg (by omega), if_pos (by omega)]
    · rw [if_neg (by omega), if_neg (by omega), if_pos (by omega)]
    · rw [hg 3 (by omega) (by omega), hf.2.2.2, if_neg (by omega), if_neg (by omega), if_pos (by omega)]
theorem first_zero {b : List Nat} {k : Nat} (h : ∀ i, i < k → errAt b i = 0) : firstErr b k = 0 := by
  induction k with
  | zero => rfl
  | succ k ih => exact firstErr_step (ih fun i hi => h i (by omega)) (h k (by omega))
/-- What was made is found, whatever stands behind (P6.3). -/
theorem look_frame {seq : Nat} {l : List Samp} (hm : mayT l = true) (r : List Nat) : lookE (frameT seq l ++ r) = 0 ∧ lookSeq (frameT seq l ++ r) = seq ∧ lookL (frameT seq l ++ r) = l ∧ lookN (frameT seq l ++ r) = 6 + 3 * l.length := by
  have hm2 := hm
  unfold mayT at hm2
  have hl := of_decide_eq_true hm2
  have hlen : (frameT seq l ++ r).length = 6 + 3 * l.length + r.length := by rw [List.length_append, frameT_length]
  have hz : sizeT (frameT seq l ++ r) = 6 + 3 * l.length := by unfold sizeT; rw [(frame_head seq l r).2.2.2]
  have hE : lookE (frameT seq l ++ r) = 0 := by
    refine lookE_ok (i := 6 + 3 * l.length) (first_zero fun i hi => err_zero hm (by omega) (fun j _ hj => ?_) fun _ => frame_drop seq l r) (by omega) (by omega)
    rw [List.getD_eq_getElem?_getD, List.getD_eq_getElem?_getD, List.getElem?_append_left (by rw [frameT_length]; exact hj)]
  obtain ⟨h1, h2, h3⟩ := look_ok hE
  refine ⟨hE, h1.trans (frame_head seq l r).2.2.1, ?_, h3.trans hz⟩
  rw [h2, (frame_head seq l r).2.2.2]
  refine List.ext_getElem (by rw [unsampsT_length]) fun k h4 h5 => ?_
  have e : (unsampsT (frameT seq l ++ r) l.length)[k] = sampAt (frameT seq l ++ r) k := by simp [unsampsT]
  have eg : l.getD k (0, false) = l[k] := by rw [List.getD_eq_getElem?_getD, List.getElem?_eq_getElem h5]; rfl
  have hfit := hl.2.2 _ (List.getElem_mem h5)
  have g0 := frame_samp seq l r k 0 h5 (by omega)
  have g1 := frame_samp seq l r k 1 h5 (by omega)
  have g2 := frame_samp seq l r k 2 h5 (by omega)
  rw [eg] at g0 g1 g2
  rw [e]
  unfold sampAt
  rw [show 5 + 3 * k = 4 + 3 * k + 1 by omega, show 6 + 3 * k = 4 + 3 * k + 2 by omega, show 4 + 3 * k = 4 + 3 * k + 0 by omega, g0, g1, g2]
  generalize l[k] = s at *
  obtain ⟨v, o⟩ := s
  refine Prod.ext (val_back hfit) ?_
  cases o <;> rfl
/-- Cut off anywhere it is too short (P6.3). -/
theorem look_cut {seq : Nat} {l : List Samp} (hm : mayT l = true) (k : Nat) (hk : k < 6 + 3 * l.length) : lookE ((frameT seq l).take k) = 6 := by
  have hm2 := hm
  unfold mayT at hm2
  have hl := of_decide_eq_true hm2
  have hlen : ((frameT seq l).take k).length = k := by rw [List.length_take, frameT_length]; omega
  have hget : ∀ j, j < k → ((frameT seq l).take k).getD j 0 = (frameT seq l).getD j 0 := fun j hj => by rw [List.getD_eq_getElem?_getD, List.getD_eq_getElem?_getD, List.getElem?_take_of_lt hj]
  have h0 : firstErr ((frameT seq l).take k) k = 0 := first_zero fun i hi => err_zero hm (by omega) (fun j hj _ => hget j (by omega)) (fun h => by omega)
  have he : errAt ((frameT seq l).take k) k = 6 := by
    unfold errAt
    rw [if_neg, if_pos (by omega)]
    rintro ⟨h1, h2⟩
    unfold sizeT at h2
    have := frame_head seq l []
    rw [List.append_nil] at this
    rw [hget 3 (by omega), this.2.2.2] at h2
    omega
  rw [lookE_bad h0 (by omega) (by rw [he]; decide), he]
theorem err_all {b : List Nat} (h : lookE b = 0) (i : Nat) (hi : i < 102) : errAt b i = 0 := by
  have key : ∀ k, k ≤ 102 → firstErr b k = 0 := fun k hk => by
    by_cases h1 : firstErr b k = 0
    · exact h1
    · have := firstErr_stay h1 102 hk
      unfold lookE at h
      rw [h] at this
      exact this.symm
  have h1 := key (i + 1) (by omega)
  rw [firstErr, if_neg (by rw [key i (by omega)]; simp)] at h1
  exact h1
theorem drop_three (b : List Nat) (k : Nat) (h : 4 + 3 * k + 3 ≤ b.length) : (b.drop 4).take (3 * (k + 1)) = (b.drop 4).take (3 * k) ++ [b.getD (4 + 3 * k) 0, b.getD (5 + 3 * k) 0, b.getD (6 + 3 * k) 0] := by
  have hd : (b.drop 4).length = b.length - 4 := List.length_drop
  have hg : ∀ j, j < b.length - 4 → ∀ hj : j < (b.drop 4).length, (b.drop 4)[j] = b.getD (4 + j) 0 := fun j h1 hj => by
    rw [List.getElem_drop, List.getD_eq_getElem?_getD, List.getElem?_eq_getElem (by omega)]
    rfl
  rw [show 3 * (k + 1) = 3 * k + 1 + 1 + 1 by omega, List.take_succ_eq_append_getElem (by omega), List.take_succ_eq_append_getElem (by omega), List.take_succ_eq_append_getElem (by omega),
    hg _ (by omega), hg _ (by omega), hg _ (by omega), show 4 + (3 * k + 1) = 5 + 3 * k by omega, show 4 + (3 * k + 1 + 1) = 6 + 3 * k by omega]
  simp
theorem take_four (b : List Nat) (h : 3 < b.length) : b.take 4 = [b.getD 0 0, b.getD 1 0, b.getD 2 0, b.getD 3 0] := by
  match b, h with
  | x0 :: x1 :: x2 :: x3 :: r, _ => rfl
/-- What is found was made so (P6.4). -/
theorem look_made {b : List Nat} (hb : Bytes b) (h : lookE b = 0) : mayT (lookL b) = true ∧ frameT (lookSeq b) (lookL b) = b.take (lookN b) ∧ lookN b ≤ b.length ∧ lookSeq b < 256 := by
  obtain ⟨e1, e2, e3⟩ := look_ok h
  rw [e1, e2, e3]
  have hall := err_all h
  have a0 := hall 0 (by omega)
  have a1 := hall 1 (by omega)
  have a3 := hall 3 (by omega)
  have hl3 : 3 < b.length := by
    unfold errAt at a3
    rw [if_neg (by omega)] at a3
    split at a3
    · cases a3
    · omega
  rw [err_at0 (by omega)] at a0
  rw [err_at1 (by omega)] at a1
  rw [err_at3 (by omega)] at a3
  have h0 : b.getD 0 0 = 165 := by
    by_cases h1 : b.getD 0 0 = 165
    · exact h1
    · rw [if_pos h1] at a0; cases a0
  have h1 : b.getD 1 0 = 90 := by
    by_cases h1 : b.getD 1 0 = 90
    · exact h1
    · rw [if_pos h1] at a1; cases a1
  have h3 : 1 ≤ b.getD 3 0 ∧ b.getD 3 0 ≤ 32 := by
    by_cases h1 : b.getD 3 0 < 1 ∨ 32 < b.getD 3 0
    · rw [if_pos h1] at a3; cases a3
    · omega
  obtain ⟨n, hn⟩ : ∃ n, b.getD 3 0 = n := ⟨_, rfl⟩
  have hz : sizeT b = 6 + 3 * n := by unfold sizeT; rw [hn]
  rw [hn] at h3 ⊢
  rw [hz]
  have hlong : 6 + 3 * n ≤ b.length := by
    have a := hall (5 + 3 * n) (by omega)
    unfold errAt at a
    rw [if_neg (by omega)] at a
    split at a
    · cases a
    · omega
  have hall4 : ∀ i, 4 ≤ i → i < 6 + 3 * n → (¬ (i + 2 < 6 + 3 * n ∧ i % 3 = 1 ∧ 1 < b.getD i 0)) ∧ ¬ (i + 1 = 6 + 3 * n ∧ Crc.sealedB ((b.take (6 + 3 * n)).drop 2) = false) := fun i h4 hi => by
    have a := hall i (by omega)
    unfold errAt at a
    rw [hz, if_neg (by omega), if_neg (by omega), if_neg (by omega), if_neg (by omega), if_neg (by omega)] at a
    split at a
    · cases a
    · split at a
      · cases a
      · exact ⟨by assumption, by assumption⟩
  have hseal : Crc.sealedB ((b.take (6 + 3 * n)).drop 2) = true := by
    have := (hall4 (5 + 3 * n) (by omega) (by omega)).2
    cases hc : Crc.sealedB ((b.take (6 + 3 * n)).drop 2)
    · exact absurd ⟨by omega, hc⟩ this
    · rfl
  have hsamps : ∀ k, k ≤ n → sampsT (unsampsT b k) = (b.drop 4).take (3 * k) := fun k hk => by
    induction k with
    | zero => rfl
    | succ k ih =>
      have hfl : b.getD (4 + 3 * k) 0 ≤ 1 := by
        have := (hall4 (4 + 3 * k) (by omega) (by omega)).1
        omega
      have hv := val_there (hb.at_ (5 + 3 * k)) (hb.at_ (6 + 3 * k))
      have hlo := hb.at_ (5 + 3 * k)
      have hhi := hb.at_ (6 + 3 * k)
      rw [unsampsT_step, show sampsT (unsampsT b k ++ [sampAt b k]) = sampsT (unsampsT b k) ++ sampT (sampAt b k) by unfold sampsT; rw [List.flatMap_append]; simp, ih (by omega), drop_three b k (by omega)]
      refine congrArg (fun z : List Nat => (b.drop 4).take (3 * k) ++ z) ?_
      unfold sampT sampAt
      simp only []
      rw [hv.1, show (b.getD (5 + 3 * k) 0 + 256 * b.getD (6 + 3 * k) 0) % 256 = b.getD (5 + 3 * k) 0 by omega, show (b.getD (5 + 3 * k) 0 + 256 * b.getD (6 + 3 * k) 0) / 256 = b.getD (6 + 3 * k) 0 by omega]
      rcases (by omega : b.getD (4 + 3 * k) 0 = 0 ∨ b.getD (4 + 3 * k) 0 = 1) with h9 | h9 <;> rw [h9] <;> rfl
  have hfour : b.take 4 = [165, 90, b.getD 2 0, n] := by
    rw [take_four b hl3, h0, h1, hn]
  have hbody : bodyT (b.getD 2 0) (unsampsT b n) = (b.take (4 + 3 * n)).drop 2 := by
    have e : b.take (4 + 3 * n) = b.take 4 ++ (b.drop 4).take (3 * n) := by rw [← List.take_add]
    rw [e, hfour]
    unfold bodyT
    rw [unsampsT_length, hsamps n (Nat.le_refl _)]
    rfl
  refine ⟨?_, ?_, hlong, hb.at_ 2⟩
  · unfold mayT
    refine decide_eq_true ⟨by rw [unsampsT_length]; omega, by rw [unsampsT_length]; omega, fun s hs => ?_⟩
    unfold unsampsT at hs
    obtain ⟨k, hk, rfl⟩ := List.mem_map.1 hs
    exact (val_there (hb.at_ (5 + 3 * k)) (hb.at_ (6 + 3 * k))).2
  · obtain ⟨q1, q2⟩ := sealed_is hseal
    have hlX : ((b.take (6 + 3 * n)).drop 2).length = 4 + 3 * n := by rw [List.length_drop, List.length_take]; omega
    rw [hlX, show 4 + 3 * n - 2 = 2 + 3 * n by omega, List.take_drop, List.take_take, show min (2 + (2 + 3 * n)) (6 + 3 * n) = 4 + 3 * n by omega, ← hbody] at q2
    unfold frameT
    rw [q2]
    have e : b.take (6 + 3 * n) = b.take 4 ++ (b.drop 4).take (2 + 3 * n) := by rw [show 6 + 3 * n = 4 + (2 + 3 * n) by omega, List.take_add]
    rw [e, hfour]
    rfl
end Go.Proofs.Ytlhjligeigkbnaa.Frm
