/- The reference's frames as bytes. -/
import Derived.Test.YtlhjligeigkbnaaFrameRefMay
import Derived.Test.YtlhjligeigkbnaaCrcRefD
set_option linter.unusedSimpArgs false
set_option linter.unusedVariables false
namespace Go.Proofs.Ytlhjligeigkbnaa.Frm
open Go.RowKit RU8

/-- A frame's bytes. -/
def frameT (seq : Nat) (l : List Samp) : List Nat := [165, 90] ++ Crc.sealZ (bodyT seq l)
theorem bodyT_bytes {seq : Nat} {l : List Samp} (h : seq < 256) (hl : l.length < 256) : Bytes (bodyT seq l) := by
  intro y hy
  unfold bodyT at hy
  rcases List.mem_cons.1 hy with rfl | hy
  · exact h
  · rcases List.mem_cons.1 hy with rfl | hy
    · exact hl
    · exact sampsT_bytes l y hy
theorem bodyT_length (seq : Nat) (l : List Samp) : (bodyT seq l).length = 2 + 3 * l.length := by unfold bodyT; rw [List.length_cons, List.length_cons, sampsT_length]; omega
theorem frameT_length (seq : Nat) (l : List Samp) : (frameT seq l).length = 6 + 3 * l.length := by
  unfold frameT Crc.sealZ Crc.checkZ
  rw [List.length_append, List.length_append, bodyT_length]
  simp
  omega
def makeB (seq : Nat) (l : List Samp) : List Nat := if mayT l then frameT seq l else []
def makeE (l : List Samp) : Int := if mayT l then 0 else 1
/-- What a Make answers: new bytes, and the error's number. -/
def MakeIs (w : World) (seq : Nat) (l : List Samp) (e : Ending) (w' : World) : Prop :=
  ∃ v A c, v = .slice A (makeB seq l).length c ∧ e = .returned (.tuple #[v, .int .i64 (makeE l)]) ∧ (makeB seq l).length ≤ c ∧ c ≤ 9223372036854775807 ∧ w'.ownsRow w.heap.size 5 1 v (makeB seq l).length (vals (makeB seq l)) ∧ Below w.heap.size w w'
set_option maxHeartbeats 1000000 in
theorem refmake_any (seq : Nat) (hq : seq < 256) (A : Option Addr) (n c : Nat) (ys : List Samp) (w : World) (hv : Row.Vals sampS w A n ys) (hs : Small ys) (hn : n ≤ 9223372036854775807) :
    Calls Try.prog 18 #[.int .u8 seq, .slice A n c] w (MakeIs w seq ys) := by
  have hlen := hv.len_
  have hmay := refmay_any A n c ys w hv hs hn
  have hInfo : (Try.prog.info? 5).map (fun i => (i.zero, i.size, i.bytes)) = some (some (.int .u8 0), 1, 1) := by kernel_rfl
  have HInfo := Lib.hid hInfo
  clear hInfo
  cases hm : mayT ys with
  | false =>
    rw [hm] at hmay
    have h1 : makeB seq ys = [] := by unfold makeB; rw [hm]; rfl
    have h2 : makeE ys = 1 := by unfold makeE; rw [hm]; rfl
    have H1 := Lib.hid h1
    have H2 := Lib.hid h2
    clear h1 h2 hm hv
    go_enter Try.func18, Try.ntmps18
    go_wp2_with (go_at_call 17; ((with_reducible refine hmay.mono ?_); rintro e w' ⟨rfl, rfl⟩))
    go_ret2
    exact ⟨.slice none 0 0, none, 0, by rw [H1.out]; rfl, by rw [H2.out]; rfl, by rw [H1.out]; exact Nat.le_refl _, by omega, by rw [H1.out]; exact own_none _ _ _, Below.refl _ _⟩
  | true =>
    rw [hm] at hmay
    have h1 : makeB seq ys = frameT seq ys := by unfold makeB; rw [hm]; rfl
    have h2 : makeE ys = 0 := by unfold makeE; rw [hm]; rfl
    have H1 := Lib.hid h1
    have H2 := Lib.hid h2
    have hmm := hm
    unfold mayT at hmm
    have h3 := of_decide_eq_true hmm
    rw [hlen] at h3
    have hn1 := h3.1
    have hn32 := h3.2.1
    have hfit : ∀ j, j < n → Fits (ys.getD j (0, false)) := fun j hj => h3.2.2 _ (by rw [List.getD_eq_getElem?_getD, List.getElem?_eq_getElem (by omega)]; exact List.getElem_mem _)
    have HF := Lib.hid hfit
    clear h1 h2 hm hmm h3 hfit
    have hn8 : IntKind.u8.wrap (n : Int) = (n : Int) := by rw [IntKind.wrap_u8]; omega
    have hH0 := Has.new w 5 #[.int .u8 seq, .int .u8 n]
    have hO0 : World.ownsRow (w.alloc (.cells #[.int .u8 seq, .int .u8 n] 5)) w.heap.size 5 1 (.slice (some ⟨w.heap.size, 0, none⟩) 2 2) 2 (vals [seq, n]) :=
      ⟨rfl, .inr ⟨_, 2, _, rfl, Nat.le_refl _, hH0, Nat.le_refl _, by unfold maxLen; omega, rfl, rfl⟩⟩
    have hB0 := (Below.refl w.heap.size w).alloc (Nat.le_refl _) (.cells #[.int .u8 seq, .int .u8 n] 5)
    go_enter Try.func18, Try.ntmps18
    go_wp2_with (go_at_call 17; ((with_reducible refine hmay.mono ?_); rintro e w' ⟨rfl, rfl⟩))
    go_loopw [6, 7] (fun v i wr => ∃ (j m : Nat), j ≤ n ∧ i = .int .i64 (j : Nat) ∧ m = 2 + 3 * j ∧ wr.ownsRow w.heap.size 5 1 v m (vals ([seq, n] ++ sampsT (ys.take j))) ∧ Below w.heap.size w wr) (fun _ i _ => n - (intOf i).toNat)
    case atStart => exact ⟨0, 2, by omega, rfl, rfl, hO0, hB0⟩
    case round =>
      clear hH0 hO0 hB0
      obtain ⟨j, m, hj, rfl, hmj, hO, hB⟩ := hrel
      have HM := Lib.hid hmj
      have hm98 : m ≤ 98 := by omega
      clear hmj
      by_cases hjn : j < n
      · have hvr := hv.below hB
        obtain ⟨x, rfl, _⟩ := hv.cells (by omega)
        obtain ⟨hc0, hc1⟩ := samp_cells hvr j hjn
        have hf := HF.out j hjn
        have hst := sampsT_take ys j (by omega)
        generalize ys.getD j (0, false) = s at *
        obtain ⟨v, off⟩ := s
        unfold Fits at hf
        have hst2 : sampsT (ys.take (j + 1)) = sampsT (ys.take j) ++ [if off then 1 else 0, modT v % 256, modT v / 256] := hst
        have hmv : (modT v : Int) = (v + 65536) % 65536 := by unfold modT; omega
        obtain ⟨M, hM⟩ : ∃ M, modT v = M := ⟨_, rfl⟩
        rw [hM] at hmv hst2
        have hvm : (v + 65536) % 65536 = (M : Int) := hmv.symm
        have hM6 : M < 65536 := by rw [← hM]; exact modT_lt v
        obtain ⟨lo, hlo⟩ : ∃ lo, M % 256 = lo := ⟨_, rfl⟩
        obtain ⟨hi, hhi⟩ : ∃ hi, M / 256 = hi := ⟨_, rfl⟩
        rw [hlo, hhi] at hst2
        have hloz : (M : Int) % 256 = (lo : Int) := by omega
        have hhiz : (M : Int) / 256 = (hi : Int) := by omega
        have hlo8 : lo < 256 := by omega
        have hhi8 : hi < 256 := by omega
        have HST := Lib.hid hst2
        clear hst hst2 hM hlo hhi hmv hv
        cases off
        · skip
          have hOa := own_kept hO ((Kept.refl [] wr).alloc (.cells #[.int .u8 0, .int .u8 lo, .int .u8 hi] 5)) (by simp)
          have hBa := hB.alloc hB.size (.cells #[.int .u8 0, .int .u8 lo, .int .u8 hi] 5)
          have hVn : Vals (wr.alloc (.cells #[.int .u8 0, .int .u8 lo, .int .u8 hi] 5)) (some ⟨wr.heap.size, 0, none⟩) 3 [0, lo, hi] := Vals.has (ys := [0, lo, hi]) (tl := []) (Has.new wr _ _)
          have hjm : m + 3 ≤ 1048576 := by omega
          go_wp2_with (at_builtin; refine wpList_append_vals rfl (.tmp 36) (.tmp 44) _ rfl w.heap.size 5 1 (by omega) Try.underlying22 HInfo.out u6 m ([seq, n] ++ sampsT (ys.take j)) rfl (by exact hOa) _ 3 3 [0, lo, hi] rfl (by exact hVn) (by exact hjm) (by exact hBa.size) ?_; intro v1 W1 hO1 hg1 hat1; have hK1 := Kept.of_grown hg1; have hB1 := below_kept hBa hK1 hBa.size (own_in hOa))
          go_roundw
          case rel => exact ⟨j + 1, m + 3, by omega, by go_num, by have := HM.out; omega, by rw [HST.out, ← List.append_assoc]; exact hO1, hB1⟩
          case measure => simp [intOf]; omega
        · skip
          have hOa := own_kept hO ((Kept.refl [] wr).alloc (.cells #[.int .u8 1, .int .u8 lo, .int .u8 hi] 5)) (by simp)
          have hBa := hB.alloc hB.size (.cells #[.int .u8 1, .int .u8 lo, .int .u8 hi] 5)
          have hVn : Vals (wr.alloc (.cells #[.int .u8 1, .int .u8 lo, .int .u8 hi] 5)) (some ⟨wr.heap.size, 0, none⟩) 3 [1, lo, hi] := Vals.has (ys := [1, lo, hi]) (tl := []) (Has.new wr _ _)
          have hjm : m + 3 ≤ 1048576 := by omega
          go_wp2_with (at_builtin; refine wpList_append_vals rfl (.tmp 36) (.tmp 44) _ rfl w.heap.size 5 1 (by omega) Try.underlying22 HInfo.out u6 m ([seq, n] ++ sampsT (ys.take j)) rfl (by exact hOa) _ 3 3 [1, lo, hi] rfl (by exact hVn) (by exact hjm) (by exact hBa.size) ?_; intro v1 W1 hO1 hg1 hat1; have hK1 := Kept.of_grown hg1; have hB1 := below_kept hBa hK1 hBa.size (own_in hOa))
          go_roundw
          case rel => exact ⟨j + 1, m + 3, by omega, by go_num, by have := HM.out; omega, by rw [HST.out, ← List.append_assoc]; exact hO1, hB1⟩
          case measure => simp [intOf]; omega
      · have hjn2 : j = n := by omega
        subst hjn2
        have hbody : [seq, j] ++ sampsT (ys.take j) = bodyT seq ys := by rw [List.take_of_length_le (by omega)]; unfold bodyT; rw [hlen]; rfl
        rw [hbody] at hO
        obtain ⟨A9, c9, rfl, e1, e2, hV9, _⟩ := Vals.own hO
        have hbb := bodyT_bytes (seq := seq) (l := ys) hq (by omega)
        have hfin := Lib.hid (show [165, 90] ++ Crc.sealZ (bodyT seq ys) = frameT seq ys from rfl)
        have hfl := frameT_length seq ys
        have hseal := Crc.refseal_any A9 m c9 (bodyT seq ys) (wr.alloc (.cells #[.int .u8 165, .int .u8 90] 5)) (hV9.alloc _) hbb (by omega)
        have hHx := Has.new wr 5 #[.int .u8 165, .int .u8 90]
        have hBa := hB.alloc hB.size (.cells #[.int .u8 165, .int .u8 90] 5)
        have hsz : (wr.alloc (.cells #[.int .u8 165, .int .u8 90] 5)).heap.size = wr.heap.size + 1 := by simp
        have hml : 2 + (m + 2) = (frameT seq ys).length := by rw [hfl, hlen]; have := HM.out; omega
        unfold Crc.Sealed at hseal
        generalize Crc.sealZ (bodyT seq ys) = Z at *
        clear hbody hbb hfl hO hv
        go_wp2_with (first
          | (go_at_call 27; ((with_reducible refine hseal.mono ?_); rintro e W2 ⟨v2, rfl, hO2, hB2⟩; have hBb := hBa.trans (hB2.mono hBa.size); have hHy := hHx.below hB2 (by rw [hsz]; omega); obtain ⟨A8, c8, rfl, e3, e4, hV8, _⟩ := Vals.own hO2; have hO165 : World.ownsRow W2 w.heap.size 5 1 (.slice (some ⟨wr.heap.size, 0, none⟩) 2 2) 2 (vals [165, 90]) := ⟨rfl, .inr ⟨_, 2, _, rfl, hB.size, hHy, Nat.le_refl _, by unfold maxLen; omega, rfl, rfl⟩⟩))
          | (at_builtin; refine wpList_append_vals rfl (.tmp 46) (.tmp 48) _ rfl w.heap.size 5 1 (by omega) Try.underlying22 HInfo.out (.slice (some ⟨wr.heap.size, 0, none⟩) 2 2) 2 [165, 90] rfl (by exact hO165) A8 (m + 2) c8 Z rfl (by exact hV8) (by omega) (by exact hBb.size) ?_; intro v3 W3 hO3 hg3 hat3; have hK3 := Kept.of_grown hg3; have hB3 := below_kept hBb hK3 hBb.size (own_in hO165); rw [hfin.out, hml] at hO3; obtain ⟨A7, c7, rfl, e5, e6, hV7, _⟩ := Vals.own hO3))
        go_ret2
        exact ⟨_, A7, c7, by rw [H1.out], by rw [H2.out]; rfl, by rw [H1.out]; exact e5, e6, by rw [H1.out]; exact hO3, hB3⟩
end Go.Proofs.Ytlhjligeigkbnaa.Frm
