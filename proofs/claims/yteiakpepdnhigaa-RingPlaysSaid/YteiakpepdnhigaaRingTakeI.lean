/- A ring of int: taking things out. -/
import Derived.Test.YteiakpepdnhigaaRingDropI
import Derived.Test.YteiakpepdnhigaaRingPutI
import Derived.Test.YteiakpepdnhigaaRingNewI
set_option linter.unusedSimpArgs false
set_option linter.unusedVariables false
namespace Go.Proofs.Yteiakpepdnhigaa.RInt
open Go.RowKit

theorem pop_no (b : Nat) (w : World) (h2 : w.cell? ⟨b, 2, none⟩ = some (.int .i64 0)) :
    Calls Try.prog 11 #[.pointer (some ⟨b, 0, none⟩)] w fun e w' => e = .returned (.tuple #[.int .i64 0, .bool false]) ∧ w = w' := by
  have hat := at_no b 0 0 w (.inr (by omega)) h2
  go_enter Try.func11, Try.ntmps11
  go_wp2_with (go_at_call 26; ((with_reducible refine hat.mono ?_); rintro e w' ⟨rfl, rfl⟩))
  go_ret2
  exact ⟨rfl, rfl⟩
theorem pop_yes (b g n q f : Nat) (cs xs : List Int) (w : World) (h : Ring w b g n q f cs xs) (hx : 0 < xs.length) :
    Calls Try.prog 11 #[.pointer (some ⟨b, 0, none⟩)] w fun e w' => e = .returned (.tuple #[.int .i64 (xs.getD 0 0), .bool true]) ∧ Became w b g n q ((f + 1) % n) (xs.drop 1) w' := by
  have hat := at_yes b g n q f cs xs 0 w h hx
  rw [show ((0 : Nat) : Int) = 0 from rfl] at hat
  obtain ⟨v, hv⟩ : ∃ v, xs.getD 0 0 = v := ⟨_, rfl⟩
  rw [hv] at hat ⊢
  clear hv
  have hdr : ∀ W, Ring W b g n q f cs xs → Calls Try.prog 27 #[.pointer (some ⟨b, 0, none⟩), .int .i64 1] W fun e w' => e = .returned (.tuple #[]) ∧ Became W b g n q ((f + 1) % n) (xs.drop 1) w' := fun W hW => drop_any b g n q f cs xs 1 W hW hx
  go_enter Try.func11, Try.ntmps11
  go_wp2_with (first
    | (go_at_call 26; ((with_reducible refine hat.mono ?_); rintro e w' ⟨rfl, kk, rfl⟩))
    | (go_at_call 27; ((with_reducible refine (hdr _ (by exact h.same rfl)).mono ?_); rintro e w' ⟨rfl, hB⟩)))
  go_ret2
  obtain ⟨cs', hR, hT⟩ := hB
  exact ⟨rfl, cs', hR, ((Turned.refl b g w).drewN kk).trans hT⟩

theorem clear_any (b g n q f : Nat) (cs xs : List Int) (w : World) (h : Ring w b g n q f cs xs) :
    Calls Try.prog 16 #[.pointer (some ⟨b, 0, none⟩)] w fun e w' => e = .returned (.tuple #[]) ∧ Became w b g n q ((f + xs.length) % n) [] w' := by
  obtain ⟨c0, c1, c2⟩ := h.core.cells
  have hdr := drop_any b g n q f cs xs xs.length w h (Nat.le_refl _)
  rw [List.drop_length] at hdr
  go_enter Try.func16, Try.ntmps16
  go_wp2_with (go_at_call 27; ((with_reducible refine hdr.mono ?_); rintro e w' ⟨rfl, hB⟩))
  go_end0
  exact ⟨rfl, hB⟩
theorem take_no (b c : Nat) (i : Int) (w : World) (h2 : w.cell? ⟨b, 2, none⟩ = some (.int .i64 c)) (hi : i < 1 ∨ c = 0) :
    Calls Try.prog 15 #[.pointer (some ⟨b, 0, none⟩), .int .i64 i] w fun e w' => e = .returned (.slice none 0 0) ∧ w = w' := by
  have hlen := len_any b c w h2
  rcases hi with hi | rfl
  · have h0 : i ≤ (c : Int) := by omega
    go_enter Try.func15, Try.ntmps15
    go_wp2_with (go_at_call 20; ((with_reducible refine hlen.mono ?_); rintro e w' ⟨rfl, rfl⟩))
    go_ret
    exact ⟨rfl, rfl⟩
  · by_cases h0 : i ≤ 0
    all_goals
      go_enter Try.func15, Try.ntmps15
      go_wp2_with (go_at_call 20; ((with_reducible refine hlen.mono ?_); rintro e w' ⟨rfl, rfl⟩))
      go_ret
      exact ⟨rfl, rfl⟩

def Taking (w : World) (b g n q f : Nat) (cs xs : List Int) (m : Nat) (i : Value) (wr : World) : Prop :=
  ∃ k, k ≤ m ∧ i = .int .i64 (k : Nat) ∧ Turned b g w wr ∧ Core wr b g n q f xs.length cs ∧ Has wr w.heap.size 3 ((xs.take k ++ List.replicate (m - k) 0).map fun v => Value.int .i64 v).toArray
def Took (w : World) (b g n q f : Nat) (xs : List Int) (m : Nat) (w' : World) : Prop :=
  Became w b g n q ((f + m) % n) (xs.drop m) w' ∧ Has w' w.heap.size 3 ((xs.take m).map fun v => Value.int .i64 v).toArray
set_option maxHeartbeats 1000000 in
theorem take_yes (b g n q f : Nat) (cs xs : List Int) (i : Int) (m : Nat) (w : World) (h : Ring w b g n q f cs xs) (hm : 1 ≤ m) (two : ((m : Int) = i ∧ m ≤ xs.length) ∨ ((xs.length : Int) < i ∧ m = xs.length)) :
    Calls Try.prog 15 #[.pointer (some ⟨b, 0, none⟩), .int .i64 i] w fun e w' => e = .returned (.slice (some ⟨w.heap.size, 0, none⟩) m m) ∧ Took w b g n q f xs m w' := by
  have hn := h.core.le
  have hq := h.core.cap
  have hr := h.core.room
  have hmx : m ≤ xs.length := by omega
  have hmk := fun W => make_run m (by omega) W
  have hT := (Turned.refl b g w).alloc (.cells (Array.replicate m (Value.int .i64 0)) 3)
  have hH : Has (w.alloc (.cells (Array.replicate m (Value.int .i64 0)) 3)) w.heap.size 3 ((xs.take 0 ++ List.replicate (m - 0) 0).map fun v => Value.int .i64 v).toArray := by
    have e9 : ((xs.take 0 ++ List.replicate (m - 0) 0).map fun v => Value.int .i64 v).toArray = Array.replicate m (Value.int .i64 0) := by
      rw [rep_cells, List.take_zero, List.nil_append, Nat.sub_zero]
    rw [e9]
    exact Has.new w _ _
  have hD := h.core.alloc (.cells (Array.replicate m (Value.int .i64 0)) 3)
  have hbl : b < w.heap.size := h.core.lt_.1
  have hgl : g < w.heap.size := h.core.lt_.2
  have hat := h.at_
  have hlen := len_any b xs.length w h.core.cells.2.2
  rcases two with ⟨rfl, hle⟩ | ⟨hle, hmc⟩
  all_goals
    try (rw [← hmc] at hlen hle; clear hmc)
    have HAT := Lib.hid hat
    clear hat
    go_enter Try.func15, Try.ntmps15
    go_wp2_with (go_at_call 20; ((with_reducible refine hlen.mono ?_); rintro e w' ⟨rfl, rfl⟩))
    generalize hwa : w.alloc (.cells (Array.replicate m (Value.int .i64 0)) 3) = wa at *
    clear hwa hmk
    generalize hob : w.heap.size = ob at *
    go_loopw [17] (fun i wr => Taking w b g n q f cs xs m i wr) (fun i _ => m - (intOf i).toNat)
    case atStart => exact ⟨0, by omega, rfl, hT, hD, by rw [hob]; exact hH⟩
    case round =>
      clear hT hH hD
      obtain ⟨k, hk, rfl, hTr, hC, hL⟩ := hrel
      rw [hob] at hL
      obtain ⟨c0, c1, c2⟩ := hC.cells
      have hf := hC.first
      by_cases hlt : k < m
      · have hj : (f + k) % n < n := Nat.mod_lt _ (by omega)
        have hcell := hC.slot_ _ hj
        rw [HAT.out k (by omega)] at hcell
        have hmine : wr.cell? ⟨ob, k, none⟩ = some (.int .i64 0) := by
          rw [hL.cell k, List.getElem?_toArray, List.getElem?_map, fill_at xs 0 m k hlt hmx]
          rfl
        have hmz := hL.frozen k
        have hs := fun W (hW : Core W b g n q f xs.length cs) => slot_any b g n q f _ cs k W hW (by omega)
        have hst := Lib.hid (fill_step xs 0 m k hlt hmx)
        generalize xs.getD k 0 = new at *
        generalize (f + k) % n = p at *
        go_wp2
        go_region_with (go_at_call 25; ((with_reducible refine (hs _ (by exact hC.same rfl)).mono ?_); rintro e W2 ⟨rfl, kk, rfl⟩))
        all_goals
          go_wp2
          go_roundw
          case rel =>
            refine ⟨k + 1, by omega, by go_num, (hTr.setCell (p := ⟨ob, k, none⟩) (.inr (.inr (by simp; omega))) (.int .i64 new)).like rfl rfl rfl rfl, (hC.far (p := ⟨ob, k, none⟩) (by simp; omega) (by simp; omega) (.int .i64 new)).same rfl, ?_⟩
            have h9 := hL.set_ k (.int .i64 new)
            rw [List.setIfInBounds_toArray, ← List.map_set, hst.out] at h9
            rw [hob]
            exact h9
          case measure => simp [intOf]; omega
      · have hk' : k = m := by omega
        subst hk'
        have hR : Ring wr b g n q f cs xs := ⟨hC, HAT.out⟩
        have hdr := drop_any b g n q f cs xs k wr hR hmx
        rw [Nat.sub_self, List.replicate_zero, List.append_nil] at hL
        have hbg : b ≠ ob ∧ g ≠ ob := by omega
        clear hR
        go_wp2_with (go_at_call 27; ((with_reducible refine hdr.mono ?_); rintro e w' ⟨rfl, hB⟩))
        go_ret
        obtain ⟨cs2, hR2, hT2⟩ := hB
        exact ⟨by rw [hob]; rfl, ⟨cs2, hR2, hTr.trans hT2⟩, by rw [hob]; exact hT2.has hL (by omega) (by omega)⟩
end Go.Proofs.Yteiakpepdnhigaa.RInt
