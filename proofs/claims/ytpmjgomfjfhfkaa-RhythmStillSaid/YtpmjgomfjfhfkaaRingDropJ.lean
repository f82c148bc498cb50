/- A ring of int64: letting the first things go. -/
import Derived.Test.YtpmjgomfjfhfkaaRingJ
import Derived.Deep.RegionWith
set_option linter.unusedSimpArgs false
set_option linter.unusedVariables false
namespace Go.Proofs.Ytpmjgomfjfhfkaa.RI64
open Go.RowKit

def Dropping (w : World) (b g n q f : Nat) (xs : List Int) (m : Nat) (i : Value) (wr : World) : Prop :=
  ∃ k, k ≤ m ∧ i = .int .i64 (k : Nat) ∧ Turned b g w wr ∧ ∃ cs, Core wr b g n q f xs.length cs ∧ ∀ i, k ≤ i → i < xs.length → cs.getD ((f + i) % n) 0 = xs.getD i 0
set_option maxHeartbeats 1000000 in
theorem drop_any (b g n q f : Nat) (cs xs : List Int) (m : Nat) (w : World) (h : Ring w b g n q f cs xs) (hm : m ≤ xs.length) :
    Calls Try.prog 65 #[.pointer (some ⟨b, 0, none⟩), .int .i64 m] w fun e w' => e = .returned (.tuple #[]) ∧ Became w b g n q ((f + m) % n) (xs.drop m) w' := by
  have hn := h.core.le
  have hq := h.core.cap
  have hr := h.core.room
  have hT := Turned.refl b g w
  go_enter Try.func65, Try.ntmps65
  go_wp2
  go_loopw [7] (fun i wr => Dropping w b g n q f xs m i wr) (fun i _ => m - (intOf i).toNat)
  case atStart => exact ⟨0, by omega, rfl, hT, cs, h.core, fun i _ hi => h.at_ i hi⟩
  case round =>
    clear h hT
    obtain ⟨k, hk, rfl, hT, cs', hC, hat⟩ := hrel
    obtain ⟨c0, c1, c2⟩ := hC.cells
    obtain ⟨z1, z2⟩ := hC.froz
    have hf := hC.first
    by_cases hlt : k < m
    · have hj : (f + k) % n < n := Nat.mod_lt _ (by omega)
      have hcell := hC.slot_ _ hj
      have hfz := hC.slotz ((f + k) % n)
      have hs := fun W (hW : Core W b g n q f xs.length cs') => slot_any b g n q f _ cs' k W hW (by omega)
      have hat' : ∀ i, k + 1 ≤ i → i < xs.length → (cs'.set ((f + k) % n) 0).getD ((f + i) % n) 0 = xs.getD i 0 := fun i h1 h2 => by
        rw [getD_set _ _ _ _ _ (by rw [hC.size]; exact hj), if_neg (rot_ne (by omega) (by omega) (by omega))]
        exact hat i (by omega) h2
      have HAT := Lib.hid hat'
      clear hat hat'
      generalize (f + k) % n = p at *
      generalize cs'.getD p 0 = old at *
      go_wp2
      go_region_with (go_at_call 70; refine (hs _ (by exact hC.same rfl)).mono ?_; rintro e W2 ⟨rfl, kk, rfl⟩)
      all_goals
        go_wp2
        go_roundw
        case rel => exact ⟨k + 1, by omega, by go_num, (hT.setCell (p := ⟨g, p, none⟩) (.inr (.inl rfl)) (.int .i64 0)).like rfl rfl rfl rfl, _, (hC.put p hj 0).same rfl, HAT.out⟩
        case measure => simp [intOf]; omega
    · have hk' : k = m := by omega
      subst hk'
      have hj : (f + k) % n < n := Nat.mod_lt _ (by omega)
      have hs := fun W (hW : Core W b g n q f xs.length cs') => slot_any b g n q f _ cs' k W hW (by omega)
      have hat' : ∀ i, i < (xs.drop k).length → cs'.getD (((f + k) % n + i) % n) 0 = (xs.drop k).getD i 0 := fun i hi => by
        rw [rot_add, getD_drop]
        rw [List.length_drop] at hi
        exact hat (k + i) (by omega) (by omega)
      have HL := Lib.hid (show (xs.drop k).length = xs.length - k from List.length_drop)
      have HAT := Lib.hid hat'
      clear hat hat'
      generalize hp : (f + k) % n = p at *
      generalize hys : xs.drop k = ys at *
      generalize hc : xs.length = c at *
      have HP := Lib.hid hp
      have HY := Lib.hid hys
      have HC := Lib.hid hc
      clear hp hys hc
      go_wp2_with (go_at_call 70; refine (hs _ (by exact hC.same rfl)).mono ?_; rintro e W2 ⟨rfl, kk, rfl⟩)
      go_end0
      refine ⟨rfl, cs', ?_, ?_⟩
      · rw [HP.out, HY.out]
        refine ⟨?_, HAT.out⟩
        have hC2 := ((hC.first_ p hj).count_ (c - k) (by omega))
        rw [HL.out, show ((c - k : Nat) : Int) = (c : Int) - (k : Int) by omega] at *
        exact hC2.same rfl
      · exact ((hT.setCell (p := ⟨b, 1, none⟩) (.inl rfl) _).setCell (p := ⟨b, 2, none⟩) (.inl rfl) _).like rfl rfl rfl rfl
end Go.Proofs.Ytpmjgomfjfhfkaa.RI64
