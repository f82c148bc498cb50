/- A ring of int64: putting things behind the others. -/
import Derived.Test.YtpmjgomfjfhfkaaRingJ
import Derived.Test.YtpmjgomfjfhfkaaValsJ
import Derived.Deep.RegionWith
set_option linter.unusedSimpArgs false
set_option linter.unusedVariables false
namespace Go.Proofs.Ytpmjgomfjfhfkaa.RI64
open Go.RowKit

def Putting (w : World) (b g n q f : Nat) (xs ys : List Int) (m : Nat) (i : Value) (wr : World) : Prop :=
  ∃ k, k ≤ m ∧ i = .int .i64 (k : Nat) ∧ Turned b g w wr ∧ ∃ cs, Core wr b g n q f xs.length cs ∧ ∀ i, i < xs.length + k → cs.getD ((f + i) % n) 0 = (xs ++ ys).getD i 0
set_option maxHeartbeats 1000000 in
theorem put_any (b g n q f : Nat) (cs xs : List Int) (a : Option Addr) (len cap : Nat) (ys : List Int) (w : World) (h : Ring w b g n q f cs xs) (hv : Vals w a len ys) (hl : len ≤ cap) (hcap : cap ≤ 9223372036854775807) (hfar : 0 < len → ∀ x, a = some x → x.block ≠ b ∧ x.block ≠ g) :
    Calls Try.prog 69 #[.pointer (some ⟨b, 0, none⟩), .slice a len cap] w fun e w' => e = .returned (.int .i64 (min len (n - xs.length) : Nat)) ∧ Became w b g n q f (xs ++ ys.take (n - xs.length)) w' := by
  have hn := h.core.le
  have hq := h.core.cap
  have hr := h.core.room
  have hT := Turned.refl b g w
  have hy := hv.len_
  obtain ⟨r, hrr⟩ : ∃ r, n - xs.length = r := ⟨_, rfl⟩
  have hroom := fun W (hW : Ring W b g n q f cs xs) => room_nat b g n q f cs xs r W hW hrr
  obtain ⟨m, hm⟩ : ∃ m, min len r = m := ⟨_, rfl⟩
  have HM := Lib.hid (show ((min len (n - xs.length) : Nat) : Int) = (m : Int) by omega)
  have HT := Lib.hid (show xs ++ ys.take (n - xs.length) = xs ++ ys.take m by
    rw [← hm, hrr]
    rcases Nat.le_total len r with h1 | h1
    · rw [Nat.min_eq_left h1, List.take_of_length_le (by omega), List.take_of_length_le (by omega)]
    · rw [Nat.min_eq_right h1])
  rw [HM.out]
  rw [HT.out]
  have hmy : m ≤ ys.length := by omega
  have hmr : xs.length + m ≤ n := by omega
  have HL := Lib.hid (show (xs ++ ys.take m).length = xs.length + m by rw [List.length_append, List.length_take]; omega)
  have two : (m < len ∧ m = r) ∨ (m ≤ r ∧ m = len) := by omega
  rcases two with ⟨hle, rfl⟩ | ⟨hle, rfl⟩
  all_goals
    have HR := Lib.hid hrr
    clear hm hrr hy
    go_enter Try.func69, Try.ntmps69
    go_wp2_with (go_at_call 72; refine (hroom _ (by exact h.same rfl)).mono ?_; rintro e W2 ⟨rfl, kk, rfl⟩)
    have hD := h.core.same (w' := w.drewN kk) rfl
    have hT2 := hT.drewN kk
    generalize hwk : w.drewN kk = w2 at *
    go_loopw [19] (fun i wr => Putting w b g n q f xs ys m i wr) (fun i _ => m - (intOf i).toNat)
    case atStart => exact ⟨0, by omega, rfl, hT2, cs, hD, fun i hi => by rw [h.at_ i (by omega), getD_left _ _ _ _ (by omega)]⟩
    case round =>
      clear hT2 hD hwk
      obtain ⟨k, hk, rfl, hTr, cs', hC, hat⟩ := hrel
      obtain ⟨c0, c1, c2⟩ := hC.cells
      obtain ⟨z1, z2⟩ := hC.froz
      have hf := hC.first
      by_cases hlt : k < m
      · have hj : (f + (xs.length + k)) % n < n := Nat.mod_lt _ (by omega)
        obtain ⟨x, rfl, hcx⟩ := (hv.turned hTr hfar).cells (by omega)
        have hthing := hcx k (by omega)
        have hcell := hC.slot_ _ hj
        have hfz := hC.slotz ((f + (xs.length + k)) % n)
        have hs := fun W (hW : Core W b g n q f xs.length cs') => slot_any b g n q f _ cs' (xs.length + k) W hW (by omega)
        rw [Int.natCast_add] at hs
        have hat' : ∀ i, i < xs.length + (k + 1) → (cs'.set ((f + (xs.length + k)) % n) (ys.getD k 0)).getD ((f + i) % n) 0 = (xs ++ ys).getD i 0 := fun i h1 => by
          rw [getD_set _ _ _ _ _ (by rw [hC.size]; exact hj)]
          by_cases he : i = xs.length + k
          · subst he
            rw [if_pos rfl, getD_right]
          · rw [if_neg (rot_ne (by omega) (by omega) (by omega))]
            exact hat i (by omega)
        have HAT := Lib.hid hat'
        clear hat hat' hcx
        generalize (f + (xs.length + k)) % n = p at *
        generalize cs'.getD p 0 = old at *
        generalize ys.getD k 0 = new at *
        have hwr : IntKind.i64.wrap ((xs.length : Int) + (k : Int)) = (xs.length : Int) + (k : Int) := IntWalk.i64_in _ (by omega)
        go_wp2
        go_region_with (go_at_call 70; ((with_reducible refine (hs _ (by exact hC.same rfl)).mono ?_); rintro e W2 ⟨rfl, kk, rfl⟩))
        clear hwr
        all_goals
          go_wp2
          go_roundw
          case rel => exact ⟨k + 1, by omega, by go_num, (hTr.setCell (p := ⟨g, p, none⟩) (.inr (.inl rfl)) (.int .i64 new)).like rfl rfl rfl rfl, _, (hC.put p hj new).same rfl, HAT.out⟩
          case measure => simp [intOf]; omega
      · have hk' : k = m := by omega
        subst hk'
        have hat' : ∀ i, i < (xs ++ ys.take k).length → cs'.getD ((f + i) % n) 0 = (xs ++ ys.take k).getD i 0 := fun i hi => by
          rw [HL.out] at hi
          rw [hat i hi, getD_take _ _ _ _ _ hi]
        have HAT := Lib.hid hat'
        clear hat hat'
        have hC2 : Core (wr.setCell ⟨b, 2, none⟩ (.int .i64 ((xs.length : Int) + (k : Int)))) b g n q f (xs ++ ys.take k).length cs' := by
          have h9 := hC.count_ (xs.length + k) (by omega)
          rw [Int.natCast_add] at h9
          rw [HL.out]
          exact h9
        have HC2 := Lib.hid hC2
        clear hC2
        go_wp2
        go_ret
        exact ⟨rfl, cs', ⟨HC2.out.same rfl, HAT.out⟩, (hTr.setCell (p := ⟨b, 2, none⟩) (.inl rfl) _).like rfl rfl rfl rfl⟩
end Go.Proofs.Ytpmjgomfjfhfkaa.RI64
