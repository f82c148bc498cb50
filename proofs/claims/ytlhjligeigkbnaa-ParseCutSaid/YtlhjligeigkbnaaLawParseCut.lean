/- Whatever bytes and cut come in, ParseCut answers true, and writes nothing that was there. -/
import Derived.Test.YtlhjligeigkbnaaRows
import Derived.ShutString
import Derived.ChangeOld
import Derived.Below
import Derived.Test.YtlhjligeigkbnaaLawKit
import Derived.Test.YtlhjligeigkbnaaParseLive
set_option linter.unusedSimpArgs false
set_option linter.unusedVariables false
namespace Go.Proofs.Ytlhjligeigkbnaa.parseCut
open Go.ChangeShapes Go.WideShapes Go.ChangeAt Go.RowKit
open Go.ChangeMaps (open_string shut_string)
open Par Frm RU8
theorem same_yes (A : Option Addr) (n c : Nat) (xs : List Ev) (B : Option Addr) (m d : Nat) (w : World) (hv : Row.Vals evSh w A n xs) (hu : Row.Vals evSh w B m xs) (hn : n ≤ 100000) (hm : m ≤ 100000) :
    Calls Try.prog 15 #[.slice A n c, .slice B m d] w fun e w' => e = .returned (.bool true) ∧ ∃ z, w' = w.drewN z := by
  have := refsame_any A n c xs B m d xs w hv hu (by omega) (by omega)
  rwa [decide_eq_true rfl] at this
theorem take_front {W : World} {A1 A2 : Option Addr} {n1 n2 : Nat} {ms r : List Ev} (h1 : Row.Vals evSh W A1 n1 (ms ++ r)) (hn : n2 ≤ n1) (h2 : Row.Vals evSh W A2 n2 ms) : Row.Vals evSh W A1 n2 ms := by
  have := h1.take n2 hn
  have hl := h2.len_
  subst hl
  rwa [List.take_left' rfl] at this
set_option maxRecDepth 100000 in
set_option maxHeartbeats 2000000 in
theorem walk (a0 : Option Addr) (len0 cap0 : Nat) (z0 : List Int) (a1 : Int) (w : World) (w0 : IsRow .u8 w a0 len0 cap0 z0) (w1 : (Lit.int .u16 a1).wf = true) :
    Calls Try.prog 5 #[.slice a0 len0 cap0, .int .u16 a1] w fun e w' => e = .returned (.bool true) ∧ Below w.heap.size w w' := by
  have b1 := bounds_u16 w1
  obtain ⟨b, hV0, hb, hl0, hm0, _⟩ := row_vals w0
  have hlen := hV0.len_
  clear w0 w1
  rcases Nat.lt_or_ge 1500 len0 with hbig | hs0
  · have hlive := live_ok w
    clear hV0 hb hlen
    go_enter Try.func5, Try.ntmps5
    go_wp2_with (go_at_call 8; ((with_reducible refine hlive.mono ?_); rintro e w' ⟨rfl, hB⟩))
    go_ret
    exact ⟨rfl, hB⟩
  rcases Int.lt_or_le (len0 : Int) a1 with hcut | hcut
  · have hkl : len0 ≤ len0 := Nat.le_refl _
    obtain ⟨⟨r, hr⟩, t1, t2, t3, t4⟩ := events_cut b hb len0 (by omega)
    have hEb : endT b ≤ 1500 := by have := end_le 0 b hb; unfold endT; omega
    have hev1 := fun W hV => events_any a0 len0 cap0 b W hV hb (by omega) hl0 hm0
    have hev2 := fun W hV => events_any a0 len0 cap0 (b.take len0) W hV (bytes_take hb len0) (by omega) (by omega) hm0
    have hfr2 := fun W hV => frames_any a0 len0 cap0 b W hV hb (by omega) hl0 hm0
    have hfr3 := fun W hV => frames_any a0 len0 cap0 (b.take len0) W hV (bytes_take hb len0) (by omega) (by omega) hm0
    have hfr1 := fun A n c W hV hn hc hc2 => frames_any A n c (b.drop (endT (b.take len0))) W hV (bytes_drop hb _) hn hc hc2
    have hC : Below w.heap.size w w := Below.refl _ _
    unfold EventsIs at hev1 hev2
    unfold FramesIs at hfr1 hfr2 hfr3
    rw [t3] at hfr1
    rw [hr] at hev1
    have nlen : ∀ {W1 W2 : World} {B1 B2 : Option Addr} {m1 m2 : Nat}, Row.Vals evSh W1 B1 m1 (eventsT (b.take len0) ++ r) → Row.Vals evSh W2 B2 m2 (eventsT (b.take len0)) → m2 ≤ m1 := fun h1 h2 => by
      have e1 := h1.len_
      have e2 := h2.len_
      rw [List.length_append] at e1
      omega
    generalize eventsT (b.take len0) = ms at *
    generalize endT (b.take len0) = T at *
    generalize endT b = E at *
    obtain ⟨D, hD⟩ : ∃ D, E - T = D := ⟨_, rfl⟩
    rw [hD] at hfr1
    have hEQ : ((D : Int) == (E : Int) - (T : Int)) = true := by simp; omega
    have HD := Lib.hid hD
    have hTz : (T : Int) ≤ (E : Int) ∧ (T : Int) ≤ (len0 : Int) ∧ (T : Int) ≤ (len0 : Int) ∧ (T : Int) ≤ (cap0 : Int) := by omega
    have hTn : T ≤ len0 ∧ T ≤ cap0 := by omega
    have T4 := Lib.hid t4
    clear hr t3 hb t4 hD
    rcases a0 with _ | x
    · have hn0 : len0 = 0 := by
        rcases Nat.eq_zero_or_pos len0 with h | h
        · exact h
        · obtain ⟨x, hx, _⟩ := hV0.cells h; cases hx
      have hT0 : T = 0 := by omega
      subst hT0
      have hV0T : ∀ {W : World}, Vals W none len0 b → Vals W none len0 (b.drop 0) := fun h => h
      have hk0 : len0 = 0 := by omega
      subst hn0
      (try subst hk0)
      have hDE : E = D := by have := HD.out; omega
      subst hDE
      clear hTz hTn hEQ
      go_enter Try.func5, Try.ntmps5
      go_wp2_with (first
        | (go_at_call 13; ((with_reducible refine (hev1 _ hV0).mono ?_); rintro e w1 ⟨A1, n1, c1, rfl, h1a, h1b, h1n, hV1, h1f, hB⟩; replace hC := hC.trans (hB.mono hC.size); replace hV0 := hV0.below hB; clear hev1))
        | (go_at_call 13; ((with_reducible refine (hev2 _ (hV0.take 0 hkl)).mono ?_); rintro e w2 ⟨A2, n2, c2, rfl, h2a, h2b, h2n, hV2, h2f, hB⟩; replace hC := hC.trans (hB.mono hC.size); replace hV0 := hV0.below hB; replace hV1 := hV1.below hB; clear hev2; have hn12 := nlen hV1 hV2; have hn12z : (n2 : Int) ≤ (n1 : Int) ∧ (n2 : Int) ≤ (c1 : Int) := by omega))
        | (go_at_call 9; ((with_reducible refine (hfr1 _ _ _ _ (by exact hV0T hV0) (by omega) (by omega) (by omega)).mono ?_); rintro e w3 ⟨A3, n3, c3, qs3, rfl, h3a, h3b, h3n, hV3, hH3, h3f, hB⟩; replace hC := hC.trans (hB.mono hC.size); replace hV0 := hV0.below hB; replace hV1 := hV1.below hB; replace hV2 := hV2.below hB; have hn3 := Lib.hid (frames_len hV3 hH3).1; clear hV3 hH3 hfr1))
        | (go_at_call 9; ((with_reducible refine (hfr2 _ hV0).mono ?_); rintro e w4 ⟨A4, n4, c4, qs4, rfl, h4a, h4b, h4n, hV4, hH4, h4f, hB⟩; replace hC := hC.trans (hB.mono hC.size); replace hV0 := hV0.below hB; replace hV1 := hV1.below hB; replace hV2 := hV2.below hB; have hn4 := Lib.hid (frames_len hV4 hH4).1; clear hV4 hH4 hfr2))
        | (go_at_call 9; ((with_reducible refine (hfr3 _ (hV0.take 0 hkl)).mono ?_); rintro e w5 ⟨A5, n5, c5, qs5, rfl, h5a, h5b, h5n, hV5, hH5, h5f, hB⟩; replace hC := hC.trans (hB.mono hC.size); replace hV1 := hV1.below hB; replace hV2 := hV2.below hB; have hn5 := Lib.hid (frames_len hV5 hH5).1; have hsum : (n3 : Int) + (n5 : Int) = (n4 : Int) := (by have h3 := hn3.out; have h4 := hn4.out; have h5 := hn5.out; have h6 := T4.out; omega); have hsm := same_yes A2 n2 c2 ms A1 n2 c1 _ hV2 (take_front hV1 hn12 hV2) h2n h2n; clear hV5 hH5 hfr3 hV0))
        | (go_at_call 15; ((with_reducible refine hsm.mono ?_); rintro e w6 ⟨rfl, kd, rfl⟩; replace hC := below_drewN hC kd; clear hsm hV1 hV2))
        | (go_at_call 8; ((with_reducible refine (live_ok _).mono ?_); rintro e w7 ⟨rfl, hB⟩; replace hC := hC.trans (hB.mono hC.size))))
      go_ret
      exact ⟨rfl, hC⟩
    · by_cases hcT : cap0 = T
      · have hcTz : (cap0 : Int) - (T : Int) = 0 := by omega
        have hV0T : ∀ {W : World}, Vals W (some x) len0 b → Vals W (some x) (len0 - T) (b.drop T) := fun h => ⟨by rw [List.length_drop, hlen], fun h => absurd h (by omega)⟩
        have HCT := Lib.hid hcT
        clear hcT
        go_enter Try.func5, Try.ntmps5
        go_wp2_with (first
          | (go_at_call 13; ((with_reducible refine (hev1 _ hV0).mono ?_); rintro e w1 ⟨A1, n1, c1, rfl, h1a, h1b, h1n, hV1, h1f, hB⟩; replace hC := hC.trans (hB.mono hC.size); replace hV0 := hV0.below hB; clear hev1))
          | (go_at_call 13; ((with_reducible refine (hev2 _ (hV0.take len0 hkl)).mono ?_); rintro e w2 ⟨A2, n2, c2, rfl, h2a, h2b, h2n, hV2, h2f, hB⟩; replace hC := hC.trans (hB.mono hC.size); replace hV0 := hV0.below hB; replace hV1 := hV1.below hB; clear hev2; have hn12 := nlen hV1 hV2; have hn12z : (n2 : Int) ≤ (n1 : Int) ∧ (n2 : Int) ≤ (c1 : Int) := by omega))
          | (go_at_call 9; ((with_reducible refine (hfr1 _ _ _ _ (by exact hV0T hV0) (by omega) (by omega) (by omega)).mono ?_); rintro e w3 ⟨A3, n3, c3, qs3, rfl, h3a, h3b, h3n, hV3, hH3, h3f, hB⟩; replace hC := hC.trans (hB.mono hC.size); replace hV0 := hV0.below hB; replace hV1 := hV1.below hB; replace hV2 := hV2.below hB; have hn3 := Lib.hid (frames_len hV3 hH3).1; clear hV3 hH3 hfr1))
          | (go_at_call 9; ((with_reducible refine (hfr2 _ hV0).mono ?_); rintro e w4 ⟨A4, n4, c4, qs4, rfl, h4a, h4b, h4n, hV4, hH4, h4f, hB⟩; replace hC := hC.trans (hB.mono hC.size); replace hV0 := hV0.below hB; replace hV1 := hV1.below hB; replace hV2 := hV2.below hB; have hn4 := Lib.hid (frames_len hV4 hH4).1; clear hV4 hH4 hfr2))
          | (go_at_call 9; ((with_reducible refine (hfr3 _ (hV0.take len0 hkl)).mono ?_); rintro e w5 ⟨A5, n5, c5, qs5, rfl, h5a, h5b, h5n, hV5, hH5, h5f, hB⟩; replace hC := hC.trans (hB.mono hC.size); replace hV1 := hV1.below hB; replace hV2 := hV2.below hB; have hn5 := Lib.hid (frames_len hV5 hH5).1; have hsum : (n3 : Int) + (n5 : Int) = (n4 : Int) := (by have h3 := hn3.out; have h4 := hn4.out; have h5 := hn5.out; have h6 := T4.out; omega); have hsm := same_yes A2 n2 c2 ms A1 n2 c1 _ hV2 (take_front hV1 hn12 hV2) h2n h2n; clear hV5 hH5 hfr3 hV0))
          | (go_at_call 15; ((with_reducible refine hsm.mono ?_); rintro e w6 ⟨rfl, kd, rfl⟩; replace hC := below_drewN hC kd; clear hsm hV1 hV2))
          | (go_at_call 8; ((with_reducible refine (live_ok _).mono ?_); rintro e w7 ⟨rfl, hB⟩; replace hC := hC.trans (hB.mono hC.size))))
        go_ret
        exact ⟨rfl, hC⟩
      · have hcTz : ¬ (cap0 : Int) - (T : Int) = 0 := by omega
        have hV0T : ∀ {W : World}, Vals W (some x) len0 b → Vals W (some (x.add T)) (len0 - T) (b.drop T) := fun h => h.drop T (by omega)
        go_enter Try.func5, Try.ntmps5
        go_wp2_with (first
          | (go_at_call 13; ((with_reducible refine (hev1 _ hV0).mono ?_); rintro e w1 ⟨A1, n1, c1, rfl, h1a, h1b, h1n, hV1, h1f, hB⟩; replace hC := hC.trans (hB.mono hC.size); replace hV0 := hV0.below hB; clear hev1))
          | (go_at_call 13; ((with_reducible refine (hev2 _ (hV0.take len0 hkl)).mono ?_); rintro e w2 ⟨A2, n2, c2, rfl, h2a, h2b, h2n, hV2, h2f, hB⟩; replace hC := hC.trans (hB.mono hC.size); replace hV0 := hV0.below hB; replace hV1 := hV1.below hB; clear hev2; have hn12 := nlen hV1 hV2; have hn12z : (n2 : Int) ≤ (n1 : Int) ∧ (n2 : Int) ≤ (c1 : Int) := by omega))
          | (go_at_call 9; ((with_reducible refine (hfr1 _ _ _ _ (by exact hV0T hV0) (by omega) (by omega) (by omega)).mono ?_); rintro e w3 ⟨A3, n3, c3, qs3, rfl, h3a, h3b, h3n, hV3, hH3, h3f, hB⟩; replace hC := hC.trans (hB.mono hC.size); replace hV0 := hV0.below hB; replace hV1 := hV1.below hB; replace hV2 := hV2.below hB; have hn3 := Lib.hid (frames_len hV3 hH3).1; clear hV3 hH3 hfr1))
          | (go_at_call 9; ((with_reducible refine (hfr2 _ hV0).mono ?_); rintro e w4 ⟨A4, n4, c4, qs4, rfl, h4a, h4b, h4n, hV4, hH4, h4f, hB⟩; replace hC := hC.trans (hB.mono hC.size); replace hV0 := hV0.below hB; replace hV1 := hV1.below hB; replace hV2 := hV2.below hB; have hn4 := Lib.hid (frames_len hV4 hH4).1; clear hV4 hH4 hfr2))
          | (go_at_call 9; ((with_reducible refine (hfr3 _ (hV0.take len0 hkl)).mono ?_); rintro e w5 ⟨A5, n5, c5, qs5, rfl, h5a, h5b, h5n, hV5, hH5, h5f, hB⟩; replace hC := hC.trans (hB.mono hC.size); replace hV1 := hV1.below hB; replace hV2 := hV2.below hB; have hn5 := Lib.hid (frames_len hV5 hH5).1; have hsum : (n3 : Int) + (n5 : Int) = (n4 : Int) := (by have h3 := hn3.out; have h4 := hn4.out; have h5 := hn5.out; have h6 := T4.out; omega); have hsm := same_yes A2 n2 c2 ms A1 n2 c1 _ hV2 (take_front hV1 hn12 hV2) h2n h2n; clear hV5 hH5 hfr3 hV0))
          | (go_at_call 15; ((with_reducible refine hsm.mono ?_); rintro e w6 ⟨rfl, kd, rfl⟩; replace hC := below_drewN hC kd; clear hsm hV1 hV2))
          | (go_at_call 8; ((with_reducible refine (live_ok _).mono ?_); rintro e w7 ⟨rfl, hB⟩; replace hC := hC.trans (hB.mono hC.size))))
        go_ret
        exact ⟨rfl, hC⟩
  · obtain ⟨k, rfl⟩ : ∃ k : Nat, a1 = (k : Int) := ⟨a1.toNat, by omega⟩
    have hkl : k ≤ len0 := by omega
    obtain ⟨⟨r, hr⟩, t1, t2, t3, t4⟩ := events_cut b hb k (by omega)
    have hEb : endT b ≤ 1500 := by have := end_le 0 b hb; unfold endT; omega
    have hev1 := fun W hV => events_any a0 len0 cap0 b W hV hb (by omega) hl0 hm0
    have hev2 := fun W hV => events_any a0 k cap0 (b.take k) W hV (bytes_take hb k) (by omega) (by omega) hm0
    have hfr2 := fun W hV => frames_any a0 len0 cap0 b W hV hb (by omega) hl0 hm0
    have hfr3 := fun W hV => frames_any a0 k cap0 (b.take k) W hV (bytes_take hb k) (by omega) (by omega) hm0
    have hfr1 := fun A n c W hV hn hc hc2 => frames_any A n c (b.drop (endT (b.take k))) W hV (bytes_drop hb _) hn hc hc2
    have hC : Below w.heap.size w w := Below.refl _ _
    unfold EventsIs at hev1 hev2
    unfold FramesIs at hfr1 hfr2 hfr3
    rw [t3] at hfr1
    rw [hr] at hev1
    have nlen : ∀ {W1 W2 : World} {B1 B2 : Option Addr} {m1 m2 : Nat}, Row.Vals evSh W1 B1 m1 (eventsT (b.take k) ++ r) → Row.Vals evSh W2 B2 m2 (eventsT (b.take k)) → m2 ≤ m1 := fun h1 h2 => by
      have e1 := h1.len_
      have e2 := h2.len_
      rw [List.length_append] at e1
      omega
    generalize eventsT (b.take k) = ms at *
    generalize endT (b.take k) = T at *
    generalize endT b = E at *
    obtain ⟨D, hD⟩ : ∃ D, E - T = D := ⟨_, rfl⟩
    rw [hD] at hfr1
    have hEQ : ((D : Int) == (E : Int) - (T : Int)) = true := by simp; omega
    have HD := Lib.hid hD
    have hTz : (T : Int) ≤ (E : Int) ∧ (T : Int) ≤ (k : Int) ∧ (T : Int) ≤ (len0 : Int) ∧ (T : Int) ≤ (cap0 : Int) := by omega
    have hTn : T ≤ len0 ∧ T ≤ cap0 := by omega
    have T4 := Lib.hid t4
    clear hr t3 hb t4 hD
    rcases a0 with _ | x
    · have hn0 : len0 = 0 := by
        rcases Nat.eq_zero_or_pos len0 with h | h
        · exact h
        · obtain ⟨x, hx, _⟩ := hV0.cells h; cases hx
      have hT0 : T = 0 := by omega
      subst hT0
      have hV0T : ∀ {W : World}, Vals W none len0 b → Vals W none len0 (b.drop 0) := fun h => h
      have hk0 : k = 0 := by omega
      subst hn0
      (try subst hk0)
      have hDE : E = D := by have := HD.out; omega
      subst hDE
      clear hTz hTn hEQ
      go_enter Try.func5, Try.ntmps5
      go_wp2_with (first
        | (go_at_call 13; ((with_reducible refine (hev1 _ hV0).mono ?_); rintro e w1 ⟨A1, n1, c1, rfl, h1a, h1b, h1n, hV1, h1f, hB⟩; replace hC := hC.trans (hB.mono hC.size); replace hV0 := hV0.below hB; clear hev1))
        | (go_at_call 13; ((with_reducible refine (hev2 _ (hV0.take 0 hkl)).mono ?_); rintro e w2 ⟨A2, n2, c2, rfl, h2a, h2b, h2n, hV2, h2f, hB⟩; replace hC := hC.trans (hB.mono hC.size); replace hV0 := hV0.below hB; replace hV1 := hV1.below hB; clear hev2; have hn12 := nlen hV1 hV2; have hn12z : (n2 : Int) ≤ (n1 : Int) ∧ (n2 : Int) ≤ (c1 : Int) := by omega))
        | (go_at_call 9; ((with_reducible refine (hfr1 _ _ _ _ (by exact hV0T hV0) (by omega) (by omega) (by omega)).mono ?_); rintro e w3 ⟨A3, n3, c3, qs3, rfl, h3a, h3b, h3n, hV3, hH3, h3f, hB⟩; replace hC := hC.trans (hB.mono hC.size); replace hV0 := hV0.below hB; replace hV1 := hV1.below hB; replace hV2 := hV2.below hB; have hn3 := Lib.hid (frames_len hV3 hH3).1; clear hV3 hH3 hfr1))
        | (go_at_call 9; ((with_reducible refine (hfr2 _ hV0).mono ?_); rintro e w4 ⟨A4, n4, c4, qs4, rfl, h4a, h4b, h4n, hV4, hH4, h4f, hB⟩; replace hC := hC.trans (hB.mono hC.size); replace hV0 := hV0.below hB; replace hV1 := hV1.below hB; replace hV2 := hV2.below hB; have hn4 := Lib.hid (frames_len hV4 hH4).1; clear hV4 hH4 hfr2))
        | (go_at_call 9; ((with_reducible refine (hfr3 _ (hV0.take 0 hkl)).mono ?_); rintro e w5 ⟨A5, n5, c5, qs5, rfl, h5a, h5b, h5n, hV5, hH5, h5f, hB⟩; replace hC := hC.trans (hB.mono hC.size); replace hV1 := hV1.below hB; replace hV2 := hV2.below hB; have hn5 := Lib.hid (frames_len hV5 hH5).1; have hsum : (n3 : Int) + (n5 : Int) = (n4 : Int) := (by have h3 := hn3.out; have h4 := hn4.out; have h5 := hn5.out; have h6 := T4.out; omega); have hsm := same_yes A2 n2 c2 ms A1 n2 c1 _ hV2 (take_front hV1 hn12 hV2) h2n h2n; clear hV5 hH5 hfr3 hV0))
        | (go_at_call 15; ((with_reducible refine hsm.mono ?_); rintro e w6 ⟨rfl, kd, rfl⟩; replace hC := below_drewN hC kd; clear hsm hV1 hV2))
        | (go_at_call 8; ((with_reducible refine (live_ok _).mono ?_); rintro e w7 ⟨rfl, hB⟩; replace hC := hC.trans (hB.mono hC.size))))
      go_ret
      exact ⟨rfl, hC⟩
    · by_cases hcT : cap0 = T
      · have hcTz : (cap0 : Int) - (T : Int) = 0 := by omega
        have hV0T : ∀ {W : World}, Vals W (some x) len0 b → Vals W (some x) (len0 - T) (b.drop T) := fun h => ⟨by rw [List.length_drop, hlen], fun h => absurd h (by omega)⟩
        have HCT := Lib.hid hcT
        clear hcT
        go_enter Try.func5, Try.ntmps5
        go_wp2_with (first
          | (go_at_call 13; ((with_reducible refine (hev1 _ hV0).mono ?_); rintro e w1 ⟨A1, n1, c1, rfl, h1a, h1b, h1n, hV1, h1f, hB⟩; replace hC := hC.trans (hB.mono hC.size); replace hV0 := hV0.below hB; clear hev1))
          | (go_at_call 13; ((with_reducible refine (hev2 _ (hV0.take k hkl)).mono ?_); rintro e w2 ⟨A2, n2, c2, rfl, h2a, h2b, h2n, hV2, h2f, hB⟩; replace hC := hC.trans (hB.mono hC.size); replace hV0 := hV0.below hB; replace hV1 := hV1.below hB; clear hev2; have hn12 := nlen hV1 hV2; have hn12z : (n2 : Int) ≤ (n1 : Int) ∧ (n2 : Int) ≤ (c1 : Int) := by omega))
          | (go_at_call 9; ((with_reducible refine (hfr1 _ _ _ _ (by exact hV0T hV0) (by omega) (by omega) (by omega)).mono ?_); rintro e w3 ⟨A3, n3, c3, qs3, rfl, h3a, h3b, h3n, hV3, hH3, h3f, hB⟩; replace hC := hC.trans (hB.mono hC.size); replace hV0 := hV0.below hB; replace hV1 := hV1.below hB; replace hV2 := hV2.below hB; have hn3 := Lib.hid (frames_len hV3 hH3).1; clear hV3 hH3 hfr1))
          | (go_at_call 9; ((with_reducible refine (hfr2 _ hV0).mono ?_); rintro e w4 ⟨A4, n4, c4, qs4, rfl, h4a, h4b, h4n, hV4, hH4, h4f, hB⟩; replace hC := hC.trans (hB.mono hC.size); replace hV0 := hV0.below hB; replace hV1 := hV1.below hB; replace hV2 := hV2.below hB; have hn4 := Lib.hid (frames_len hV4 hH4).1; clear hV4 hH4 hfr2))
          | (go_at_call 9; ((with_reducible refine (hfr3 _ (hV0.take k hkl)).mono ?_); rintro e w5 ⟨A5, n5, c5, qs5, rfl, h5a, h5b, h5n, hV5, hH5, h5f, hB⟩; replace hC := hC.trans (hB.mono hC.size); replace hV1 := hV1.below hB; replace hV2 := hV2.below hB; have hn5 := Lib.hid (frames_len hV5 hH5).1; have hsum : (n3 : Int) + (n5 : Int) = (n4 : Int) := (by have h3 := hn3.out; have h4 := hn4.out; have h5 := hn5.out; have h6 := T4.out; omega); have hsm := same_yes A2 n2 c2 ms A1 n2 c1 _ hV2 (take_front hV1 hn12 hV2) h2n h2n; clear hV5 hH5 hfr3 hV0))
          | (go_at_call 15; ((with_reducible refine hsm.mono ?_); rintro e w6 ⟨rfl, kd, rfl⟩; replace hC := below_drewN hC kd; clear hsm hV1 hV2))
          | (go_at_call 8; ((with_reducible refine (live_ok _).mono ?_); rintro e w7 ⟨rfl, hB⟩; replace hC := hC.trans (hB.mono hC.size))))
        go_ret
        exact ⟨rfl, hC⟩
      · have hcTz : ¬ (cap0 : Int) - (T : Int) = 0 := by omega
        have hV0T : ∀ {W : World}, Vals W (some x) len0 b → Vals W (some (x.add T)) (len0 - T) (b.drop T) := fun h => h.drop T (by omega)
        go_enter Try.func5, Try.ntmps5
        go_wp2_with (first
          | (go_at_call 13; ((with_reducible refine (hev1 _ hV0).mono ?_); rintro e w1 ⟨A1, n1, c1, rfl, h1a, h1b, h1n, hV1, h1f, hB⟩; replace hC := hC.trans (hB.mono hC.size); replace hV0 := hV0.below hB; clear hev1))
          | (go_at_call 13; ((with_reducible refine (hev2 _ (hV0.take k hkl)).mono ?_); rintro e w2 ⟨A2, n2, c2, rfl, h2a, h2b, h2n, hV2, h2f, hB⟩; replace hC := hC.trans (hB.mono hC.size); replace hV0 := hV0.below hB; replace hV1 := hV1.below hB; clear hev2; have hn12 := nlen hV1 hV2; have hn12z : (n2 : Int) ≤ (n1 : Int) ∧ (n2 : Int) ≤ (c1 : Int) := by omega))
          | (go_at_call 9; ((with_reducible refine (hfr1 _ _ _ _ (by exact hV0T hV0) (by omega) (by omega) (by omega)).mono ?_); rintro e w3 ⟨A3, n3, c3, qs3, rfl, h3a, h3b, h3n, hV3, hH3, h3f, hB⟩; replace hC := hC.trans (hB.mono hC.size); replace hV0 := hV0.below hB; replace hV1 := hV1.below hB; replace hV2 := hV2.below hB; have hn3 := Lib.hid (frames_len hV3 hH3).1; clear hV3 hH3 hfr1))
          | (go_at_call 9; ((with_reducible refine (hfr2 _ hV0).mono ?_); rintro e w4 ⟨A4, n4, c4, qs4, rfl, h4a, h4b, h4n, hV4, hH4, h4f, hB⟩; replace hC := hC.trans (hB.mono hC.size); replace hV0 := hV0.below hB; replace hV1 := hV1.below hB; replace hV2 := hV2.below hB; have hn4 := Lib.hid (frames_len hV4 hH4).1; clear hV4 hH4 hfr2))
          | (go_at_call 9; ((with_reducible refine (hfr3 _ (hV0.take k hkl)).mono ?_); rintro e w5 ⟨A5, n5, c5, qs5, rfl, h5a, h5b, h5n, hV5, hH5, h5f, hB⟩; replace hC := hC.trans (hB.mono hC.size); replace hV1 := hV1.below hB; replace hV2 := hV2.below hB; have hn5 := Lib.hid (frames_len hV5 hH5).1; have hsum : (n3 : Int) + (n5 : Int) = (n4 : Int) := (by have h3 := hn3.out; have h4 := hn4.out; have h5 := hn5.out; have h6 := T4.out; omega); have hsm := same_yes A2 n2 c2 ms A1 n2 c1 _ hV2 (take_front hV1 hn12 hV2) h2n h2n; clear hV5 hH5 hfr3 hV0))
          | (go_at_call 15; ((with_reducible refine hsm.mono ?_); rintro e w6 ⟨rfl, kd, rfl⟩; replace hC := below_drewN hC kd; clear hsm hV1 hV2))
          | (go_at_call 8; ((with_reducible refine (live_ok _).mono ?_); rintro e w7 ⟨rfl, hB⟩; replace hC := hC.trans (hB.mono hC.size))))
        go_ret
        exact ⟨rfl, hC⟩

theorem own : ownKnob Try.prog.godebug = none := by kernel_rfl
theorem laidOut : laidOutB Try.prog = true := by kernel_rfl

/-! ### The row's step -/
set_option maxRecDepth 100000 in
theorem lifted (os : Os) (started : os.Started) (H : Type) (enc : TypeId × Value → H) :
    ReturnsInHanded {} Try.checked os 5 .any (Rows.parseCutSpec.pre6 enc Try.prog Try.f5 Rows.parseCutRow.domain false) (Rows.parseCutSpec.post enc Try.prog Try.f5 false true false false) := by
  refine returnsInHanded_of_change (C := Try.checked) own started (by kernel_rfl) Try.func5
    (ChangeSpec.witness6 (enc := enc) (C := Try.checked) false ⟨#[], #[.slice none 0 0, .int .u16 0], []⟩ 8 (by kernel_rfl) (by kernel_rfl) (by kernel_rfl) (by kernel_rfl)) ?_
  intro W base args ds gs before hval0 hW hcnd _
  have hval : ∀ (j : Nat) t v, Try.f5.params[j]? = some t → args[j]? = some v → Value.okWide Try.prog W .any base t v := hval0
  have hW' := hW
  obtain ⟨p, q, hA0, hV, rfl, hfz, hnd⟩ := hW
  have hA : DataW.TrodAll enc Try.prog W 0 (fun _ => true) true Try.f5.params.toList args.toList ds p := hA0
  rw [Try.params5] at hA hval
  obtain ⟨v0, vs0, d0, ds0, p0, q0, hargs, rfl, rfl, h0, r0⟩ := trodAll_cons hA
  obtain ⟨v1, vs1, d1, ds1, p1, q1, rfl, rfl, rfl, h1, r1⟩ := trodAll_cons r0
  obtain ⟨rfl, rfl, rfl⟩ := trodAll_nil r1
  obtain rfl : args = #[v0, v1] := by cases args; simp_all
  obtain ⟨rfl, rfl⟩ := trodVars_none hV
  obtain ⟨a0, len0, cap0, rfl⟩ := okWide_slice Try.underlying22 (hval 0 22 v0 rfl rfl)
  have k0 := h0
  have lt0 : ∀ x ∈ p0, x.block < W.heap.size := by obtain ⟨m, hm⟩ := k0; exact DataW.trod_lt m _ _ _ hm
  obtain ⟨z0, w0⟩ : ∃ zs, IsRow .u8 W a0 len0 cap0 zs := by
    obtain ⟨fuel, hf⟩ := h0
    rcases open_ints Try.underlying22 Try.underlying5 (by kernel_rfl) hf with ⟨hcs, _⟩ | ⟨x, l, c, zs, hcs, hx, hl, hm, hz, _, hcell, hwz⟩
    · simp [Value.cells] at hcs
      obtain ⟨rfl, rfl, rfl⟩ := hcs
      exact ⟨[], .inl ⟨rfl, rfl, rfl, rfl⟩⟩
    · simp [Value.cells] at hcs
      obtain ⟨rfl, rfl, rfl⟩ := hcs
      exact ⟨zs, isRow_some hl hm (by simpa using hz) hcell hwz⟩
  obtain ⟨a1, rfl, rfl, rfl, w1⟩ := open_int Try.underlying43 (hval 1 43 v1 rfl rfl) h1
  clear hA0 hval0
  refine (walk a0 len0 cap0 z0 a1 W w0 w1).mono fun e W' ⟨he, bel⟩ => ?_
  subst he
  exact ⟨_, rfl, _, _, _, [], _, [], hW', trodAll_mk1 (shut_bool Try.underlying4 _), (trodAll_cons_mk (Below.trod laidOut (by kernel_rfl) (of_decide_eq_true (by kernel_rfl)) k0 bel lt0) (trodAll_cons_mk (shut_int Try.underlying43 w1) trodAll_mk0)), rfl, bel.frame _, fun h => by cases h⟩

theorem over : Rows.parseCutRow.holds Try.pinned (OpenSpec.ofChange Rows.parseCutSpec) :=
  OpenClaim.holds_of_wide 5 Try.f5 rfl rfl rfl rfl rfl rfl rfl ⟨rfl, rfl, rfl, rfl, rfl⟩ rfl rfl rfl rfl rfl (by kernel_rfl) Try.func5 (by kernel_rfl)
    (of_decide_eq_true (by kernel_rfl)) (by unfold Func.isWrapper; first | (rw [if_pos (by decide +kernel)]; kernel_rfl) | (rw [if_neg (by decide +kernel)]; exact ⟨rfl, rfl⟩))
    (fun os started H enc _ => lifted os started H enc)

theorem proved : Rows.ParseCutSaid := over
#print axioms proved
end Go.Proofs.Ytlhjligeigkbnaa.parseCut
