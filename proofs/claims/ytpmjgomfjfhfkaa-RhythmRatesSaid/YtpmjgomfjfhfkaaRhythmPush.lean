/- The landed rhythm: Push, On, Off, All; what a rhythm that no call made answers; `kit`. -/
import Derived.Test.YtpmjgomfjfhfkaaRhythmTake
import Derived.Test.YtpmjgomfjfhfkaaRhythmTell
set_option linter.unusedSimpArgs false
set_option linter.unusedVariables false
namespace Go.Proofs.Ytpmjgomfjfhfkaa.Rhythm
open Go.RowKit
open Tally (Lim May mayT limV limC Tal)
theorem take_on (s : St) (m : Mk) : (takeT s m).on = s.on := by
  unfold takeT
  split
  · rfl
  split
  · rfl
  split
  · rfl
  split
  · rfl
  · rfl
theorem take_next (ms : List Mk) (k : Nat) (hk : k < ms.length) : ms.take (k + 1) = ms.take k ++ [ms.getD k noMk] := by
  rw [List.take_succ_eq_append_getElem hk, List.getD_eq_getElem?_getD, List.getElem?_eq_getElem hk]
  rfl
theorem step_yes (l : Lim) (s : St) (m : Mk) (h : counts s m = true) : stepT l s m = ⟨(takeT s m).dark, (takeT s m).t, (takeT s m).h, nowT l (takeT s m).dark (takeT s m).t (takeT s m).h m.at_⟩ ∧ saysT l s m = tellT m.at_ (takeT s m).on (nowT l (takeT s m).dark (takeT s m).t (takeT s m).h m.at_) := by
  unfold stepT saysT
  rw [if_pos h, if_pos h, take_on]
  exact ⟨rfl, rfl⟩
theorem step_no (l : Lim) (s : St) (m : Mk) (h : counts s m = false) : stepT l s m = s ∧ saysT l s m = [] := by
  unfold stepT saysT
  rw [h]
  exact ⟨rfl, rfl⟩
set_option maxHeartbeats 1000000 in
theorem push_k (w : World) (b t c : Nat) (Sc : List Nat) (l : Lim) (s : St) (A : Option Addr) (n cp : Nat) (ms : List Mk) (h : RhyIs w b t c Sc l s) (hr : s.t.rs.length ≤ 1000000) (hv : Row.Vals mkS w A n ms) (hn : n ≤ 100000) (hfar : 0 < n → ∀ x, A = some x → x.block ∉ b :: t :: Sc) :
    Calls Try.prog 15 #[.pointer (some ⟨b, 0, none⟩), .slice A n cp] w fun e w' => ∃ V, e = .returned V ∧ Mid w b t c Sc l w' (runT l s ms) V (toldT l s ms) := by
  have hlen := hv.len_
  have hlo : ∀ k ∈ b :: t :: Sc, k < w.heap.size := fun k hk => by
    have h1 := h.lt
    simp at hk
    rcases hk with rfl | rfl | hk
    · exact h1.1
    · exact h1.2.1
    · exact h1.2.2 k hk
  have hM0 : Mid w b t c Sc l w s (.slice none 0 0) [] := ⟨h, Row.own_none (S := cdS) _ _ _, Kept.refl _ w, hlo⟩
  clear h
  go_enter Try.func15, Try.ntmps15
  go_wp2
  go_loopw [5, 12] (fun v i wr => ∃ k : Nat, k ≤ n ∧ i = .int .i64 (k : Nat) ∧ Mid w b t c Sc l wr (runT l s (ms.take k)) v (toldT l s (ms.take k))) (fun _ i _ => n - (intOf i).toNat)
  case atStart => exact ⟨0, by omega, rfl, hM0⟩
  case round =>
    clear hM0
    obtain ⟨k, hk, rfl, hM⟩ := hrel
    by_cases hkn : k < n
    · obtain ⟨x, rfl, _⟩ := hv.cells (by omega)
      obtain ⟨c0, c1, c2, c3, c4, c5, c6⟩ := mk_cells (hv.kept hM.kept hfar) k hkn
      have hnx := take_next ms k (by omega)
      have hrs : (runT l s (ms.take k)).t.rs.length ≤ 3000000000 := by have := run_rs l (ms.take k) s; rw [List.length_take] at this; omega
      have hE : (toldT l s (ms.take k)).length ≤ 600000 := by have := told_len l (ms.take k) s; rw [List.length_take] at this; omega
      have HN := Lib.hid (show runT l s (ms.take (k + 1)) = stepT l (runT l s (ms.take k)) (ms.getD k noMk) ∧ toldT l s (ms.take (k + 1)) = toldT l s (ms.take k) ++ saysT l (runT l s (ms.take k)) (ms.getD k noMk) from by rw [hnx, run_snoc, told_snoc]; exact ⟨rfl, rfl⟩)
      clear hnx hv hfar hlen
      generalize ms.getD k noMk = m at *
      generalize runT l s (ms.take k) = sk at *
      generalize toldT l s (ms.take k) = E at *
      have htk := fun W hW => take_k b t c Sc l sk m W hW hrs
      have hM1 := hM.alloc (.cells (mkC m) 45)
      have hP1 := Has.new wr 45 (mkC m)
      have hpa : wr.heap.size ∉ b :: t :: Sc := fun hk => by have h1 := hlo _ hk; have h2 := hM.kept.size; omega
      have hkz : (k : Int) < (n : Int) := by omega
      have HR := Lib.hid hrs
      have HE := Lib.hid hE
      have HM := Lib.hid hM
      clear hrs hE hM
      unfold mkC at hM1 hP1
      unfold mkV at htk
      by_cases hc : counts sk m = true
      · rw [hc, if_pos rfl] at htk
        obtain ⟨es, et⟩ := step_yes l sk m hc
        have HS := Lib.hid (show stepT l sk m = _ ∧ saysT l sk m = _ from ⟨es, et⟩)
        clear es et hc
        go_wp2_with (first
          | (go_at_call 24; ((with_reducible refine (htk _ hM1.rhy).mono ?_); rintro e W2 ⟨rfl, hR2, hK2⟩; have hM2 := hM1.turn hR2 hK2; have hP2 := hK2.has hP1 hpa; have d1 := hP2.cell 1; have htl := tell_k w b t c Sc l (takeT sk m) m.at_ _ E W2 hM2 HE.out))
          | (go_at_call 25; ((with_reducible refine htl.mono ?_); rintro e W3 ⟨V3, rfl, hM3⟩)))
        go_roundw
        case rel => exact ⟨k + 1, by omega, by go_num, by rw [HN.out.1, HN.out.2, HS.out.1, HS.out.2]; exact hM3⟩
        case measure => simp [intOf]; omega
      · rw [Bool.not_eq_true] at hc
        rw [hc, if_neg (by decide)] at htk
        obtain ⟨es, et⟩ := step_no l sk m hc
        have HS := Lib.hid (show stepT l sk m = _ ∧ saysT l sk m = _ from ⟨es, et⟩)
        clear es et hc
        go_wp2_with (go_at_call 24; ((with_reducible refine (htk _ hM1.rhy).mono ?_); rintro e W2 ⟨rfl, hR2, hK2⟩; have hM2 := hM1.turn hR2 hK2))
        go_roundw
        case rel => exact ⟨k + 1, by omega, by go_num, by rw [HN.out.1, HN.out.2, HS.out.1, HS.out.2, List.append_nil]; exact hM2⟩
        case measure => simp [intOf]; omega
    · obtain rfl : k = n := by omega
      rw [List.take_of_length_le (by omega)] at hM
      clear hv hfar
      go_wp2
      go_ret
      exact ⟨_, rfl, hM⟩
theorem on_k (b t c : Nat) (Sc : List Nat) (l : Lim) (s : St) (k : Int) (w : World) (h : RhyIs w b t c Sc l s) : Calls Try.prog 17 #[.pointer (some ⟨b, 0, none⟩), .int .i64 k] w fun e w' => e = .returned (.bool (s.on.get k)) ∧ w = w' := by
  by_cases h0 : 0 ≤ k
  · by_cases h6 : k < 6
    · have hcs : k = 0 ∨ k = 1 ∨ k = 2 ∨ k = 3 ∨ k = 4 ∨ k = 5 := by omega
      clear h0 h6
      rcases hcs with rfl | rfl | rfl | rfl | rfl | rfl
      · skip
        have ck : w.cell? ⟨b, 3, none⟩ = some (.bool false) := h.head.cell 3
        show Calls Try.prog 17 #[.pointer (some ⟨b, 0, none⟩), .int .i64 0] w fun e w' => e = .returned (.bool (false)) ∧ w = w'
        clear h
        generalize (false) = q at *
        go_enter Try.func17, Try.ntmps17
        go_wp2
        go_ret
        exact ⟨rfl, rfl⟩
      · skip
        have ck : w.cell? ⟨b, 4, none⟩ = some (.bool s.on.o1) := h.head.cell 4
        show Calls Try.prog 17 #[.pointer (some ⟨b, 0, none⟩), .int .i64 1] w fun e w' => e = .returned (.bool (s.on.o1)) ∧ w = w'
        clear h
        generalize (s.on.o1) = q at *
        go_enter Try.func17, Try.ntmps17
        go_wp2
        go_ret
        exact ⟨rfl, rfl⟩
      · skip
        have ck : w.cell? ⟨b, 5, none⟩ = some (.bool s.on.o2) := h.head.cell 5
        show Calls Try.prog 17 #[.pointer (some ⟨b, 0, none⟩), .int .i64 2] w fun e w' => e = .returned (.bool (s.on.o2)) ∧ w = w'
        clear h
        generalize (s.on.o2) = q at *
        go_enter Try.func17, Try.ntmps17
        go_wp2
        go_ret
        exact ⟨rfl, rfl⟩
      · skip
        have ck : w.cell? ⟨b, 6, none⟩ = some (.bool s.on.o3) := h.head.cell 6
        show Calls Try.prog 17 #[.pointer (some ⟨b, 0, none⟩), .int .i64 3] w fun e w' => e = .returned (.bool (s.on.o3)) ∧ w = w'
        clear h
        generalize (s.on.o3) = q at *
        go_enter Try.func17, Try.ntmps17
        go_wp2
        go_ret
        exact ⟨rfl, rfl⟩
      · skip
        have ck : w.cell? ⟨b, 7, none⟩ = some (.bool s.on.o4) := h.head.cell 7
        show Calls Try.prog 17 #[.pointer (some ⟨b, 0, none⟩), .int .i64 4] w fun e w' => e = .returned (.bool (s.on.o4)) ∧ w = w'
        clear h
        generalize (s.on.o4) = q at *
        go_enter Try.func17, Try.ntmps17
        go_wp2
        go_ret
        exact ⟨rfl, rfl⟩
      · skip
        have ck : w.cell? ⟨b, 8, none⟩ = some (.bool s.on.o5) := h.head.cell 8
        show Calls Try.prog 17 #[.pointer (some ⟨b, 0, none⟩), .int .i64 5] w fun e w' => e = .returned (.bool (s.on.o5)) ∧ w = w'
        clear h
        generalize (s.on.o5) = q at *
        go_enter Try.func17, Try.ntmps17
        go_wp2
        go_ret
        exact ⟨rfl, rfl⟩
    · have hg : s.on.get k = false := by unfold On5.get; repeat (rw [if_neg (by omega)])
      rw [hg]
      go_enter Try.func17, Try.ntmps17
      go_wp2
      go_ret
      exact ⟨rfl, rfl⟩
  · have hg : s.on.get k = false := by unfold On5.get; repeat (rw [if_neg (by omega)])
    rw [hg]
    go_enter Try.func17, Try.ntmps17
    go_wp2
    go_ret
    exact ⟨rfl, rfl⟩
theorem off_k (b t c : Nat) (Sc : List Nat) (l : Lim) (s : St) (w : World) (h : RhyIs w b t c Sc l s) : Calls Try.prog 16 #[.pointer (some ⟨b, 0, none⟩)] w fun e w' => e = .returned (.bool s.dark) ∧ w = w' := by
  have c2 : w.cell? ⟨b, 2, none⟩ = some (.bool s.dark) := h.head.cell 2
  go_enter Try.func16, Try.ntmps16
  go_wp2
  go_ret
  exact ⟨rfl, rfl⟩
theorem no_push (w : World) (A : Option Addr) (n c : Nat) : Calls Try.prog 15 #[.pointer none, .slice A n c] w fun e w' => ∃ B d, e = .returned (.slice B 0 d) ∧ Below w.heap.size w w' := by
  go_enter Try.func15, Try.ntmps15
  go_wp2
  go_ret
  exact ⟨none, 0, rfl, Below.refl _ _⟩
theorem no_on (w : World) (k : Int) : Calls Try.prog 17 #[.pointer none, .int .i64 k] w fun e w' => e = .returned (.bool false) ∧ Below w.heap.size w w' := by
  go_enter Try.func17, Try.ntmps17
  go_wp2
  go_ret
  exact ⟨rfl, Below.refl _ _⟩
theorem no_off (w : World) : Calls Try.prog 16 #[.pointer none] w fun e w' => e = .returned (.bool false) ∧ Below w.heap.size w w' := by
  go_enter Try.func16, Try.ntmps16
  go_wp2
  go_ret
  exact ⟨rfl, Below.refl _ _⟩
theorem push_any (w : World) (b : Nat) (S : List Nat) (l : Lim) (s : St) (A : Option Addr) (n c : Nat) (ms : List Mk) (h : Rhy w b S l s) (hr : s.t.rs.length ≤ 1000000) (hv : Row.Vals mkS w A n ms) (hn : n ≤ 100000) (hfar : 0 < n → ∀ x, A = some x → x.block ∉ S) :
    Calls Try.prog 15 #[.pointer (some ⟨b, 0, none⟩), .slice A n c] w (PushIs Rhy w b S l s ms) := by
  obtain ⟨t, k, Sc, rfl, L⟩ := h
  refine (push_k w b t k Sc l s A n c ms L hr hv hn hfar).mono ?_
  rintro e w' ⟨V, rfl, hM⟩
  obtain ⟨B, d, rfl, g1, g2, hV, hf, _⟩ := Row.Vals.own hM.own
  exact ⟨B, d, rfl, g1, g2, hV, fun x hx => (hf x hx).1, ⟨t, k, Sc, rfl, hM.rhy⟩, hM.kept⟩
theorem all_no (w : World) (l : Lim) (A : Option Addr) (n c : Nat) (hm : mayT l = false) : Calls Try.prog 10 #[limV l, .slice A n c] w fun e w' => ∃ B d, e = .returned (.slice B 0 d) ∧ Below w.heap.size w w' := by
  have hnw := fun W => new_no W l hm
  have hB := (Below.refl w.heap.size w).alloc (Nat.le_refl _) (.cells (limC l) 23)
  have hH := Has.new w 23 (limC l)
  clear hm
  obtain ⟨l0, l1, l2, l3, l4, l5, l6, l7, l8⟩ := l
  unfold limV at hnw ⊢
  unfold limC at hB hH
  dsimp only at hnw hB hH ⊢
  go_enter Try.func10, Try.ntmps10
  go_wp2_with (first
    | (go_at_call 8; ((with_reducible refine (hnw _).mono ?_); rintro e w1 ⟨rfl, hB1⟩; have hB2 := hB.trans (hB1.mono hB.size)))
    | (go_at_call 15; ((with_reducible refine (no_push _ _ _ _).mono ?_); rintro e w2 ⟨B, d, rfl, hB3⟩; have hB4 := hB2.trans (hB3.mono hB2.size))))
  go_ret
  exact ⟨_, _, rfl, hB4⟩
theorem all_yes (w : World) (l : Lim) (A : Option Addr) (n c : Nat) (ms : List Mk) (hm : mayT l = true) (hv : Row.Vals mkS w A n ms) (hn : n ≤ 100000) :
    Calls Try.prog 10 #[limV l, .slice A n c] w fun e w' => ∃ B d, e = .returned (.slice B (toldT l noSt ms).length d) ∧ Row.Vals cdS w' B (toldT l noSt ms).length (toldT l noSt ms) ∧ (∀ x, B = some x → w.heap.size ≤ x.block) ∧ Below w.heap.size w w' := by
  have hnw := fun W => new_yes W l hm
  have hpu := fun W b S hR hV hf => push_any W b S l noSt A n c ms hR (by show 0 ≤ 1000000; omega) hV hn hf
  unfold PushIs at hpu
  have hlt : 0 < n → ∀ x, A = some x → x.block < w.heap.size := fun h0 x hx => by
    subst hx
    have h1 := (mk_cells hv 0 h0).1
    have h2 := World.block_lt_of_cell? _ _ h1
    rwa [block_add] at h2
  have hB := (Below.refl w.heap.size w).alloc (Nat.le_refl _) (.cells (limC l) 23)
  have hH := Has.new w 23 (limC l)
  clear hm
  have HP := Lib.hid hpu
  clear hpu
  generalize hl : l = ll at *
  obtain ⟨l0, l1, l2, l3, l4, l5, l6, l7, l8⟩ := l
  subst hl
  unfold limV at hnw ⊢
  unfold limC at hB hH
  dsimp only at hnw hB hH ⊢
  go_enter Try.func10, Try.ntmps10
  go_wp2_with (first
    | (go_at_call 8; ((with_reducible refine (hnw _).mono ?_); rintro e w1 ⟨b, S, rfl, hR, hf, hB1⟩; have hB2 := hB.trans (hB1.mono hB.size); have hpu := HP.out w1 b S hR (hv.below hB2) (fun h0 x hx hk => by have h7 := hlt h0 x hx; have h8 := hf _ hk; simp at h8; omega)))
    | (go_at_call 15; ((refine Calls.mono (by exact hpu) ?_); rintro e w2 ⟨B, d, rfl, g1, g2, hV, hfB, hR2, hK2⟩; have hB4 := below_kept hB2 hK2 hB2.size (fun k hk => by have h8 := hf k hk; simp at h8; omega))))
  go_ret
  exact ⟨_, _, rfl, hV, fun x hx => Nat.le_trans hB2.size (hfB x hx), hB4⟩
/-- What the landed rhythm answers. -/
theorem kit : RhyKit Rhy where
  lt := by
    rintro w b S l s ⟨t, c, Sc, rfl, L⟩
    have h1 := L.lt
    refine ⟨by simp, fun k hk => ?_⟩
    simp at hk
    rcases hk with rfl | rfl | hk
    · exact h1.1
    · exact h1.2.1
    · exact h1.2.2 k hk
  kept := by
    rintro w w' b S l s T ⟨t, c, Sc, rfl, L⟩ hK hd
    exact ⟨t, c, Sc, rfl, L.kept hK (hd _ (by simp)) (hd _ (by simp)) (fun k hk => hd _ (by simp [hk]))⟩
  new_no := new_no
  new_yes := new_yes
  push_any := push_any
  on_any := by
    rintro w b S l s k ⟨t, c, Sc, rfl, L⟩
    exact (on_k b t c Sc l s k w L).mono fun e w' ⟨h1, h2⟩ => ⟨h1, by rw [← h2]; exact Below.refl _ w⟩
  off_any := by
    rintro w b S l s ⟨t, c, Sc, rfl, L⟩
    exact (off_k b t c Sc l s w L).mono fun e w' ⟨h1, h2⟩ => ⟨h1, by rw [← h2]; exact Below.refl _ w⟩
  all_yes := all_yes
  all_no := all_no
  no_push := no_push
  no_on := no_on
  no_off := no_off
end Go.Proofs.Ytpmjgomfjfhfkaa.Rhythm
