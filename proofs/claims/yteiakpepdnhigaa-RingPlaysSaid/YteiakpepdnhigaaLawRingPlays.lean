/- Whatever log and deeds come in, RingPlays answers true, and writes nothing that was there. -/
import Derived.Test.YteiakpepdnhigaaRows
import Derived.ShutString
import Derived.ChangeOld
import Derived.Below
import Derived.Test.YteiakpepdnhigaaLawKit
import Derived.Test.YteiakpepdnhigaaRingLive
import Derived.Test.YteiakpepdnhigaaRingSame
import Derived.Test.YteiakpepdnhigaaRingSame2
import Derived.Test.YteiakpepdnhigaaRingRefPut
import Derived.Test.YteiakpepdnhigaaRingCloneI
import Derived.Test.YteiakpepdnhigaaRingDeeds
set_option linter.unusedSimpArgs false
set_option linter.unusedVariables false
namespace Go.Proofs.Yteiakpepdnhigaa.ringPlays
open Go.ChangeShapes Go.WideShapes Go.ChangeAt Go.RowKit
open Go.ChangeMaps (open_string shut_string)
open RInt
/-- The ring (its pointer in p) and the document's list (in block X) are alike. -/
def Alike (w : World) (X nn : Nat) (p : Value) (wr : World) : Prop :=
  ∃ b g q f cs xs A c, p = .pointer (some ⟨b, 0, none⟩) ∧ Ring wr b g nn q f cs xs ∧ Has wr X 29 #[.slice A xs.length c, .int .i64 nn] ∧ Vals wr A xs.length xs ∧ xs.length ≤ c ∧ c ≤ 9223372036854775807 ∧
    (0 < xs.length → ∀ x, A = some x → x.block ≠ b ∧ x.block ≠ g ∧ x.block ≠ X) ∧ w.heap.size ≤ b ∧ w.heap.size ≤ g ∧ w.heap.size ≤ X ∧ X ≠ b ∧ X ≠ g ∧ Below w.heap.size w wr
theorem alike_below {w wr w' : World} {X nn : Nat} {p : Value} (h : Alike w X nn p wr) (hb : Below wr.heap.size wr w') : Alike w X nn p w' := by
  obtain ⟨b, g, q, f, cs, xs, A, c, rfl, hR, hH, hV, hc1, hc2, hfar, h1, h2, h3, h4, h5, hB⟩ := h
  exact ⟨b, g, q, f, cs, xs, A, c, rfl, hR.below hb hR.core.lt_.1 hR.core.lt_.2, hH.below hb hH.lt, hV.below hb, hc1, hc2, hfar, h1, h2, h3, h4, h5, hB.trans (hb.mono hB.size)⟩
theorem vals_far {w : World} {a : Option Addr} {len : Nat} {ys : List Int} (h : Vals w a len ys) {p : Addr} (hp : 0 < len → ∀ x, a = some x → x.block ≠ p.block) (u : Value) : Vals (w.setCell p u) a len ys :=
  ⟨h.len_, fun hl => by
    obtain ⟨x, hx, hc⟩ := h.cells hl
    exact ⟨x, hx, fun i hi => (World.cell?_of_block (w := w) (Below.heap_setCell w p u _ (by rw [block_add]; exact hp hl x hx))).trans (hc i hi)⟩⟩
theorem ring_far {w : World} {b g n q f : Nat} {cs xs : List Int} (h : Ring w b g n q f cs xs) {p : Addr} (h1 : b ≠ p.block) (h2 : g ≠ p.block) (u : Value) : Ring (w.setCell p u) b g n q f cs xs := ⟨h.core.far h1 h2 u, h.at_⟩
theorem vals_lt {w : World} {a : Option Addr} {len : Nat} {ys : List Int} (h : Vals w a len ys) (hl : 0 < len) : ∀ x, a = some x → x.block < w.heap.size := by
  intro x hx
  obtain ⟨y, hy, hc⟩ := h.cells hl
  rw [hx] at hy
  injection hy with hy
  subst hy
  have := World.block_lt_of_cell? _ _ (hc 0 hl)
  rwa [block_add] at this
/-- The reference's struct is stored anew: the ring and it are alike. -/
theorem alike_store {w W : World} {X nn b g q f l c : Nat} {cs zs : List Int} {A : Option Addr} {u v : Value} (hR : Ring W b g nn q f cs zs) (hH : Has W X 29 #[u, v]) (hV : Vals W A l zs) (hc : l ≤ c) (hc2 : c ≤ 9223372036854775807)
    (hfar : 0 < l → ∀ x, A = some x → x.block ≠ b ∧ x.block ≠ g ∧ x.block ≠ X) (h1 : w.heap.size ≤ b) (h2 : w.heap.size ≤ g) (h3 : w.heap.size ≤ X) (h4 : X ≠ b) (h5 : X ≠ g) (hB : Below w.heap.size w W) :
    Alike w X nn (.pointer (some ⟨b, 0, none⟩)) ((W.setCell ⟨X, 0, none⟩ (.slice A l c)).setCell ⟨X, 1, none⟩ (.int .i64 nn)) ∧
    Ring ((W.setCell ⟨X, 0, none⟩ (.slice A l c)).setCell ⟨X, 1, none⟩ (.int .i64 nn)) b g nn q f cs zs ∧ Vals ((W.setCell ⟨X, 0, none⟩ (.slice A l c)).setCell ⟨X, 1, none⟩ (.int .i64 nn)) A l zs := by
  have hR2 := ring_far (ring_far hR (p := ⟨X, 0, none⟩) (fun e => h4 e.symm) (fun e => h5 e.symm) (.slice A l c)) (p := ⟨X, 1, none⟩) (fun e => h4 e.symm) (fun e => h5 e.symm) (.int .i64 nn)
  have hV2 := vals_far (vals_far hV (p := ⟨X, 0, none⟩) (fun h x hx => (hfar h x hx).2.2) (.slice A l c)) (p := ⟨X, 1, none⟩) (fun h x hx => (hfar h x hx).2.2) (.int .i64 nn)
  have hl := hV.len_
  refine ⟨⟨b, g, q, f, cs, zs, A, c, rfl, hR2, by rw [hl]; exact hH.put2 _ _, by rw [hl]; exact hV2, by omega, hc2, fun h => hfar (by omega), h1, h2, h3, h4, h5, (hB.setCell (p := ⟨X, 0, none⟩) h3 _).setCell (p := ⟨X, 1, none⟩) h3 _⟩, hR2, hV2⟩
theorem alike_mk {w W : World} {X nn b g q f l c : Nat} {cs zs : List Int} {A : Option Addr} (hR : Ring W b g nn q f cs zs) (hH : Has W X 29 #[.slice A l c, .int .i64 nn]) (hV : Vals W A l zs) (hc : l ≤ c) (hc2 : c ≤ 9223372036854775807)
    (hfar : 0 < l → ∀ x, A = some x → x.block ≠ b ∧ x.block ≠ g ∧ x.block ≠ X) (h1 : w.heap.size ≤ b) (h2 : w.heap.size ≤ g) (h3 : w.heap.size ≤ X) (h4 : X ≠ b) (h5 : X ≠ g) (hB : Below w.heap.size w W) :
    Alike w X nn (.pointer (some ⟨b, 0, none⟩)) W := by
  have hl := hV.len_
  exact ⟨b, g, q, f, cs, zs, A, c, rfl, hR, by rw [hl]; exact hH, by rw [hl]; exact hV, by omega, hc2, fun h => hfar (by omega), h1, h2, h3, h4, h5, hB⟩
theorem put_three (b g n q f : Nat) (cs xs : List Int) (w : World) (h : Ring w b g n q f cs xs) :
    Calls Try.prog 10 #[.pointer (some ⟨b, 0, none⟩), .slice (some ⟨w.heap.size, 0, none⟩) 3 3] (w.alloc (.cells #[.int .i64 1, .int .i64 2, .int .i64 3] 3)) fun e w' => (∃ k : Nat, e = .returned (.int .i64 k)) ∧ Turned b g w w' := by
  have hl := h.core.lt_
  have hp := put_any b g n q f cs xs (some ⟨w.heap.size, 0, none⟩) 3 3 [1, 2, 3] _ (h.alloc (.cells #[.int .i64 1, .int .i64 2, .int .i64 3] 3)) (Vals.has (ys := [1, 2, 3]) (tl := []) (Has.new w _ _)) (by omega) (by omega) (fun _ x hx => by cases hx; simp; omega)
  exact hp.mono fun e w' ⟨he, cs', hR, hT⟩ => ⟨⟨_, he⟩, ((Turned.refl b g w).alloc _).trans hT⟩
def Playing (w : World) (X nn m : Nat) (p i : Value) (wr : World) : Prop := ∃ j, j ≤ m ∧ i = .int .i64 (j : Nat) ∧ Alike w X nn p wr
theorem no_walk (a0 : Int) (a1 : Option Addr) (len1 cap1 : Nat) (w : World) (h : a0 < 0 ∨ 16 < a0) :
    Calls Try.prog 3 #[.int .i64 a0, .slice a1 len1 cap1] w fun e w' => e = .returned (.bool true) ∧ Below w.heap.size w w' := by
  have hnew := new_no a0 w h
  have href := refnew_no a0 w h
  clear h
  go_enter Try.func3, Try.ntmps3
  go_wp2_with (first
    | (go_at_call 6; ((with_reducible refine hnew.mono ?_); rintro e W1 ⟨rfl, rfl⟩))
    | (go_at_call 7; ((with_reducible refine href.mono ?_); rintro e W2 ⟨rfl, hB⟩))
    | (go_at_call 8; ((with_reducible refine (live_ok _).mono ?_); rintro e W9 ⟨rfl, hN⟩)))
  go_ret
  exact ⟨rfl, (hB.alloc hB.size _).trans (hN.mono (by have := hB.size; simp; omega))⟩
set_option maxRecDepth 100000 in
set_option maxHeartbeats 16000000 in
theorem walk (a0 : Int) (a1 : Option Addr) (len1 cap1 : Nat) (w : World) (w0 : (Lit.int .i64 a0).wf = true) (w1 : IsDeeds w a1 len1 cap1) :
    Calls Try.prog 3 #[.int .i64 a0, .slice a1 len1 cap1] w fun e w' => e = .returned (.bool true) ∧ Below w.heap.size w w' := by
  by_cases hr : a0 < 0 ∨ 16 < a0
  · exact no_walk a0 a1 len1 cap1 w hr
  obtain ⟨k, rfl⟩ : ∃ k : Nat, a0 = (k : Int) := ⟨a0.toNat, by omega⟩
  have hk : k ≤ 16 := by omega
  clear hr w0
  have hnn : (2 : Nat) ^ k ≤ 65536 := (Nat.pow_le_pow_right (by omega) hk : 2 ^ k ≤ 2 ^ 16)
  have hnew := new_yes k hk w
  have href := fun W => refnew_yes k _ W hk rfl
  generalize (2 : Nat) ^ k = nn at hnew href hnn
  have hl1 : len1 ≤ cap1 ∧ cap1 ≤ 9223372036854775807 := by
    rcases w1 with ⟨_, rfl, rfl⟩ | ⟨x, _, h1, h2, _⟩
    · omega
    · unfold maxLen at h2; omega
  obtain ⟨m, hm⟩ : ∃ m, min len1 60 = m := ⟨_, rfl⟩
  have hm1 : m ≤ len1 := by omega
  have hm2 : m ≤ 60 := by omega
  have hminA : (if (60 : Int) < (len1 : Int) then (60 : Int) else (len1 : Int)) = (m : Int) := by split <;> omega
  have HM := Lib.hid hm
  clear hm
  obtain ⟨b0, g0, hbg⟩ : ∃ b g, b = w.heap.size + 1 ∧ g = w.heap.size := ⟨_, _, rfl, rfl⟩
  have hnew2 : Calls Try.prog 6 #[.int .i64 (k : Int)] w fun e w' => e = .returned (.tuple #[.pointer (some ⟨b0, 0, none⟩), .int .i64 0]) ∧ Ring w' b0 g0 nn nn 0 (List.replicate nn 0) [] ∧ Below w.heap.size w w' := by
    rw [hbg.1, hbg.2]
    exact hnew.mono fun e w' ⟨h1, h2, h3, h4⟩ => ⟨h1, h2, h3⟩
  have hbs : w.heap.size ≤ b0 ∧ w.heap.size ≤ g0 := by omega
  clear hnew hbg
  generalize List.replicate nn (0 : Int) = cs0 at hnew2
  go_enter Try.func3, Try.ntmps3
  go_wp2_with (first
    | (go_at_call 6; ((with_reducible refine hnew2.mono ?_); rintro e W1 ⟨rfl, hR1, hB1⟩))
    | (go_at_call 7; ((with_reducible refine (href _).mono ?_); rintro e W2 ⟨rfl, hB2⟩)))
  have hR2 := (hR1.below hB2 hR1.core.lt_.1 hR1.core.lt_.2).alloc (.cells #[.slice none 0 0, .int .i64 nn] 29)
  have hH2 := Has.new W2 29 #[.slice none 0 0, .int .i64 nn]
  have hs2 := hB2.size
  have hs1 := hB1.size
  have hl2 := hR1.core.lt_
  have hB3 := (hB1.trans (hB2.mono hs1)).alloc (by omega) (.cells #[.slice none 0 0, .int .i64 nn] 29)
  generalize hW3 : W2.alloc (.cells #[.slice none 0 0, .int .i64 nn] 29) = W3 at *
  generalize hX : W2.heap.size = X at *
  clear hminA hW3
  have HX := Lib.hid hX
  clear hX
  go_loopw [5, 46] (fun p i wr => Playing w X nn m p i wr) (fun _ i _ => m - (intOf i).toNat)
  case atStart => exact ⟨0, by omega, rfl, b0, g0, nn, 0, cs0, [], none, 0, rfl, hR2, hH2, Vals.none_ _, by simp, by omega, (fun h => absurd h (by simp)), hbs.1, hbs.2, by omega, by omega, by omega, hB3⟩
  case round =>
    clear hR1 hB1 hR2 hH2 hs2 hs1 hl2 hB3 hB2 hnew2 href hbs
    obtain ⟨j, hj, rfl, b, g, q, f, cs, xs, A, c, rfl, hR, hH, hV, hc1, hc2, hfar, hb, hg, hX, hXb, hXg, hB⟩ := hrel
    by_cases hlt : j < m
    · rcases w1 with ⟨_, h0, _⟩ | ⟨x1, rfl, _, _, hrow⟩
      · omega
      obtain ⟨D, L, Ln, Lc, Z, N, d0, d1, d2, wD, wL, wN⟩ := hrow j (by omega)
      have e0 := (hB.cell (World.block_lt_of_cell? _ _ d0)).trans d0
      have e1 := (hB.cell (World.block_lt_of_cell? _ _ d1)).trans d1
      have e2 := (hB.cell (World.block_lt_of_cell? _ _ d2)).trans d2
      rw [← add_of_add] at e1 e2
      replace e1 : wr.cell? ⟨(x1.add (j * 3)).block, (x1.add (j * 3)).off + 1, none⟩ = _ := e1
      replace e2 : wr.cell? ⟨(x1.add (j * 3)).block, (x1.add (j * 3)).off + 2, none⟩ = _ := e2
      clear hrow d0 d1 d2
      obtain ⟨o0, o1, of0, of1⟩ := hH.two
      have hXl := hH.lt
      have hbl := hR.core.lt_.1
      have hgl := hR.core.lt_.2
      have hAl : Alike w X nn (.pointer (some ⟨b, 0, none⟩)) wr := ⟨b, g, q, f, cs, xs, A, c, rfl, hR, hH, hV, hc1, hc2, hfar, hb, hg, hX, hXb, hXg, hB⟩
      have hBd := (Below.refl wr.heap.size wr).alloc (Nat.le_refl _) (.cells #[.int .i64 D, .slice L Ln Lc, .int .i64 N] 34)
      have hxl : xs.length ≤ 9223372036854775807 := by omega
      by_cases D0 : D = 0
      · subst D0
        have hBw := hB.trans (hBd.mono hB.size)
        have hroom := hR.core.room
        obtain ⟨m2, hm2⟩ : ∃ m2, min Ln 20 = m2 := ⟨_, rfl⟩
        have hm2L : m2 ≤ Ln := by omega
        have hm20 : m2 ≤ 20 := by omega
        have hminL : (if (20 : Int) < (Ln : Int) then (20 : Int) else (Ln : Int)) = (m2 : Int) := by split <;> omega
        obtain ⟨hVl, hlc, hlc2, hllt⟩ := row_vals wL m2 hm2L
        generalize Z.take m2 = ys at *
        obtain ⟨p, hp⟩ : ∃ p, min m2 (nn - xs.length) = p := ⟨_, rfl⟩
        have hfarL : 0 < m2 → ∀ x, L = some x → x.block ≠ b ∧ x.block ≠ g := fun h0 x hx => by have := hllt x h0 hx; omega
        have hrput : ∀ W, Vals W A xs.length xs → Vals W L m2 ys → Calls Try.prog 9 #[.agg #[.slice A xs.length c, .int .i64 nn], .slice L m2 Lc] W (RefPut W A xs.length nn xs ys p) := fun W hW hW2 => refput_any A xs.length c nn xs L m2 Lc ys W hW hroom hnn hc1 hc2 hW2 (by omega) (by omega) p hp
        have hput : ∀ W, Ring W b g nn q f cs xs → Vals W L m2 ys → Calls Try.prog 10 #[.pointer (some ⟨b, 0, none⟩), .slice L m2 Lc] W fun e w' => e = .returned (.int .i64 p) ∧ ∃ cs', Ring w' b g nn q f cs' (xs ++ ys.take p) ∧ Turned b g W w' := fun W hW hW2 => by
          have hq := put_any b g nn q f cs xs L m2 Lc ys W hW hW2 (by omega) (by omega) hfarL
          have hyl := hW2.len_
          rw [hp, show xs ++ ys.take (nn - xs.length) = xs ++ ys.take p by
            rcases Nat.le_total m2 (nn - xs.length) with h1 | h1
            · rw [List.take_of_length_le (by omega), List.take_of_length_le (by omega)]
            · rw [show p = nn - xs.length by omega]] at hq
          exact hq
        have hVlw := hVl.below (hBw)
        have hm2C : m2 ≤ Lc := by omega
        generalize hn : xs.length = n at *
        have HN := Lib.hid hn
        have HP := Lib.hid hp
        have HM2 := Lib.hid hm2
        clear hn hp hm2
        have hsd := hBd.size
        go_wp2_with (first
          | (go_at_call 9; ((with_reducible refine (hrput _ (by exact hV.below hBd) (by exact hVlw)).mono ?_); rintro e W7 ⟨A7, c7, rfl, hV7, h71, h72, h73, hN7⟩; have hH7 := (hH.below hBd hXl).below hN7 (Nat.lt_of_lt_of_le hXl hBd.size); have hR7 := (hR.below hBd hbl hgl).below hN7 (Nat.lt_of_lt_of_le hbl hBd.size) (Nat.lt_of_lt_of_le hgl hBd.size); have hB7 := hBw.trans (hN7.mono hBw.size); obtain ⟨q70, q71, z70, z71⟩ := hH7.two; have hXl7 := hH7.lt; have hfar7 : 0 < n + p → ∀ x, A7 = some x → x.block ≠ b ∧ x.block ≠ g ∧ x.block ≠ X := (fun h0 x hx => by rcases h73 with ⟨h1, h2⟩ | h1; (exact hfar (by omega) x (h2 ▸ hx)); (have h2 := h1 x hx; omega)); have hR8 := ring_far (ring_far hR7 (p := ⟨X, 0, none⟩) (fun e => hXb e.symm) (fun e => hXg e.symm) (.slice A7 (n + p) c7)) (p := ⟨X, 1, none⟩) (fun e => hXb e.symm) (fun e => hXg e.symm) (.int .i64 nn); have hV8 := vals_far (vals_far hV7 (p := ⟨X, 0, none⟩) (fun h x hx => (hfar7 h x hx).2.2) (.slice A7 (n + p) c7)) (p := ⟨X, 1, none⟩) (fun h x hx => (hfar7 h x hx).2.2) (.int .i64 nn); have hH8 := hH7.put2 (.slice A7 (n + p) c7) (.int .i64 nn); have hB8 := (hB7.setCell (p := ⟨X, 0, none⟩) hX (.slice A7 (n + p) c7)).setCell (p := ⟨X, 1, none⟩) hX (.int .i64 nn); have hVl8 := hVl.below hB8))
          | (go_at_call 10; ((with_reducible refine (hput _ hR8 hVl8).mono ?_); rintro e W9 ⟨rfl, cs9, hR9, hT9⟩; have hVn9 := hV8.turned hT9 (fun h0 x hx => ⟨(hfar7 h0 x hx).1, (hfar7 h0 x hx).2.1⟩); have hH9 := hT9.has hH8 hXb hXg; have q90 := hH9.cell 0; have q91 := hH9.cell 1; have hXl9 := hH9.lt; have hB9 := below_turned hB8 hT9 hB8.size hb hg))
          | (go_at_call 18; ((with_reducible refine (alike_yes b g nn q f cs9 (xs ++ ys.take p) A7 (n + p) c7 _ hR9 hVn9 h71).mono ?_); rintro e W11 ⟨rfl, hN⟩)))
        go_roundw
        case rel => exact ⟨j + 1, by omega, by go_num, alike_below (alike_mk hR9 hH9 hVn9 h71 h72 hfar7 hb hg hX hXb hXg hB9) hN⟩
        case measure => simp [intOf]; omega
      by_cases D1 : D = 1
      · subst D1
        have hBw := hB.trans (hBd.mono hB.size)
        obtain ⟨v, ok, hpop, hrat⟩ : ∃ (v : Int) (ok : Bool), (∀ W, Ring W b g nn q f cs xs → Calls Try.prog 11 #[.pointer (some ⟨b, 0, none⟩)] W fun e w' => e = .returned (.tuple #[.int .i64 v, .bool ok]) ∧ ∃ f' cs', Ring w' b g nn q f' cs' (xs.drop 1) ∧ Turned b g W w') ∧
            (∀ W, Vals W A xs.length xs → Calls Try.prog 12 #[.agg #[.slice A xs.length c, .int .i64 nn], .int .i64 0] W fun e w' => e = .returned (.tuple #[.int .i64 v, .bool ok]) ∧ Below W.heap.size W w') := by
          rcases Nat.eq_zero_or_pos xs.length with h0 | h0
          · have hx := List.eq_nil_of_length_eq_zero h0
            subst hx
            exact ⟨0, false, fun W hW => (pop_no b W hW.core.cells.2.2).mono fun e w' ⟨he, hw⟩ => ⟨he, f, cs, by subst hw; simpa using hW, by subst hw; exact Turned.refl _ _ _⟩,
              fun W _ => refat_no A 0 c nn 0 W (.inr (by omega)) (by omega)⟩
          · exact ⟨xs.getD 0 0, true, fun W hW => (pop_yes b g nn q f cs xs W hW h0).mono fun e w' ⟨he, cs', hR, hT⟩ => ⟨he, _, cs', hR, hT⟩,
              fun W hW => refat_yes A xs.length c nn xs 0 W hW h0 hxl⟩
        have hrtake : ∀ W, Vals W A xs.length xs → Calls Try.prog 13 #[.agg #[.slice A xs.length c, .int .i64 nn], .int .i64 1] W (RefTook W A xs.length c nn xs 1) := fun W hW => reftake_any A xs.length c nn xs 1 1 W hW hc1 hc2 rfl
        generalize hn : xs.length = n at *
        have HN := Lib.hid hn
        clear hn
        go_wp2_with (first
          | (go_at_call 11; ((with_reducible refine (hpop _ (by exact hR.below hBd hbl hgl)).mono ?_); rintro e W5 ⟨rfl, f5, cs5, hR5, hT5⟩; have hH5 := hT5.has (hH.below hBd hXl) hXb hXg; have hV5 := (hV.below hBd).turned hT5 (fun h0 x hx => ⟨(hfar h0 x hx).1, (hfar h0 x hx).2.1⟩); have hB5 := below_turned hBw hT5 hBw.size hb hg; have q50 := hH5.cell 0; have q51 := hH5.cell 1))
          | (go_at_call 12; ((with_reducible refine (hrat _ hV5).mono ?_); rintro e W6 ⟨rfl, hN6⟩; have hH6 := hH5.below hN6 hH5.lt; have hV6 := hV5.below hN6; have hR6 := hR5.below hN6 hR5.core.lt_.1 hR5.core.lt_.2; have hB6 := hB5.trans (hN6.mono hB5.size); have q60 := hH6.cell 0; have q61 := hH6.cell 1))
          | (go_at_call 13; ((with_reducible refine (hrtake _ hV6).mono ?_); rintro e W7 ⟨A7, c7, m7, rfl, hm7, hV7, hV7b, h71, h72, h73, hN7⟩; have hH7 := hH6.below hN7 hH6.lt; have hR7 := hR6.below hN7 hR6.core.lt_.1 hR6.core.lt_.2; have hB7 := hB6.trans (hN7.mono hB6.size); obtain ⟨q70, q71, z70, z71⟩ := hH7.two; have hXl7 := hH7.lt; obtain ⟨hAl7, hR8, hV8⟩ := alike_store (w := w) (nn := nn) hR7 hH7 hV7 h71 (Nat.le_trans h72 hc2) (fun h0 x hx => by obtain ⟨y, hy, hxy⟩ := h73 x hx; have := hfar (by omega) y hy; rw [hxy]; exact this) hb hg hX hXb hXg hB7; clear hm7))
          | (go_at_call 18; ((with_reducible refine (alike_yes b g nn q f5 cs5 (xs.drop 1) A7 (n - m7) c7 _ hR8 hV8 h71).mono ?_); rintro e W9 ⟨rfl, hN⟩)))
        go_roundw
        case rel => exact ⟨j + 1, by omega, by go_num, alike_below hAl7 hN⟩
        case measure => simp [intOf]; omega
      by_cases D2 : D = 2
      · subst D2
        have hBw := hB.trans (hBd.mono hB.size)
        obtain ⟨t, ht⟩ : ∃ t, N.toNat = t := ⟨_, rfl⟩
        have hrtake : ∀ W, Vals W A xs.length xs → Calls Try.prog 13 #[.agg #[.slice A xs.length c, .int .i64 nn], .int .i64 N] W (RefTook W A xs.length c nn xs t) := fun W hW => reftake_any A xs.length c nn xs N t W hW hc1 hc2 ht
        have htake : ∀ W, Ring W b g nn q f cs xs → Calls Try.prog 15 #[.pointer (some ⟨b, 0, none⟩), .int .i64 N] W (TookAny W b g nn q xs t) := fun W hW => take_any b g nn q f cs xs N t W hW ht
        have hDd := Has.new wr 34 #[.int .i64 2, .slice L Ln Lc, .int .i64 N]
        have hXd : X ≠ wr.heap.size := by omega
        generalize hn : xs.length = n at *
        have HN := Lib.hid hn
        have HT := Lib.hid ht
        clear hn ht
        go_wp2_with (first
          | (go_at_call 13; ((with_reducible refine (hrtake _ (by exact hV.below hBd)).mono ?_); rintro e W7 ⟨A7, c7, m7, rfl, hm7, hV7, hV7b, h71, h72, h73, hN7⟩; have hH7 := (hH.below hBd hXl).below hN7 (Nat.lt_of_lt_of_le hXl hBd.size); have hR7 := (hR.below hBd hbl hgl).below hN7 (Nat.lt_of_lt_of_le hbl hBd.size) (Nat.lt_of_lt_of_le hgl hBd.size); have hB7 := hBw.trans (hN7.mono hBw.size); obtain ⟨q70, q71, z70, z71⟩ := hH7.two; have hXl7 := hH7.lt; have hD7 := hDd.below hN7 hDd.lt; have hfar7 : 0 < n - m7 → ∀ x, A7 = some x → x.block ≠ b ∧ x.block ≠ g ∧ x.block ≠ X := (fun h0 x hx => by obtain ⟨y, hy, hxy⟩ := h73 x hx; have := hfar (by omega) y hy; rw [hxy]; exact this); have hR8 := ring_far (ring_far hR7 (p := ⟨X, 0, none⟩) (fun e => hXb e.symm) (fun e => hXg e.symm) (.slice A7 (n - m7) c7)) (p := ⟨X, 1, none⟩) (fun e => hXb e.symm) (fun e => hXg e.symm) (.int .i64 nn); have hV8 := vals_far (vals_far hV7 (p := ⟨X, 0, none⟩) (fun h x hx => (hfar7 h x hx).2.2) (.slice A7 (n - m7) c7)) (p := ⟨X, 1, none⟩) (fun h x hx => (hfar7 h x hx).2.2) (.int .i64 nn); have hmn7 : m7 ≤ n := (by omega); have hVb8 := vals_far (vals_far hV7b (p := ⟨X, 0, none⟩) (fun h x hx => (hfar (by omega) x hx).2.2) (.slice A7 (n - m7) c7)) (p := ⟨X, 1, none⟩) (fun h x hx => (hfar (by omega) x hx).2.2) (.int .i64 nn); have hH8 := hH7.put2 (.slice A7 (n - m7) c7) (.int .i64 nn); have hB8 := (hB7.setCell (p := ⟨X, 0, none⟩) hX (.slice A7 (n - m7) c7)).setCell (p := ⟨X, 1, none⟩) hX (.int .i64 nn); have hD8 := (hD7.far (p := ⟨X, 0, none⟩) (fun e => hXd e.symm) (.slice A7 (n - m7) c7)).far (p := ⟨X, 1, none⟩) (fun e => hXd e.symm) (.int .i64 nn); have qd2 := hD8.cell 2; clear hm7))
          | (go_at_call 15; ((with_reducible refine (htake _ hR8).mono ?_); rintro e W9 ⟨A9, m9, rfl, hV9, hf9, hm9, f9, cs9, hR9, hT9⟩; have hVl9 := hVb8.turned hT9 (fun h0 x hx => ⟨(hfar (by omega) x hx).1, (hfar (by omega) x hx).2.1⟩); obtain rfl : m7 = m9 := hVl9.len_.symm.trans hV9.len_; have hVn9 := hV8.turned hT9 (fun h0 x hx => ⟨(hfar7 h0 x hx).1, (hfar7 h0 x hx).2.1⟩); have hH9 := hT9.has hH8 hXb hXg; have q90 := hH9.cell 0; have q91 := hH9.cell 1; have hXl9 := hH9.lt; have hB9 := below_turned hB8 hT9 hB8.size hb hg))
          | (go_at_call 14; ((with_reducible refine (same_yes A9 A m7 _ _ (xs.take t) _ hV9 hVl9 (by omega)).mono ?_); rintro e W10 ⟨rfl, kk, rfl⟩))
          | (go_at_call 18; ((with_reducible refine (alike_yes b g nn q f9 cs9 (xs.drop t) A7 (n - m7) c7 _ (by exact hR9.same rfl) (by exact hVn9.same rfl) h71).mono ?_); rintro e W11 ⟨rfl, hN⟩)))
        go_roundw
        case rel => exact ⟨j + 1, by omega, by go_num, alike_below (alike_below (alike_mk hR9 hH9 hVn9 h71 (Nat.le_trans h72 hc2) hfar7 hb hg hX hXb hXg hB9) (below_drewN (Below.refl _ _) kk)) hN⟩
        case measure => simp [intOf]; omega
      by_cases D3 : D = 3
      · subst D3
        have hclear := fun W (hW : Ring W b g nn q f cs xs) => clear_any b g nn q f cs xs W hW
        have hBw := hB.trans (hBd.mono hB.size)
        go_wp2_with (first
          | (go_at_call 16; ((with_reducible refine (hclear _ (by exact hR.below hBd hbl hgl)).mono ?_); rintro e W5 ⟨rfl, cs5, hR5, hT5⟩; have hH5 := hT5.has (hH.below hBd hXl) hXb hXg; obtain ⟨q0, q1, z0, z1⟩ := hH5.two; have hXl5 := hH5.lt; have hB5 := below_turned hBw hT5 hBw.size hb hg; have hR6 := ring_far hR5 (p := ⟨X, 0, none⟩) (fun e => hXb e.symm) (fun e => hXg e.symm) (.slice none 0 0)))
          | (go_at_call 18; ((with_reducible refine (alike_yes b g nn q _ cs5 [] none 0 0 _ hR6 (Vals.none_ _) (Nat.le_refl _)).mono ?_); rintro e W9 ⟨rfl, hN⟩)))
        go_roundw
        case rel => exact ⟨j + 1, by omega, by go_num, alike_below ⟨b, g, q, _, cs5, [], none, 0, rfl, hR6, hH5.set_ 0 _, Vals.none_ _, by simp, by omega, (fun h => absurd h (by simp)), hb, hg, hX, hXb, hXg, hB5.setCell (p := ⟨X, 0, none⟩) hX _⟩ hN⟩
        case measure => simp [intOf]; omega
      by_cases D4 : D = 4
      · subst D4
        have hclone := fun W (hW : Ring W b g nn q f cs xs) => clone_any b g nn q f cs xs W hW
        have hBw := hB.trans (hBd.mono hB.size)
        have htake : ∀ W, Ring W b g nn q f cs xs → Calls Try.prog 15 #[.pointer (some ⟨b, 0, none⟩), .int .i64 3] W (TookAny W b g nn q xs 3) := fun W hW => take_any b g nn q f cs xs 3 3 W hW rfl
        have hVlt := vals_lt hV
        go_wp2_with (first
          | (go_at_call 17; ((with_reducible refine (hclone _ (by exact hR.below hBd hbl hgl)).mono ?_); rintro e W5 ⟨b5, g5, q5, rfl, hR5, hb5, hg5, hB5⟩; have hB6 := hBd.trans (hB5.mono hBd.size); have hRo := hR.below hB6 hbl hgl))
          | (go_at_call 15; ((with_reducible refine (htake _ (by exact hRo)).mono ?_); rintro e W6 ⟨A6, m6, rfl, hV6, hf6, hm6, f6, cs6, hR6, hT6⟩))
          | (go_at_call 10; ((with_reducible refine (put_three b g nn q f6 cs6 _ W6 (by exact hR6)).mono ?_); rintro e W7 ⟨⟨k7, rfl⟩, hT7⟩; have hs6 := hB6.size; have hsd := hBd.size; have hT8 := hT6.trans hT7; have hR7 := hR5.turned hT8 (by omega) (by omega) (by omega) (by omega); have hH7 := hT8.has (hH.below hB6 hXl) hXb hXg; obtain ⟨q0, q1, z0, z1⟩ := hH7.two; have hXl7 := hH7.lt; have hV7 := (hV.below hB6).turned hT8 (fun h0 x hx => ⟨(hfar h0 x hx).1, (hfar h0 x hx).2.1⟩); have hB7 := below_turned (hB.trans (hB6.mono hB.size)) hT8 (Nat.le_trans hB.size hs6) hb hg))
          | (go_at_call 18; ((with_reducible refine (alike_yes b5 g5 nn q5 f cs xs A xs.length c _ hR7 hV7 hc1).mono ?_); rintro e W9 ⟨rfl, hN⟩)))
        go_roundw
        case rel => exact ⟨j + 1, by omega, by go_num, alike_below ⟨b5, g5, q5, f, cs, xs, A, c, rfl, hR7, hH7, hV7, hc1, hc2, (fun h0 x hx => by have := hVlt h0 x hx; have := hfar h0 x hx; omega), by omega, by omega, hX, by omega, by omega, hB7⟩ hN⟩
        case measure => simp [intOf]; omega
      -- nothing is done
      have hsame := fun W (hR : Ring W b g nn q f cs xs) (hV : Vals W A xs.length xs) => alike_yes b g nn q f cs xs A xs.length c W hR hV hc1
      go_wp2_with (go_at_call 18; ((with_reducible refine (hsame _ (by exact hR.below hBd hbl hgl) (by exact hV.below hBd)).mono ?_); rintro e W9 ⟨rfl, hN⟩))
      go_roundw
      case rel => exact ⟨j + 1, by omega, by go_num, alike_below (alike_below hAl hBd) hN⟩
      case measure => simp [intOf]; omega
    · obtain rfl : j = m := by omega
      go_wp2_with (go_at_call 8; ((with_reducible refine (live_ok _).mono ?_); rintro e W9 ⟨rfl, hN⟩))
      go_ret
      exact ⟨rfl, hB.trans (hN.mono hB.size)⟩

theorem own : ownKnob Try.prog.godebug = none := by kernel_rfl
theorem laidOut : laidOutB Try.prog = true := by kernel_rfl

/-! ### The row's step -/
set_option maxRecDepth 100000 in
theorem lifted (os : Os) (started : os.Started) (H : Type) (enc : TypeId × Value → H) :
    ReturnsInHanded {} Try.checked os 3 .any (Rows.ringPlaysSpec.pre6 enc Try.prog Try.f3 Rows.ringPlaysRow.domain false) (Rows.ringPlaysSpec.post enc Try.prog Try.f3 false true false false) := by
  refine returnsInHanded_of_change (C := Try.checked) own started (by kernel_rfl) Try.func3
    (ChangeSpec.witness6 (enc := enc) (C := Try.checked) false ⟨#[], #[.int .i64 0, .slice none 0 0], []⟩ 8 (by kernel_rfl) (by kernel_rfl) (by kernel_rfl) (by kernel_rfl)) ?_
  intro W base args ds gs before hval0 hW hcnd _
  have hval : ∀ (j : Nat) t v, Try.f3.params[j]? = some t → args[j]? = some v → Value.okWide Try.prog W .any base t v := hval0
  have hW' := hW
  obtain ⟨p, q, hA0, hV, rfl, hfz, hnd⟩ := hW
  have hA : DataW.TrodAll enc Try.prog W 0 (fun _ => true) true Try.f3.params.toList args.toList ds p := hA0
  rw [Try.params3] at hA hval
  obtain ⟨v0, vs0, d0, ds0, p0, q0, hargs, rfl, rfl, h0, r0⟩ := trodAll_cons hA
  obtain ⟨v1, vs1, d1, ds1, p1, q1, rfl, rfl, rfl, h1, r1⟩ := trodAll_cons r0
  obtain ⟨rfl, rfl, rfl⟩ := trodAll_nil r1
  obtain rfl : args = #[v0, v1] := by cases args; simp_all
  obtain ⟨rfl, rfl⟩ := trodVars_none hV
  obtain ⟨a0, rfl, rfl, rfl, w0⟩ := open_int Try.underlying3 (hval 0 3 v0 rfl rfl) h0
  obtain ⟨a1, len1, cap1, rfl⟩ := okWide_slice Try.underlying22 (hval 1 22 v1 rfl rfl)
  have k1 := h1
  have lt1 : ∀ x ∈ p1, x.block < W.heap.size := by obtain ⟨m, hm⟩ := k1; exact DataW.trod_lt m _ _ _ hm
  have w1 : IsDeeds W a1 len1 cap1 := by
    obtain ⟨fuel, hf⟩ := h1
    exact deeds_of (by simpa [Value.cells] using hf)
  clear hA0 hval0
  refine (walk a0 a1 len1 cap1 W w0 w1).mono fun e W' ⟨he, bel⟩ => ?_
  subst he
  exact ⟨_, rfl, _, _, _, [], _, [], hW', trodAll_mk1 (shut_bool Try.underlying4 _), (trodAll_cons_mk (shut_int Try.underlying3 w0) (trodAll_cons_mk (Below.trod laidOut (by kernel_rfl) (of_decide_eq_true (by kernel_rfl)) k1 bel lt1) trodAll_mk0)), rfl, bel.frame _, fun h => by cases h⟩

theorem over : Rows.ringPlaysRow.holds Try.pinned (OpenSpec.ofChange Rows.ringPlaysSpec) :=
  OpenClaim.holds_of_wide 3 Try.f3 rfl rfl rfl rfl rfl rfl rfl ⟨rfl, rfl, rfl, rfl, rfl⟩ rfl rfl rfl rfl rfl (by kernel_rfl) Try.func3 (by kernel_rfl)
    (of_decide_eq_true (by kernel_rfl)) (by unfold Func.isWrapper; first | (rw [if_pos (by decide +kernel)]; kernel_rfl) | (rw [if_neg (by decide +kernel)]; exact ⟨rfl, rfl⟩))
    (fun os started H enc _ => lifted os started H enc)

theorem proved : Rows.RingPlaysSaid := over
#print axioms proved
end Go.Proofs.Yteiakpepdnhigaa.ringPlays
