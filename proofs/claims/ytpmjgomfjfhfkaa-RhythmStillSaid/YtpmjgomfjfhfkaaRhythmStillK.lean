/- RhythmStill, over whatever a rhythm's calls answer. -/
import Derived.Test.YtpmjgomfjfhfkaaRhythmLive
import Derived.Test.YtpmjgomfjfhfkaaRowFirst
import Derived.OpenShut
set_option linter.unusedSimpArgs false
set_option linter.unusedVariables false
namespace Go.Proofs.Ytpmjgomfjfhfkaa.Rhythm
open Go.RowKit
open Tally (Lim May mayT limV)
def lS (A : Int) : Lim := ⟨0, A, 100, 2, 240, 2, 50, 3, 100⟩
def cS (A : Int) : Array Value := #[.int .i64 0, .int .i64 A, .int .i64 100, .int .i64 2, .int .i64 240, .int .i64 2, .int .i64 50, .int .i64 3, .int .i64 100]
theorem lS_may (A : Int) (h : 200 ≤ A ∧ A ≤ 600) : mayT (lS A) = true := by
  show (_ && Tally.within A 200 6000 && _ && _ && _ && _ && _ && _ && _) = true
  rw [show Tally.within A 200 6000 = true from decide_eq_true (by omega)]
  rfl
/-- How it stands ahead of the sample at a: fr is where it begins, last the last beat, or fr. -/
structure SI (A fr a last : Int) (s : St) : Prop where
  dark : s.dark = false
  o2 : s.on.o2 = decide (last + A < a)
  ord : fr ≤ last ∧ last ≤ a
  cas : (a = fr ∧ s.t.begun = false) ∨ (fr < a ∧ s.t.begun = true ∧ s.t.last = last)
theorem SI.samp {A fr a last : Int} {s : St} (h : SI A fr a last s) (hA : 200 ≤ A) (hb : 0 ≤ fr ∧ a ≤ 200000) :
    SI A fr (a + 1) last (stepT (lS A) s (sampM a)) ∧ (saysT (lS A) s (sampM a)).any (begins 2 a) = decide (a = last + A) ∧ (stepT (lS A) s (sampM a)).t.rs.length ≤ s.t.rs.length := by
  obtain ⟨hd, ho, hr, hc⟩ := h
  have hcn : counts s (sampM a) = true := by simp [counts, sampM, hd]
  have hna : Tally.nearA a = a := Tally.nearA_id a (by omega)
  obtain ⟨T, hT, hTb, hTl, hTr⟩ : ∃ T, (if s.t.begun then s.t else Tally.beginT a) = T ∧ T.begun = true ∧ T.last = last ∧ T.rs.length ≤ s.t.rs.length := by
    rcases hc with ⟨rfl, hbg⟩ | ⟨_, hbg, hl⟩
    · rw [hbg, if_neg (by decide)]
      exact ⟨_, rfl, rfl, by show Tally.nearA a = last; omega, by simp [Tally.beginT]⟩
    · rw [hbg, if_pos rfl]
      exact ⟨_, rfl, hbg, hl, Nat.le_refl _⟩
  have ht : takeT s (sampM a) = ⟨false, T, 0 :: s.h, s.on⟩ := by
    rw [← hT]
    simp only [takeT, sampM, hd]
    rfl
  have hst : Tally.stillT (lS A) T a = decide (last + A < a + 1) := by
    show (T.begun && decide (A ≤ Tally.nearA a - T.last)) = _
    rw [hTb, hTl, hna, Bool.true_and]
    exact decide_eq_decide.2 (by omega)
  have hon : onT (lS A) s (sampM a) = ⟨false, decide (last + A < a + 1), decide ((3 : Int) ≤ Fib.countT 50 (0 :: s.h)), Tally.tachT (lS A) T.rs, Tally.bradT (lS A) T.rs⟩ := by
    unfold onT nowT
    rw [ht]
    show On5.mk false (Tally.stillT (lS A) T a) _ _ _ = _
    rw [hst]
    rfl
  have hs : stepT (lS A) s (sampM a) = ⟨false, T, 0 :: s.h, onT (lS A) s (sampM a)⟩ := by
    unfold stepT
    rw [if_pos hcn, ht]
  refine ⟨⟨by rw [hs], by rw [hs, hon], by omega, .inr ⟨by omega, by rw [hs]; exact hTb, by rw [hs]; exact hTl⟩⟩, ?_, by rw [hs]; exact hTr⟩
  unfold saysT
  rw [if_pos hcn, hon]
  show (tellT a s.on _).any (begins 2 a) = _
  rw [begins_asys, ho]
  by_cases h1 : last + A < a
  · rw [decide_eq_true h1, decide_eq_false (show ¬ a = last + A by omega)]; rfl
  · rw [decide_eq_false h1]
    show (true && decide (last + A < a + 1)) = _
    rw [Bool.true_and]
    exact decide_eq_decide.2 (by omega)
theorem SI.beat {A fr a last : Int} {s : St} (h : SI A fr a last s) (hA : 200 ≤ A) (hb : 0 ≤ fr ∧ a ≤ 200000) (hlt : fr < a) :
    SI A fr a (a - 1) (stepT (lS A) s (beatM (a - 1) 150)) ∧ (stepT (lS A) s (beatM (a - 1) 150)).on.o2 = false ∧ (stepT (lS A) s (beatM (a - 1) 150)).t.rs.length ≤ s.t.rs.length + 1 := by
  obtain ⟨hd, ho, hr, hc⟩ := h
  have hcn : counts s (beatM (a - 1) 150) = true := by simp [counts, beatM, hd]
  have hna : Tally.nearA (a - 1) = a - 1 := Tally.nearA_id _ (by omega)
  have ht : takeT s (beatM (a - 1) 150) = ⟨false, ⟨true, a - 1, 150 :: s.t.rs⟩, s.h, s.on⟩ := by
    simp only [takeT, beatM, hd, Tally.beatT, hna]
    rfl
  have hst : Tally.stillT (lS A) ⟨true, a - 1, 150 :: s.t.rs⟩ (a - 1) = false := by
    show (true && decide (A ≤ Tally.nearA (a - 1) - (a - 1))) = false
    rw [hna, decide_eq_false (by omega)]
    rfl
  have hs : stepT (lS A) s (beatM (a - 1) 150) = ⟨false, ⟨true, a - 1, 150 :: s.t.rs⟩, s.h, onT (lS A) s (beatM (a - 1) 150)⟩ := by
    unfold stepT
    rw [if_pos hcn, ht]
  have ho2 : (onT (lS A) s (beatM (a - 1) 150)).o2 = false := by
    unfold onT nowT
    rw [ht]
    exact hst
  exact ⟨⟨by rw [hs], by rw [hs]; show _ = _; rw [ho2, decide_eq_false (by omega)], by omega, .inr ⟨hlt, by rw [hs], by rw [hs]⟩⟩, by rw [hs]; exact ho2, by rw [hs]; simp⟩
theorem any_next (p : Cd → Bool) (cs : List Cd) (j : Nat) (hj : j < cs.length) : (cs.take (j + 1)).any p = ((cs.take j).any p || p (cs.getD j noCd)) := by
  rw [List.take_succ_eq_append_getElem hj, List.any_append, List.getD_eq_getElem?_getD, List.getElem?_eq_getElem hj]
  simp
/-- Where the loops stand. -/
structure Sl (Rhy : World → Nat → List Nat → Lim → St → Prop) (w : World) (b : Nat) (S : List Nat) (A : Int) (g : Nat) (s : St) (W : World) : Prop where
  mr : Mr Rhy w b S (lS A) s W
  box : Has W g 23 (cS A)
  far : g ∉ S
section
variable {Rhy : World → Nat → List Nat → Lim → St → Prop} (K : RhyKit Rhy) {w W W' : World} {b g : Nat} {S : List Nat} {A : Int} {s s' : St}
include K
theorem Sl.grow (h : Sl Rhy w b S A g s W) (hB : Below W.heap.size W W') : Sl Rhy w b S A g s W' :=
  ⟨Mr.grow K h.mr hB, h.box.below hB h.box.lt, h.far⟩
omit K in
theorem Sl.turn (h : Sl Rhy w b S A g s W) (hM : Mr Rhy w b S (lS A) s' W') (hK : Kept S W W') : Sl Rhy w b S A g s' W' := ⟨hM, hK.has h.box h.far, h.far⟩
end
set_option maxRecDepth 100000 in
set_option maxHeartbeats 4000000 in
theorem still_k {Rhy : World → Nat → List Nat → Lim → St → Prop} (K : RhyKit Rhy) (a0 a1 : Int) (a2 : Option Addr) (len2 cap2 : Nat) (z2 : List Int) (w : World) (w0 : 0 ≤ a0 ∧ a0 ≤ 65535) (w1 : 0 ≤ a1 ∧ a1 ≤ 65535) (w2 : IsRow .u16 w a2 len2 cap2 z2) :
    Calls Try.prog 5 #[.int .u16 a0, .int .u16 a1, .slice a2 len2 cap2] w fun e w' => e = .returned (.bool true) ∧ Below w.heap.size w w' := by
  obtain ⟨p, hp⟩ : ∃ p, min len2 12 = p := ⟨_, rfl⟩
  have hp1 : p ≤ len2 := by omega
  have hp2 : p ≤ 12 := by omega
  have hminA : (if (12 : Int) < (len2 : Int) then (12 : Int) else (len2 : Int)) = (p : Int) := by split <;> omega
  obtain ⟨hc1, hc2, hzl, hcl⟩ := row_first (lo := 0) (hi := 65535) (fun h => bounds_u16 h) w2 p hp1
  have hp3 : p ≤ cap2 := by omega
  have hus := usual_k w
  rw [show limV lU = .agg #[.int .i64 0, .int .i64 200, .int .i64 100, .int .i64 2, .int .i64 240, .int .i64 2, .int .i64 50, .int .i64 3, .int .i64 100] from rfl] at hus
  have hli := fun W => live_k K W
  have hnew := fun W => K.new_yes W (lS (200 + a0 % 400)) (lS_may _ (by omega))
  rw [show limV (lS (200 + a0 % 400)) = .agg #[.int .i64 0, .int .i64 (200 + a0 % 400), .int .i64 100, .int .i64 2, .int .i64 240, .int .i64 2, .int .i64 50, .int .i64 3, .int .i64 100] from rfl] at hnew
  have hAb : 200 ≤ 200 + a0 % 400 ∧ 200 + a0 % 400 ≤ 600 := by omega
  clear w2
  go_enter Try.func5, Try.ntmps5
  go_wp2_with (first
    | (go_at_call 18; ((with_reducible refine hus.mono ?_); rintro e W1 ⟨rfl, hB1⟩))
    | (go_at_call 8; ((with_reducible refine (hnew _).mono ?_); rintro e W2 ⟨b, S, rfl, hP, hfar, hB2⟩)))
  have hB3 := hB1.alloc hB1.size (.cells (cS (200 + a0 % 400)) 23)
  have hX1 := Has.new W1 23 (cS (200 + a0 % 400))
  unfold cS at hB3 hX1
  have hR0 : Sl Rhy w b S (200 + a0 % 400) W1.heap.size noSt W2 :=
    ⟨⟨hP, hB3.trans (hB2.mono hB3.size), fun k hk => Nat.le_trans hB3.size (hfar k hk)⟩, hX1.below hB2 hX1.lt, fun hk => by have := hfar _ hk; simp at this; omega⟩
  have hI0 : SI (200 + a0 % 400) a1 a1 a1 noSt := ⟨rfl, by rw [decide_eq_false (by omega)]; rfl, by omega, .inl ⟨rfl, rfl⟩⟩
  have hd0 : decide (a1 + (200 + a0 % 400) < a1) = false := decide_eq_false (by omega)
  clear hnew hus hP hfar hB2 hB3 hX1
  generalize W1.heap.size = g at *
  generalize 200 + a0 % 400 = A at *
  go_loopw [10, 11, 12, 41] (fun a l st i wr => ∃ (k : Nat) (at_ last : Int) (s : St), k ≤ p ∧ i = .int .i64 (k : Nat) ∧ a = .int .i64 at_ ∧ l = .int .i64 last ∧ st = .bool (decide (last + A < at_)) ∧ SI A a1 at_ last s ∧ Sl Rhy w b S A g s wr ∧ at_ ≤ a1 + 700 * (k : Int) ∧ s.t.rs.length ≤ k) (fun _ _ _ i _ => p - (intOf i).toNat)
  case atStart => exact ⟨0, a1, a1, noSt, by omega, rfl, rfl, rfl, by rw [hd0], hI0, hR0, by omega, Nat.le_refl _⟩
  case round =>
    clear hR0 hI0 hd0
    obtain ⟨k, at_, last, s, hk, rfl, rfl, rfl, rfl, hI, hR, hat, hrs⟩ := hrel
    by_cases hkp : k < p
    · obtain ⟨x, rfl, hcx⟩ := hcl (by omega)
      obtain ⟨hcw, hd0, hd1⟩ := hcx k hkp
      have hcell := (hR.mr.below.cell (World.block_lt_of_cell? _ _ hcw)).trans hcw
      clear hcx hcl hcw
      generalize (z2.take p).getD k 0 = d at *
      have hkz : (k : Int) < (p : Int) := by omega
      obtain ⟨m, hm⟩ : ∃ m : Nat, d % 700 = (m : Int) := ⟨(d % 700).toNat, by omega⟩
      have hmb : m ≤ 699 := by omega
      have hmz : d % 700 ≤ (m : Int) ∧ (m : Int) ≤ d % 700 := by omega
      clear hm
      have hlo := hI.ord
      have hlb : 0 ≤ last ∧ last ≤ 100000 := by omega
      clear hlo
      go_wp2
      go_loopw [10, 12, 48] (fun a st i wr => ∃ (j : Nat) (B : Int) (s' : St), j ≤ m ∧ i = .int .i64 (j : Nat) ∧ a = .int .i64 B ∧ st = .bool (decide (last + A < B)) ∧ B = at_ + (j : Int) ∧ SI A a1 B last s' ∧ Sl Rhy w b S A g s' wr ∧ s'.t.rs.length ≤ k) (fun _ _ i _ => m - (intOf i).toNat)
      case atStart => exact ⟨0, at_, s, by omega, rfl, rfl, rfl, by omega, hI, hR, hrs⟩
      case round =>
        clear hI hR hrs hcell
        obtain ⟨j, B, s', hj, rfl, rfl, rfl, hB, hI, hR, hrs⟩ := hrel
        have hBb : 0 ≤ B ∧ B ≤ 100000 := by have := hI.ord; omega
        have HBB := Lib.hid hB
        clear hB
        have hjz2 : (j : Int) ≤ (m : Int) := by omega
        by_cases hjm : j < m
        · have hjz : (j : Int) < d % 700 := by omega
          have hpu := Mr.push_one K hR.mr 45 (sampM B) 1 (by omega)
          obtain ⟨hI2, hany, hrs2⟩ := hI.samp hAb.1 (by omega)
          have hRt := fun W (hM : Mr Rhy w b S (lS A) (stepT (lS A) s' (sampM B)) W) hK => hR.turn hM hK
          clear hI hR
          generalize stepT (lS A) s' (sampM B) = s2 at *
          generalize saysT (lS A) s' (sampM B) = cs at *
          unfold mkC sampM at hpu
          dsimp only at hpu
          have HRS := Lib.hid (show s2.t.rs.length ≤ k by omega)
          clear hrs hrs2
          go_wp2_with (go_at_call 15; ((with_reducible refine hpu.mono ?_); rintro e W3 ⟨B3, d3, rfl, g1, g2, hV3, hf3, hM3, hK3⟩; have hR3 := hRt W3 hM3 hK3; clear hpu hRt hf3 hM3 hK3))
          go_loopw [15, 56] (fun q i wr => ∃ z : Nat, z ≤ cs.length ∧ i = .int .i64 (z : Nat) ∧ q = .bool ((cs.take z).any (begins 2 B)) ∧ Sl Rhy w b S A g s2 wr ∧ Row.Vals cdS wr B3 cs.length cs) (fun _ i _ => cs.length - (intOf i).toNat)
          case atStart => exact ⟨0, by omega, rfl, rfl, hR3, hV3⟩
          case round =>
            clear hR3 hV3
            obtain ⟨z, hz, rfl, rfl, hR4, hV4⟩ := hrel
            by_cases hzl : z < cs.length
            · clear hany hI2
              obtain ⟨y, rfl, _⟩ := hV4.cells (by omega)
              obtain ⟨y0, y1, y2⟩ := cd_cells hV4 z hzl
              have hnx := any_next (begins 2 B) cs z hzl
              have hzz : (z : Int) < (cs.length : Int) := by omega
              obtain ⟨q, hq⟩ : ∃ q, (cs.take z).any (begins 2 B) = q := ⟨_, rfl⟩
              obtain ⟨c, hcc⟩ : ∃ c, cs.getD z noCd = c := ⟨_, rfl⟩
              rw [hq, hcc] at hnx
              rw [hcc] at y0 y1 y2
              rw [hq]
              obtain ⟨ck, ca, cn⟩ := c
              dsimp only at y0 y1 y2
              have hR5 := hR4.grow K ((Below.refl _ wr).alloc (Nat.le_refl _) (.cells #[.int .i64 ck, .int .i64 ca, .bool cn] 52))
              have hV5 := hV4.alloc (.cells #[.int .i64 ck, .int .i64 ca, .bool cn] 52)
              have HNX := Lib.hid hnx
              have HV5 := Lib.hid hV5
              clear hnx hR4 hV4 hV5 hq hcc
              cases q with
              | true => skip
                        go_wp2
                        go_roundw
                        case rel => exact ⟨z + 1, by omega, by go_num, by rw [HNX.out]; rfl, hR5, HV5.out⟩
                        case measure => simp [intOf]; omega
              | false =>
                by_cases h2 : ck = 2
                · subst h2
                  cases cn with
                  | false => skip
                             go_wp2
                             go_roundw
                             case rel => exact ⟨z + 1, by omega, by go_num, by rw [HNX.out]; rfl, hR5, HV5.out⟩
                             case measure => simp [intOf]; omega
                  | true =>
                    by_cases h3 : ca = B
                    · have n3 : (ca == B) = true := by simp [h3]
                      have H3 := Lib.hid h3
                      clear h3
                      go_wp2
                      go_roundw
                      case rel => exact ⟨z + 1, by omega, by go_num, by rw [HNX.out]; (simp [begins, H3.out]), hR5, HV5.out⟩
                      case measure => simp [intOf]; omega
                    · have n3 : (ca == B) = false := by simp [h3]
                      have H3 := Lib.hid h3
                      clear h3
                      go_wp2
                      go_roundw
                      case rel => exact ⟨z + 1, by omega, by go_num, by rw [HNX.out]; (simp [begins, H3.out]), hR5, HV5.out⟩
                      case measure => simp [intOf]; omega
                · have n2 : (ck == 2) = false := by simp [h2]
                  have H2 := Lib.hid h2
                  clear h2
                  go_wp2
                  go_roundw
                  case rel => exact ⟨z + 1, by omega, by go_num, by rw [HNX.out]; (simp [begins, H2.out]), hR5, HV5.out⟩
                  case measure => simp [intOf]; omega
            · obtain rfl : z = cs.length := by omega
              rw [List.take_length, hany]
              have hbx : wr.cell? ⟨g, 1, none⟩ = some (.int .i64 A) := hR4.box.cell 1
              have ho2 : s2.on.get 2 = decide (last + A < B + 1) := hI2.o2
              have hon := K.on_any wr b S _ _ 2 hR4.mr.rhy
              rw [ho2] at hon
              clear ho2 hany hV4
              by_cases hBl : B = last + A
              · have q1 : decide (last + A < B) = false := decide_eq_false (by omega)
                have q2 : decide (last + A < B + 1) = true := decide_eq_true (by omega)
                have nB : (B == last + A) = true := by simp [hBl]
                rw [q1, decide_eq_true hBl]
                rw [q2] at hon
                have HBL := Lib.hid hBl
                clear hBl
                go_wp2_with (go_at_call 17; ((with_reducible refine hon.mono ?_); rintro e W5 ⟨rfl, hB5⟩; have hR5 := hR4.grow K hB5))
                go_roundw
                case rel => exact ⟨j + 1, B + 1, s2, by omega, by go_num, rfl, by rw [q2], by have := HBB.out; omega, hI2, hR5, HRS.out⟩
                case measure => simp [intOf]; omega
              · have nB : (B == last + A) = false := by simp [hBl]
                by_cases hlt : last + A < B
                · have q1 : decide (last + A < B) = true := decide_eq_true (by omega)
                  have q2 : decide (last + A < B + 1) = true := decide_eq_true (by omega)
                  rw [q1, decide_eq_false hBl]
                  clear hlt
                  rw [q2] at hon
                  have HBL := Lib.hid hBl
                  clear hBl
                  go_wp2_with (go_at_call 17; ((with_reducible refine hon.mono ?_); rintro e W5 ⟨rfl, hB5⟩; have hR5 := hR4.grow K hB5))
                  go_roundw
                  case rel => exact ⟨j + 1, B + 1, s2, by omega, by go_num, rfl, by rw [q2], by have := HBB.out; omega, hI2, hR5, HRS.out⟩
                  case measure => simp [intOf]; omega
                · have q1 : decide (last + A < B) = false := decide_eq_false (by omega)
                  have q2 : decide (last + A < B + 1) = false := decide_eq_false (by omega)
                  rw [q1, decide_eq_false hBl]
                  clear hlt
                  rw [q2] at hon
                  have HBL := Lib.hid hBl
                  clear hBl
                  go_wp2_with (go_at_call 17; ((with_reducible refine hon.mono ?_); rintro e W5 ⟨rfl, hB5⟩; have hR5 := hR4.grow K hB5))
                  go_roundw
                  case rel => exact ⟨j + 1, B + 1, s2, by omega, by go_num, rfl, by rw [q2], by have := HBB.out; omega, hI2, hR5, HRS.out⟩
                  case measure => simp [intOf]; omega
        · obtain rfl : j = m := by omega
          by_cases hBf : B = a1
          · have nB : (B == a1) = true := by simp [hBf]
            have HB := Lib.hid hBf
            clear hBf
            go_wp2
            go_roundw
            case rel => exact ⟨k + 1, B, last, s', by omega, by go_num, rfl, rfl, rfl, hI, hR, by have := HBB.out; omega, by omega⟩
            case measure => simp [intOf]; omega
          · have nB : (B == a1) = false := by simp [hBf]
            have hlt : a1 < B := by have := hI.ord; omega
            have hpu := Mr.push_one K hR.mr 45 (beatM (B - 1) 150) 1 (by omega)
            obtain ⟨hI3, ho3, hr3⟩ := hI.beat hAb.1 (by omega) hlt
            have hRt := fun W (hM : Mr Rhy w b S (lS A) (stepT (lS A) s' (beatM (B - 1) 150)) W) hK => hR.turn hM hK
            clear hI hR
            generalize stepT (lS A) s' (beatM (B - 1) 150) = s3 at *
            generalize saysT (lS A) s' (beatM (B - 1) 150) = cs at *
            unfold mkC beatM at hpu
            dsimp only at hpu
            have hon := fun W h => K.on_any W b S (lS A) s3 2 h
            rw [show s3.on.get 2 = false from ho3] at hon
            have q1 : decide (B - 1 + A < B) = false := decide_eq_false (by omega)
            have HRS := Lib.hid (show s3.t.rs.length ≤ k + 1 by omega)
            clear hrs hr3 ho3 hBf
            go_wp2_with (first
              | (go_at_call 15; ((with_reducible refine hpu.mono ?_); rintro e W3 ⟨B3, d3, rfl, g1, g2, hV3, hf3, hM3, hK3⟩; have hR3 := hRt W3 hM3 hK3; clear hpu hRt hf3 hM3 hK3))
              | (go_at_call 17; ((with_reducible refine (hon _ hR3.mr.rhy).mono ?_); rintro e W5 ⟨rfl, hB5⟩; have hR5 := hR3.grow K hB5)))
            go_roundw
            case rel => exact ⟨k + 1, B, B - 1, s3, by omega, by go_num, rfl, rfl, by rw [q1], hI3, hR5, by have := HBB.out; omega, HRS.out⟩
            case measure => simp [intOf]; omega
    · obtain rfl : k = p := by omega
      clear hcl
      go_wp2_with (go_at_call 11; ((with_reducible refine (hli _).mono ?_); rintro e W5 ⟨rfl, hB5⟩; have hR5 := hR.grow K hB5))
      go_ret
      exact ⟨rfl, hR5.mr.below⟩
end Go.Proofs.Ytpmjgomfjfhfkaa.Rhythm
