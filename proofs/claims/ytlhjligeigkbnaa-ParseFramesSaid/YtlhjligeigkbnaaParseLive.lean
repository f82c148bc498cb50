/- The chapter's example of parse holds. -/
import Derived.Test.YtlhjligeigkbnaaParseCode
set_option linter.unusedSimpArgs false
set_option linter.unusedVariables false
namespace Go.Proofs.Ytlhjligeigkbnaa.Par
open Go.RowKit RU8 Frm
/-- Frames of one sample each, by their numbers. -/
def framesB (ns : List Nat) : List Nat := ns.flatMap fun q => frameT q [((q : Int), false)]
theorem framesB_length (ns : List Nat) : (framesB ns).length = 9 * ns.length := by
  induction ns with
  | nil => rfl
  | cons q ns ih => rw [show framesB (q :: ns) = frameT q [((q : Int), false)] ++ framesB ns from rfl, List.length_append, frameT_length, ih]; simp; omega
theorem may_one (q : Nat) (h : q < 256) : mayT [((q : Int), false)] = true := by
  unfold mayT
  refine decide_eq_true ⟨by simp, by simp, fun s hs => ?_⟩
  rw [List.mem_singleton.1 hs]
  exact ⟨by show (-32768 : Int) ≤ (q : Int); omega, by show (q : Int) ≤ 32767; omega⟩
theorem make_one (q : Nat) (hq8 : q < 256) (A : Option Addr) (c : Nat) (W : World) (hvs : Row.Vals sampS W A 1 [((q : Int), false)]) :
    Calls Try.prog 18 #[.int .u8 q, .slice A 1 c] W fun e w' => ∃ A2 c2, e = .returned (.tuple #[.slice A2 9 c2, .int .i64 0]) ∧ Vals w' A2 9 (frameT q [((q : Int), false)]) ∧ Below W.heap.size W w' := by
  refine (refmake_any q hq8 A 1 c [((q : Int), false)] W hvs (by intro s hs; rw [List.mem_singleton.1 hs]; exact ⟨by show (-2147483648 : Int) ≤ (q : Int); omega, by show (q : Int) ≤ 2147483647; omega⟩) (by omega)).mono ?_
  rintro e w' ⟨v, A9, c9, rfl, rfl, _, _, hO, hB⟩
  have hmB : makeB q [((q : Int), false)] = frameT q [((q : Int), false)] := by unfold makeB; rw [if_pos (may_one q hq8)]
  have hmL : (makeB q [((q : Int), false)]).length = 9 := by rw [hmB, frameT_length]; rfl
  have hE : makeE [((q : Int), false)] = 0 := by unfold makeE; rw [if_pos (may_one q hq8)]
  obtain ⟨A3, c3, e3, _, _, hV, _⟩ := Vals.own hO
  injection e3 with e31 e32 e33
  subst e31
  rw [hmL, hmB] at hV
  rw [hmL, hE]
  exact ⟨A9, c9, rfl, hV, hB⟩
set_option maxHeartbeats 1000000 in
theorem bytes_any (n : Nat) (ns : List Nat) (g : Option Addr) (w : World) (hv : Vals w g n ns) (hb : Bytes ns) (hn : n ≤ 100) :
    Calls Try.prog 19 #[.slice g n n] w fun e w' => ∃ A c, e = .returned (.slice A (9 * n) c) ∧ 9 * n ≤ c ∧ c ≤ 9223372036854775807 ∧ Vals w' A (9 * n) (framesB ns) ∧ Below w.heap.size w w' := by
  have hlen := hv.len_
  have hInfo : (Try.prog.info? 5).map (fun i => (i.zero, i.size, i.bytes)) = some (some (.int .u8 0), 1, 1) := by kernel_rfl
  have HInfo := Lib.hid hInfo
  clear hInfo
  go_enter Try.func19, Try.ntmps19
  go_wp2
  go_loopw [3, 10] (fun v i wr => ∃ (j m : Nat), j ≤ n ∧ m = 9 * j ∧ i = .int .i64 (j : Nat) ∧ wr.ownsRow w.heap.size 5 1 v m (vals (framesB (ns.take j))) ∧ Below w.heap.size w wr) (fun _ i _ => n - (intOf i).toNat)
  case atStart => exact ⟨0, 0, by omega, rfl, rfl, own_none _ _ _, Below.refl _ _⟩
  case round =>
    obtain ⟨j, m, hj, hm, rfl, hO, hB⟩ := hrel
    have HM := Lib.hid hm
    by_cases hjn : j < n
    · obtain ⟨x, rfl, hx⟩ := (hv.below hB).cells (by omega)
      have hc := hx j hjn
      have hq8 := hb.at_ j
      have hst : framesB (ns.take (j + 1)) = framesB (ns.take j) ++ frameT (ns.getD j 0) [((ns.getD j 0 : Nat), false)] := by
        rw [take_step ns 0 j (by omega)]
        unfold framesB
        rw [List.flatMap_append]
        simp
      obtain ⟨q, hqe⟩ : ∃ q, ns.getD j 0 = q := ⟨_, rfl⟩
      rw [hqe] at hc hq8 hst
      have HST := Lib.hid hst
      have hvs : Row.Vals sampS (wr.alloc (.cells #[.int .i32 (q : Nat), .bool false] 49)) (some ⟨wr.heap.size, 0, none⟩) 1 [((q : Int), false)] := Row.Vals.has (S := sampS) (ys := [((q : Int), false)]) (tl := []) (Has.new _ _ _)
      have hmk := make_one q hq8 (some ⟨wr.heap.size, 0, none⟩) 1 _ hvs
      have hB0 := hB.alloc hB.size (.cells #[.int .i32 (q : Nat), .bool false] 49)
      have hO0 := own_kept hO ((Kept.refl [] wr).alloc (.cells #[.int .i32 (q : Nat), .bool false] 49)) (by simp)
      have hq32 : IntKind.i32.wrap (q : Int) = (q : Int) := by rw [IntKind.wrap_i32]; omega
      have hm9 : m + 9 ≤ 1048576 := by omega
      generalize frameT q [((q : Int), false)] = F at *
      clear hst hqe hx hm
      go_wp2_with (first
        | (go_at_call 18; ((with_reducible refine hmk.mono ?_); rintro e W1 ⟨A2, c2, rfl, hV2, hB2⟩; have hO1 := own_kept hO0 (Kept.of_below (S := []) hB2) (by simp); have hB1 := hB0.trans (hB2.mono hB0.size)))
        | (at_builtin; refine wpList_append_vals rfl (.tmp 23) (.tmp 24) _ rfl w.heap.size 5 1 (by omega) Try.underlying22 HInfo.out u3 m (framesB (ns.take j)) rfl (by exact hO1) A2 9 c2 F rfl (by exact hV2) (by exact hm9) (by exact hB1.size) ?_; intro v5 W5 hO5 hg5 hat5; have hK5 := Kept.of_grown hg5; have hB5 := below_kept hB1 hK5 hB1.size (own_in hO1)))
      go_roundw
      case rel => exact ⟨j + 1, m + 9, by omega, by have := HM.out; omega, by go_num, by rw [HST.out]; exact hO5, hB5⟩
      case measure => simp [intOf]; omega
    · have hjn2 : j = n := by omega
      subst hjn2
      rw [List.take_of_length_le (by omega)] at hO
      obtain ⟨A1, c1, rfl, e1, e2, hV1, _⟩ := Vals.own hO
      clear hm
      go_wp2
      go_ret
      exact ⟨A1, c1, by rw [HM.out]; rfl, by have := HM.out; omega, e2, by rw [← HM.out]; exact hV1, hB⟩
def exEvents : List Ev := [(2, 0, (1, false)), (1, 1, (0, false)), (2, 1, (4, false))]
theorem ex_walk : walkP 0 (framesB [1, 3, 4]) = [⟨0, 1, [(1, false)]⟩, ⟨9, 3, [(3, false)]⟩, ⟨18, 4, [(4, false)]⟩] ∧ endP 0 (framesB [1, 3, 4]) = 27 := by
  have e : framesB [1, 3, 4] = frameT 1 [((1 : Int), false)] ++ (frameT 3 [((3 : Int), false)] ++ (frameT 4 [((4 : Int), false)] ++ [])) := by rfl
  obtain ⟨a1, a2⟩ := walk_frame 0 1 [((1 : Int), false)] (may_one 1 (by omega)) (frameT 3 [((3 : Int), false)] ++ (frameT 4 [((4 : Int), false)] ++ []))
  obtain ⟨b1, b2⟩ := walk_frame 9 3 [((3 : Int), false)] (may_one 3 (by omega)) (frameT 4 [((4 : Int), false)] ++ [])
  obtain ⟨c1, c2⟩ := walk_frame 18 4 [((4 : Int), false)] (may_one 4 (by omega)) []
  obtain ⟨d1, d2⟩ := walk_end 27 look_nil
  rw [e, a1, a2]
  rw [show 0 + (6 + 3 * [((1 : Int), false)].length) = 9 from rfl, b1, b2, show 9 + (6 + 3 * [((3 : Int), false)].length) = 18 from rfl, c1, c2, show 18 + (6 + 3 * [((4 : Int), false)].length) = 27 from rfl, d1, d2]
  exact ⟨rfl, rfl⟩
theorem ex_events : eventsT (framesB [1, 3, 4]) = exEvents ∧ endT (framesB [1, 3, 4]) = 27 := by
  refine ⟨?_, ex_walk.2⟩
  unfold eventsT
  rw [ex_walk.1]
  decide
theorem frameT_bytes (q : Nat) (hq : q < 256) (l : List Samp) (hl : l.length < 256) : Bytes (frameT q l) := by
  intro y hy
  rcases List.mem_append.1 (show y ∈ [165, 90] ++ Crc.sealZ (bodyT q l) from hy) with h | h
  · simp at h; omega
  · exact Crc.seal_bytes (bodyT_bytes hq (by omega)) y h
theorem framesB_bytes (ns : List Nat) (h : Bytes ns) : Bytes (framesB ns) := by
  intro y hy
  obtain ⟨q, hq, hy⟩ := List.mem_flatMap.1 hy
  exact frameT_bytes q (h q hq) _ (by simp) y hy
theorem live_events (A : Option Addr) (c : Nat) (W : World) (hv : Vals W A 27 (framesB [1, 3, 4])) (h1 : 27 ≤ c) (h2 : c ≤ 9223372036854775807) : Calls Try.prog 13 #[.slice A 27 c] W fun e w' => ∃ A c, e = .returned (.tuple #[.slice A 3 c, .int .i64 27]) ∧ Row.Vals evSh w' A 3 exEvents ∧ Below W.heap.size W w' := by
  refine (events_any A 27 c _ W hv (framesB_bytes _ (by intro y hy; simp at hy; omega)) (by omega) h1 h2).mono ?_
  rintro e w' ⟨A1, n1, c1, rfl, g1, g2, g3, hV, _, hB⟩
  rw [ex_events.1] at hV
  obtain rfl : n1 = 3 := hV.len_.symm
  rw [ex_events.2]
  exact ⟨A1, c1, rfl, hV, hB⟩
theorem live_row (W : World) : Row.Vals evSh (W.alloc (.cells #[.int .i64 2, .int .i64 0, .int .i32 1, .bool false, .int .i64 1, .int .i64 1, .int .i32 0, .bool false, .int .i64 2, .int .i64 1, .int .i32 4, .bool false] 51)) (some ⟨W.heap.size, 0, none⟩) 3 exEvents :=
  Row.Vals.has (S := evSh) (ys := exEvents) (tl := []) (Has.new _ _ _)
theorem live_ok (w : World) : Calls Try.prog 8 #[] w fun e w' => e = .returned (.bool true) ∧ Below w.heap.size w w' := by
  have hv0 : Vals (w.alloc (.cells #[.int .u8 1, .int .u8 3, .int .u8 4] 5)) (some ⟨w.heap.size, 0, none⟩) 3 [1, 3, 4] := Vals.has (ys := [1, 3, 4]) (tl := []) (Has.new w _ _)
  have hB0 := (Below.refl w.heap.size w).alloc (Nat.le_refl _) (.cells #[.int .u8 1, .int .u8 3, .int .u8 4] 5)
  have hby := bytes_any 3 [1, 3, 4] _ _ hv0 (by intro y hy; simp at hy; omega) (by omega)
  go_enter Try.func8, Try.ntmps8
  go_wp2_with (first
    | (go_at_call 19; ((with_reducible refine hby.mono ?_); rintro e W1 ⟨A1, c1, rfl, e1, e2, hV1, hB1⟩; have hB1' := hB0.trans (hB1.mono hB0.size)))
    | (go_at_call 13; ((with_reducible refine (live_events A1 c1 _ hV1 e1 e2).mono ?_); rintro e W2 ⟨A2, c2, rfl, hV2, hB2⟩; have hB2' := hB1'.trans (hB2.mono hB1'.size); have hB3' := hB2'.alloc hB2'.size (.cells #[.int .i64 2, .int .i64 0, .int .i32 1, .bool false, .int .i64 1, .int .i64 1, .int .i32 0, .bool false, .int .i64 2, .int .i64 1, .int .i32 4, .bool false] 51); have hu3 := live_row W2; have hs3 := refsame_any A2 3 c2 exEvents _ 3 3 exEvents _ (hV2.alloc _) hu3 (by omega) (by omega)))
    | (go_at_call 15; ((with_reducible refine hs3.mono ?_); rintro e W3 ⟨rfl, z, rfl⟩)))
  go_ret
  exact ⟨rfl, below_drewN hB3' z⟩
end Go.Proofs.Ytlhjligeigkbnaa.Par
