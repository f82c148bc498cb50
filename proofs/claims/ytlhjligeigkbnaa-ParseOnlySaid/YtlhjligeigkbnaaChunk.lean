/- slices.Chunk of bytes, three at a time, as an iterator: what it hands to the loop that ranges over it. -/
import Derived.Test.YtlhjligeigkbnaaRound
import Derived.Test.YtlhjligeigkbnaaArgsB
import Derived.Lib.Hide
set_option linter.unusedSimpArgs false
set_option linter.unusedVariables false
namespace Go.Proofs.Ytlhjligeigkbnaa.Chunk
open Go.RowKit Go.Shelf RU8

attribute [local go_sem] Oper.semAt_some

/-- How many chunks there are; how long the one with this number is. -/
def chunks (len : Nat) : Nat := (len + 2) / 3
def size (len k : Nat) : Nat := min 3 (len - 3 * k)
/-- The chunk with this number, as a slice. -/
def chunk (A : Option Addr) (len k : Nat) : Value := .slice (A.map (·.add (3 * k))) (size len k) (size len k)
def upto (K k : Nat) (hk : k ≤ K) : List (Fin K) := (List.finRange K).take k
theorem upto_length {K k : Nat} (hk : k ≤ K) : (upto K k hk).length = k := by simp [upto]; omega
theorem upto_succ {K k : Nat} (hk : k < K) (y : Fin K) (hy : y.1 = k) : upto K (k + 1) (by omega) = upto K k (by omega) ++ [y] := by
  obtain rfl : y = ⟨k, hk⟩ := Fin.ext hy
  unfold upto
  rw [List.take_succ_eq_append_getElem (by simpa using hk)]
  simp
set_option maxRecDepth 100000 in
set_option maxHeartbeats 2000000 in
theorem chunk1_in (n : Nat) (hn : 1 ≤ n) (l Bs Bn n₀ : Nat) (S : List Nat) (x : Addr) (len cap : Nat) (hlc : len ≤ cap) (hbig : cap ≤ 9223372036854775807) (hl : len ≤ 1000000) (hs1 : Bs < n₀) (hs2 : Bs ∉ S) (hn1 : Bn < n₀) (hn2 : Bn ∉ S) (J Jx : List (Fin (chunks len)) → World → Prop)
    (hJ : ∀ s W W', J s W → W'.heap = W.heap → W'.os = W.os → W'.tape = W.tape → W'.output = W.output → J s W')
    (hY : ∀ pre y W, J pre W → pre.length < chunks len → YieldAt Fence.wide (n - 1) Try.prog l #[chunk (some x) len y.1] W fun e W' =>
      (e = .returned (.bool true) ∧ J (pre ++ [y]) W' ∧ KeptTo n₀ S W W') ∨ (e = .returned (.bool false) ∧ Jx (pre ++ [y]) W'))
    (W : World) (hBs : W.cell? ⟨Bs, 0, none⟩ = some (.slice (some x) len cap)) (hBn : W.cell? ⟨Bn, 0, none⟩ = some (.int .i64 3)) (h0 : J [] W) :
    CallsIn Fence.wide n Try.prog 40 #[.func (.yield l) #[] #[], .pointer (some ⟨Bs, 0, none⟩), .pointer (some ⟨Bn, 0, none⟩)] W fun e W' => (∃ v, e = .returned v) ∧
      (J (List.finRange (chunks len)) W' ∨ (∃ pre, Jx pre W')) := by
  refine callsIn_of_wp Try.func40 rfl trivial ?_ rfl
  simp only [Try.ntmps40, List.size_toArray, List.length_cons, List.length_nil, Nat.reduceAdd, Nat.reduceSub, Array.replicate_succ, Array.replicate_zero, List.push_toArray, List.append_toArray, List.nil_append, List.cons_append]
  gi_wp2
  gi_loopw [4] (fun i wr => ∃ (k j : Nat), ∃ hk : k ≤ chunks len, j = 3 * k ∧ i = .int .i64 j ∧ J (upto (chunks len) k hk) wr ∧ KeptTo n₀ S W wr)
    (fun i _ => len + 3 - (intOf i).toNat)
  case atStart => exact ⟨0, 0, Nat.zero_le _, rfl, rfl, h0, KeptTo.refl _ _ _⟩
  case round =>
    obtain ⟨k, j, hk, hj, rfl, hJs, hnx⟩ := hrel
    have hcs := (hnx.cell (p := ⟨Bs, 0, none⟩) hs1 hs2).trans hBs
    have hcn := (hnx.cell (p := ⟨Bn, 0, none⟩) hn1 hn2).trans hBn
    by_cases hlt : k < chunks len
    · have hjl : j < len := by unfold chunks at hlt; omega
      obtain ⟨y0, hyk⟩ : ∃ y0 : Fin (chunks len), y0.1 = k := ⟨⟨k, hlt⟩, rfl⟩
      obtain ⟨fn, tmps, assign, body, hy, hR⟩ := hY _ y0 wr.drew (hJ _ _ _ hJs rfl rfl rfl rfl) (by rw [upto_length]; exact hlt)
      unfold chunk at hy
      rw [hyk, ← hj, Option.map_some] at hy
      obtain ⟨m, hm⟩ : ∃ m, len - j = m := ⟨_, rfl⟩
      obtain ⟨e, he⟩ : ∃ e, size len k = e := ⟨_, rfl⟩
      have he3 : (m < 3 → e = m) ∧ (3 ≤ m → e = 3) ∧ m ≤ 1000000 ∧ 0 < m := by unfold size at he; omega
      rw [he] at hy
      obtain ⟨q, hq⟩ : ∃ q, j + e = q := ⟨_, rfl⟩
      have hje : (j : Int) + (e : Int) = (q : Int) := by omega
      have hcj : ¬ cap = j := by omega
      obtain ⟨j3, hj3n⟩ : ∃ j3, j + 3 = j3 := ⟨_, rfl⟩
      have hj3 : (j : Int) + 3 = (j3 : Int) := by omega
      have hb2 : j ≤ len ∧ q ≤ cap ∧ j ≤ q ∧ q ≤ len ∧ j3 ≤ 1000003 := by unfold size at he; omega
      have hqe : q - j = e := by omega
      have HJ3 := Lib.hid hj3n
      have HJ := Lib.hid hj
      have HK := Lib.hid hlt
      have HYK := Lib.hid hyk
      rcases Nat.lt_or_ge m 3 with h3 | h3
      · obtain rfl : e = m := he3.1 h3
        have hmin : (e : Int) < 3 := by omega
        clear hj he he3 hq hj3n hyk hlt h3
        gi_wp2
        refine Reg.beginW Reg.wide_plain (S := fun W => W.cell? ⟨Bs, 0, none⟩ = some (.slice (some x) len cap) ∧ W.cell? ⟨Bn, 0, none⟩ = some (.int .i64 3)) (by kernel_rfl) (by kernel_rfl) ⟨hcs, hcn⟩ (fun hHeld => ?_)
        refine Reg.take (i := 0) (v := ?v1) rfl (by kernel_rfl) (by kernel_rfl) (by kernel_rfl) (by rfl) ?hv1 (by assumption) ?rest1
        case hv1 => first | (intro w hSw; (try dsimp only at hSw); go_simp; done) | (intro w hSw; (try dsimp only at hSw); go_simp; with_reducible rfl)
        (try simp only [Act.put, List.setIfInBounds_toArray, List.set_cons_zero, List.set_cons_succ])
        refine Reg.take (i := 1) (v := ?v2) rfl (by kernel_rfl) (by kernel_rfl) (by kernel_rfl) (by rfl) ?hv2 (by assumption) ?rest2
        case hv2 => first | (intro w hSw; (try dsimp only at hSw); go_simp; done) | (intro w hSw; (try dsimp only at hSw); go_simp; with_reducible rfl)
        (try simp only [Act.put, List.setIfInBounds_toArray, List.set_cons_zero, List.set_cons_succ])
        refine Reg.take (i := 2) (v := ?v3) rfl (by kernel_rfl) (by kernel_rfl) (by kernel_rfl) (by rfl) ?hv3 (by assumption) ?rest3
        case hv3 => first | (intro w hSw; (try dsimp only at hSw); go_simp; done) | (intro w hSw; (try dsimp only at hSw); go_simp; with_reducible rfl)
        (try simp only [Act.put, List.setIfInBounds_toArray, List.set_cons_zero, List.set_cons_succ])
        refine Reg.take (i := 3) (v := ?v4) rfl (by kernel_rfl) (by kernel_rfl) (by kernel_rfl) (by rfl) ?hv4 (by assumption) ?rest4
        case hv4 => first | (intro w hSw; (try dsimp only at hSw); go_simp; done) | (intro w hSw; (try dsimp only at hSw); go_simp; with_reducible rfl)
        (try simp only [Act.put, List.setIfInBounds_toArray, List.set_cons_zero, List.set_cons_succ])
        refine Reg.take (i := 4) (v := ?v5) rfl (by kernel_rfl) (by kernel_rfl) (by kernel_rfl) (by rfl) ?hv5 (by assumption) ?rest5
        case hv5 => first | (intro w hSw; (try dsimp only at hSw); go_simp; done) | (intro w hSw; (try dsimp only at hSw); go_simp; with_reducible rfl)
        (try simp only [Act.put, List.setIfInBounds_toArray, List.set_cons_zero, List.set_cons_succ])
        refine Reg.take (i := 5) (v := ?v6) rfl (by kernel_rfl) (by kernel_rfl) (by kernel_rfl) (by rfl) ?hv6 (by assumption) ?rest6
        case hv6 => first | (intro w hSw; (try dsimp only at hSw); go_simp; done) | (intro w hSw; (try dsimp only at hSw); go_simp; with_reducible rfl)
        (try simp only [Act.put, List.setIfInBounds_toArray, List.set_cons_zero, List.set_cons_succ])
        refine Reg.take (i := 6) (v := ?v7) rfl (by kernel_rfl) (by kernel_rfl) (by kernel_rfl) (by rfl) ?hv7 (by assumption) ?rest7
        case hv7 => first | (intro w hSw; (try dsimp only at hSw); go_simp; done) | (intro w hSw; (try dsimp only at hSw); go_simp; with_reducible rfl)
        (try simp only [Act.put, List.setIfInBounds_toArray, List.set_cons_zero, List.set_cons_succ])
        refine Reg.doneW (by kernel_rfl) ?_ _
        all_goals gi_wp2
        all_goals (refine hR.mono ?_; rintro e9 W3 (⟨rfl, hJ3, hk3⟩ | ⟨rfl, hJx3⟩))
        all_goals try have hcn3 : W3.cell? ⟨Bn, 0, none⟩ = some (.int .i64 3) := (hk3.cell (p := ⟨Bn, 0, none⟩) hn1 hn2).trans hcn
        all_goals gi_wp2
        all_goals first
          | (go_roundw
             case rel => exact ⟨k + 1, j3, HK.out, by have := HJ.out; have := HJ3.out; omega, by first | rfl | go_num, by rw [upto_succ HK.out y0 HYK.out]; exact hJ3, hnx.trans ((KeptTo.refl _ _ _).trans (KeptTo.drew_ hk3))⟩
             case measure => (have := HJ3.out; simp [intOf]; omega))
          | (refine bodyPost_ret (results_none rfl _ _ _) rfl ?_
             exact ⟨⟨_, rfl⟩, .inr ⟨_, hJx3⟩⟩)
      · obtain rfl : e = 3 := he3.2.1 h3
        have hmin : ¬ (m : Int) < 3 := by omega
        clear hj he he3 hq hyk hlt h3 hje
        obtain rfl : j3 = q := by omega
        gi_wp2
        refine Reg.beginW Reg.wide_plain (S := fun W => W.cell? ⟨Bs, 0, none⟩ = some (.slice (some x) len cap) ∧ W.cell? ⟨Bn, 0, none⟩ = some (.int .i64 3)) (by kernel_rfl) (by kernel_rfl) ⟨hcs, hcn⟩ (fun hHeld => ?_)
        refine Reg.take (i := 0) (v := ?v8) rfl (by kernel_rfl) (by kernel_rfl) (by kernel_rfl) (by rfl) ?hv8 (by assumption) ?rest8
        case hv8 => first | (intro w hSw; (try dsimp only at hSw); go_simp; done) | (intro w hSw; (try dsimp only at hSw); go_simp; with_reducible rfl)
        (try simp only [Act.put, List.setIfInBounds_toArray, List.set_cons_zero, List.set_cons_succ])
        refine Reg.take (i := 1) (v := ?v9) rfl (by kernel_rfl) (by kernel_rfl) (by kernel_rfl) (by rfl) ?hv9 (by assumption) ?rest9
        case hv9 => first | (intro w hSw; (try dsimp only at hSw); go_simp; done) | (intro w hSw; (try dsimp only at hSw); go_simp; with_reducible rfl)
        (try simp only [Act.put, List.setIfInBounds_toArray, List.set_cons_zero, List.set_cons_succ])
        refine Reg.take (i := 2) (v := ?v10) rfl (by kernel_rfl) (by kernel_rfl) (by kernel_rfl) (by rfl) ?hv10 (by assumption) ?rest10
        case hv10 => first | (intro w hSw; (try dsimp only at hSw); go_simp; done) | (intro w hSw; (try dsimp only at hSw); go_simp; with_reducible rfl)
        (try simp only [Act.put, List.setIfInBounds_toArray, List.set_cons_zero, List.set_cons_succ])
        refine Reg.take (i := 3) (v := ?v11) rfl (by kernel_rfl) (by kernel_rfl) (by kernel_rfl) (by rfl) ?hv11 (by assumption) ?rest11
        case hv11 => first | (intro w hSw; (try dsimp only at hSw); go_simp; done) | (intro w hSw; (try dsimp only at hSw); go_simp; with_reducible rfl)
        (try simp only [Act.put, List.setIfInBounds_toArray, List.set_cons_zero, List.set_cons_succ])
        refine Reg.take (i := 4) (v := ?v12) rfl (by kernel_rfl) (by kernel_rfl) (by kernel_rfl) (by rfl) ?hv12 (by assumption) ?rest12
        case hv12 => first | (intro w hSw; (try dsimp only at hSw); go_simp; done) | (intro w hSw; (try dsimp only at hSw); go_simp; with_reducible rfl)
        (try simp only [Act.put, List.setIfInBounds_toArray, List.set_cons_zero, List.set_cons_succ])
        refine Reg.take (i := 5) (v := ?v13) rfl (by kernel_rfl) (by kernel_rfl) (by kernel_rfl) (by rfl) ?hv13 (by assumption) ?rest13
        case hv13 => first | (intro w hSw; (try dsimp only at hSw); go_simp; done) | (intro w hSw; (try dsimp only at hSw); go_simp; with_reducible rfl)
        (try simp only [Act.put, List.setIfInBounds_toArray, List.set_cons_zero, List.set_cons_succ])
        refine Reg.take (i := 6) (v := ?v14) rfl (by kernel_rfl) (by kernel_rfl) (by kernel_rfl) (by rfl) ?hv14 (by assumption) ?rest14
        case hv14 => first | (intro w hSw; (try dsimp only at hSw); go_simp; done) | (intro w hSw; (try dsimp only at hSw); go_simp; with_reducible rfl)
        (try simp only [Act.put, List.setIfInBounds_toArray, List.set_cons_zero, List.set_cons_succ])
        refine Reg.doneW (by kernel_rfl) ?_ _
        all_goals gi_wp2
        all_goals (refine hR.mono ?_; rintro e9 W3 (⟨rfl, hJ3, hk3⟩ | ⟨rfl, hJx3⟩))
        all_goals try have hcn3 : W3.cell? ⟨Bn, 0, none⟩ = some (.int .i64 3) := (hk3.cell (p := ⟨Bn, 0, none⟩) hn1 hn2).trans hcn
        all_goals gi_wp2
        all_goals first
          | (go_roundw
             case rel => exact ⟨k + 1, j3, HK.out, by have := HJ.out; have := HJ3.out; omega, by first | rfl | go_num, by rw [upto_succ HK.out y0 HYK.out]; exact hJ3, hnx.trans ((KeptTo.refl _ _ _).trans (KeptTo.drew_ hk3))⟩
             case measure => (have := HJ3.out; simp [intOf]; omega))
          | (refine bodyPost_ret (results_none rfl _ _ _) rfl ?_
             exact ⟨⟨_, rfl⟩, .inr ⟨_, hJx3⟩⟩)
    · have hz : ¬ (j : Int) < (len : Int) := by unfold chunks at hlt; omega
      have hkk : k = chunks len := by omega
      have HJ := Lib.hid hj
      clear hj hlt
      have hup : upto (chunks len) k hk = List.finRange (chunks len) := by unfold upto; rw [List.take_of_length_le (by simp; omega)]
      rw [hup] at hJs
      gi_wp2
      go_end0
      exact ⟨⟨_, rfl⟩, .inl hJs⟩
set_option maxRecDepth 100000 in
set_option maxHeartbeats 1000000 in
/-- .. of no bytes: no round. -/
theorem chunk0_in (n : Nat) (l Bs Bn : Nat) (A : Option Addr) (cap : Nat) (J : World → Prop) (W : World) (hBs : W.cell? ⟨Bs, 0, none⟩ = some (.slice A 0 cap)) (h0 : J W) :
    CallsIn Fence.wide n Try.prog 40 #[.func (.yield l) #[] #[], .pointer (some ⟨Bs, 0, none⟩), .pointer (some ⟨Bn, 0, none⟩)] W fun e W' => (∃ v, e = .returned v) ∧ J W' := by
  refine callsIn_of_wp Try.func40 rfl trivial ?_ rfl
  simp only [Try.ntmps40, List.size_toArray, List.length_cons, List.length_nil, Nat.reduceAdd, Nat.reduceSub, Array.replicate_succ, Array.replicate_zero, List.push_toArray, List.append_toArray, List.nil_append, List.cons_append]
  gi_wp2
  gi_loopw [4] (fun i wr => i = .int .i64 0 ∧ wr.cell? ⟨Bs, 0, none⟩ = some (.slice A 0 cap) ∧ J wr) (fun _ _ => 0)
  case atStart => exact ⟨rfl, hBs, h0⟩
  case round =>
    obtain ⟨rfl, hc, hJs⟩ := hrel
    gi_wp2
    go_end0
    exact ⟨⟨_, rfl⟩, hJs⟩
set_option maxHeartbeats 1000000 in
/-- slices.Chunk(s, 3): s and 3 are boxed; the function value captures both. -/
theorem chunk_in (n : Nat) (A : Option Addr) (len cap : Nat) (w : World) :
    CallsIn Fence.wide n Try.prog 37 #[.slice A len cap, .int .i64 3] w fun e w' => e = .returned (.func (.func 40) #[] #[.pointer (some ⟨w.heap.size, 0, none⟩), .pointer (some ⟨w.heap.size + 1, 0, none⟩)]) ∧
      w' = (w.alloc (.cells #[.slice A len cap] 22)).alloc (.cells #[.int .i64 3] 3) := by
  refine callsIn_of_wp Try.func37 rfl trivial ?_ rfl
  simp only [Try.ntmps37, List.size_toArray, List.length_cons, List.length_nil, Nat.reduceAdd, Nat.reduceSub, Array.replicate_succ, Array.replicate_zero, List.push_toArray, List.append_toArray, List.nil_append, List.cons_append]
  gi_wp2
  go_ret
  exact ⟨rfl, rfl⟩
/-- What it hands to the loop that ranges over it: each chunk, in order; or a round has said 'no more'. -/
theorem chunk_stops (n : Nat) (hn : 1 ≤ n) (Bs Bn n₀ : Nat) (S : List Nat) (A : Option Addr) (len cap : Nat) (hA : 0 < len → ∃ x, A = some x) (hlc : len ≤ cap) (hbig : cap ≤ 9223372036854775807) (hl : len ≤ 1000000) (w : World) (hs1 : Bs < n₀) (hs2 : Bs ∉ S) (hn1 : Bn < n₀) (hn2 : Bn ∉ S)
    (hs3 : Bs < w.heap.size) (hn3 : Bn < w.heap.size) (hBs : w.cell? ⟨Bs, 0, none⟩ = some (.slice A len cap)) (hBn : w.cell? ⟨Bn, 0, none⟩ = some (.int .i64 3)) :
    SeqStopsK Fence.wide n Try.prog 40 #[.pointer (some ⟨Bs, 0, none⟩), .pointer (some ⟨Bn, 0, none⟩)] (fun k : Fin (chunks len) => #[chunk A len k.1]) (KeptTo n₀ S) (fun ys => ys = List.finRange (chunks len)) (fun _ => True) (chunks len) w := fun l J Jx W hW hJ hJx hY h0 => by
  have hc1 := (hW.cell (p := ⟨Bs, 0, none⟩) hs3).trans hBs
  have hc2 := (hW.cell (p := ⟨Bn, 0, none⟩) hn3).trans hBn
  rcases Nat.eq_zero_or_pos len with rfl | hpos
  · exact (chunk0_in n l Bs Bn A cap (J []) W hc1 h0).mono fun e W' ⟨he, hj⟩ => ⟨he, .inl ⟨_, rfl, hj⟩⟩
  · obtain ⟨x, rfl⟩ := hA hpos
    refine (chunk1_in n hn l Bs Bn n₀ S x len cap hlc hbig hl hs1 hs2 hn1 hn2 J Jx (fun s W1 W2 hj e1 e2 e3 e4 => hJ s W1 W2 none hj ⟨e2, e3, e4, by rw [e1]; exact Nat.le_refl _, fun k _ _ => by rw [e1]⟩ (fun r e => by cases e)) hY W hc1 hc2 h0).mono ?_
    rintro e W' ⟨he, hj | ⟨pre, hj⟩⟩
    · exact ⟨he, .inl ⟨_, rfl, hj⟩⟩
    · exact ⟨he, .inr ⟨pre, trivial, hj⟩⟩
end Go.Proofs.Ytlhjligeigkbnaa.Chunk
