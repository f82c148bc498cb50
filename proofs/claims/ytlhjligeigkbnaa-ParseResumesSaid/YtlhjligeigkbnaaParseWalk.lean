/- parse's walk, which hands each frame to a function that it is given. -/
import Derived.Test.YtlhjligeigkbnaaParseIs
import Derived.Test.YtlhjligeigkbnaaFrameLookCode
import Derived.Shelf.Abstract
import Derived.WalkMore
set_option linter.unusedSimpArgs false
set_option linter.unusedVariables false
namespace Go.Proofs.Ytlhjligeigkbnaa.Par
open Go.RowKit RU8 Frm
theorem vals_kept {w w' : World} {T : List Nat} {a : Option Addr} {len : Nat} {ys : List Nat} (h : Vals w a len ys) (hb : Kept T w w') (h1 : 0 < len → ∀ x, a = some x → x.block ∉ T) : Vals w' a len ys :=
  ⟨h.len_, fun h0 => by
    obtain ⟨x, hx, hc⟩ := h.cells h0
    refine ⟨x, hx, fun j hj => ?_⟩
    rw [← hc j hj]
    have hl := World.block_lt_of_cell? _ _ (hc 0 h0)
    rw [block_add] at hl
    exact hb.cell (by rw [block_add]; exact hl) (by rw [block_add]; exact h1 h0 x hx)⟩
/-- What the function that is handed over does at the frame with this number. -/
def Takes (f : FuncId) (caps : Array Value) (go : Bool) (ps : List Place) (J : Nat → World → Prop) : Prop :=
  ∀ (k : Nat) (W0 W : World) (q : Ptr), k < ps.length → J k W0 → Below W0.heap.size W0 W → Row.Vals sampS W q.A q.n (ps.getD k noPlace).l → q.n ≤ q.c → q.c ≤ 9223372036854775807 → q.n ≤ 32 → (∀ x, q.A = some x → W0.heap.size ≤ x.block) →
    Calls Try.prog f (#[.int .i64 ((ps.getD k noPlace).at_ : Nat), .int .i64 ((ps.getD k noPlace).end_ : Nat), .agg #[.int .u8 ((ps.getD k noPlace).seq : Nat), .slice q.A q.n q.c]] ++ caps) W fun e W' => e = .returned (.bool go) ∧ J (k + 1) W'
/-- What a walk has done: it has handed on so many frames, and ended there. -/
def Walked (go : Bool) (ps : List Place) (E : Nat) (J : Nat → World → Prop) (e : Ending) (w' : World) : Prop :=
  ∃ k z : Nat, e = .returned (.int .i64 (z : Nat)) ∧ J k w' ∧ (go = true → k = ps.length ∧ z = E) ∧ (go = false → k = min 1 ps.length)
theorem place_at {b : List Nat} {k : Nat} {d : Bool} {ps : List Place} (h : Walking b k d ps) (h0 : lookE (b.drop k) = 0) : ps.length < (walkP 0 b).length ∧ (walkP 0 b).getD ps.length noPlace = ⟨k, lookSeq (b.drop k), lookL (b.drop k)⟩ := by
  rw [h.walk, (walk_good k h0).1]
  exact ⟨by simp, by simp⟩
set_option maxHeartbeats 1000000 in
theorem walk_any (f : FuncId) (he : Enters Try.prog f) (caps : Array Value) (go : Bool) (S : List Nat) (J : Nat → World → Prop) (A : Option Addr) (n c : Nat) (b : List Nat) (w : World) (hv : Vals w A n b) (hb : Bytes b) (hn : n ≤ 2000) (hc : n ≤ c) (hc2 : c ≤ 9223372036854775807)
    (hS : 0 < n → ∀ x, A = some x → x.block ∉ S) (hJS : ∀ k W, J k W → Kept S w W) (hJB : ∀ k W W', J k W → Below W.heap.size W W' → J k W') (hf : Takes f caps go (walkP 0 b) J) (h0 : J 0 w) :
    Calls Try.prog 20 #[.slice A n c, .func (.func f) #[] caps] w (Walked go (walkP 0 b) (endT b) J) := by
  have hlen := hv.len_
  have HS := Lib.hid (walking_start b)
  have he2 : ∀ (args : Array Value) (W : World), (callFunc f args).run Try.prog W = .ok (.enter f args) W := he
  go_enter Try.func20, Try.ntmps20
  go_wp2
  go_step3
  go_wp2
  go_step3
  go_wp2
  go_loopw [5] (fun i wr => ∃ (k : Nat) (dd : Bool) (ps : List Place), i = .int .i64 (k : Nat) ∧ Walking b k dd ps ∧ J ps.length wr ∧ (go = false → ps = [])) (fun i _ => n - (intOf i).toNat)
  case atStart => exact ⟨0, false, [], rfl, HS.out, h0, fun _ => rfl⟩
  case round =>
    obtain ⟨k, dd, ps, rfl, hW, hJ, hps⟩ := hrel
    have hk := hW.le
    rw [hlen] at hk
    have HW := Lib.hid hW
    clear hW
    by_cases hkn : k < n
    · obtain ⟨x, rfl, _⟩ := hv.cells (by omega)
      have hlk := look_any (some (x.add k)) (n - k) (c - k) (b.drop k) wr ((vals_kept hv (hJS _ _ hJ) hS).drop k (by omega)) (bytes_drop hb k) (by omega) (by omega) (by omega)
      unfold LookIs at hlk
      have HB' := Lib.hid (bytes_drop hb k)
      have HL1 := Lib.hid hkn
      by_cases h6 : lookE (b.drop k) = 6
      · obtain ⟨hz1, hz2⟩ := walking_end HW.out h6
        rw [h6] at hlk
        have HZ := Lib.hid (show walkP 0 b = ps ∧ endT b = k from ⟨hz1, hz2⟩)
        generalize lookSeq (b.drop k) = q at hlk
        generalize lookL (b.drop k) = ls at hlk
        generalize lookN (b.drop k) = N at hlk
        clear h6 hz1 hz2 hf hv hb
        go_wp2_with (go_at_call 26; ((with_reducible refine hlk.mono ?_); rintro e W1 ⟨A9, m9, c9, rfl, g1, g2, g3, g4, g5, hB1⟩; have hB2 := hB1.alloc hB1.size (.cells #[.int .u8 (q : Nat), .slice A9 m9 c9] 34)))
        go_ret
        exact ⟨ps.length, k, rfl, hJB _ _ _ hJ hB2, fun _ => ⟨by rw [HZ.out.1], HZ.out.2.symm⟩, fun h => by rw [HZ.out.1, hps h]; rfl⟩
      · by_cases h0 : lookE (b.drop k) = 0
        · obtain ⟨hW2, hNb⟩ := walking_good hb HW.out h0
          obtain ⟨s1, s2, s3, s4, s5⟩ := look_size HB'.out h0
          obtain ⟨p1, p2⟩ := place_at HW.out h0
          have hff := hf ps.length wr
          rw [p2] at hff
          rw [List.length_drop, hlen] at s2
          have hend : (⟨k, lookSeq (b.drop k), lookL (b.drop k)⟩ : Place).end_ = k + lookN (b.drop k) := by unfold Place.end_; rw [s1]
          rw [hend] at hff
          rw [h0] at hlk
          have HW2 := Lib.hid hW2
          have HP1 := Lib.hid p1
          have hN9 : 6 ≤ lookN (b.drop k) := by omega
          clear s1 s3 s4 hW2 p1 p2 hend h0 h6 hv hb hf
          dsimp only at hff
          generalize lookSeq (b.drop k) = q at *
          generalize lookL (b.drop k) = ls at *
          generalize lookN (b.drop k) = N at *
          obtain ⟨kn, hkn2⟩ : ∃ m, k + N = m := ⟨_, rfl⟩
          rw [hkn2] at hff
          have hknz : (k : Int) + (N : Int) = (kn : Int) := by omega
          have HKN := Lib.hid hkn2
          clear hkn2
          cases go with
          | true =>
            go_wp2_with (first
              | (go_at_call 26; ((with_reducible refine hlk.mono ?_); rintro e W1 ⟨A9, m9, c9, rfl, g1, g2, g3, g4, g5, hB1⟩; have hB2 := hB1.alloc hB1.size (.cells #[.int .u8 (q : Nat), .slice A9 m9 c9] 34); have hcl := hff _ ⟨A9, m9, c9⟩ HP1.out hJ hB2 (g3.alloc _) g1 g2 g4 g5))
              | (go_at_fn f; ((with_reducible refine hcl.mono ?_); rintro e W2 ⟨rfl, hJ2⟩)))
            go_roundw
            case rel => exact ⟨kn, false, ps ++ [⟨k, q, ls⟩], rfl, by rw [← HKN.out]; exact HW2.out, by rw [List.length_append, List.length_singleton]; exact hJ2, fun h => by cases h⟩
            case measure => simp [intOf]; have := HKN.out; omega
          | false =>
            have HPS := Lib.hid (hps rfl)
            go_wp2_with (first
              | (go_at_call 26; ((with_reducible refine hlk.mono ?_); rintro e W1 ⟨A9, m9, c9, rfl, g1, g2, g3, g4, g5, hB1⟩; have hB2 := hB1.alloc hB1.size (.cells #[.int .u8 (q : Nat), .slice A9 m9 c9] 34); have hcl := hff _ ⟨A9, m9, c9⟩ HP1.out hJ hB2 (g3.alloc _) g1 g2 g4 g5))
              | (go_at_fn f; ((with_reducible refine hcl.mono ?_); rintro e W2 ⟨rfl, hJ2⟩)))
            go_ret
            exact ⟨_, k, rfl, hJ2, (fun h => by cases h), fun _ => by
              have := HP1.out
              rw [HPS.out] at this ⊢
              rw [List.length_nil] at this ⊢
              omega⟩
        · have hW2 := walking_bad HW.out h6 h0
          have HW2 := Lib.hid hW2
          clear hW2
          generalize lookSeq (b.drop k) = q at hlk
          generalize lookL (b.drop k) = ls at hlk
          generalize lookN (b.drop k) = N at hlk
          generalize lookE (b.drop k) = E at *
          have h6z : (E == 6) = false := by simp; exact h6
          have h0z : (E == 0) = false := by simp; exact h0
          clear h6 h0 hf hv hb
          go_wp2_with (go_at_call 26; ((with_reducible refine hlk.mono ?_); rintro e W1 ⟨A9, m9, c9, rfl, g1, g2, g3, g4, g5, hB1⟩; have hB2 := hB1.alloc hB1.size (.cells #[.int .u8 (q : Nat), .slice A9 m9 c9] 34)))
          go_roundw
          case rel => exact ⟨k + 1, true, ps, by go_num, HW2.out, hJB _ _ _ hJ hB2, hps⟩
          case measure => have := HL1.out; simp [intOf]; omega
    · have hkn2 : k = n := by omega
      have h6 : lookE (b.drop k) = 6 := by rw [show b.drop k = [] from List.eq_nil_of_length_eq_zero (by rw [List.length_drop, hlen]; omega)]; exact look_nil
      obtain ⟨hz1, hz2⟩ := walking_end HW.out h6
      have HZ := Lib.hid (show walkP 0 b = ps ∧ endT b = k from ⟨hz1, hz2⟩)
      clear h6 hz1 hz2 hf hv hb
      subst hkn2
      go_wp2
      go_ret
      exact ⟨ps.length, k, rfl, hJ, fun _ => ⟨by rw [HZ.out.1], HZ.out.2.symm⟩, fun h => by rw [HZ.out.1, hps h]; rfl⟩
end Go.Proofs.Ytlhjligeigkbnaa.Par
