/- What frame's Look answers. -/
import Derived.Test.YtlhjligeigkbnaaFrameRefLook
import Derived.Test.YtlhjligeigkbnaaFrameHead
import Derived.Test.YtlhjligeigkbnaaCrcCodeE
set_option linter.unusedSimpArgs false
set_option linter.unusedVariables false
namespace Go.Proofs.Ytlhjligeigkbnaa.Frm
open Go.RowKit RU8
theorem errAt_range (b : List Nat) (i : Nat) : 0 ≤ errAt b i ∧ errAt b i ≤ 63 := by
  unfold errAt
  repeat' split
  all_goals omega
theorem lookE_range (b : List Nat) : 0 ≤ lookE b ∧ lookE b ≤ 63 := by
  have key : ∀ k, 0 ≤ firstErr b k ∧ firstErr b k ≤ 63 := fun k => by
    induction k with
    | zero => rw [firstErr]; omega
    | succ k ih =>
      rw [firstErr]
      split
      · exact ih
      · exact errAt_range b k
  exact key 102
theorem head_range (b : List Nat) : 0 ≤ headE b ∧ headE b ≤ 61 := by
  unfold headE
  repeat' split
  all_goals omega
set_option maxRecDepth 100000 in
set_option maxHeartbeats 2000000 in
theorem look_any (A : Option Addr) (n c : Nat) (b : List Nat) (w : World) (hv : Vals w A n b) (hb : Bytes b) (hn : n ≤ 100000) (hc : n ≤ c) (hc2 : c ≤ 9223372036854775807) :
    Calls Try.prog 26 #[.slice A n c] w (LookIs w b) := by
  have hlen := hv.len_
  have hB1 := (Below.refl w.heap.size w).alloc (Nat.le_refl _) (.cells #[.int .u8 0, .slice none 0 0] 34)
  have hF1 := Has.new w 34 #[.int .u8 0, .slice none 0 0]
  have hhead := head_any A n c b (w.alloc (.cells #[.int .u8 0, .slice none 0 0] 34)) (hv.alloc _) hb hn
  have hcs := head_cases b
  have hhr := head_range b
  obtain ⟨E, hE⟩ : ∃ E, headE b = E := ⟨_, rfl⟩
  rw [hE] at hhead hcs hhr
  clear hE
  obtain ⟨q0, q1, r0, r1⟩ := hF1.two
  rcases hcs with ⟨h0, hl⟩ | ⟨h0, h4, h1, h32, hf⟩
  · have HR := Lib.hid (show lookE b = E ∧ lookSeq b = 0 ∧ lookL b = [] ∧ lookN b = 0 from ⟨hl, look_bad (by rw [hl]; exact h0)⟩)
    clear hl hv
    unfold LookIs
    go_enter Try.func26, Try.ntmps26
    go_wp2_with (go_at_call 31; ((with_reducible refine hhead.mono ?_); rintro e w' ⟨rfl, rfl⟩))
    exact bodyPost_ret (v := .tuple #[.agg #[.int .u8 0, .slice none 0 0], .int .i64 0, .int .i64 E]) (by simp [results, Try.results26, go_sem]) rfl ⟨none, 0, 0, by rw [HR.out.1, HR.out.2.1, HR.out.2.2.2]; rfl, by omega, by omega, by rw [HR.out.2.2.1]; exact Row.Vals.none_ _, by omega, (fun x hx => by cases hx), hB1⟩
  · subst h0
    obtain ⟨x, rfl, hx⟩ := hv.cells (by omega)
    have hc3 := (hB1.cell (by have := World.block_lt_of_cell? _ _ (hx 3 (by omega)); rwa [block_add] at this)).trans (hx 3 (by omega))
    rw [show x.add 3 = ⟨x.block, x.off + 3, none⟩ by simp [Addr.add]] at hc3
    have hfl := flags_cases (by omega) h1 h32 hf
    have hsam := samples_are (b := b)
    have hsz := size_any (b.getD 3 0 : Int) (by omega) (w.alloc (.cells #[.int .u8 0, .slice none 0 0] 34))
    have hst : sizeT b = 6 + 3 * b.getD 3 0 := rfl
    obtain ⟨m, hm⟩ : ∃ m, b.getD 3 0 = m := ⟨_, rfl⟩
    rw [hm] at hc3 hsz hst h1 h32 hsam
    rw [show sizeZ (m : Int) = ((6 + 3 * m : Nat) : Int) by unfold sizeZ; rw [if_neg (by omega)]; omega] at hsz
    obtain ⟨N, hN⟩ : ∃ N, sizeT b = N := ⟨_, rfl⟩
    rw [hN] at hfl hsam hst
    rw [← hst] at hsz
    obtain ⟨M, hM⟩ : ∃ M, N - 2 = M := ⟨_, rfl⟩
    have hNM : (N : Int) - 2 = (M : Int) := by omega
    obtain ⟨e, he⟩ : ∃ e, min M n = e := ⟨_, rfl⟩
    have hflg : flagged b = (b.take e).drop 4 := by unfold flagged; rw [hN, hM, hlen, he]
    have hve := (hv.take e (by omega)).drop 4 (by omega)
    rw [← hflg, Option.map_some, show x.add 4 = ⟨x.block, x.off + 4, none⟩ by simp [Addr.add]] at hve
    obtain ⟨e4, he4⟩ : ∃ e4, e - 4 = e4 := ⟨_, rfl⟩
    obtain ⟨c4, hc4⟩ : ∃ c4, c - 4 = c4 := ⟨_, rfl⟩
    rw [he4] at hve
    have hflags := flags_any (some ⟨x.block, x.off + 4, none⟩) e4 c4 (flagged b) (w.alloc (.cells #[.int .u8 0, .slice none 0 0] 34)) (hve.alloc _) (by omega) (by omega) (by omega)
    have hMb : (M : Int) ≤ 100 ∧ (N : Int) ≤ 102 := by omega
    clear hm
    rcases (by omega : c = 4 ∨ ¬ c = 4) with hc44 | hc44
    · -- nothing behind the head
      obtain rfl : n = 4 := by omega
      subst hc44
      obtain rfl : e = 4 := by omega
      obtain rfl : c4 = 0 := by omega
      obtain rfl : e4 = 0 := by omega
      clear hflags
      have hfl0 : flagged b = [] := by rw [hflg]; exact List.drop_eq_nil_of_le (by rw [List.length_take]; omega)
      rw [hfl0] at hfl hve
      have h6 : flagsE ([] : List Nat) = 0 := by unfold flagsE; rw [if_neg]; rintro ⟨k, hk, _⟩; unfold Chunk.chunks at hk; simp at hk
      have hl : lookE b = 6 := by
        rcases hfl with ⟨h62, _⟩ | ⟨_, hs, _⟩
        · rw [h6] at h62; cases h62
        · exact hs (by omega)
      have hflags := fun A' => flags_any A' 0 0 [] (w.alloc (.cells #[.int .u8 0, .slice none 0 0] 34)) ⟨rfl, fun h => absurd h (by omega)⟩ (by omega) (by omega) (by omega)
      rw [h6] at hflags
      have HR := Lib.hid (show lookE b = 6 ∧ lookSeq b = 0 ∧ lookL b = [] ∧ lookN b = 0 from ⟨hl, look_bad (by rw [hl]; decide)⟩)
      have hM4 : ¬ (M : Int) ≤ 4 ∧ ¬ (M : Int) < 4 ∧ (4 : Int) < (M : Int) ∧ (4 : Int) < (N : Int) := by omega
      have hseal : ∀ W, Below w.heap.size w W → True := fun _ _ => trivial
      clear hl hv hsam hst hx hve hflg hM he hf hfl hfl0 h6
      unfold LookIs
      go_enter Try.func26, Try.ntmps26
      go_wp2_with (first
        | (go_at_call 31; ((with_reducible refine hhead.mono ?_); rintro e w' ⟨rfl, rfl⟩))
        | (go_at_call 32; ((with_reducible refine hsz.mono ?_); rintro e w' ⟨rfl, rfl⟩))
        | (go_at_call 33; ((with_reducible refine (hflags _).mono ?_); rintro e W1 ⟨rfl, hB2⟩; have hF2 := hF1.below hB2 (by simp); obtain ⟨q2, q3, r2, r3⟩ := hF2.two)))
      obtain ⟨p0, p1, _, _⟩ := (hF2.put2 (.int .u8 0) (.slice none 0 0)).two
      refine bodyPost_ret (v := .tuple #[.agg #[.int .u8 0, .slice none 0 0], .int .i64 0, .int .i64 6]) (by simp [results, Try.results26, go_sem, p0, p1]) rfl ⟨none, 0, 0, by rw [HR.out.1, HR.out.2.1, HR.out.2.2.2]; rfl, by omega, by omega, by rw [HR.out.2.2.1]; exact Row.Vals.none_ _, by omega, (fun x hx => by cases hx), below_put2 (hB1.trans (hB2.mono hB1.size)) (Nat.le_refl _) _ _⟩
    · rcases Nat.lt_or_ge n M with hnM | hnM
      · obtain rfl : e = n := by omega
        have hnMi : (e : Int) < (M : Int) ∧ ¬ (M : Int) ≤ (e : Int) := by omega
        have h4M : 4 ≤ e ∧ e ≤ c := by omega
        have hnN : (e : Int) < (N : Int) := by omega
        rcases hfl with ⟨h62, hl⟩ | ⟨h0, hs, _⟩
        · rw [h62] at hflags
          have HR := Lib.hid (show lookE b = 62 ∧ lookSeq b = 0 ∧ lookL b = [] ∧ lookN b = 0 from ⟨hl, look_bad (by rw [hl]; decide)⟩)
          clear hl hv hsam hst hx hve h62 hflg hM he hf
          unfold LookIs
          go_enter Try.func26, Try.ntmps26
          go_wp2_with (first
            | (go_at_call 31; ((with_reducible refine hhead.mono ?_); rintro e w' ⟨rfl, rfl⟩))
            | (go_at_call 32; ((with_reducible refine hsz.mono ?_); rintro e w' ⟨rfl, rfl⟩))
            | (go_at_call 33; ((with_reducible refine hflags.mono ?_); rintro e W1 ⟨rfl, hB2⟩; have hF2 := hF1.below hB2 (by simp); obtain ⟨q2, q3, r2, r3⟩ := hF2.two))
            | (go_at_call 34; ((with_reducible refine (hseal _ hB2).mono ?_); rintro e w' ⟨rfl, rfl⟩)))
          obtain ⟨p0, p1, _, _⟩ := (hF2.put2 (.int .u8 0) (.slice none 0 0)).two
          refine bodyPost_ret (v := .tuple #[.agg #[.int .u8 0, .slice none 0 0], .int .i64 0, .int .i64 62]) (by simp [results, Try.results26, go_sem, p0, p1]) rfl ⟨none, 0, 0, by rw [HR.out.1, HR.out.2.1, HR.out.2.2.2]; rfl, by omega, by omega, by rw [HR.out.2.2.1]; exact Row.Vals.none_ _, by omega, (fun x hx => by cases hx), below_put2 (hB1.trans (hB2.mono hB1.size)) (Nat.le_refl _) _ _⟩
        · rw [h0] at hflags
          have hl := hs (by omega)
          have HR := Lib.hid (show lookE b = 6 ∧ lookSeq b = 0 ∧ lookL b = [] ∧ lookN b = 0 from ⟨hl, look_bad (by rw [hl]; decide)⟩)
          clear hl hv hsam hst hx hve hflg hM he hf hs h0
          unfold LookIs
          go_enter Try.func26, Try.ntmps26
          go_wp2_with (first
            | (go_at_call 31; ((with_reducible refine hhead.mono ?_); rintro e w' ⟨rfl, rfl⟩))
            | (go_at_call 32; ((with_reducible refine hsz.mono ?_); rintro e w' ⟨rfl, rfl⟩))
            | (go_at_call 33; ((with_reducible refine hflags.mono ?_); rintro e W1 ⟨rfl, hB2⟩; have hF2 := hF1.below hB2 (by simp); obtain ⟨q2, q3, r2, r3⟩ := hF2.two))
            | (go_at_call 34; ((with_reducible refine (hseal _ hB2).mono ?_); rintro e w' ⟨rfl, rfl⟩)))
          obtain ⟨p0, p1, _, _⟩ := (hF2.put2 (.int .u8 0) (.slice none 0 0)).two
          refine bodyPost_ret (v := .tuple #[.agg #[.int .u8 0, .slice none 0 0], .int .i64 0, .int .i64 6]) (by simp [results, Try.results26, go_sem, p0, p1]) rfl ⟨none, 0, 0, by rw [HR.out.1, HR.out.2.1, HR.out.2.2.2]; rfl, by omega, by omega, by rw [HR.out.2.2.1]; exact Row.Vals.none_ _, by omega, (fun x hx => by cases hx), below_put2 (hB1.trans (hB2.mono hB1.size)) (Nat.le_refl _) _ _⟩
      · obtain rfl : e = M := by omega
        have hnMi : ¬ (n : Int) < (e : Int) ∧ (e : Int) ≤ (n : Int) := by omega
        have h4M : 4 ≤ e ∧ e ≤ c := by omega
        rcases hfl with ⟨h62, hl⟩ | ⟨h0, hs, hg⟩
        · rw [h62] at hflags
          have HR := Lib.hid (show lookE b = 62 ∧ lookSeq b = 0 ∧ lookL b = [] ∧ lookN b = 0 from ⟨hl, look_bad (by rw [hl]; decide)⟩)
          clear hl hv hsam hst hx hve h62 hflg hM he hf
          unfold LookIs
          go_enter Try.func26, Try.ntmps26
          go_wp2_with (first
            | (go_at_call 31; ((with_reducible refine hhead.mono ?_); rintro e w' ⟨rfl, rfl⟩))
            | (go_at_call 32; ((with_reducible refine hsz.mono ?_); rintro e w' ⟨rfl, rfl⟩))
            | (go_at_call 33; ((with_reducible refine hflags.mono ?_); rintro e W1 ⟨rfl, hB2⟩; have hF2 := hF1.below hB2 (by simp); obtain ⟨q2, q3, r2, r3⟩ := hF2.two))
            | (go_at_call 34; ((with_reducible refine (hseal _ hB2).mono ?_); rintro e w' ⟨rfl, rfl⟩)))
          obtain ⟨p0, p1, _, _⟩ := (hF2.put2 (.int .u8 0) (.slice none 0 0)).two
          refine bodyPost_ret (v := .tuple #[.agg #[.int .u8 0, .slice none 0 0], .int .i64 0, .int .i64 62]) (by simp [results, Try.results26, go_sem, p0, p1]) rfl ⟨none, 0, 0, by rw [HR.out.1, HR.out.2.1, HR.out.2.2.2]; rfl, by omega, by omega, by rw [HR.out.2.2.1]; exact Row.Vals.none_ _, by omega, (fun x hx => by cases hx), below_put2 (hB1.trans (hB2.mono hB1.size)) (Nat.le_refl _) _ _⟩
        · rw [h0] at hflags
          rcases Nat.lt_or_ge n N with hnN | hnN
          · have hnNi : (n : Int) < (N : Int) := by omega
            have hl := hs (by omega)
            have HR := Lib.hid (show lookE b = 6 ∧ lookSeq b = 0 ∧ lookL b = [] ∧ lookN b = 0 from ⟨hl, look_bad (by rw [hl]; decide)⟩)
            clear hl hv hsam hst hx hve hflg hM he hf hs h0 hg hnN
            unfold LookIs
            go_enter Try.func26, Try.ntmps26
            go_wp2_with (first
              | (go_at_call 31; ((with_reducible refine hhead.mono ?_); rintro e w' ⟨rfl, rfl⟩))
              | (go_at_call 32; ((with_reducible refine hsz.mono ?_); rintro e w' ⟨rfl, rfl⟩))
              | (go_at_call 33; ((with_reducible refine hflags.mono ?_); rintro e W1 ⟨rfl, hB2⟩; have hF2 := hF1.below hB2 (by simp); obtain ⟨q2, q3, r2, r3⟩ := hF2.two))
              | (go_at_call 34; ((with_reducible refine (hseal _ hB2).mono ?_); rintro e w' ⟨rfl, rfl⟩)))
            obtain ⟨p0, p1, _, _⟩ := (hF2.put2 (.int .u8 0) (.slice none 0 0)).two
            refine bodyPost_ret (v := .tuple #[.agg #[.int .u8 0, .slice none 0 0], .int .i64 0, .int .i64 6]) (by simp [results, Try.results26, go_sem, p0, p1]) rfl ⟨none, 0, 0, by rw [HR.out.1, HR.out.2.1, HR.out.2.2.2]; rfl, by omega, by omega, by rw [HR.out.2.2.1]; exact Row.Vals.none_ _, by omega, (fun x hx => by cases hx), below_put2 (hB1.trans (hB2.mono hB1.size)) (Nat.le_refl _) _ _⟩
          · have hnNi : ¬ (n : Int) < (N : Int) := by omega
            have h2N : 2 ≤ N ∧ N ≤ c ∧ (N : Int) ≤ (n : Int) ∧ (N : Int) ≤ (c : Int) := by omega
            obtain ⟨c2, hc22⟩ : ∃ c2, c - 2 = c2 := ⟨_, rfl⟩
            have hc2z : ¬ c = 2 ∧ 2 < c := by omega
            have hv2 := (hv.take N hnN).drop 2 (by omega)
            rw [hM, Option.map_some, show x.add 2 = ⟨x.block, x.off + 2, none⟩ by simp [Addr.add]] at hv2
            have hb2 : Bytes ((b.take N).drop 2) := fun y hy => hb y (List.mem_of_mem_take (List.mem_of_mem_drop hy))
            have hseal : ∀ W, Below (w.alloc (.cells #[.int .u8 0, .slice none 0 0] 34)).heap.size (w.alloc (.cells #[.int .u8 0, .slice none 0 0] 34)) W → Calls Try.prog 34 #[.slice (some ⟨x.block, x.off + 2, none⟩) e c2] W fun e w' => e = .returned (.bool (Crc.sealedB ((b.take N).drop 2))) ∧ W = w' := fun W hW => Crc.sealed_any _ e c2 _ W ((hv2.alloc _).below hW) hb2 (by omega) (by omega) (by omega)
            obtain ⟨Q, hQ⟩ : ∃ Q, Crc.sealedB ((b.take N).drop 2) = Q := ⟨_, rfl⟩
            rw [hQ] at hseal hg
            cases Q with
            | false =>
              have hl := (hg (by omega)).1 rfl
              have HR := Lib.hid (show lookE b = 63 ∧ lookSeq b = 0 ∧ lookL b = [] ∧ lookN b = 0 from ⟨hl, look_bad (by rw [hl]; decide)⟩)
              clear hl hv hsam hst hx hve hflg he hf hs h0 hg hnN hv2 hb2 hQ hN
              unfold LookIs
              go_enter Try.func26, Try.ntmps26
              go_wp2_with (first
                | (go_at_call 31; ((with_reducible refine hhead.mono ?_); rintro e w' ⟨rfl, rfl⟩))
                | (go_at_call 32; ((with_reducible refine hsz.mono ?_); rintro e w' ⟨rfl, rfl⟩))
                | (go_at_call 33; ((with_reducible refine hflags.mono ?_); rintro e W1 ⟨rfl, hB2⟩; have hF2 := hF1.below hB2 (by simp); obtain ⟨q2, q3, r2, r3⟩ := hF2.two))
                | (go_at_call 34; ((with_reducible refine (hseal _ hB2).mono ?_); rintro e w' ⟨rfl, rfl⟩)))
              obtain ⟨p0, p1, _, _⟩ := (hF2.put2 (.int .u8 0) (.slice none 0 0)).two
              refine bodyPost_ret (v := .tuple #[.agg #[.int .u8 0, .slice none 0 0], .int .i64 0, .int .i64 63]) (by simp [results, Try.results26, go_sem, p0, p1]) rfl ⟨none, 0, 0, by rw [HR.out.1, HR.out.2.1, HR.out.2.2.2]; rfl, by omega, by omega, by rw [HR.out.2.2.1]; exact Row.Vals.none_ _, by omega, (fun x hx => by cases hx), below_put2 (hB1.trans (hB2.mono hB1.size)) (Nat.le_refl _) _ _⟩
            | true =>
              have hl := (hg (by omega)).2 rfl
              obtain ⟨l1, l2, l3⟩ := look_ok hl
              have hb3 : b.getD 3 0 = m := by have : sizeT b = 6 + 3 * b.getD 3 0 := rfl; omega
              rw [hb3] at l2
              rw [hN] at l3
              have hsam2 := hsam (by omega)
              rw [hM, ← l2] at hsam2
              have hm4 : 3 * m = e4 := by omega
              have hvs : Vals w (some ⟨x.block, x.off + 4, none⟩) (3 * m) ((b.take e).drop 4) := by rw [hm4, ← hflg]; exact hve
              have hbs : Bytes ((b.take e).drop 4) := fun y hy => hb y (List.mem_of_mem_take (List.mem_of_mem_drop hy))
              have hsamp : ∀ W, Below w.heap.size w W → Calls Try.prog 35 #[.slice (some ⟨x.block, x.off + 4, none⟩) e4 c4] W fun e w' => ∃ v, e = .returned v ∧ w'.ownsRow (W.heap.size + 3) 49 2 v m (Row.flat sampS (lookL b)) ∧ Below W.heap.size W w' := fun W hW => by
                have h9 := samples_any (some ⟨x.block, x.off + 4, none⟩) m c4 _ W (hvs.below hW) hbs (by omega) (by omega) (by omega)
                rw [hm4, hsam2] at h9
                exact h9
              have hsq := hx 2 (by omega)
              rw [show x.add 2 = ⟨x.block, x.off + 2, none⟩ by simp [Addr.add]] at hsq
              have hxl := World.block_lt_of_cell? _ _ hsq
              replace hxl : x.block < w.heap.size := hxl
              obtain ⟨sq, hsq2⟩ : ∃ sq, b.getD 2 0 = sq := ⟨_, rfl⟩
              rw [hsq2] at hsq l1
              have HR := Lib.hid (show lookE b = 0 ∧ lookSeq b = sq ∧ lookN b = N from ⟨hl, l1, l3⟩)
              have h2n : 2 < n ∧ (2 : Int) < (n : Int) ∧ (4 : Int) ≤ (e : Int) := by omega
              have hm32 : m ≤ 32 := h32
              clear hl l1 l2 l3 hv hsam hst hx hve hflg he hf hs h0 hg hnN hv2 hb2 hQ hN hsam2 hvs hbs hsq2 hb3 hm4
              unfold LookIs
              go_enter Try.func26, Try.ntmps26
              go_wp2_with (first
                | (go_at_call 31; ((with_reducible refine hhead.mono ?_); rintro e w' ⟨rfl, rfl⟩))
                | (go_at_call 32; ((with_reducible refine hsz.mono ?_); rintro e w' ⟨rfl, rfl⟩))
                | (go_at_call 33; ((with_reducible refine hflags.mono ?_); rintro e W1 ⟨rfl, hB2⟩; have hF2 := hF1.below hB2 (by simp); obtain ⟨q2, q3, r2, r3⟩ := hF2.two))
                | (go_at_call 34; ((with_reducible refine (hseal _ hB2).mono ?_); rintro e w' ⟨rfl, rfl⟩)))
              have hcq : W1.cell? ⟨x.block, x.off + 2, none⟩ = some (.int .u8 sq) := ((hB1.trans (hB2.mono hB1.size)).cell (p := ⟨x.block, x.off + 2, none⟩) hxl).trans hsq
              have hBw := hB1.trans (hB2.mono hB1.size)
              refine Reg.begin_ (S := fun W => W.cell? ⟨x.block, x.off + 2, none⟩ = some (.int .u8 sq)) (by kernel_rfl) (by exact hcq) (fun hHeld => ?_)
              have hFd : Has W1.drew w.heap.size 34 #[.int .u8 0, .slice none 0 0] := hF2
              have hBd : Below w.heap.size w W1.drew := below_drewN hBw 1
              generalize W1.drew = wd at *
              clear hB2 hF2 q2 q3 r2 r3 hBw hcq
              refine Reg.take (i := 0) (v := ?v1) rfl (by kernel_rfl) (by kernel_rfl) (by kernel_rfl) (by rfl) ?hv1 (by assumption) ?rest1
              case hv1 => first | (intro w hSw; (try dsimp only at hSw); go_simp; done) | (intro w hSw; (try dsimp only at hSw); go_simp; with_reducible rfl)
              (try simp only [Act.put, List.setIfInBounds_toArray, List.set_cons_zero, List.set_cons_succ])
              refine Reg.take (i := 1) (v := ?v2) rfl (by kernel_rfl) (by kernel_rfl) (by kernel_rfl) (by rfl) ?hv2 (by assumption) ?rest2
              case hv2 => first | (intro w hSw; (try dsimp only at hSw); go_simp; done) | (intro w hSw; (try dsimp only at hSw); go_simp; with_reducible rfl)
              (try simp only [Act.put, List.setIfInBounds_toArray, List.set_cons_zero, List.set_cons_succ])
              refine Reg.take (i := 2) (v := ?v3) rfl (by kernel_rfl) (by kernel_rfl) (by kernel_rfl) (by rfl) ?hv3 (by assumption) ?rest3
              case hv3 => first | (intro w hSw; (try dsimp only at hSw); go_simp; done) | (intro w hSw; (try dsimp only at hSw); go_simp; with_reducible rfl)
              (try simp only [Act.put, List.setIfInBounds_toArray, List.set_cons_zero, List.set_cons_succ])
              refine Reg.take (i := 3) (v := ?v4) rfl (by kernel_rfl) (by kernel_rfl) (by kernel_rfl) (by rfl) ?hv4 (by assumption) ?rest4
              case hv4 => first | (intro w hSw; (try dsimp only at hSw); go_simp; done) | (intro w hSw; (try dsimp only at hSw); go_simp; with_reducible rfl)
              (try simp only [Act.put, List.setIfInBounds_toArray, List.set_cons_zero, List.set_cons_succ])
              refine Reg.take (i := 4) (v := ?v5) rfl (by kernel_rfl) (by kernel_rfl) (by kernel_rfl) (by rfl) ?hv5 (by assumption) ?rest5
              case hv5 => first | (intro w hSw; (try dsimp only at hSw); go_simp; done) | (intro w hSw; (try dsimp only at hSw); go_simp; with_reducible rfl)
              (try simp only [Act.put, List.setIfInBounds_toArray, List.set_cons_zero, List.set_cons_succ])
              refine Reg.take (i := 5) (v := ?v6) rfl (by kernel_rfl) (by kernel_rfl) (by kernel_rfl) (by rfl) ?hv6 (by assumption) ?rest6
              case hv6 => first | (intro w hSw; (try dsimp only at hSw); go_simp; done) | (intro w hSw; (try dsimp only at hSw); go_simp; with_reducible rfl)
              (try simp only [Act.put, List.setIfInBounds_toArray, List.set_cons_zero, List.set_cons_succ])
              refine Reg.take (i := 8) (v := ?v7) rfl (by kernel_rfl) (by kernel_rfl) (by kernel_rfl) (by rfl) ?hv7 (by assumption) ?rest7
              case hv7 => first | (intro w hSw; (try dsimp only at hSw); go_simp; done) | (intro w hSw; (try dsimp only at hSw); go_simp; with_reducible rfl)
              (try simp only [Act.put, List.setIfInBounds_toArray, List.set_cons_zero, List.set_cons_succ])
              refine Reg.call (i := 6) rfl (by kernel_rfl) (by rfl) ?_
              intro K hK
              go_simp
              go_at_call 35
              (with_reducible refine (hsamp _ hBd).mono ?_)
              rintro e9 W3 ⟨v, rfl, hO3, hB3⟩
              have hF3 := hFd.below hB3 hFd.lt
              have hBw := hBd.trans (hB3.mono hBd.size)
              have hcq3 := (hBw.cell (p := ⟨x.block, x.off + 2, none⟩) hxl).trans hsq
              have hds := hFd.lt
              obtain ⟨A1, d1, rfl, e1, e2, hV1, hA1, _⟩ := Row.Vals.own (S := sampS) hO3
              refine hK.out _ _ hcq3 (fun hHeld2 => ?_)
              clear hK K
              (try simp only [Act.put, List.setIfInBounds_toArray, List.set_cons_zero, List.set_cons_succ])
              refine Reg.take (i := 7) (v := ?v8) rfl (by kernel_rfl) (by kernel_rfl) (by kernel_rfl) (by rfl) ?hv8 (by assumption) ?rest8
              case hv8 => first | (intro w hSw; (try dsimp only at hSw); go_simp; done) | (intro w hSw; (try dsimp only at hSw); go_simp; with_reducible rfl)
              (try simp only [Act.put, List.setIfInBounds_toArray, List.set_cons_zero, List.set_cons_succ])
              obtain ⟨q2, q3, r2, r3⟩ := hF3.two
              obtain ⟨p0, p1, _, _⟩ := (hF3.put2 (.int .u8 sq) (.slice A1 m d1)).two
              have hB9 := below_put2 hBw (Nat.le_refl _) (.int .u8 sq) (.slice A1 m d1)
              have hcq9 := (hB9.cell (p := ⟨x.block, x.off + 2, none⟩) hxl).trans hsq
              refine Reg.call (i := 9) rfl (by kernel_rfl) (by rfl) ?_
              intro K hK
              go_simp
              refine hK.out _ _ hcq9 (fun hHeld3 => ?_)
              clear hK K
              (try simp only [Act.put, List.setIfInBounds_toArray, List.set_cons_zero, List.set_cons_succ])
              refine Reg.take (i := 10) (v := ?v9) rfl (by kernel_rfl) (by kernel_rfl) (by kernel_rfl) (by rfl) ?hv9 (by assumption) ?rest9
              case hv9 => first | (intro w hSw; (try dsimp only at hSw); go_simp; done) | (intro w hSw; (try dsimp only at hSw); go_simp; with_reducible rfl)
              (try simp only [Act.put, List.setIfInBounds_toArray, List.set_cons_zero, List.set_cons_succ])
              refine Reg.take (i := 11) (v := ?v10) rfl (by kernel_rfl) (by kernel_rfl) (by kernel_rfl) (by rfl) ?hv10 (by assumption) ?rest10
              case hv10 => first | (intro w hSw; (try dsimp only at hSw); go_simp; done) | (intro w hSw; (try dsimp only at hSw); go_simp; with_reducible rfl)
              (try simp only [Act.put, List.setIfInBounds_toArray, List.set_cons_zero, List.set_cons_succ])
              refine Reg.done (by kernel_rfl) ?_ _
              go_wp2
              have hK9 := ((Kept.refl [w.heap.size] W3).setCell (p := ⟨w.heap.size, 0, none⟩) (.inl (by simp)) (.int .u8 sq)).setCell (p := ⟨w.heap.size, 1, none⟩) (.inl (by simp)) (.slice A1 m d1)
              refine bodyPost_ret (v := .tuple #[.agg #[.int .u8 sq, .slice A1 m d1], .int .i64 N, .int .i64 0]) (by simp [results, Try.results26, go_sem, p0, p1]) rfl ⟨A1, m, d1, by rw [HR.out.1, HR.out.2.1, HR.out.2.2], e1, e2, hV1.kept hK9 (fun _ y hy => by have := (hA1 y hy).1; simp; omega), hm32, (fun y hy => by have := (hA1 y hy).1; omega), hB9⟩
end Go.Proofs.Ytlhjligeigkbnaa.Frm
