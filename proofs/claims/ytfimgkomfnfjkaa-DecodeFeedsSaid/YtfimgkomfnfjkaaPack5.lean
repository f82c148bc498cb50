/- What the proofs stand on, part 5. -/
import Derived.Test.YtfimgkomfnfjkaaPack2
import Derived.Test.YtfimgkomfnfjkaaPack4
import Derived.Test.YtfimgkomfnfjkaaPack1
import Derived.Test.YtfimgkomfnfjkaaPack3
import Derived.Shelf.Abstract
import Derived.WalkMore
section
/- What frame's Look answers. -/
set_option linter.unusedSimpArgs false
set_option linter.unusedVariables false
namespace Go.Proofs.Ytfimgkomfnfjkaa.Frm
open Go.RowKit RU8
theorem errAt_range (b : List Nat) (i : Nat) : 0 ≤ errAt b i ∧ errAt b i ≤ 63 := by
  unfold errAt
  repeat' split
  all_goals omega
theorem lookE_range (b : List Nat) : 0 ≤ lookE b ∧ lookE b ≤ 63 := by
  have key : ∀ k, 0 ≤ firstErr b k ∧ firstErr b k ≤ 63 := fun k => by
    induction k with
    | zero => rw [firstErr]; omega
    | succ k ih =>
      rw [firstErr]
      split
      · exact ih
      · exact errAt_range b k
  exact key 102
theorem head_range (b : List Nat) : 0 ≤ headE b ∧ headE b ≤ 61 := by
  unfold headE
  repeat' split
  all_goals omega
set_option maxRecDepth 100000 in
set_option maxHeartbeats 2000000 in
theorem look_any (A : Option Addr) (n c : Nat) (b : List Nat) (w : World) (hv : Vals w A n b) (hb : Bytes b) (hn : n ≤ 100000) (hc : n ≤ c) (hc2 : c ≤ 9223372036854775807) :
    Calls Try.prog 21 #[.slice A n c] w (LookIs w b) := by
  have hlen := hv.len_
  have hB1 := (Below.refl w.heap.size w).alloc (Nat.le_refl _) (.cells #[.int .u8 0, .slice none 0 0] 52)
  have hF1 := Has.new w 52 #[.int .u8 0, .slice none 0 0]
  have hhead := head_any A n c b (w.alloc (.cells #[.int .u8 0, .slice none 0 0] 52)) (hv.alloc _) hb hn
  have hcs := head_cases b
  have hhr := head_range b
  obtain ⟨E, hE⟩ : ∃ E, headE b = E := ⟨_, rfl⟩
  rw [hE] at hhead hcs hhr
  clear hE
  obtain ⟨q0, q1, r0, r1⟩ := hF1.two
  rcases hcs with ⟨h0, hl⟩ | ⟨h0, h4, h1, h32, hf⟩
  · have HR := Lib.hid (show lookE b = E ∧ lookSeq b = 0 ∧ lookL b = [] ∧ lookN b = 0 from ⟨hl, look_bad (by rw [hl]; exact h0)⟩)
    clear hl hv
    unfold LookIs
    go_enter Try.func21, Try.ntmps21
    go_wp2_with (go_at_call 33; ((with_reducible refine hhead.mono ?_); rintro e w' ⟨rfl, rfl⟩))
    exact bodyPost_ret (v := .tuple #[.agg #[.int .u8 0, .slice none 0 0], .int .i64 0, .int .i64 E]) (by simp [results, Try.results21, go_sem]) rfl ⟨none, 0, 0, by rw [HR.out.1, HR.out.2.1, HR.out.2.2.2]; rfl, by omega, by omega, by rw [HR.out.2.2.1]; exact Row.Vals.none_ _, by omega, (fun x hx => by cases hx), hB1⟩
  · subst h0
    obtain ⟨x, rfl, hx⟩ := hv.cells (by omega)
    have hc3 := (hB1.cell (by have := World.block_lt_of_cell? _ _ (hx 3 (by omega)); rwa [block_add] at this)).trans (hx 3 (by omega))
    rw [show x.add 3 = ⟨x.block, x.off + 3, none⟩ by simp [Addr.add]] at hc3
    have hfl := flags_cases (by omega) h1 h32 hf
    have hsam := samples_are (b := b)
    have hsz := size_any (b.getD 3 0 : Int) (by omega) (w.alloc (.cells #[.int .u8 0, .slice none 0 0] 52))
    have hst : sizeT b = 6 + 3 * b.getD 3 0 := rfl
    obtain ⟨m, hm⟩ : ∃ m, b.getD 3 0 = m := ⟨_, rfl⟩
    rw [hm] at hc3 hsz hst h1 h32 hsam
    rw [show sizeZ (m : Int) = ((6 + 3 * m : Nat) : Int) by unfold sizeZ; rw [if_neg (by omega)]; omega] at hsz
    obtain ⟨N, hN⟩ : ∃ N, sizeT b = N := ⟨_, rfl⟩
    rw [hN] at hfl hsam hst
    rw [← hst] at hsz
    obtain ⟨M, hM⟩ : ∃ M, N - 2 = M := ⟨_, rfl⟩
    have hNM : (N : Int) - 2 = (M : Int) := by omega
    obtain ⟨e, he⟩ : ∃ e, min M n = e := ⟨_, rfl⟩
    have hflg : flagged b = (b.take e).drop 4 := by unfold flagged; rw [hN, hM, hlen, he]
    have hve := (hv.take e (by omega)).drop 4 (by omega)
    rw [← hflg, Option.map_some, show x.add 4 = ⟨x.block, x.off + 4, none⟩ by simp [Addr.add]] at hve
    obtain ⟨e4, he4⟩ : ∃ e4, e - 4 = e4 := ⟨_, rfl⟩
    obtain ⟨c4, hc4⟩ : ∃ c4, c - 4 = c4 := ⟨_, rfl⟩
    rw [he4] at hve
    have hflags := flags_any (some ⟨x.block, x.off + 4, none⟩) e4 c4 (flagged b) (w.alloc (.cells #[.int .u8 0, .slice none 0 0] 52)) (hve.alloc _) (by omega) (by omega) (by omega)
    have hMb : (M : Int) ≤ 100 ∧ (N : Int) ≤ 102 := by omega
    clear hm
    rcases (by omega : c = 4 ∨ ¬ c = 4) with hc44 | hc44
    · -- nothing behind the head
      obtain rfl : n = 4 := by omega
      subst hc44
      obtain rfl : e = 4 := by omega
      obtain rfl : c4 = 0 := by omega
      obtain rfl : e4 = 0 := by omega
      clear hflags
      have hfl0 : flagged b = [] := by rw [hflg]; exact List.drop_eq_nil_of_le (by rw [List.length_take]; omega)
      rw [hfl0] at hfl hve
      have h6 : flagsE ([] : List Nat) = 0 := by unfold flagsE; rw [if_neg]; rintro ⟨k, hk, _⟩; unfold Chunk.chunks at hk; simp at hk
      have hl : lookE b = 6 := by
        rcases hfl with ⟨h62, _⟩ | ⟨_, hs, _⟩
        · rw [h6] at h62; cases h62
        · exact hs (by omega)
      have hflags := fun A' => flags_any A' 0 0 [] (w.alloc (.cells #[.int .u8 0, .slice none 0 0] 52)) ⟨rfl, fun h => absurd h (by omega)⟩ (by omega) (by omega) (by omega)
      rw [h6] at hflags
      have HR := Lib.hid (show lookE b = 6 ∧ lookSeq b = 0 ∧ lookL b = [] ∧ lookN b = 0 from ⟨hl, look_bad (by rw [hl]; decide)⟩)
      have hM4 : ¬ (M : Int) ≤ 4 ∧ ¬ (M : Int) < 4 ∧ (4 : Int) < (M : Int) ∧ (4 : Int) < (N : Int) := by omega
      have hseal : ∀ W, Below w.heap.size w W → True := fun _ _ => trivial
      clear hl hv hsam hst hx hve hflg hM he hf hfl hfl0 h6
      unfold LookIs
      go_enter Try.func21, Try.ntmps21
      go_wp2_with (first
        | (go_at_call 33; ((with_reducible refine hhead.mono ?_); rintro e w' ⟨rfl, rfl⟩))
        | (go_at_call 34; ((with_reducible refine hsz.mono ?_); rintro e w' ⟨rfl, rfl⟩))
        | (go_at_call 35; ((with_reducible refine (hflags _).mono ?_); rintro e W1 ⟨rfl, hB2⟩; have hF2 := hF1.below hB2 (by simp); obtain ⟨q2, q3, r2, r3⟩ := hF2.two)))
      obtain ⟨p0, p1, _, _⟩ := (hF2.put2 (.int .u8 0) (.slice none 0 0)).two
      refine bodyPost_ret (v := .tuple #[.agg #[.int .u8 0, .slice none 0 0], .int .i64 0, .int .i64 6]) (by simp [results, Try.results21, go_sem, p0, p1]) rfl ⟨none, 0, 0, by rw [HR.out.1, HR.out.2.1, HR.out.2.2.2]; rfl, by omega, by omega, by rw [HR.out.2.2.1]; exact Row.Vals.none_ _, by omega, (fun x hx => by cases hx), below_put2 (hB1.trans (hB2.mono hB1.size)) (Nat.le_refl _) _ _⟩
    · rcases Nat.lt_or_ge n M with hnM | hnM
      · obtain rfl : e = n := by omega
        have hnMi : (e : Int) < (M : Int) ∧ ¬ (M : Int) ≤ (e : Int) := by omega
        have h4M : 4 ≤ e ∧ e ≤ c := by omega
        have hnN : (e : Int) < (N : Int) := by omega
        rcases hfl with ⟨h62, hl⟩ | ⟨h0, hs, _⟩
        · rw [h62] at hflags
          have HR := Lib.hid (show lookE b = 62 ∧ lookSeq b = 0 ∧ lookL b = [] ∧ lookN b = 0 from ⟨hl, look_bad (by rw [hl]; decide)⟩)
          clear hl hv hsam hst hx hve h62 hflg hM he hf
          unfold LookIs
          go_enter Try.func21, Try.ntmps21
          go_wp2_with (first
            | (go_at_call 33; ((with_reducible refine hhead.mono ?_); rintro e w' ⟨rfl, rfl⟩))
            | (go_at_call 34; ((with_reducible refine hsz.mono ?_); rintro e w' ⟨rfl, rfl⟩))
            | (go_at_call 35; ((with_reducible refine hflags.mono ?_); rintro e W1 ⟨rfl, hB2⟩; have hF2 := hF1.below hB2 (by simp); obtain ⟨q2, q3, r2, r3⟩ := hF2.two))
            | (go_at_call 36; ((with_reducible refine (hseal _ hB2).mono ?_); rintro e w' ⟨rfl, rfl⟩)))
          obtain ⟨p0, p1, _, _⟩ := (hF2.put2 (.int .u8 0) (.slice none 0 0)).two
          refine bodyPost_ret (v := .tuple #[.agg #[.int .u8 0, .slice none 0 0], .int .i64 0, .int .i64 62]) (by simp [results, Try.results21, go_sem, p0, p1]) rfl ⟨none, 0, 0, by rw [HR.out.1, HR.out.2.1, HR.out.2.2.2]; rfl, by omega, by omega, by rw [HR.out.2.2.1]; exact Row.Vals.none_ _, by omega, (fun x hx => by cases hx), below_put2 (hB1.trans (hB2.mono hB1.size)) (Nat.le_refl _) _ _⟩
        · rw [h0] at hflags
          have hl := hs (by omega)
          have HR := Lib.hid (show lookE b = 6 ∧ lookSeq b = 0 ∧ lookL b = [] ∧ lookN b = 0 from ⟨hl, look_bad (by rw [hl]; decide)⟩)
          clear hl hv hsam hst hx hve hflg hM he hf hs h0
          unfold LookIs
          go_enter Try.func21, Try.ntmps21
          go_wp2_with (first
            | (go_at_call 33; ((with_reducible refine hhead.mono ?_); rintro e w' ⟨rfl, rfl⟩))
            | (go_at_call 34; ((with_reducible refine hsz.mono ?_); rintro e w' ⟨rfl, rfl⟩))
            | (go_at_call 35; ((with_reducible refine hflags.mono ?_); rintro e W1 ⟨rfl, hB2⟩; have hF2 := hF1.below hB2 (by simp); obtain ⟨q2, q3, r2, r3⟩ := hF2.two))
            | (go_at_call 36; ((with_reducible refine (hseal _ hB2).mono ?_); rintro e w' ⟨rfl, rfl⟩)))
          obtain ⟨p0, p1, _, _⟩ := (hF2.put2 (.int .u8 0) (.slice none 0 0)).two
          refine bodyPost_ret (v := .tuple #[.agg #[.int .u8 0, .slice none 0 0], .int .i64 0, .int .i64 6]) (by simp [results, Try.results21, go_sem, p0, p1]) rfl ⟨none, 0, 0, by rw [HR.out.1, HR.out.2.1, HR.out.2.2.2]; rfl, by omega, by omega, by rw [HR.out.2.2.1]; exact Row.Vals.none_ _, by omega, (fun x hx => by cases hx), below_put2 (hB1.trans (hB2.mono hB1.size)) (Nat.le_refl _) _ _⟩
      · obtain rfl : e = M := by omega
        have hnMi : ¬ (n : Int) < (e : Int) ∧ (e : Int) ≤ (n : Int) := by omega
        have h4M : 4 ≤ e ∧ e ≤ c := by omega
        rcases hfl with ⟨h62, hl⟩ | ⟨h0, hs, hg⟩
        · rw [h62] at hflags
          have HR := Lib.hid (show lookE b = 62 ∧ lookSeq b = 0 ∧ lookL b = [] ∧ lookN b = 0 from ⟨hl, look_bad (by rw [hl]; decide)⟩)
          clear hl hv hsam hst hx hve h62 hflg hM he hf
          unfold LookIs
          go_enter Try.func21, Try.ntmps21
          go_wp2_with (first
            | (go_at_call 33; ((with_reducible refine hhead.mono ?_); rintro e w' ⟨rfl, rfl⟩))
            | (go_at_call 34; ((with_reducible refine hsz.mono ?_); rintro e w' ⟨rfl, rfl⟩))
            | (go_at_call 35; ((with_reducible refine hflags.mono ?_); rintro e W1 ⟨rfl, hB2⟩; have hF2 := hF1.below hB2 (by simp); obtain ⟨q2, q3, r2, r3⟩ := hF2.two))
            | (go_at_call 36; ((with_reducible refine (hseal _ hB2).mono ?_); rintro e w' ⟨rfl, rfl⟩)))
          obtain ⟨p0, p1, _, _⟩ := (hF2.put2 (.int .u8 0) (.slice none 0 0)).two
          refine bodyPost_ret (v := .tuple #[.agg #[.int .u8 0, .slice none 0 0], .int .i64 0, .int .i64 62]) (by simp [results, Try.results21, go_sem, p0, p1]) rfl ⟨none, 0, 0, by rw [HR.out.1, HR.out.2.1, HR.out.2.2.2]; rfl, by omega, by omega, by rw [HR.out.2.2.1]; exact Row.Vals.none_ _, by omega, (fun x hx => by cases hx), below_put2 (hB1.trans (hB2.mono hB1.size)) (Nat.le_refl _) _ _⟩
        · rw [h0] at hflags
          rcases Nat.lt_or_ge n N with hnN | hnN
          · have hnNi : (n : Int) < (N : Int) := by omega
            have hl := hs (by omega)
            have HR := Lib.hid (show lookE b = 6 ∧ lookSeq b = 0 ∧ lookL b = [] ∧ lookN b = 0 from ⟨hl, look_bad (by rw [hl]; decide)⟩)
            clear hl hv hsam hst hx hve hflg hM he hf hs h0 hg hnN
            unfold LookIs
            go_enter Try.func21, Try.ntmps21
            go_wp2_with (first
              | (go_at_call 33; ((with_reducible refine hhead.mono ?_); rintro e w' ⟨rfl, rfl⟩))
              | (go_at_call 34; ((with_reducible refine hsz.mono ?_); rintro e w' ⟨rfl, rfl⟩))
              | (go_at_call 35; ((with_reducible refine hflags.mono ?_); rintro e W1 ⟨rfl, hB2⟩; have hF2 := hF1.below hB2 (by simp); obtain ⟨q2, q3, r2, r3⟩ := hF2.two))
              | (go_at_call 36; ((with_reducible refine (hseal _ hB2).mono ?_); rintro e w' ⟨rfl, rfl⟩)))
            obtain ⟨p0, p1, _, _⟩ := (hF2.put2 (.int .u8 0) (.slice none 0 0)).two
            refine bodyPost_ret (v := .tuple #[.agg #[.int .u8 0, .slice none 0 0], .int .i64 0, .int .i64 6]) (by simp [results, Try.results21, go_sem, p0, p1]) rfl ⟨none, 0, 0, by rw [HR.out.1, HR.out.2.1, HR.out.2.2.2]; rfl, by omega, by omega, by rw [HR.out.2.2.1]; exact Row.Vals.none_ _, by omega, (fun x hx => by cases hx), below_put2 (hB1.trans (hB2.mono hB1.size)) (Nat.le_refl _) _ _⟩
          · have hnNi : ¬ (n : Int) < (N : Int) := by omega
            have h2N : 2 ≤ N ∧ N ≤ c ∧ (N : Int) ≤ (n : Int) ∧ (N : Int) ≤ (c : Int) := by omega
            obtain ⟨c2, hc22⟩ : ∃ c2, c - 2 = c2 := ⟨_, rfl⟩
            have hc2z : ¬ c = 2 ∧ 2 < c := by omega
            have hv2 := (hv.take N hnN).drop 2 (by omega)
            rw [hM, Option.map_some, show x.add 2 = ⟨x.block, x.off + 2, none⟩ by simp [Addr.add]] at hv2
            have hb2 : Bytes ((b.take N).drop 2) := fun y hy => hb y (List.mem_of_mem_take (List.mem_of_mem_drop hy))
            have hseal : ∀ W, Below (w.alloc (.cells #[.int .u8 0, .slice none 0 0] 52)).heap.size (w.alloc (.cells #[.int .u8 0, .slice none 0 0] 52)) W → Calls Try.prog 36 #[.slice (some ⟨x.block, x.off + 2, none⟩) e c2] W fun e w' => e = .returned (.bool (Crc.sealedB ((b.take N).drop 2))) ∧ W = w' := fun W hW => Crc.sealed_any _ e c2 _ W ((hv2.alloc _).below hW) hb2 (by omega) (by omega) (by omega)
            obtain ⟨Q, hQ⟩ : ∃ Q, Crc.sealedB ((b.take N).drop 2) = Q := ⟨_, rfl⟩
            rw [hQ] at hseal hg
            cases Q with
            | false =>
              have hl := (hg (by omega)).1 rfl
              have HR := Lib.hid (show lookE b = 63 ∧ lookSeq b = 0 ∧ lookL b = [] ∧ lookN b = 0 from ⟨hl, look_bad (by rw [hl]; decide)⟩)
              clear hl hv hsam hst hx hve hflg he hf hs h0 hg hnN hv2 hb2 hQ hN
              unfold LookIs
              go_enter Try.func21, Try.ntmps21
              go_wp2_with (first
                | (go_at_call 33; ((with_reducible refine hhead.mono ?_); rintro e w' ⟨rfl, rfl⟩))
                | (go_at_call 34; ((with_reducible refine hsz.mono ?_); rintro e w' ⟨rfl, rfl⟩))
                | (go_at_call 35; ((with_reducible refine hflags.mono ?_); rintro e W1 ⟨rfl, hB2⟩; have hF2 := hF1.below hB2 (by simp); obtain ⟨q2, q3, r2, r3⟩ := hF2.two))
                | (go_at_call 36; ((with_reducible refine (hseal _ hB2).mono ?_); rintro e w' ⟨rfl, rfl⟩)))
              obtain ⟨p0, p1, _, _⟩ := (hF2.put2 (.int .u8 0) (.slice none 0 0)).two
              refine bodyPost_ret (v := .tuple #[.agg #[.int .u8 0, .slice none 0 0], .int .i64 0, .int .i64 63]) (by simp [results, Try.results21, go_sem, p0, p1]) rfl ⟨none, 0, 0, by rw [HR.out.1, HR.out.2.1, HR.out.2.2.2]; rfl, by omega, by omega, by rw [HR.out.2.2.1]; exact Row.Vals.none_ _, by omega, (fun x hx => by cases hx), below_put2 (hB1.trans (hB2.mono hB1.size)) (Nat.le_refl _) _ _⟩
            | true =>
              have hl := (hg (by omega)).2 rfl
              obtain ⟨l1, l2, l3⟩ := look_ok hl
              have hb3 : b.getD 3 0 = m := by have : sizeT b = 6 + 3 * b.getD 3 0 := rfl; omega
              rw [hb3] at l2
              rw [hN] at l3
              have hsam2 := hsam (by omega)
              rw [hM, ← l2] at hsam2
              have hm4 : 3 * m = e4 := by omega
              have hvs : Vals w (some ⟨x.block, x.off + 4, none⟩) (3 * m) ((b.take e).drop 4) := by rw [hm4, ← hflg]; exact hve
              have hbs : Bytes ((b.take e).drop 4) := fun y hy => hb y (List.mem_of_mem_take (List.mem_of_mem_drop hy))
              have hsamp : ∀ W, Below w.heap.size w W → Calls Try.prog 37 #[.slice (some ⟨x.block, x.off + 4, none⟩) e4 c4] W fun e w' => ∃ v, e = .returned v ∧ w'.ownsRow (W.heap.size + 3) 44 2 v m (Row.flat sampS (lookL b)) ∧ Below W.heap.size W w' := fun W hW => by
                have h9 := samples_any (some ⟨x.block, x.off + 4, none⟩) m c4 _ W (hvs.below hW) hbs (by omega) (by omega) (by omega)
                rw [hm4, hsam2] at h9
                exact h9
              have hsq := hx 2 (by omega)
              rw [show x.add 2 = ⟨x.block, x.off + 2, none⟩ by simp [Addr.add]] at hsq
              have hxl := World.block_lt_of_cell? _ _ hsq
              replace hxl : x.block < w.heap.size := hxl
              obtain ⟨sq, hsq2⟩ : ∃ sq, b.getD 2 0 = sq := ⟨_, rfl⟩
              rw [hsq2] at hsq l1
              have HR := Lib.hid (show lookE b = 0 ∧ lookSeq b = sq ∧ lookN b = N from ⟨hl, l1, l3⟩)
              have h2n : 2 < n ∧ (2 : Int) < (n : Int) ∧ (4 : Int) ≤ (e : Int) := by omega
              have hm32 : m ≤ 32 := h32
              clear hl l1 l2 l3 hv hsam hst hx hve hflg he hf hs h0 hg hnN hv2 hb2 hQ hN hsam2 hvs hbs hsq2 hb3 hm4
              unfold LookIs
              go_enter Try.func21, Try.ntmps21
              go_wp2_with (first
                | (go_at_call 33; ((with_reducible refine hhead.mono ?_); rintro e w' ⟨rfl, rfl⟩))
                | (go_at_call 34; ((with_reducible refine hsz.mono ?_); rintro e w' ⟨rfl, rfl⟩))
                | (go_at_call 35; ((with_reducible refine hflags.mono ?_); rintro e W1 ⟨rfl, hB2⟩; have hF2 := hF1.below hB2 (by simp); obtain ⟨q2, q3, r2, r3⟩ := hF2.two))
                | (go_at_call 36; ((with_reducible refine (hseal _ hB2).mono ?_); rintro e w' ⟨rfl, rfl⟩)))
              have hcq : W1.cell? ⟨x.block, x.off + 2, none⟩ = some (.int .u8 sq) := ((hB1.trans (hB2.mono hB1.size)).cell (p := ⟨x.block, x.off + 2, none⟩) hxl).trans hsq
              have hBw := hB1.trans (hB2.mono hB1.size)
              refine Reg.begin_ (S := fun W => W.cell? ⟨x.block, x.off + 2, none⟩ = some (.int .u8 sq)) (by kernel_rfl) (by exact hcq) (fun hHeld => ?_)
              have hFd : Has W1.drew w.heap.size 52 #[.int .u8 0, .slice none 0 0] := hF2
              have hBd : Below w.heap.size w W1.drew := below_drewN hBw 1
              generalize W1.drew = wd at *
              clear hB2 hF2 q2 q3 r2 r3 hBw hcq
              refine Reg.take (i := 0) (v := ?v1) rfl (by kernel_rfl) (by kernel_rfl) (by kernel_rfl) (by rfl) ?hv1 (by assumption) ?rest1
              case hv1 => first | (intro w hSw; (try dsimp only at hSw); go_simp; done) | (intro w hSw; (try dsimp only at hSw); go_simp; with_reducible rfl)
              (try simp only [Act.put, List.setIfInBounds_toArray, List.set_cons_zero, List.set_cons_succ])
              refine Reg.take (i := 1) (v := ?v2) rfl (by kernel_rfl) (by kernel_rfl) (by kernel_rfl) (by rfl) ?hv2 (by assumption) ?rest2
              case hv2 => first | (intro w hSw; (try dsimp only at hSw); go_simp; done) | (intro w hSw; (try dsimp only at hSw); go_simp; with_reducible rfl)
              (try simp only [Act.put, List.setIfInBounds_toArray, List.set_cons_zero, List.set_cons_succ])
              refine Reg.take (i := 2) (v := ?v3) rfl (by kernel_rfl) (by kernel_rfl) (by kernel_rfl) (by rfl) ?hv3 (by assumption) ?rest3
              case hv3 => first | (intro w hSw; (try dsimp only at hSw); go_simp; done) | (intro w hSw; (try dsimp only at hSw); go_simp; with_reducible rfl)
              (try simp only [Act.put, List.setIfInBounds_toArray, List.set_cons_zero, List.set_cons_succ])
              refine Reg.take (i := 3) (v := ?v4) rfl (by kernel_rfl) (by kernel_rfl) (by kernel_rfl) (by rfl) ?hv4 (by assumption) ?rest4
              case hv4 => first | (intro w hSw; (try dsimp only at hSw); go_simp; done) | (intro w hSw; (try dsimp only at hSw); go_simp; with_reducible rfl)
              (try simp only [Act.put, List.setIfInBounds_toArray, List.set_cons_zero, List.set_cons_succ])
              refine Reg.take (i := 4) (v := ?v5) rfl (by kernel_rfl) (by kernel_rfl) (by kernel_rfl) (by rfl) ?hv5 (by assumption) ?rest5
              case hv5 => first | (intro w hSw; (try dsimp only at hSw); go_simp; done) | (intro w hSw; (try dsimp only at hSw); go_simp; with_reducible rfl)
              (try simp only [Act.put, List.setIfInBounds_toArray, List.set_cons_zero, List.set_cons_succ])
              refine Reg.take (i := 5) (v := ?v6) rfl (by kernel_rfl) (by kernel_rfl) (by kernel_rfl) (by rfl) ?hv6 (by assumption) ?rest6
              case hv6 => first | (intro w hSw; (try dsimp only at hSw); go_simp; done) | (intro w hSw; (try dsimp only at hSw); go_simp; with_reducible rfl)
              (try simp only [Act.put, List.setIfInBounds_toArray, List.set_cons_zero, List.set_cons_succ])
              refine Reg.take (i := 8) (v := ?v7) rfl (by kernel_rfl) (by kernel_rfl) (by kernel_rfl) (by rfl) ?hv7 (by assumption) ?rest7
              case hv7 => first | (intro w hSw; (try dsimp only at hSw); go_simp; done) | (intro w hSw; (try dsimp only at hSw); go_simp; with_reducible rfl)
              (try simp only [Act.put, List.setIfInBounds_toArray, List.set_cons_zero, List.set_cons_succ])
              refine Reg.call (i := 6) rfl (by kernel_rfl) (by rfl) ?_
              intro K hK
              go_simp
              go_at_call 37
              (with_reducible refine (hsamp _ hBd).mono ?_)
              rintro e9 W3 ⟨v, rfl, hO3, hB3⟩
              have hF3 := hFd.below hB3 hFd.lt
              have hBw := hBd.trans (hB3.mono hBd.size)
              have hcq3 := (hBw.cell (p := ⟨x.block, x.off + 2, none⟩) hxl).trans hsq
              have hds := hFd.lt
              obtain ⟨A1, d1, rfl, e1, e2, hV1, hA1, _⟩ := Row.Vals.own (S := sampS) hO3
              refine hK.out _ _ hcq3 (fun hHeld2 => ?_)
              clear hK K
              (try simp only [Act.put, List.setIfInBounds_toArray, List.set_cons_zero, List.set_cons_succ])
              refine Reg.take (i := 7) (v := ?v8) rfl (by kernel_rfl) (by kernel_rfl) (by kernel_rfl) (by rfl) ?hv8 (by assumption) ?rest8
              case hv8 => first | (intro w hSw; (try dsimp only at hSw); go_simp; done) | (intro w hSw; (try dsimp only at hSw); go_simp; with_reducible rfl)
              (try simp only [Act.put, List.setIfInBounds_toArray, List.set_cons_zero, List.set_cons_succ])
              obtain ⟨q2, q3, r2, r3⟩ := hF3.two
              obtain ⟨p0, p1, _, _⟩ := (hF3.put2 (.int .u8 sq) (.slice A1 m d1)).two
              have hB9 := below_put2 hBw (Nat.le_refl _) (.int .u8 sq) (.slice A1 m d1)
              have hcq9 := (hB9.cell (p := ⟨x.block, x.off + 2, none⟩) hxl).trans hsq
              refine Reg.call (i := 9) rfl (by kernel_rfl) (by rfl) ?_
              intro K hK
              go_simp
              refine hK.out _ _ hcq9 (fun hHeld3 => ?_)
              clear hK K
              (try simp only [Act.put, List.setIfInBounds_toArray, List.set_cons_zero, List.set_cons_succ])
              refine Reg.take (i := 10) (v := ?v9) rfl (by kernel_rfl) (by kernel_rfl) (by kernel_rfl) (by rfl) ?hv9 (by assumption) ?rest9
              case hv9 => first | (intro w hSw; (try dsimp only at hSw); go_simp; done) | (intro w hSw; (try dsimp only at hSw); go_simp; with_reducible rfl)
              (try simp only [Act.put, List.setIfInBounds_toArray, List.set_cons_zero, List.set_cons_succ])
              refine Reg.take (i := 11) (v := ?v10) rfl (by kernel_rfl) (by kernel_rfl) (by kernel_rfl) (by rfl) ?hv10 (by assumption) ?rest10
              case hv10 => first | (intro w hSw; (try dsimp only at hSw); go_simp; done) | (intro w hSw; (try dsimp only at hSw); go_simp; with_reducible rfl)
              (try simp only [Act.put, List.setIfInBounds_toArray, List.set_cons_zero, List.set_cons_succ])
              refine Reg.done (by kernel_rfl) ?_ _
              go_wp2
              have hK9 := ((Kept.refl [w.heap.size] W3).setCell (p := ⟨w.heap.size, 0, none⟩) (.inl (by simp)) (.int .u8 sq)).setCell (p := ⟨w.heap.size, 1, none⟩) (.inl (by simp)) (.slice A1 m d1)
              refine bodyPost_ret (v := .tuple #[.agg #[.int .u8 sq, .slice A1 m d1], .int .i64 N, .int .i64 0]) (by simp [results, Try.results21, go_sem, p0, p1]) rfl ⟨A1, m, d1, by rw [HR.out.1, HR.out.2.1, HR.out.2.2], e1, e2, hV1.kept hK9 (fun _ y hy => by have := (hA1 y hy).1; simp; omega), hm32, (fun y hy => by have := (hA1 y hy).1; omega), hB9⟩
end Go.Proofs.Ytfimgkomfnfjkaa.Frm
end
section
/- parse's walk, which hands each frame to a function that it is given. -/
set_option linter.unusedSimpArgs false
set_option linter.unusedVariables false
namespace Go.Proofs.Ytfimgkomfnfjkaa.Par
open Go.RowKit RU8 Frm
theorem vals_kept {w w' : World} {T : List Nat} {a : Option Addr} {len : Nat} {ys : List Nat} (h : Vals w a len ys) (hb : Kept T w w') (h1 : 0 < len → ∀ x, a = some x → x.block ∉ T) : Vals w' a len ys :=
  ⟨h.len_, fun h0 => by
    obtain ⟨x, hx, hc⟩ := h.cells h0
    refine ⟨x, hx, fun j hj => ?_⟩
    rw [← hc j hj]
    have hl := World.block_lt_of_cell? _ _ (hc 0 h0)
    rw [block_add] at hl
    exact hb.cell (by rw [block_add]; exact hl) (by rw [block_add]; exact h1 h0 x hx)⟩
/-- What the function that is handed over does at the frame with this number. -/
def Takes (f : FuncId) (caps : Array Value) (go : Bool) (ps : List Place) (J : Nat → World → Prop) : Prop :=
  ∀ (k : Nat) (W0 W : World) (q : Ptr), k < ps.length → J k W0 → Below W0.heap.size W0 W → Row.Vals sampS W q.A q.n (ps.getD k noPlace).l → q.n ≤ q.c → q.c ≤ 9223372036854775807 → q.n ≤ 32 → (∀ x, q.A = some x → W0.heap.size ≤ x.block) →
    Calls Try.prog f (#[.int .i64 ((ps.getD k noPlace).at_ : Nat), .int .i64 ((ps.getD k noPlace).end_ : Nat), .agg #[.int .u8 ((ps.getD k noPlace).seq : Nat), .slice q.A q.n q.c]] ++ caps) W fun e W' => e = .returned (.bool go) ∧ J (k + 1) W'
/-- What a walk has done: it has handed on so many frames, and ended there. -/
def Walked (go : Bool) (ps : List Place) (E : Nat) (J : Nat → World → Prop) (e : Ending) (w' : World) : Prop :=
  ∃ k z : Nat, e = .returned (.int .i64 (z : Nat)) ∧ J k w' ∧ (go = true → k = ps.length ∧ z = E) ∧ (go = false → k = min 1 ps.length)
theorem place_at {b : List Nat} {k : Nat} {d : Bool} {ps : List Place} (h : Walking b k d ps) (h0 : lookE (b.drop k) = 0) : ps.length < (walkP 0 b).length ∧ (walkP 0 b).getD ps.length noPlace = ⟨k, lookSeq (b.drop k), lookL (b.drop k)⟩ := by
  rw [h.walk, (walk_good k h0).1]
  exact ⟨by simp, by simp⟩
set_option maxHeartbeats 1000000 in
theorem walk_any (f : FuncId) (he : Enters Try.prog f) (caps : Array Value) (go : Bool) (S : List Nat) (J : Nat → World → Prop) (A : Option Addr) (n c : Nat) (b : List Nat) (w : World) (hv : Vals w A n b) (hb : Bytes b) (hn : n ≤ 4000) (hc : n ≤ c) (hc2 : c ≤ 9223372036854775807)
    (hS : 0 < n → ∀ x, A = some x → x.block ∉ S) (hJS : ∀ k W, J k W → Kept S w W) (hJB : ∀ k W W', J k W → Below W.heap.size W W' → J k W') (hf : Takes f caps go (walkP 0 b) J) (h0 : J 0 w) :
    Calls Try.prog 31 #[.slice A n c, .func (.func f) #[] caps] w (Walked go (walkP 0 b) (endT b) J) := by
  have hlen := hv.len_
  have HS := Lib.hid (walking_start b)
  have he2 : ∀ (args : Array Value) (W : World), (callFunc f args).run Try.prog W = .ok (.enter f args) W := he
  go_enter Try.func31, Try.ntmps31
  go_wp2
  go_step3
  go_wp2
  go_step3
  go_wp2
  go_loopw [5] (fun i wr => ∃ (k : Nat) (dd : Bool) (ps : List Place), i = .int .i64 (k : Nat) ∧ Walking b k dd ps ∧ J ps.length wr ∧ (go = false → ps = [])) (fun i _ => n - (intOf i).toNat)
  case atStart => exact ⟨0, false, [], rfl, HS.out, h0, fun _ => rfl⟩
  case round =>
    obtain ⟨k, dd, ps, rfl, hW, hJ, hps⟩ := hrel
    have hk := hW.le
    rw [hlen] at hk
    have HW := Lib.hid hW
    clear hW
    by_cases hkn : k < n
    · obtain ⟨x, rfl, _⟩ := hv.cells (by omega)
      have hlk := look_any (some (x.add k)) (n - k) (c - k) (b.drop k) wr ((vals_kept hv (hJS _ _ hJ) hS).drop k (by omega)) (bytes_drop hb k) (by omega) (by omega) (by omega)
      unfold LookIs at hlk
      have HB' := Lib.hid (bytes_drop hb k)
      have HL1 := Lib.hid hkn
      by_cases h6 : lookE (b.drop k) = 6
      · obtain ⟨hz1, hz2⟩ := walking_end HW.out h6
        rw [h6] at hlk
        have HZ := Lib.hid (show walkP 0 b = ps ∧ endT b = k from ⟨hz1, hz2⟩)
        generalize lookSeq (b.drop k) = q at hlk
        generalize lookL (b.drop k) = ls at hlk
        generalize lookN (b.drop k) = N at hlk
        clear h6 hz1 hz2 hf hv hb
        go_wp2_with (go_at_call 21; ((with_reducible refine hlk.mono ?_); rintro e W1 ⟨A9, m9, c9, rfl, g1, g2, g3, g4, g5, hB1⟩; have hB2 := hB1.alloc hB1.size (.cells #[.int .u8 (q : Nat), .slice A9 m9 c9] 52)))
        go_ret
        exact ⟨ps.length, k, rfl, hJB _ _ _ hJ hB2, fun _ => ⟨by rw [HZ.out.1], HZ.out.2.symm⟩, fun h => by rw [HZ.out.1, hps h]; rfl⟩
      · by_cases h0 : lookE (b.drop k) = 0
        · obtain ⟨hW2, hNb⟩ := walking_good hb HW.out h0
          obtain ⟨s1, s2, s3, s4, s5⟩ := look_size HB'.out h0
          obtain ⟨p1, p2⟩ := place_at HW.out h0
          have hff := hf ps.length wr
          rw [p2] at hff
          rw [List.length_drop, hlen] at s2
          have hend : (⟨k, lookSeq (b.drop k), lookL (b.drop k)⟩ : Place).end_ = k + lookN (b.drop k) := by unfold Place.end_; rw [s1]
          rw [hend] at hff
          rw [h0] at hlk
          have HW2 := Lib.hid hW2
          have HP1 := Lib.hid p1
          have hN9 : 6 ≤ lookN (b.drop k) := by omega
          clear s1 s3 s4 hW2 p1 p2 hend h0 h6 hv hb hf
          dsimp only at hff
          generalize lookSeq (b.drop k) = q at *
          generalize lookL (b.drop k) = ls at *
          generalize lookN (b.drop k) = N at *
          obtain ⟨kn, hkn2⟩ : ∃ m, k + N = m := ⟨_, rfl⟩
          rw [hkn2] at hff
          have hknz : (k : Int) + (N : Int) = (kn : Int) := by omega
          have HKN := Lib.hid hkn2
          clear hkn2
          cases go with
          | true =>
            go_wp2_with (first
              | (go_at_call 21; ((with_reducible refine hlk.mono ?_); rintro e W1 ⟨A9, m9, c9, rfl, g1, g2, g3, g4, g5, hB1⟩; have hB2 := hB1.alloc hB1.size (.cells #[.int .u8 (q : Nat), .slice A9 m9 c9] 52); have hcl := hff _ ⟨A9, m9, c9⟩ HP1.out hJ hB2 (g3.alloc _) g1 g2 g4 g5))
              | (go_at_fn f; ((with_reducible refine hcl.mono ?_); rintro e W2 ⟨rfl, hJ2⟩)))
            go_roundw
            case rel => exact ⟨kn, false, ps ++ [⟨k, q, ls⟩], rfl, by rw [← HKN.out]; exact HW2.out, by rw [List.length_append, List.length_singleton]; exact hJ2, fun h => by cases h⟩
            case measure => simp [intOf]; have := HKN.out; omega
          | false =>
            have HPS := Lib.hid (hps rfl)
            go_wp2_with (first
              | (go_at_call 21; ((with_reducible refine hlk.mono ?_); rintro e W1 ⟨A9, m9, c9, rfl, g1, g2, g3, g4, g5, hB1⟩; have hB2 := hB1.alloc hB1.size (.cells #[.int .u8 (q : Nat), .slice A9 m9 c9] 52); have hcl := hff _ ⟨A9, m9, c9⟩ HP1.out hJ hB2 (g3.alloc _) g1 g2 g4 g5))
              | (go_at_fn f; ((with_reducible refine hcl.mono ?_); rintro e W2 ⟨rfl, hJ2⟩)))
            go_ret
            exact ⟨_, k, rfl, hJ2, (fun h => by cases h), fun _ => by
              have := HP1.out
              rw [HPS.out] at this ⊢
              rw [List.length_nil] at this ⊢
              omega⟩
        · have hW2 := walking_bad HW.out h6 h0
          have HW2 := Lib.hid hW2
          clear hW2
          generalize lookSeq (b.drop k) = q at hlk
          generalize lookL (b.drop k) = ls at hlk
          generalize lookN (b.drop k) = N at hlk
          generalize lookE (b.drop k) = E at *
          have h6z : (E == 6) = false := by simp; exact h6
          have h0z : (E == 0) = false := by simp; exact h0
          clear h6 h0 hf hv hb
          go_wp2_with (go_at_call 21; ((with_reducible refine hlk.mono ?_); rintro e W1 ⟨A9, m9, c9, rfl, g1, g2, g3, g4, g5, hB1⟩; have hB2 := hB1.alloc hB1.size (.cells #[.int .u8 (q : Nat), .slice A9 m9 c9] 52)))
          go_roundw
          case rel => exact ⟨k + 1, true, ps, by go_num, HW2.out, hJB _ _ _ hJ hB2, hps⟩
          case measure => have := HL1.out; simp [intOf]; omega
    · have hkn2 : k = n := by omega
      have h6 : lookE (b.drop k) = 6 := by rw [show b.drop k = [] from List.eq_nil_of_length_eq_zero (by rw [List.length_drop, hlen]; omega)]; exact look_nil
      obtain ⟨hz1, hz2⟩ := walking_end HW.out h6
      have HZ := Lib.hid (show walkP 0 b = ps ∧ endT b = k from ⟨hz1, hz2⟩)
      clear h6 hz1 hz2 hf hv hb
      subst hkn2
      go_wp2
      go_ret
      exact ⟨ps.length, k, rfl, hJ, fun _ => ⟨by rw [HZ.out.1], HZ.out.2.symm⟩, fun h => by rw [HZ.out.1, hps h]; rfl⟩
end Go.Proofs.Ytfimgkomfnfjkaa.Par
end
section
/- What parse's Frames and First answer. -/
set_option linter.unusedSimpArgs false
set_option linter.unusedVariables false
namespace Go.Proofs.Ytfimgkomfnfjkaa.Par
open Go.RowKit RU8 Frm
theorem walk_many (o : Nat) (b : List Nat) : (walkP o b).length ≤ b.length := by
  induction o, b using walk_ind with
  | hend o b h => rw [(walk_end o h).1]; exact Nat.zero_le _
  | hbad o b h6 h0 ih =>
    rw [(walk_bad o h6 h0).1]
    rw [List.length_drop] at ih
    omega
  | hgood o b h0 ih =>
    rw [(walk_good o h0).1]
    rw [List.length_drop] at ih
    have h1 := ne_nil (b := b) (by rw [h0]; decide)
    have h2 := lookN_pos h0
    rw [List.length_cons]
    omega
theorem vals_lt {w : World} {A : Option Addr} {n : Nat} {b : List Nat} (hv : Vals w A n b) : 0 < n → ∀ x, A = some x → x.block < w.heap.size := fun h0 x hx => by
  obtain ⟨y, hy, hcs⟩ := hv.cells h0
  rw [hx] at hy
  injection hy with hy
  subst hy
  have := World.block_lt_of_cell? _ _ (hcs 0 h0)
  rwa [block_add] at this
/-! ### Frames -/
theorem fvs_snoc (ps : List Place) (qs : List Ptr) (h : qs.length = ps.length) (p : Place) (q : Ptr) : fvs (ps ++ [p]) (qs ++ [q]) = fvs ps qs ++ [(p.seq, q)] := by
  unfold fvs
  rw [List.zipWith_append h.symm]
  rfl
def FramesJ (w : World) (T : Nat) (ps : List Place) (k : Nat) (W : World) : Prop :=
  ∃ (v : Value) (qs : List Ptr), Has W T 57 #[v] ∧ W.ownsRow (T + 1) 52 2 v k (Row.flat frameS (fvs (ps.take k) qs)) ∧ Held W (T + 1) v.ownBlock qs ((ps.take k).map (·.l)) ∧ Kept [T] w W
theorem frames_below {w : World} {T : Nat} {ps : List Place} {k : Nat} {W W' : World} (h : FramesJ w T ps k W) (hB : Below W.heap.size W W') : FramesJ w T ps k W' := by
  obtain ⟨v, qs, h1, h2, h3, h4⟩ := h
  have hk := Kept.of_below (S := []) hB
  exact ⟨v, qs, hk.has h1 (by simp), own_kept h2 hk (by simp), h3.below hB, h4.trans (Kept.of_below hB)⟩
set_option maxHeartbeats 1000000 in
theorem takes_frames (w : World) (T : Nat) (ps : List Place) (hps : ∀ p ∈ ps, mayT p.l = true ∧ p.seq < 256) (hlen : ps.length ≤ 4000) (hT : T + 1 = w.heap.size) :
    Takes 39 #[.pointer (some ⟨T, 0, none⟩)] true ps (FramesJ w T ps) := by
  intro k W0 W q hk hJ hB hv h1 h2 h3 hfar
  show Calls Try.prog 39 #[_, _, _, .pointer (some ⟨T, 0, none⟩)] W _
  have hInfo : (Try.prog.info? 52).map (fun i => (i.zero, i.size, i.bytes)) = some (some (.agg #[.int .u8 0, .slice none 0 0]), 2, 32) := by kernel_rfl
  have HInfo := Lib.hid hInfo
  obtain ⟨v, qs, g1, g2, g3, g4⟩ := hJ
  have hkb := Kept.of_below (S := []) hB
  have hF := hkb.has g1 (by simp)
  have hO := own_kept g2 hkb (by simp)
  have hH := g3.below hB
  have hK : Kept [T] w W := g4.trans (Kept.of_below hB)
  have hm : 1 ≤ (ps.getD k noPlace).l.length := (may_len (hps _ (getD_mem ps noPlace k hk)).1).1
  have hJO : ∀ x, q.A = some x → T + 1 ≤ x.block ∧ some x.block ≠ v.ownBlock := fun x hx => by
    have h9 := hfar x hx
    have hT9 := g1.lt
    refine ⟨by omega, fun e => ?_⟩
    have := (own_block g2 x.block e.symm).2
    omega
  have hql : qs.length = (ps.take k).length := by rw [hH.len, List.length_map]
  have hst := fvs_snoc (ps.take k) qs hql (ps.getD k noPlace) q
  rw [← take_step ps noPlace k hk] at hst
  have HST := Lib.hid hst
  have hTl := hF.lt
  have hhh := hv.len_
  clear hInfo hps hst g1 g2 g3 g4
  generalize (ps.getD k noPlace).seq = sq at *
  generalize (ps.getD k noPlace).at_ = at_ at *
  generalize (ps.getD k noPlace).end_ = to at *
  obtain ⟨qA, qn, qc⟩ := q
  dsimp only at *
  have hB1 := (Kept.refl [] W).alloc (.cells #[.int .u8 (sq : Nat), .slice qA qn qc] 52)
  have hB2 := hB1.alloc (.cells #[.int .u8 (sq : Nat), .slice qA qn qc] 52)
  have hF1 := hB1.has hF (by simp)
  have hF2 := hB2.has hF (by simp)
  have hO2 := own_kept hO hB2 (by simp)
  have hVn : Row.Vals frameS ((W.alloc (.cells #[.int .u8 (sq : Nat), .slice qA qn qc] 52)).alloc (.cells #[.int .u8 (sq : Nat), .slice qA qn qc] 52)) (some ⟨W.heap.size + 1, 0, none⟩) 1 [(sq, ⟨qA, qn, qc⟩)] := by
    have := Row.Vals.has (S := frameS) (ys := [(sq, (⟨qA, qn, qc⟩ : Ptr))]) (tl := []) (Has.new (W.alloc (.cells #[.int .u8 (sq : Nat), .slice qA qn qc] 52)) 52 #[.int .u8 (sq : Nat), .slice qA qn qc])
    simpa using this
  have l1 : (W.alloc (.cells #[.int .u8 (sq : Nat), .slice qA qn qc] 52)).cell? ⟨T, 0, none⟩ = some v := hF1.cell 0
  have l2 : ((W.alloc (.cells #[.int .u8 (sq : Nat), .slice qA qn qc] 52)).alloc (.cells #[.int .u8 (sq : Nat), .slice qA qn qc] 52)).cell? ⟨T, 0, none⟩ = some v := hF2.cell 0
  have hBase : T + 1 ≤ ((W.alloc (.cells #[.int .u8 (sq : Nat), .slice qA qn qc] 52)).alloc (.cells #[.int .u8 (sq : Nat), .slice qA qn qc] 52)).heap.size := by simp; omega
  go_enter Try.func39, Try.ntmps39
  go_wp2_with (at_builtin; refine Row.wpList_append (S := frameS) rfl (.tmp 8) (.tmp 10) _ rfl (T + 1) 52 _ 32 (by omega) Try.underlying57 HInfo.out (by kernel_rfl) v k (fvs (ps.take k) qs) rfl (by exact hO2) _ 1 1 [(sq, ⟨qA, qn, qc⟩)] rfl (by exact hVn) (by omega) (by exact hBase) ?_; intro v9 W3 hO1 hg1 hat1; rw [← HST.out] at hO1; obtain ⟨A9, d9, rfl, e9, e8, _⟩ := Row.Vals.own hO1; have hF3 := (Kept.of_grown hg1).has hF2 (own_apart hO2 (by omega)); have t1 := hF3.cell 0; have t2 := hF3.frozen 0)
  go_ret
  have hH2 := ((hH.kept hB2 (by simp)).snoc (q := ⟨qA, qn, qc⟩) (l := (ps.getD k noPlace).l) ((hv.alloc _).alloc _) ⟨h1, h2, h3⟩ (fun x hx => by
    have hx' : qA = some x := hx
    obtain ⟨h8, h9⟩ := hJO x hx'
    subst hx'
    exact ⟨h8, Nat.lt_of_lt_of_le (vals_block hv (by omega)) hB2.size, h9⟩)).grown hg1 hat1
  have hks := (Kept.refl [T] W3).setCell (p := ⟨T, 0, none⟩) (.inl (by simp)) (.slice A9 (k + 1) d9)
  refine ⟨rfl, .slice A9 (k + 1) d9, qs ++ [⟨qA, qn, qc⟩], by have := hF3.set_ 0 (.slice A9 (k + 1) d9); simpa using this, own_kept hO1 hks (by simp), ?_, ?_⟩
  · rw [take_step ps noPlace k hk, List.map_append]
    exact hH2.kept hks (fun i hi => .inr (by rw [List.mem_singleton.1 hi]; omega))
  · exact ((hK.trans (hB2.wide (fun i hi => by cases hi))).grown hg1 (fun i hi => .inr (by have := (own_block hO i hi).1; omega))).setCell (p := ⟨T, 0, none⟩) (.inl (by simp)) _
theorem frames_any (A : Option Addr) (n c : Nat) (b : List Nat) (w : World) (hv : Vals w A n b) (hb : Bytes b) (hn : n ≤ 4000) (hc : n ≤ c) (hc2 : c ≤ 9223372036854775807) :
    Calls Try.prog 24 #[.slice A n c] w (FramesIs w b) := by
  have hlen := hv.len_
  have hmany := walk_many 0 b
  have hmay := walk_may 0 b hb
  have hlt := vals_lt hv
  have hw1 : w.heap.size + 1 = (w.alloc (.cells #[.slice none 0 0] 57)).heap.size := by simp
  have hwk := walk_any 39 (enters_of Try.func39 (by kernel_rfl) rfl) #[.pointer (some ⟨w.heap.size, 0, none⟩)] true [w.heap.size] (FramesJ (w.alloc (.cells #[.slice none 0 0] 57)) w.heap.size (walkP 0 b)) A n c b
    (w.alloc (.cells #[.slice none 0 0] 57)) (hv.alloc _) hb hn hc hc2 (fun h0 x hx hm => by have := hlt h0 x hx; rw [List.mem_singleton.1 hm] at this; omega)
    (fun k W h => by obtain ⟨v, qs, h1, h2, h3, h4⟩ := h; exact h4) (fun k W W' h hB => frames_below h hB) (takes_frames _ _ _ hmay (by omega) hw1) ⟨_, [], Has.new _ _ _, Row.own_none (S := frameS) _ _ _, Held.none_ _ _ _, Kept.refl _ _⟩
  unfold Walked at hwk
  unfold FramesIs
  generalize endT b = E at *
  generalize walkP 0 b = ps at *
  have HM := Lib.hid hmany
  clear hv hb hmany hmay hlt hw1
  go_enter Try.func24, Try.ntmps24
  go_wp2_with (go_at_call 31; ((with_reducible refine hwk.mono ?_); rintro e W1 ⟨k, z, rfl, ⟨v, qs, h1, h2, h3, h4⟩, h5, h6⟩; obtain ⟨rfl, rfl⟩ := h5 rfl; have c0 := h1.cell 0))
  go_ret2
  rw [List.take_of_length_le (Nat.le_refl _)] at h2 h3
  obtain ⟨A1, c1, rfl, e1, e2, hV1, hfar1, hob⟩ := Row.Vals.own h2
  exact ⟨A1, _, c1, qs, rfl, e1, e2, HM.out, hV1, (h3.free).wide (by omega), (fun x hx => by have := (hfar1 x hx).1; omega), below_kept ((Below.refl w.heap.size w).alloc (Nat.le_refl _) _) h4 (by simp) (fun i hi => by rw [List.mem_singleton.1 hi]; exact Nat.le_refl _)⟩
/-! ### First -/
def FirstJ (w : World) (T : Nat) (ps : List Place) (k : Nat) (W : World) : Prop :=
  Has W T 3 #[.int .i64 ((if k = 0 then 0 else (ps.getD (k - 1) noPlace).at_ : Nat) : Int)] ∧ Has W (T + 1) 4 #[.bool (decide (0 < k))] ∧ Kept [T, T + 1] w W
theorem first_below {w : World} {T : Nat} {ps : List Place} {k : Nat} {W W' : World} (h : FirstJ w T ps k W) (hB : Below W.heap.size W W') : FirstJ w T ps k W' := by
  obtain ⟨h1, h2, h3⟩ := h
  have hk := Kept.of_below (S := []) hB
  exact ⟨hk.has h1 (by simp), hk.has h2 (by simp), h3.trans (Kept.of_below hB)⟩
theorem takes_first (w : World) (T : Nat) (ps : List Place) :
    Takes 32 #[.pointer (some ⟨T, 0, none⟩), .pointer (some ⟨T + 1, 0, none⟩)] false ps (FirstJ w T ps) := by
  intro k W0 W q hk hJ hB hv h1 h2 h3 hfar
  show Calls Try.prog 32 #[_, _, _, .pointer (some ⟨T, 0, none⟩), .pointer (some ⟨T + 1, 0, none⟩)] W _
  obtain ⟨g1, g2, g3⟩ := first_below hJ hB
  have hka := (Kept.refl [] W).alloc (.cells #[.int .u8 ((ps.getD k noPlace).seq : Nat), .slice q.A q.n q.c] 52)
  have h1 := hka.has g1 (by simp)
  have h2 := hka.has g2 (by simp)
  have hK1 := g3.trans (hka.wide (T := [T, T + 1]) (fun i hi => by cases hi))
  have l1 := h1.cell 0
  have l2 := h2.cell 0
  have f1 := h1.frozen 0
  have f2 := h2.frozen 0
  clear g1 g2 g3 hka hJ hB hv hfar
  have HK := Lib.hid (show (if k + 1 = 0 then 0 else (ps.getD (k + 1 - 1) noPlace).at_) = (ps.getD k noPlace).at_ by rw [if_neg (by omega)]; rfl)
  generalize (ps.getD k noPlace).seq = sq at *
  generalize (ps.getD k noPlace).at_ = at_ at *
  generalize (ps.getD k noPlace).end_ = to at *
  go_enter Try.func32, Try.ntmps32
  go_wp2
  go_ret
  have hs1 := h1.set_ 0 (.int .i64 (at_ : Nat))
  have hs2 := (hs1.far (p := ⟨T + 1, 0, none⟩) (by show T ≠ T + 1; omega) (.bool true))
  have hs3 := (h2.far (p := ⟨T, 0, none⟩) (by show T + 1 ≠ T; omega) (.int .i64 (at_ : Nat))).set_ 0 (.bool true)
  refine ⟨rfl, by rw [HK.out]; simpa using hs2, ?_, ?_⟩
  · rw [decide_eq_true (Nat.succ_pos k)]; simpa using hs3
  · exact (hK1.setCell (p := ⟨T, 0, none⟩) (.inl (by simp)) _).setCell (p := ⟨T + 1, 0, none⟩) (.inl (by simp)) _
theorem first_any (A : Option Addr) (n c : Nat) (b : List Nat) (w : World) (hv : Vals w A n b) (hb : Bytes b) (hn : n ≤ 4000) (hc : n ≤ c) (hc2 : c ≤ 9223372036854775807) :
    Calls Try.prog 20 #[.slice A n c] w fun e w' => e = .returned (.tuple #[.int .i64 (firstT b : Nat), .bool (decide (0 < (walkP 0 b).length))]) ∧ Below w.heap.size w w' := by
  have hlen := hv.len_
  have hlt := vals_lt hv
  have hwk := fun (W : World) (hB : Below w.heap.size w W) (h0 : FirstJ W w.heap.size (walkP 0 b) 0 W) => walk_any 32 (enters_of Try.func32 (by kernel_rfl) rfl) #[.pointer (some ⟨w.heap.size, 0, none⟩), .pointer (some ⟨w.heap.size + 1, 0, none⟩)] false [w.heap.size, w.heap.size + 1] (FirstJ W w.heap.size (walkP 0 b)) A n c b
    W (hv.below hB) hb hn hc hc2 (fun h1 x hx hm => by
      have := hlt h1 x hx
      simp at hm
      omega) (fun k W' h => h.2.2) (fun k W1 W2 h hB => first_below h hB) (takes_first _ _ _) h0
  unfold Walked at hwk
  unfold firstT
  generalize endT b = E at *
  generalize walkP 0 b = ps at *
  have hh := Has.new w 3 #[.int .i64 0]
  have hh2 := Has.new (w.alloc (.cells #[.int .i64 0] 3)) 4 #[.bool false]
  rw [show (w.alloc (.cells #[.int .i64 0] 3)).heap.size = w.heap.size + 1 by simp] at hh2
  have hwk2 := hwk _ (((Below.refl w.heap.size w).alloc (Nat.le_refl _) (.cells #[.int .i64 0] 3)).alloc (by simp) (.cells #[.bool false] 4)) ⟨hh.alloc _, hh2, Kept.refl _ _⟩
  have hB0 := ((Below.refl w.heap.size w).alloc (Nat.le_refl _) (.cells #[.int .i64 0] 3)).alloc (by simp) (.cells #[.bool false] 4)
  have hat : (if min 1 ps.length = 0 then 0 else (ps.getD (min 1 ps.length - 1) noPlace).at_) = (ps.getD 0 noPlace).at_ := by
    cases ps with
    | nil => rfl
    | cons p ps =>
      rw [show min 1 (p :: ps).length = 1 by rw [List.length_cons]; omega]
      rfl
  have hyes : decide (0 < min 1 ps.length) = decide (0 < ps.length) := by rw [Bool.eq_iff_iff]; simp; omega
  have hfin : ∀ k W1, FirstJ ((w.alloc (.cells #[.int .i64 0] 3)).alloc (.cells #[.bool false] 4)) w.heap.size ps k W1 → k = min 1 ps.length → W1.cell? ⟨w.heap.size, 0, none⟩ = some (.int .i64 ((ps.getD 0 noPlace).at_ : Nat)) ∧ W1.cell? ⟨w.heap.size + 1, 0, none⟩ = some (.bool (decide (0 < ps.length))) ∧ Below w.heap.size w W1 := fun k W1 h hk => by
    obtain ⟨g1, g2, g3⟩ := h
    subst hk
    rw [hat] at g1
    rw [hyes] at g2
    exact ⟨g1.cell 0, g2.cell 0, below_kept hB0 g3 (by simp; omega) (fun i hi => by simp at hi; omega)⟩
  clear hv hb hlt hwk hat hyes hB0 hh hh2
  generalize (ps.getD 0 noPlace).at_ = at0 at *
  generalize decide (0 < ps.length) = yes at *
  have HFIN := Lib.hid hfin
  clear hfin
  go_enter Try.func20, Try.ntmps20
  go_wp2_with (go_at_call 31; ((with_reducible refine hwk2.mono ?_); rintro e W1 ⟨k, z, rfl, h1, h5, h6⟩; obtain ⟨c0, c1, hB1⟩ := HFIN.out k W1 h1 (h6 rfl)))
  clear hwk2 h1
  go_quiet (fail)
  go_wp2
  go_ret2
  exact ⟨rfl, below_drewN hB1 nq⟩
end Go.Proofs.Ytfimgkomfnfjkaa.Par
end
section
/- Where a decoder stands in the midst of a Feed: what its numbers are, what lies where. -/
set_option linter.unusedSimpArgs false
set_option linter.unusedVariables false
namespace Go.Proofs.Ytfimgkomfnfjkaa.Par
open Go.RowKit RU8 Frm
theorem evs_many (b : List Nat) (hb : Bytes b) : (eventsT b).length ≤ 33 * b.length := by
  have h := (events_few start (walkP 0 b) (fun p hp => (may_len (walk_may 0 b hb p hp).1).2)).1
  have := walk_many 0 b
  unfold eventsT
  omega
theorem mid_len {all ys : List Nat} {o : Nat} {st : St} {es : List Ev} (h : Mid all ys o st es) (hb : Bytes (all ++ ys)) : (eventsT all ++ es).length ≤ 33 * (all.length + ys.length) ∧ st.s = countL 2 (eventsT all ++ es) := by
  obtain ⟨ps, g1, g2, g3⟩ := h.walk
  constructor
  · have h1 := evs_many _ hb
    simp only [List.length_append] at h1
    have h2 : eventsT (all ++ ys) = (eventsT all ++ es) ++ eventsL (afterL start ps) (walkP (endT all + o) ((rowT all ys).drop o)) := by unfold eventsT at g3 ⊢; rw [g1, events_append, g3]
    rw [h2, List.length_append] at h1
    omega
  · rw [← g3, ← g2, s_count]
    show 0 + _ = _
    omega
/-- What a frame does to a decoder's numbers. -/
theorem meet_state {st : St} {bg : Bool} {last : Nat} (h : Stands st bg last) {E a q N : Nat} {l : List Samp} (hq : q < 256) (hN : N = 6 + 3 * l.length) (hge : st.pend ≤ E) (es : List Ev) :
    metT bg (brk (E + a) st) last st.s q l = st.evs ⟨E + a, q, l⟩ ∧ st.s + countL 2 (metT bg (brk (E + a) st) last st.s q l) = (st.next ⟨E + a, q, l⟩).s ∧
      countL 1 es + countL 1 (metT bg (brk (E + a) st) last st.s q l) = countL 1 (es ++ st.evs ⟨E + a, q, l⟩) ∧
      (!dIn bg last q) = brk (E + (a + N)) (st.next ⟨E + a, q, l⟩) ∧ Stands (st.next ⟨E + a, q, l⟩) true q := by
  have e : metT bg (brk (E + a) st) last st.s q l = st.evs ⟨E + a, q, l⟩ := met_evs (p := ⟨E + a, q, l⟩) h
  refine ⟨e, ?_, ?_, ?_, h.next_ (p := ⟨E + a, q, l⟩) hq⟩
  · rw [e, evs_count]
  · rw [e, countL_append]
  · rw [h.order]
    cases hi : inOrder st.prev q with
    | true => rw [brk_in (p := ⟨E + a, q, l⟩) hi (by show E + (a + N) = E + a + (6 + 3 * l.length); omega)]; rfl
    | false => rw [brk_out (p := ⟨E + a, q, l⟩) hi]; rfl
/-- What a decoder that is not fed just now has in its blocks: b its struct, r its ring, g the ring's slots. -/
structure Rests (w : World) (b r g : Nat) (all : List Nat) : Prop where
  dec : ∃ bg last, DecIs w b r all.length (stT all).s (countL 1 (eventsT all)) bg last (brk (endT all) (stT all)) ∧ Stands (stT all) bg last
  ring : ∃ q f cs, Ring w r g 128 q f cs (all.drop (endT all))
  ne1 : b ≠ r
  ne2 : b ≠ g
/-- A Feed with o bytes of the row behind it. -/
structure Fed (w wr : World) (b r g : Nat) (all ys : List Nat) (o : Nat) (st : St) (es : List Ev) (A : Option Addr) (n c : Nat) (v : Value) (bg : Bool) (last : Nat) : Prop where
  dec : DecIs wr b r (all.length + ys.length) st.s (countL 1 (eventsT all ++ es)) bg last (brk (endT all + o) st)
  stands : Stands st bg last
  ring : ∃ q f cs, Ring wr r g 128 q f cs []
  mid : Mid all ys o st es
  row : Vals wr A n ((rowT all ys).drop o)
  cap : n ≤ c ∧ c ≤ 9223372036854775807
  far : ∀ x, A = some x → w.heap.size ≤ x.block ∧ x.block < wr.heap.size ∧ v.ownBlock ≠ some x.block
  own : wr.ownsRow w.heap.size 46 4 v es.length (Row.flat evSh es)
  kept : Kept [b, r, g] w wr
theorem Fed.below {w wr W : World} {b r g : Nat} {all ys : List Nat} {o : Nat} {st : St} {es : List Ev} {A : Option Addr} {n c : Nat} {v : Value} {bg : Bool} {last : Nat} (h : Fed w wr b r g all ys o st es A n c v bg last) (hB : Below wr.heap.size wr W) : Fed w W b r g all ys o st es A n c v bg last := by
  have hk := Kept.of_below (S := []) hB
  obtain ⟨q, f, cs, hR⟩ := h.ring
  exact ⟨hk.has h.dec (by simp), h.stands, ⟨q, f, cs, hR.below hB hR.core.lt_.1 hR.core.lt_.2⟩, h.mid, h.row.below hB, h.cap, (fun x hx => by obtain ⟨h1, h2, h3⟩ := h.far x hx; have := hB.size; exact ⟨h1, by omega, h3⟩), own_kept h.own hk (by simp), h.kept.trans (hk.wide (by simp))⟩
theorem ring_kept {w w' : World} {r g n q f : Nat} {cs xs T : List Nat} (h : Ring w r g n q f cs xs) (hk : Kept T w w') (h1 : r ∉ T) (h2 : g ∉ T) : Ring w' r g n q f cs xs := by
  obtain ⟨⟨k1, ⟨tl, k2⟩, k3, k4, k5, k6, k7⟩, k8⟩ := h
  exact ⟨⟨hk.has k1 h1, ⟨tl, hk.has k2 h2⟩, k3, k4, k5, k6, k7⟩, k8⟩
/-- Behind a frame: W3 the world behind meet, W4 behind the append. -/
theorem fed_step {w wr W3 W4 : World} {b r g : Nat} {all ys : List Nat} {o o' : Nat} {st st' : St} {es ev : List Ev} {A A' : Option Addr} {n c n' c' : Nat} {v v4 : Value} {bg : Bool} {last q m : Nat} (h : Fed w wr b r g all ys o st es A n c v bg last)
    (hbw : b < w.heap.size) (hbr : b ≠ r) (hbg : b ≠ g) (hrw : r < w.heap.size) (hgw : g < w.heap.size) (hK : Kept [b] wr W3) (hD : DecIs W3 b r (all.length + ys.length) st'.s (countL 1 (eventsT all ++ (es ++ ev))) true q (brk (endT all + o') st')) (hst : Stands st' true q) (hm : Mid all ys o' st' (es ++ ev))
    (hev : ev.length = m) (hO : W4.ownsRow w.heap.size 46 4 v4 (es.length + m) (Row.flat evSh (es ++ ev))) (hg : W3.grownBy W4 v.ownBlock) (hat : v4.ownBlock = v.ownBlock ∨ v4.ownBlock = some W3.heap.size)
    (hA : ∀ x, A' = some x → ∃ y, A = some y ∧ x.block = y.block) (hrow : ∀ W, Vals W A n ((rowT all ys).drop o) → Vals W A' n' ((rowT all ys).drop o')) (hc : n' ≤ c' ∧ c' ≤ 9223372036854775807) : Fed w W4 b r g all ys o' st' (es ++ ev) A' n' c' v4 true q := by
  have hO3 := own_kept h.own hK (by simp; omega)
  have hK4 := Kept.of_grown hg
  obtain ⟨qq, f, cs, hR⟩ := h.ring
  have h3 := hK.size
  have h4 := hK4.size
  refine ⟨hK4.has hD (own_apart hO3 hbw), hst, ⟨qq, f, cs, ring_kept (ring_kept hR hK (by simp; omega) (by simp; omega)) hK4 (own_apart hO3 hrw) (own_apart hO3 hgw)⟩, hm, ?_, hc, fun x hx => ?_, by rw [List.length_append, hev]; exact hO, ?_⟩
  · refine hrow W4 (vals_kept (vals_kept h.row hK (fun _ x hx => ?_)) hK4 (fun _ x hx => ?_))
    · have := (h.far x hx).1; simp; omega
    · have := (h.far x hx).2.2
      intro hm
      exact this (by simpa using hm)
  · obtain ⟨y, hy, e⟩ := hA x hx
    obtain ⟨h1, h2, h5⟩ := h.far y hy
    rw [e]
    refine ⟨h1, by omega, fun he => ?_⟩
    rcases hat with h9 | h9
    · exact h5 (h9 ▸ he)
    · rw [h9] at he; injection he with he; omega
  · exact (h.kept.trans (hK.wide (by simp))).grown hg (fun k hk => .inr (own_block h.own k hk).1)
/-- Behind the last frame. -/
theorem fed_end {W : World} {b r g : Nat} {all ys row : List Nat} {o E q f : Nat} {cs : List Nat} {st : St} {es : List Ev} {bg : Bool} {last : Nat} (hm : Mid all ys o st es) (hb : Bytes (rowT all ys)) (ha : Bytes (all ++ ys)) (hr : (rowT all ys).drop o = row) (hl : (walkP 0 row).length = 0) (hE : endT row = E)
    (hD : DecIs W b r (all.length + ys.length) st.s (countL 1 (eventsT all ++ es)) bg last (brk (endT all + o + E) st)) (hs : Stands st bg last) (hR : Ring W r g 128 q f cs ([] ++ (row.drop E).take (128 - ([] : List Nat).length))) (hbr : b ≠ r) (hbg : b ≠ g) : Rests W b r g (all ++ ys) := by
  obtain ⟨h1, h2, h3, h4, h5⟩ := mid_end hm hb ha hr hl
  rw [hE] at h3 h4
  have hw := wait_few (all ++ ys)
  have hlen : (row.drop E).length < 102 := by rw [h4, List.length_drop]; exact hw
  refine ⟨⟨bg, last, ?_, by rw [h2]; exact hs⟩, ⟨q, f, cs, ?_⟩, hbr, hbg⟩
  · rw [List.length_append, h2, h3, ← behind_all all ys ha, h1]
    exact hD
  · rw [← h4]
    rw [List.nil_append, List.length_nil, List.take_of_length_le (by omega)] at hR
    exact hR
theorem drop_drop_ (l : List Nat) (o k : Nat) : (l.drop o).drop k = l.drop (o + k) := List.drop_drop
theorem wp_append_vals {P : Program} {w : World} {o : Oper} {a : Act} {K : Act → World → Prop} {Q : Exit → Act → World → Prop} (s x : Operand) (t : TypeId)
    (ho : o.op = .call { callee := .builtin .append, args := #[s, x], argTypes := #[t, t] })
    (base : Nat) (e : TypeId) (bytes : Nat) (hby : bytes ≤ 16) (ht : P.underlying t = some (.slice e)) (hinfo : (P.info? e).map (fun i => (i.zero, i.size, i.bytes)) = some (some (.int .u8 0), 1, bytes))
    (v : Value) (n : Nat) (xs : List Nat) (hs : a.eval s = v) (hown : w.ownsRow base e 1 v n (vals xs)) (A : Option Addr) (m c : Nat) (ys : List Nat) (hx : a.eval x = .slice A m c) (hr : Vals w A m ys)
    (h63 : n + m ≤ 1048576) (hbase : base ≤ w.heap.size)
    (h : ∀ v' w', w'.ownsRow base e 1 v' (n + m) (vals (xs ++ ys)) → w.grownBy w' v.ownBlock → (v'.ownBlock = v.ownBlock ∨ v'.ownBlock = some w.heap.size) → K (a.put o.dst v') w') : Oper.wp P o a w K Q := by
  obtain ⟨v', w', hrun, h2, h3, h4⟩ := run_append_vals (P := P) base t o.type e bytes hby ht hinfo v n xs hown A m c ys hr h63 hbase
  unfold Oper.wp execOp
  simp only [ho, resolve, invoke, builtin, Sem.run_bind, Sem.run_pure, Result.andThen_ok, List.map_toArray, List.map_cons, List.map_nil, hs, hx, hrun]
  exact h v' w' h2 h3 h4
end Go.Proofs.Ytfimgkomfnfjkaa.Par
end
section
/- What a decoder's Feed answers. -/
set_option linter.unusedSimpArgs false
set_option linter.unusedVariables false
namespace Go.Proofs.Ytfimgkomfnfjkaa.Par
open Go.RowKit RU8 Frm
def lenV : Value → Nat
  | .slice _ n _ => n
  | _ => 0
/-- What a Feed answers of the decoder in b, r and g. -/
def FedIs (w : World) (b r g : Nat) (all ys : List Nat) (e : Ending) (w' : World) : Prop :=
  ∃ B m d, e = .returned (.slice B m d) ∧ m ≤ d ∧ d ≤ 9223372036854775807 ∧ Row.Vals evSh w' B m (behindT all ys) ∧ (∀ x, B = some x → w.heap.size ≤ x.block) ∧ Rests w' b r g (all ++ ys) ∧ Kept [b, r, g] w w'
set_option maxRecDepth 100000 in
set_option maxHeartbeats 4000000 in
theorem feed_k (b r g : Nat) (all : List Nat) (A : Option Addr) (n c : Nat) (ys : List Nat) (w : World) (h : Rests w b r g all) (hb : Bytes all) (hal : all.length ≤ 4000) (hv : Vals w A n ys) (hy : Bytes ys) (hn : n ≤ 2000) (hnc : n ≤ c) (hc : c ≤ 9223372036854775807)
    (hfar : 0 < n → ∀ x, A = some x → x.block ≠ b ∧ x.block ≠ r ∧ x.block ≠ g) :
    Calls Try.prog 7 #[.pointer (some ⟨b, 0, none⟩), .slice A n c] w (FedIs w b r g all ys) := by
  obtain ⟨bg, last, hD, hS⟩ := h.dec
  obtain ⟨q, f, cs, hR⟩ := h.ring
  have hbr := h.ne1
  have hbg := h.ne2
  have hrg := hR.core.ne_
  have hbw : b < w.heap.size := Has.lt hD
  obtain ⟨hrw, hgw⟩ := hR.core.lt_
  have hlen := hv.len_
  have hba : Bytes (all ++ ys) := fun y hm => (List.mem_append.1 hm).elim (hb y) (hy y)
  have hbrow : Bytes (rowT all ys) := fun y hm => (List.mem_append.1 hm).elim (fun h => bytes_drop hb _ y h) (hy y)
  have hwf := wait_few all
  have hrl := row_len all ys
  have hms := mid_start all ys hb
  have hInfo : (Try.prog.info? 5).map (fun i => (i.zero, i.size, i.bytes)) = some (some (.int .u8 0), 1, 1) := by kernel_rfl
  have HInfo := Lib.hid hInfo
  have hInfo2 : (Try.prog.info? 46).map (fun i => (i.zero, i.size, i.bytes)) = some (some (.agg #[.int .i64 0, .int .i64 0, .int .i32 0, .bool false]), 4, 24) := by kernel_rfl
  have HInfo2 := Lib.hid hInfo2
  clear h hInfo hInfo2
  obtain ⟨bl, hbl⟩ : ∃ z, all.length = z := ⟨_, rfl⟩
  have c1 : w.cell? ⟨b, 1, none⟩ = some (.int .i64 (bl : Nat)) := by rw [← hbl]; exact Has.cell hD 1
  have f1 := Has.frozen hD 1
  obtain ⟨wt, hwt⟩ : ∃ z, (all.drop (endT all)).length = z := ⟨_, rfl⟩
  have hwt2 : wt = waitT all := by rw [← hwt, List.length_drop]; rfl
  have hsz : 0 ≤ (bl : Int) ∧ (bl : Int) + (n : Int) ≤ 10000 := by omega
  have HBL := Lib.hid hbl
  have HLEN := Lib.hid hlen
  have HRL := Lib.hid hrl
  have HWT := Lib.hid hwt2
  clear hbl hlen hrl hwt2
  have hDA := Has.set_ hD 1 (.int .i64 ((bl : Int) + (n : Int)))
  have hKA := (Kept.refl [b] w).setCell (p := ⟨b, 1, none⟩) (.inl (by simp)) (.int .i64 ((bl : Int) + (n : Int)))
  have hRA := ring_kept hR hKA (by simp; omega) (by simp; omega)
  have hvA := vals_kept hv hKA (fun h0 x hx => by simpa using (hfar h0 x hx).1)
  go_enter Try.func7, Try.ntmps7
  go_wp2
  generalize w.setCell ⟨b, 1, none⟩ (.int .i64 ((bl : Int) + (n : Int))) = wa at *
  clear c1 f1 hD hR hv
  refine Reg.begin_ (S := fun W => W.cell? ⟨b, 0, none⟩ = some (.pointer (some ⟨r, 0, none⟩))) (by kernel_rfl) (by exact hDA.cell 0) (fun hHeld => ?_)
  have hDd := hDA.drew
  have hRd := ring_kept hRA ((Kept.refl [] wa).drewN 1) (by simp) (by simp)
  have hvd := hvA.drewN 1
  have hKd := hKA.drewN 1
  have e1 : wa.drewN 1 = wa.drew := rfl
  rw [e1] at hRd hvd hKd
  clear e1 hDA hRA hvA hKA
  generalize wa.drew = wd at *
  refine Reg.take (i := 0) (v := ?v1) rfl (by kernel_rfl) (by kernel_rfl) (by kernel_rfl) (by rfl) ?hv1 (by assumption) ?rest1
  case hv1 => first | (intro w hSw; (try dsimp only at hSw); go_simp; done) | (intro w hSw; (try dsimp only at hSw); go_simp; with_reducible rfl)
  (try simp only [Act.put, List.setIfInBounds_toArray, List.set_cons_zero, List.set_cons_succ])
  refine Reg.take (i := 1) (v := ?v2) rfl (by kernel_rfl) (by kernel_rfl) (by kernel_rfl) (by rfl) ?hv2 (by assumption) ?rest2
  case hv2 => first | (intro w hSw; (try dsimp only at hSw); go_simp; done) | (intro w hSw; (try dsimp only at hSw); go_simp; with_reducible rfl)
  (try simp only [Act.put, List.setIfInBounds_toArray, List.set_cons_zero, List.set_cons_succ])
  refine Reg.take (i := 2) (v := ?v3) rfl (by kernel_rfl) (by kernel_rfl) (by kernel_rfl) (by rfl) ?hv3 (by assumption) ?rest3
  case hv3 => first | (intro w hSw; (try dsimp only at hSw); go_simp; done) | (intro w hSw; (try dsimp only at hSw); go_simp; with_reducible rfl)
  (try simp only [Act.put, List.setIfInBounds_toArray, List.set_cons_zero, List.set_cons_succ])
  refine Reg.take (i := 3) (v := ?v4) rfl (by kernel_rfl) (by kernel_rfl) (by kernel_rfl) (by rfl) ?hv4 (by assumption) ?rest4
  case hv4 => first | (intro w hSw; (try dsimp only at hSw); go_simp; done) | (intro w hSw; (try dsimp only at hSw); go_simp; with_reducible rfl)
  (try simp only [Act.put, List.setIfInBounds_toArray, List.set_cons_zero, List.set_cons_succ])
  refine Reg.take (i := 4) (v := ?v5) rfl (by kernel_rfl) (by kernel_rfl) (by kernel_rfl) (by rfl) ?hv5 (by assumption) ?rest5
  case hv5 => first | (intro w hSw; (try dsimp only at hSw); go_simp; done) | (intro w hSw; (try dsimp only at hSw); go_simp; with_reducible rfl)
  (try simp only [Act.put, List.setIfInBounds_toArray, List.set_cons_zero, List.set_cons_succ])
  refine Reg.take (i := 5) (v := ?v6) rfl (by kernel_rfl) (by kernel_rfl) (by kernel_rfl) (by rfl) ?hv6 (by assumption) ?rest6
  case hv6 => first | (intro w hSw; (try dsimp only at hSw); go_simp; done) | (intro w hSw; (try dsimp only at hSw); go_simp; with_reducible rfl)
  (try simp only [Act.put, List.setIfInBounds_toArray, List.set_cons_zero, List.set_cons_succ])
  refine Reg.take (i := 6) (v := ?v7) rfl (by kernel_rfl) (by kernel_rfl) (by kernel_rfl) (by rfl) ?hv7 (by assumption) ?rest7
  case hv7 => first | (intro w hSw; (try dsimp only at hSw); go_simp; done) | (intro w hSw; (try dsimp only at hSw); go_simp; with_reducible rfl)
  (try simp only [Act.put, List.setIfInBounds_toArray, List.set_cons_zero, List.set_cons_succ])
  refine Reg.take (i := 7) (v := ?v8) rfl (by kernel_rfl) (by kernel_rfl) (by kernel_rfl) (by rfl) ?hv8 (by assumption) ?rest8
  case hv8 => first | (intro w hSw; (try dsimp only at hSw); go_simp; done) | (intro w hSw; (try dsimp only at hSw); go_simp; with_reducible rfl)
  (try simp only [Act.put, List.setIfInBounds_toArray, List.set_cons_zero, List.set_cons_succ])
  refine Reg.take (i := 10) (v := ?v9) rfl (by kernel_rfl) (by kernel_rfl) (by kernel_rfl) (by rfl) ?hv9 (by assumption) ?rest9
  case hv9 => first | (intro w hSw; (try dsimp only at hSw); go_simp; done) | (intro w hSw; (try dsimp only at hSw); go_simp; with_reducible rfl)
  (try simp only [Act.put, List.setIfInBounds_toArray, List.set_cons_zero, List.set_cons_succ])
  have hcl : wd.cell? ⟨r, 2, none⟩ = some (.int .i64 (wt : Nat)) := by have := hRd.core.cells.2.2; rwa [hwt] at this
  have hln := len_any r wt wd hcl
  have htk := take_all r g 128 q f cs _ wt wd hRd hwt
  refine Reg.call (i := 8) rfl (by kernel_rfl) (by rfl) ?_
  intro K hK
  go_simp
  go_at_call 19
  (with_reducible refine hln.mono ?_)
  rintro e W ⟨rfl, rfl⟩
  refine hK.out _ _ (hDd.cell 0) (fun hHeld2 => ?_)
  clear hK K
  (try simp only [Act.put, List.setIfInBounds_toArray, List.set_cons_zero, List.set_cons_succ])
  refine Reg.call (i := 9) rfl (by kernel_rfl) (by rfl) ?_
  intro K hK
  go_simp
  go_at_call 18
  (with_reducible refine htk.mono ?_)
  rintro e W1 ⟨v1, f1, cs1, rfl, hO1, hR1, hT1⟩
  have hk1 := Kept.of_turned hT1
  have hD1 := hk1.has hDd (by simp; omega)
  have hv1 := vals_kept hvd hk1 (fun h0 x hx => by have := hfar h0 x hx; simp; omega)
  have hK1 := (hKd.wide (T := [b, r, g]) (by simp)).trans (hk1.wide (by simp))
  have hs0 := hKd.size
  have hs1 := hk1.size
  refine hK.out _ _ (hD1.cell 0) (fun hHeld3 => ?_)
  clear hK K hln htk hcl hT1 hvd hKd hRd hDd
  (try simp only [Act.put, List.setIfInBounds_toArray, List.set_cons_zero, List.set_cons_succ])
  refine Reg.call (i := 11) rfl (by kernel_rfl) (by rfl) ?_
  intro K hK
  refine wp_append_vals (.tmp 34) (.tmp 35) _ rfl wd.heap.size 5 1 (by omega) Try.underlying25 HInfo.out v1 wt (all.drop (endT all)) rfl hO1 A n c ys rfl hv1 (by have := HWT.out; omega) hs1 ?_
  intro v2 W2 hO2 hg2 hat2
  have hk2 := Kept.of_grown hg2
  have hD2 := hk2.has hD1 (own_apart hO1 (by omega))
  have hR2 := ring_kept hR1 hk2 (own_apart hO1 (by omega)) (own_apart hO1 (by omega))
  have hK2 := hK1.grown hg2 (fun k hk => .inr (by have := (own_block hO1 k hk).1; omega))
  have hs2 := hk2.size
  refine hK.out _ _ (hD2.cell 0) (fun hHeld4 => ?_)
  clear hK K
  (try simp only [Act.put, List.setIfInBounds_toArray, List.set_cons_zero, List.set_cons_succ])
  refine Reg.take (i := 12) (v := ?v10) rfl (by kernel_rfl) (by kernel_rfl) (by kernel_rfl) (by rfl) ?hv10 (by assumption) ?rest10
  case hv10 => first | (intro w hSw; (try dsimp only at hSw); go_simp; done) | (intro w hSw; (try dsimp only at hSw); go_simp; with_reducible rfl)
  (try simp only [Act.put, List.setIfInBounds_toArray, List.set_cons_zero, List.set_cons_succ])
  refine Reg.done (by kernel_rfl) ?_ _
  obtain ⟨A2, c2, rfl, e1, e2, hV2, hfar2, _⟩ := Vals.own hO2
  obtain ⟨rl, hrl⟩ : ∃ z, wt + n = z := ⟨_, rfl⟩
  rw [hrl] at e1 hV2
  change Vals W2 A2 rl (rowT all ys) at hV2
  have hF2 : Fed w W2 b r g all ys 0 (stT all) [] A2 rl c2 (.slice none 0 0) bg last := by
    refine ⟨?_, hS, ⟨_, _, _, hR2⟩, hms, by rw [List.drop_zero]; exact hV2, ⟨e1, e2⟩, fun x hx => ?_, Row.own_none _ _ _, hK2⟩
    · rw [Nat.add_zero, List.append_nil, HBL.out, HLEN.out]
      simpa [DecIs] using hD2
    · obtain ⟨h1, h2⟩ := hfar2 x hx
      exact ⟨by omega, h2, fun h => by cases h⟩
  have hrl2 : rl ≤ 4000 := by have := HWT.out; omega
  have hfst := first_any A2 rl c2 (rowT all ys) W2 hV2 hbrow hrl2 e1 e2
  clear hO1 hO2 hg2 hat2 hk1 hk2 hD1 hD2 hR1 hR2 hK1 hK2 hV2 hfar2 hS hms hHeld hHeld2 hHeld3 hHeld4 hv1
  rw [← List.drop_zero (l := rowT all ys)] at hfst
  go_wp2_with (go_at_call 20; ((with_reducible refine hfst.mono ?_); rintro e W3 ⟨rfl, hB3⟩; have hF3 := hF2.below hB3))
  clear hfst hF2 hB3 hwt
  go_loopw [5, 6, 7, 8] (fun rv lv av kv wr => ∃ (o : Nat) (st : St) (es : List Ev) (A1 : Option Addr) (n1 c1 : Nat) (v : Value) (bg : Bool) (last : Nat), rv = .slice A1 n1 c1 ∧ lv = v ∧ av = .int .i64 (firstT ((rowT all ys).drop o) : Nat) ∧ kv = .bool (decide (0 < (walkP 0 ((rowT all ys).drop o)).length)) ∧ Fed w wr b r g all ys o st es A1 n1 c1 v bg last) (fun rv _ _ _ _ => lenV rv)
  case atStart => exact ⟨0, _, _, _, _, _, _, _, _, rfl, rfl, by rw [List.drop_zero], by rw [List.drop_zero], hF3⟩
  case round =>
    clear hF3
    obtain ⟨o, st, es, A1, n1, c1, v, bg, last, rfl, rfl, rfl, rfl, hF⟩ := hrel
    obtain ⟨row, hrow⟩ : ∃ l, (rowT all ys).drop o = l := ⟨_, rfl⟩
    have hV := hF.row
    rw [hrow] at hV ⊢
    have hbr1 : Bytes row := by rw [← hrow]; exact bytes_drop hbrow o
    have hlr := hV.len_
    have hn1 : n1 ≤ 4000 := by
      have h1 := HRL.out
      have h2 := HWT.out
      have h3 := HLEN.out
      rw [← hlr, ← hrow, List.length_drop]
      omega
    obtain ⟨a, ha⟩ : ∃ a, firstT row = a := ⟨_, rfl⟩
    rw [ha]
    by_cases hok : 0 < (walkP 0 row).length
    · rw [decide_eq_true hok]
      obtain ⟨fr, hfr⟩ : ∃ l, row.drop a = l := ⟨_, rfl⟩
      obtain ⟨hl0, hle, hoe, hdr, hmid⟩ := mid_step hF.mid hbrow hrow hok ha hfr
      have hbf : Bytes fr := by rw [← hfr]; exact bytes_drop hbr1 a
      obtain ⟨hN1, hN2, hN3, hN4, hN5⟩ := look_size hbf hl0
      have hst := meet_state hF.stands (E := endT all + o) (a := a) hN5 hN1 hF.mid.pend (eventsT all ++ es)
      have hml := mid_len hF.mid hba
      have hml2 := mid_len hmid hba
      have hbk := brk_skip hF.mid.pend a
      have hN6 := lookN_pos hl0
      obtain ⟨x, rfl, _⟩ := hV.cells (by omega)
      have hlk := look_any (some (x.add a)) (n1 - a) (c1 - a) fr wr (by have := hV.drop a (by omega); rwa [hfr] at this) hbf (by omega) (by have := hF.cap; omega) (by have := hF.cap; omega)
      unfold LookIs at hlk
      rw [hl0] at hlk
      obtain ⟨h1, h2, h3, h4, h5⟩ := hst
      rw [h1] at h2 h3
      have hcl2 := countL_le 2 (eventsT all ++ es)
      have hcl1 := countL_le 1 (eventsT all ++ es)
      have hesl : es.length ≤ 200000 := by
        have := hml.1
        rw [List.length_append] at this
        have := HBL.out
        have := HLEN.out
        omega
      have hsB : st.s ≤ 200000 := by
        have := hml.1
        have := hml.2
        have := HBL.out
        have := HLEN.out
        omega
      have hgB : countL 1 (eventsT all ++ es) ≤ 200000 := by
        have := hml.1
        have := HBL.out
        have := HLEN.out
        omega
      have hml3 := (mid_len hmid hba).1
      have hlast := hF.stands.byte_
      have hskip := fun (W : World) (hD : DecIs W b r (all.length + ys.length) st.s (countL 1 (eventsT all ++ es)) bg last (brk (endT all + o) st)) => skip_k b r _ _ _ last bg _ a W hD
      rw [hbk] at hskip
      have hmeet := fun (W : World) (A9 : Option Addr) (m9 c9 : Nat) (hD : DecIs W b r (all.length + ys.length) st.s (countL 1 (eventsT all ++ es)) bg last (brk (endT all + o + a) st)) (g3 : Row.Vals sampS W A9 m9 (lookL fr)) (g4 : m9 ≤ 32) (g1 : m9 ≤ c9) (g2 : c9 ≤ 9223372036854775807) (gf : ∀ x, A9 = some x → x.block ≠ b) =>
        meet_k b r _ st.s _ last (lookSeq fr) bg _ A9 m9 c9 (lookL fr) W hD g3 g4 g1 g2 gf hlast hN5 hsB hgB
      unfold MetIs at hmeet
      rw [h1, h2, h3, h4] at hmeet
      have hstep := fun (W3 W4 : World) (v4 : Value) (m : Nat) (A' : Option Addr) (n' c' : Nat) (hK : Kept [b] wr W3) (hD : DecIs W3 b r (all.length + ys.length) (st.next ⟨endT all + o + a, lookSeq fr, lookL fr⟩).s (countL 1 (eventsT all ++ (es ++ st.evs ⟨endT all + o + a, lookSeq fr, lookL fr⟩))) true (lookSeq fr) (brk (endT all + (o + (a + lookN fr))) (st.next ⟨endT all + o + a, lookSeq fr, lookL fr⟩))) => fed_step hF hbw hbr hbg hrw hgw hK hD h5 hmid (m := m) (v4 := v4) (A' := A') (n' := n') (c' := c') (W4 := W4)
      rw [hdr, hrow] at hstep
      rw [List.append_assoc, Nat.add_assoc (endT all) o (a + lookN fr)] at hmeet
      have hcap := hF.cap
      have hbl9 : b < wr.heap.size := by have := hF.kept.size; omega
      clear h1 h2 h3 h4 h5 hml hml2 hbk hcl1 hcl2 hN1 hN3 hN4 hN5 hmid hoe hsB hgB hlast hl0 hbf hbr1
      have hrow' := fun (W : World) (A' : Option Addr) (n' c' : Nat) (hv : Vals W A' n' (fr.drop (lookN fr))) (hn' : n' ≤ 4000) (hc' : n' ≤ c') (hc2 : c' ≤ 9223372036854775807) => first_any A' n' c' (fr.drop (lookN fr)) W hv (by rw [← hfr, ← hrow]; exact bytes_drop (bytes_drop (bytes_drop hbrow _) _) _) hn' hc' hc2
      have hVd : ∀ W, Vals W (some x) n1 row → Vals W (some (x.add (a + lookN fr))) (n1 - (a + lookN fr)) (fr.drop (lookN fr)) := fun W hv => by
        have := hv.drop (a + lookN fr) (by omega)
        rw [← drop_drop_, hfr] at this
        exact this
      obtain ⟨kn, hkn⟩ : ∃ k, a + lookN fr = k := ⟨_, rfl⟩
      rw [hkn] at hstep hVd hmeet hle hdr
      have hknz : (a : Int) + (lookN fr : Int) = (kn : Int) := by omega
      have hkp : 0 < kn := by omega
      have hac : a < n1 ∧ a < c1 := by omega
      generalize hNN : lookN fr = N at *
      generalize lookSeq fr = q at *
      generalize lookL fr = ls at *
      generalize st.evs ⟨endT all + o + a, q, ls⟩ = ev at *
      generalize st.next ⟨endT all + o + a, q, ls⟩ = st' at *
      generalize fr.drop N = row' at *
      rw [hlr] at hle
      have HKN := Lib.hid hkn
      clear hkn hfr ha hok hNN hN2
      by_cases hck : c1 = kn
      · have hnk : n1 = kn := by omega
        subst hck
        subst hnk
        have hr0 : row' = [] := List.eq_nil_of_length_eq_zero (by have := (hVd wr hV).len_; omega)
        have hA1 : ∀ y, some x = some y → ∃ z, some x = some z ∧ y.block = z.block := fun y hy => ⟨y, hy, rfl⟩
        have hVd2 : ∀ W, Vals W (some x) n1 row → Vals W (some x) 0 row' := fun W _ => ⟨by rw [hr0]; rfl, fun h => absurd h (by omega)⟩
        clear hVd
        have hVd := hVd2
        clear hVd2
        have hcp : 0 ≤ 0 ∧ 0 ≤ 9223372036854775807 := ⟨Nat.le_refl _, by omega⟩
        have hfst := fun (W : World) (hv : Vals W (some x) 0 row') => hrow' W (some x) 0 0 hv (by omega) hcp.1 hcp.2
        clear hrow' hr0
        go_wp2_with (first
          | (go_at_call 21; ((with_reducible refine hlk.mono ?_); rintro e W1 ⟨A9, m9, c9, rfl, g1, g2, g3, g4, g5, hB1⟩; have hB2 := (hB1.alloc hB1.size (.cells #[.int .u8 (q : Nat), .slice A9 m9 c9] 52)); have hF2 := (hF.below hB2); have hP2 := (Has.new W1 52 #[.int .u8 (q : Nat), .slice A9 m9 c9]); have hl1 := hB1.size; have hsk := (hskip _ hF2.dec)))
          | (go_at_call 22; ((with_reducible refine hsk.mono ?_); rintro e W2 ⟨rfl, hD2, hK2⟩; have hP3 := (hK2.has hP2 (by simp; omega)); have p0 := (hP3.cell 0); have p1 := (hP3.cell 1); have g32 := ((g3.alloc (.cells #[.int .u8 (q : Nat), .slice A9 m9 c9] 52)).kept hK2 (fun _ y hy => by have := g5 y hy; simp; omega)); have hmt := (hmeet W2 A9 m9 c9 hD2 g32 g4 g1 g2 (fun y hy => by have := g5 y hy; omega))))
          | (go_at_call 23; ((with_reducible refine hmt.mono ?_); rintro e W3 ⟨A8, n8, c8, rfl, h1, h2, h3, hV8, hf8, hD3, hK3⟩; have hK23 := (((Kept.of_below (S := [b]) hB2).trans hK2).trans hK3); have hO3 := (own_kept hF.own hK23 (by simp; omega)); have hs3 := hK23.size; clear hmt hsk g32 p0 p1))
          | (at_builtin; refine Row.wpList_append (S := evSh) rfl (.tmp 59) (.tmp 62) _ rfl w.heap.size 46 _ 24 (by omega) Try.underlying27 HInfo2.out (by kernel_rfl) u6 es.length es rfl (by exact hO3) A8 n8 c8 ev rfl (by exact hV8) (by omega) (by have := hF.kept.size; omega) ?_; intro v4 W4 hO4 hg4 hat4; have hF4 := (hstep W3 W4 v4 n8 ((some x)) (0) (0) hK23 hD3 hV8.len_ hO4 hg4 hat4 (by exact hA1) (by exact hVd) (by exact hcp)); have hR4 := hF4.row; rw [hdr] at hR4; have hfs := (hfst W4 hR4))
          | (go_at_call 20; ((with_reducible refine hfs.mono ?_); rintro e W5 ⟨rfl, hB5⟩; have hF5 := hF4.below hB5)))
        go_roundw
        case rel => exact ⟨o + n1, st', es ++ ev, _, _, _, v4, true, q, rfl, rfl, by rw [hdr], by rw [hdr], hF5⟩
        case measure => simp [lenV]; omega
      · have hA1 : ∀ y, some (x.add kn) = some y → ∃ z, some x = some z ∧ y.block = z.block := fun y hy => by
          injection hy with hy
          subst hy
          exact ⟨x, rfl, block_add _ _⟩
        have hcp : n1 - kn ≤ c1 - kn ∧ c1 - kn ≤ 9223372036854775807 := by omega
        have hfst := fun (W : World) (hv : Vals W (some (x.add kn)) (n1 - kn) row') => hrow' W (some (x.add kn)) (n1 - kn) (c1 - kn) hv (by omega) hcp.1 hcp.2
        clear hrow'
        go_wp2_with (first
          | (go_at_call 21; ((with_reducible refine hlk.mono ?_); rintro e W1 ⟨A9, m9, c9, rfl, g1, g2, g3, g4, g5, hB1⟩; have hB2 := (hB1.alloc hB1.size (.cells #[.int .u8 (q : Nat), .slice A9 m9 c9] 52)); have hF2 := (hF.below hB2); have hP2 := (Has.new W1 52 #[.int .u8 (q : Nat), .slice A9 m9 c9]); have hl1 := hB1.size; have hsk := (hskip _ hF2.dec)))
          | (go_at_call 22; ((with_reducible refine hsk.mono ?_); rintro e W2 ⟨rfl, hD2, hK2⟩; have hP3 := (hK2.has hP2 (by simp; omega)); have p0 := (hP3.cell 0); have p1 := (hP3.cell 1); have g32 := ((g3.alloc (.cells #[.int .u8 (q : Nat), .slice A9 m9 c9] 52)).kept hK2 (fun _ y hy => by have := g5 y hy; simp; omega)); have hmt := (hmeet W2 A9 m9 c9 hD2 g32 g4 g1 g2 (fun y hy => by have := g5 y hy; omega))))
          | (go_at_call 23; ((with_reducible refine hmt.mono ?_); rintro e W3 ⟨A8, n8, c8, rfl, h1, h2, h3, hV8, hf8, hD3, hK3⟩; have hK23 := (((Kept.of_below (S := [b]) hB2).trans hK2).trans hK3); have hO3 := (own_kept hF.own hK23 (by simp; omega)); have hs3 := hK23.size; clear hmt hsk g32 p0 p1))
          | (at_builtin; refine Row.wpList_append (S := evSh) rfl (.tmp 59) (.tmp 62) _ rfl w.heap.size 46 _ 24 (by omega) Try.underlying27 HInfo2.out (by kernel_rfl) u6 es.length es rfl (by exact hO3) A8 n8 c8 ev rfl (by exact hV8) (by omega) (by have := hF.kept.size; omega) ?_; intro v4 W4 hO4 hg4 hat4; have hF4 := (hstep W3 W4 v4 n8 ((some (x.add kn))) ((n1-kn)) ((c1-kn)) hK23 hD3 hV8.len_ hO4 hg4 hat4 (by exact hA1) (by exact hVd) (by exact hcp)); have hR4 := hF4.row; rw [hdr] at hR4; have hfs := (hfst W4 hR4))
          | (go_at_call 20; ((with_reducible refine hfs.mono ?_); rintro e W5 ⟨rfl, hB5⟩; have hF5 := hF4.below hB5)))
        go_roundw
        case rel => exact ⟨o + kn, st', es ++ ev, _, _, _, v4, true, q, rfl, rfl, by rw [hdr], by rw [hdr], hF5⟩
        case measure => simp [lenV]; omega
    · rw [decide_eq_false hok]
      have hok0 : (walkP 0 row).length = 0 := by omega
      have hfrm := frames_any A1 n1 c1 row wr hV hbr1 hn1 hF.cap.1 hF.cap.2
      unfold FramesIs at hfrm
      have hbk := brk_skip hF.mid.pend (endT row)
      have hle := (mid_end hF.mid hbrow hba hrow hok0).2.2.2.2
      have hz1 := (mid_end hF.mid hbrow hba hrow hok0).1
      obtain ⟨E, hE⟩ : ∃ E, endT row = E := ⟨_, rfl⟩
      have hfin := fun (W : World) (q f : Nat) (cs : List Nat) => fed_end (W := W) (q := q) (f := f) (cs := cs) (b := b) (r := r) (g := g) (bg := bg) (last := last) hF.mid hbrow hba hrow hok0 hE
      rw [hE] at hfrm hbk hle
      rw [hlr] at hle
      have hskip := fun (W : World) (hD : DecIs W b r (all.length + ys.length) st.s (countL 1 (eventsT all ++ es)) bg last (brk (endT all + o) st)) => skip_k b r _ _ _ last bg _ E W hD
      rw [hbk] at hskip
      obtain ⟨A8, d8, rfl, h81, h82, h83, h84, h85⟩ := Row.Vals.own (S := evSh) hF.own
      obtain ⟨qq, ff, cs8, hRr⟩ := hF.ring
      have hcap := hF.cap
      have hso := hF.kept.size
      have hst := hF.stands
      have hV2 : Vals wr (A1.map (·.add E)) (n1 - E) (row.drop E) := hV.drop E hle
      have HFIN := Lib.hid hfin
      have HZ1 := Lib.hid hz1
      generalize hps : walkP 0 row = ps at *
      clear hok hok0 hbk hE hfin hz1 ha hps hbr1
      rcases A1 with _ | x
      · have hn0 : n1 = 0 := by
          rcases Nat.eq_zero_or_pos n1 with h0 | h0
          · exact h0
          · obtain ⟨y, hy, _⟩ := hV.cells h0
            cases hy
        have hE0 : E = 0 := by omega
        subst hn0
        subst hE0
        have hz0 : ((0 : Nat) : Int) = 0 := rfl
        simp only [hz0] at hskip hfrm
        have hcp := hcap
        have hVd := fun (W : World) (hv : Vals W none 0 row) => (hv.drop 0 (Nat.le_refl _) : Vals W none 0 (row.drop 0))
        have hfarx : 0 < 0 → ∀ y : Addr, none = some y → y.block ≠ r ∧ y.block ≠ g := fun h => absurd h (by omega)
        clear hV2
        go_wp2_with (first
          | (go_at_call 24; ((with_reducible refine hfrm.mono ?_); rintro e W1 ⟨A9, n9, c9, qs9, rfl, _, _, _, _, _, _, hB1⟩; have hF1 := (hF.below hB1); have hsk := (hskip _ hF1.dec)))
          | (go_at_call 22; ((with_reducible refine hsk.mono ?_); rintro e W2 ⟨rfl, hD2, hK2⟩; have hK3 := ((Kept.of_below (S := [b]) hB1).trans hK2); clear hsk hfrm)))
        have hR2 := ring_kept hRr hK3 (by simp; omega) (by simp; omega)
        have hV3 := vals_kept hV hK3 (fun _ y hy => by have := (hF.far y hy).1; simp; omega)
        have hV4 := hVd W2 hV3
        have hKw := hF.kept.trans (hK3.wide (T := [b, r, g]) (by simp))
        have hVo := h83.kept hK3 (fun _ y hy => by have := (h84 y hy).1; simp; omega)
        clear hB1 hF1 hK2 hV3
        refine Reg.begin_ (S := fun W => W.cell? ⟨b, 0, none⟩ = some (.pointer (some ⟨r, 0, none⟩))) (by kernel_rfl) (by exact hD2.cell 0) (fun hHeld => ?_)
        have hDd := hD2.drew
        have hRd := ring_kept hR2 ((Kept.refl [] W2).drewN 1) (by simp) (by simp)
        have hVd4 := hV4.drewN 1
        have hKd := hKw.drewN 1
        have hVod := hVo.drewN 1
        have e1 : W2.drewN 1 = W2.drew := rfl
        rw [e1] at hRd hVd4 hKd hVod
        clear e1 hD2 hR2 hV4 hKw hVo hK3
        generalize W2.drew = wd2 at *
        refine Reg.take (i := 0) (v := ?v11) rfl (by kernel_rfl) (by kernel_rfl) (by kernel_rfl) (by rfl) ?hv11 (by assumption) ?rest11
        case hv11 => first | (intro w hSw; (try dsimp only at hSw); go_simp; done) | (intro w hSw; (try dsimp only at hSw); go_simp; with_reducible rfl)
        (try simp only [Act.put, List.setIfInBounds_toArray, List.set_cons_zero, List.set_cons_succ])
        refine Reg.take (i := 1) (v := ?v12) rfl (by kernel_rfl) (by kernel_rfl) (by kernel_rfl) (by rfl) ?hv12 (by assumption) ?rest12
        case hv12 => first | (intro w hSw; (try dsimp only at hSw); go_simp; done) | (intro w hSw; (try dsimp only at hSw); go_simp; with_reducible rfl)
        (try simp only [Act.put, List.setIfInBounds_toArray, List.set_cons_zero, List.set_cons_succ])
        refine Reg.take (i := 2) (v := ?v13) rfl (by kernel_rfl) (by kernel_rfl) (by kernel_rfl) (by rfl) ?hv13 (by assumption) ?rest13
        case hv13 => first | (intro w hSw; (try dsimp only at hSw); go_simp; done) | (intro w hSw; (try dsimp only at hSw); go_simp; with_reducible rfl)
        (try simp only [Act.put, List.setIfInBounds_toArray, List.set_cons_zero, List.set_cons_succ])
        refine Reg.take (i := 3) (v := ?v14) rfl (by kernel_rfl) (by kernel_rfl) (by kernel_rfl) (by rfl) ?hv14 (by assumption) ?rest14
        case hv14 => first | (intro w hSw; (try dsimp only at hSw); go_simp; done) | (intro w hSw; (try dsimp only at hSw); go_simp; with_reducible rfl)
        (try simp only [Act.put, List.setIfInBounds_toArray, List.set_cons_zero, List.set_cons_succ])
        refine Reg.take (i := 4) (v := ?v15) rfl (by kernel_rfl) (by kernel_rfl) (by kernel_rfl) (by rfl) ?hv15 (by assumption) ?rest15
        case hv15 => first | (intro w hSw; (try dsimp only at hSw); go_simp; done) | (intro w hSw; (try dsimp only at hSw); go_simp; with_reducible rfl)
        (try simp only [Act.put, List.setIfInBounds_toArray, List.set_cons_zero, List.set_cons_succ])
        refine Reg.take (i := 5) (v := ?v16) rfl (by kernel_rfl) (by kernel_rfl) (by kernel_rfl) (by rfl) ?hv16 (by assumption) ?rest16
        case hv16 => first | (intro w hSw; (try dsimp only at hSw); go_simp; done) | (intro w hSw; (try dsimp only at hSw); go_simp; with_reducible rfl)
        (try simp only [Act.put, List.setIfInBounds_toArray, List.set_cons_zero, List.set_cons_succ])
        refine Reg.take (i := 6) (v := ?v17) rfl (by kernel_rfl) (by kernel_rfl) (by kernel_rfl) (by rfl) ?hv17 (by assumption) ?rest17
        case hv17 => first | (intro w hSw; (try dsimp only at hSw); go_simp; done) | (intro w hSw; (try dsimp only at hSw); go_simp; with_reducible rfl)
        (try simp only [Act.put, List.setIfInBounds_toArray, List.set_cons_zero, List.set_cons_succ])
        have hput := put_any r g 128 qq ff cs8 [] (none) (0) (c1) _ wd2 hRd hVd4 hcp.1 hcp.2 hfarx
        refine Reg.call (i := 7) rfl (by kernel_rfl) (by rfl) ?_
        intro K hK
        go_simp
        go_at_call 25
        (with_reducible refine hput.mono ?_)
        rintro e W5 ⟨rfl, cs5, hR5, hT5⟩
        have hk5 := Kept.of_turned hT5
        have hD5 := hk5.has hDd (by simp; omega)
        have hRest := HFIN.out W5 qq ff cs5 hD5 hst hR5 hbr hbg
        have hK5 := hKd.trans (hk5.wide (T := [b, r, g]) (by simp))
        have hV5 := hVod.kept hk5 (fun _ y hy => by have := (h84 y hy).1; simp; omega)
        refine hK.out _ _ (hD5.cell 0) (fun hHeld5 => ?_)
        clear hK K hput hR5 hT5 hk5 hD5 hDd hRd hVd4 hKd hVod HFIN
        (try simp only [Act.put, List.setIfInBounds_toArray, List.set_cons_zero, List.set_cons_succ])
        refine Reg.done (by kernel_rfl) ?_ _
        go_wp2
        go_ret
        exact ⟨A8, es.length, d8, rfl, h81, h82, by rw [HZ1.out]; exact hV5, (fun y hy => (h84 y hy).1), hRest, hK5⟩
      · by_cases hck : c1 = E
        · have hnk : n1 = E := by omega
          subst hck
          subst hnk
          have hcp : 0 ≤ 0 ∧ 0 ≤ 9223372036854775807 := ⟨Nat.le_refl _, by omega⟩
          have hr0 : row.drop n1 = [] := List.eq_nil_of_length_eq_zero (by have := hV2.len_; omega)
          have hVd : ∀ W, Vals W (some x) n1 row → Vals W (some x) 0 (row.drop n1) := fun W _ => ⟨by rw [hr0]; rfl, fun h => absurd h (by omega)⟩
          have hfarx : 0 < 0 → ∀ y : Addr, some x = some y → y.block ≠ r ∧ y.block ≠ g := fun h => absurd h (by omega)
          clear hV2 hr0
          go_wp2_with (first
            | (go_at_call 24; ((with_reducible refine hfrm.mono ?_); rintro e W1 ⟨A9, n9, c9, qs9, rfl, _, _, _, _, _, _, hB1⟩; have hF1 := (hF.below hB1); have hsk := (hskip _ hF1.dec)))
            | (go_at_call 22; ((with_reducible refine hsk.mono ?_); rintro e W2 ⟨rfl, hD2, hK2⟩; have hK3 := ((Kept.of_below (S := [b]) hB1).trans hK2); clear hsk hfrm)))
          have hR2 := ring_kept hRr hK3 (by simp; omega) (by simp; omega)
          have hV3 := vals_kept hV hK3 (fun _ y hy => by have := (hF.far y hy).1; simp; omega)
          have hV4 := hVd W2 hV3
          have hKw := hF.kept.trans (hK3.wide (T := [b, r, g]) (by simp))
          have hVo := h83.kept hK3 (fun _ y hy => by have := (h84 y hy).1; simp; omega)
          clear hB1 hF1 hK2 hV3
          refine Reg.begin_ (S := fun W => W.cell? ⟨b, 0, none⟩ = some (.pointer (some ⟨r, 0, none⟩))) (by kernel_rfl) (by exact hD2.cell 0) (fun hHeld => ?_)
          have hDd := hD2.drew
          have hRd := ring_kept hR2 ((Kept.refl [] W2).drewN 1) (by simp) (by simp)
          have hVd4 := hV4.drewN 1
          have hKd := hKw.drewN 1
          have hVod := hVo.drewN 1
          have e1 : W2.drewN 1 = W2.drew := rfl
          rw [e1] at hRd hVd4 hKd hVod
          clear e1 hD2 hR2 hV4 hKw hVo hK3
          generalize W2.drew = wd2 at *
          refine Reg.take (i := 0) (v := ?v18) rfl (by kernel_rfl) (by kernel_rfl) (by kernel_rfl) (by rfl) ?hv18 (by assumption) ?rest18
          case hv18 => first | (intro w hSw; (try dsimp only at hSw); go_simp; done) | (intro w hSw; (try dsimp only at hSw); go_simp; with_reducible rfl)
          (try simp only [Act.put, List.setIfInBounds_toArray, List.set_cons_zero, List.set_cons_succ])
          refine Reg.take (i := 1) (v := ?v19) rfl (by kernel_rfl) (by kernel_rfl) (by kernel_rfl) (by rfl) ?hv19 (by assumption) ?rest19
          case hv19 => first | (intro w hSw; (try dsimp only at hSw); go_simp; done) | (intro w hSw; (try dsimp only at hSw); go_simp; with_reducible rfl)
          (try simp only [Act.put, List.setIfInBounds_toArray, List.set_cons_zero, List.set_cons_succ])
          refine Reg.take (i := 2) (v := ?v20) rfl (by kernel_rfl) (by kernel_rfl) (by kernel_rfl) (by rfl) ?hv20 (by assumption) ?rest20
          case hv20 => first | (intro w hSw; (try dsimp only at hSw); go_simp; done) | (intro w hSw; (try dsimp only at hSw); go_simp; with_reducible rfl)
          (try simp only [Act.put, List.setIfInBounds_toArray, List.set_cons_zero, List.set_cons_succ])
          refine Reg.take (i := 3) (v := ?v21) rfl (by kernel_rfl) (by kernel_rfl) (by kernel_rfl) (by rfl) ?hv21 (by assumption) ?rest21
          case hv21 => first | (intro w hSw; (try dsimp only at hSw); go_simp; done) | (intro w hSw; (try dsimp only at hSw); go_simp; with_reducible rfl)
          (try simp only [Act.put, List.setIfInBounds_toArray, List.set_cons_zero, List.set_cons_succ])
          refine Reg.take (i := 4) (v := ?v22) rfl (by kernel_rfl) (by kernel_rfl) (by kernel_rfl) (by rfl) ?hv22 (by assumption) ?rest22
          case hv22 => first | (intro w hSw; (try dsimp only at hSw); go_simp; done) | (intro w hSw; (try dsimp only at hSw); go_simp; with_reducible rfl)
          (try simp only [Act.put, List.setIfInBounds_toArray, List.set_cons_zero, List.set_cons_succ])
          refine Reg.take (i := 5) (v := ?v23) rfl (by kernel_rfl) (by kernel_rfl) (by kernel_rfl) (by rfl) ?hv23 (by assumption) ?rest23
          case hv23 => first | (intro w hSw; (try dsimp only at hSw); go_simp; done) | (intro w hSw; (try dsimp only at hSw); go_simp; with_reducible rfl)
          (try simp only [Act.put, List.setIfInBounds_toArray, List.set_cons_zero, List.set_cons_succ])
          refine Reg.take (i := 6) (v := ?v24) rfl (by kernel_rfl) (by kernel_rfl) (by kernel_rfl) (by rfl) ?hv24 (by assumption) ?rest24
          case hv24 => first | (intro w hSw; (try dsimp only at hSw); go_simp; done) | (intro w hSw; (try dsimp only at hSw); go_simp; with_reducible rfl)
          (try simp only [Act.put, List.setIfInBounds_toArray, List.set_cons_zero, List.set_cons_succ])
          have hput := put_any r g 128 qq ff cs8 [] ((some x)) (0) (0) _ wd2 hRd hVd4 hcp.1 hcp.2 hfarx
          refine Reg.call (i := 7) rfl (by kernel_rfl) (by rfl) ?_
          intro K hK
          go_simp
          go_at_call 25
          (with_reducible refine hput.mono ?_)
          rintro e W5 ⟨rfl, cs5, hR5, hT5⟩
          have hk5 := Kept.of_turned hT5
          have hD5 := hk5.has hDd (by simp; omega)
          have hRest := HFIN.out W5 qq ff cs5 hD5 hst hR5 hbr hbg
          have hK5 := hKd.trans (hk5.wide (T := [b, r, g]) (by simp))
          have hV5 := hVod.kept hk5 (fun _ y hy => by have := (h84 y hy).1; simp; omega)
          refine hK.out _ _ (hD5.cell 0) (fun hHeld5 => ?_)
          clear hK K hput hR5 hT5 hk5 hD5 hDd hRd hVd4 hKd hVod HFIN
          (try simp only [Act.put, List.setIfInBounds_toArray, List.set_cons_zero, List.set_cons_succ])
          refine Reg.done (by kernel_rfl) ?_ _
          go_wp2
          go_ret
          exact ⟨A8, es.length, d8, rfl, h81, h82, by rw [HZ1.out]; exact hV5, (fun y hy => (h84 y hy).1), hRest, hK5⟩
        · have hcp : n1 - E ≤ c1 - E ∧ c1 - E ≤ 9223372036854775807 := by omega
          have hVd : ∀ W, Vals W (some x) n1 row → Vals W (some (x.add E)) (n1 - E) (row.drop E) := fun W hv => hv.drop E hle
          have hfarx : 0 < n1 - E → ∀ y : Addr, some (x.add E) = some y → y.block ≠ r ∧ y.block ≠ g := fun _ y hy => by
            injection hy with hy
            subst hy
            rw [block_add]
            have := (hF.far x rfl).1
            omega
          clear hV2
          go_wp2_with (first
            | (go_at_call 24; ((with_reducible refine hfrm.mono ?_); rintro e W1 ⟨A9, n9, c9, qs9, rfl, _, _, _, _, _, _, hB1⟩; have hF1 := (hF.below hB1); have hsk := (hskip _ hF1.dec)))
            | (go_at_call 22; ((with_reducible refine hsk.mono ?_); rintro e W2 ⟨rfl, hD2, hK2⟩; have hK3 := ((Kept.of_below (S := [b]) hB1).trans hK2); clear hsk hfrm)))
          have hR2 := ring_kept hRr hK3 (by simp; omega) (by simp; omega)
          have hV3 := vals_kept hV hK3 (fun _ y hy => by have := (hF.far y hy).1; simp; omega)
          have hV4 := hVd W2 hV3
          have hKw := hF.kept.trans (hK3.wide (T := [b, r, g]) (by simp))
          have hVo := h83.kept hK3 (fun _ y hy => by have := (h84 y hy).1; simp; omega)
          clear hB1 hF1 hK2 hV3
          refine Reg.begin_ (S := fun W => W.cell? ⟨b, 0, none⟩ = some (.pointer (some ⟨r, 0, none⟩))) (by kernel_rfl) (by exact hD2.cell 0) (fun hHeld => ?_)
          have hDd := hD2.drew
          have hRd := ring_kept hR2 ((Kept.refl [] W2).drewN 1) (by simp) (by simp)
          have hVd4 := hV4.drewN 1
          have hKd := hKw.drewN 1
          have hVod := hVo.drewN 1
          have e1 : W2.drewN 1 = W2.drew := rfl
          rw [e1] at hRd hVd4 hKd hVod
          clear e1 hD2 hR2 hV4 hKw hVo hK3
          generalize W2.drew = wd2 at *
          refine Reg.take (i := 0) (v := ?v25) rfl (by kernel_rfl) (by kernel_rfl) (by kernel_rfl) (by rfl) ?hv25 (by assumption) ?rest25
          case hv25 => first | (intro w hSw; (try dsimp only at hSw); go_simp; done) | (intro w hSw; (try dsimp only at hSw); go_simp; with_reducible rfl)
          (try simp only [Act.put, List.setIfInBounds_toArray, List.set_cons_zero, List.set_cons_succ])
          refine Reg.take (i := 1) (v := ?v26) rfl (by kernel_rfl) (by kernel_rfl) (by kernel_rfl) (by rfl) ?hv26 (by assumption) ?rest26
          case hv26 => first | (intro w hSw; (try dsimp only at hSw); go_simp; done) | (intro w hSw; (try dsimp only at hSw); go_simp; with_reducible rfl)
          (try simp only [Act.put, List.setIfInBounds_toArray, List.set_cons_zero, List.set_cons_succ])
          refine Reg.take (i := 2) (v := ?v27) rfl (by kernel_rfl) (by kernel_rfl) (by kernel_rfl) (by rfl) ?hv27 (by assumption) ?rest27
          case hv27 => first | (intro w hSw; (try dsimp only at hSw); go_simp; done) | (intro w hSw; (try dsimp only at hSw); go_simp; with_reducible rfl)
          (try simp only [Act.put, List.setIfInBounds_toArray, List.set_cons_zero, List.set_cons_succ])
          refine Reg.take (i := 3) (v := ?v28) rfl (by kernel_rfl) (by kernel_rfl) (by kernel_rfl) (by rfl) ?hv28 (by assumption) ?rest28
          case hv28 => first | (intro w hSw; (try dsimp only at hSw); go_simp; done) | (intro w hSw; (try dsimp only at hSw); go_simp; with_reducible rfl)
          (try simp only [Act.put, List.setIfInBounds_toArray, List.set_cons_zero, List.set_cons_succ])
          refine Reg.take (i := 4) (v := ?v29) rfl (by kernel_rfl) (by kernel_rfl) (by kernel_rfl) (by rfl) ?hv29 (by assumption) ?rest29
          case hv29 => first | (intro w hSw; (try dsimp only at hSw); go_simp; done) | (intro w hSw; (try dsimp only at hSw); go_simp; with_reducible rfl)
          (try simp only [Act.put, List.setIfInBounds_toArray, List.set_cons_zero, List.set_cons_succ])
          refine Reg.take (i := 5) (v := ?v30) rfl (by kernel_rfl) (by kernel_rfl) (by kernel_rfl) (by rfl) ?hv30 (by assumption) ?rest30
          case hv30 => first | (intro w hSw; (try dsimp only at hSw); go_simp; done) | (intro w hSw; (try dsimp only at hSw); go_simp; with_reducible rfl)
          (try simp only [Act.put, List.setIfInBounds_toArray, List.set_cons_zero, List.set_cons_succ])
          refine Reg.take (i := 6) (v := ?v31) rfl (by kernel_rfl) (by kernel_rfl) (by kernel_rfl) (by rfl) ?hv31 (by assumption) ?rest31
          case hv31 => first | (intro w hSw; (try dsimp only at hSw); go_simp; done) | (intro w hSw; (try dsimp only at hSw); go_simp; with_reducible rfl)
          (try simp only [Act.put, List.setIfInBounds_toArray, List.set_cons_zero, List.set_cons_succ])
          have hput := put_any r g 128 qq ff cs8 [] ((some (x.add E))) ((n1-E)) ((c1-E)) _ wd2 hRd hVd4 hcp.1 hcp.2 hfarx
          refine Reg.call (i := 7) rfl (by kernel_rfl) (by rfl) ?_
          intro K hK
          go_simp
          go_at_call 25
          (with_reducible refine hput.mono ?_)
          rintro e W5 ⟨rfl, cs5, hR5, hT5⟩
          have hk5 := Kept.of_turned hT5
          have hD5 := hk5.has hDd (by simp; omega)
          have hRest := HFIN.out W5 qq ff cs5 hD5 hst hR5 hbr hbg
          have hK5 := hKd.trans (hk5.wide (T := [b, r, g]) (by simp))
          have hV5 := hVod.kept hk5 (fun _ y hy => by have := (h84 y hy).1; simp; omega)
          refine hK.out _ _ (hD5.cell 0) (fun hHeld5 => ?_)
          clear hK K hput hR5 hT5 hk5 hD5 hDd hRd hVd4 hKd hVod HFIN
          (try simp only [Act.put, List.setIfInBounds_toArray, List.set_cons_zero, List.set_cons_succ])
          refine Reg.done (by kernel_rfl) ?_ _
          go_wp2
          go_ret
          exact ⟨A8, es.length, d8, rfl, h81, h82, by rw [HZ1.out]; exact hV5, (fun y hy => (h84 y hy).1), hRest, hK5⟩
end Go.Proofs.Ytfimgkomfnfjkaa.Par
end
section
/- decode's calls over the landed code, as one kit. -/
set_option linter.unusedSimpArgs false
set_option linter.unusedVariables false
namespace Go.Proofs.Ytfimgkomfnfjkaa.Par
open Go.RowKit RU8 Frm
theorem Rests.kept {w w' : World} {b r g : Nat} {all T : List Nat} (h : Rests w b r g all) (hk : Kept T w w') (h1 : b ∉ T) (h2 : r ∉ T) (h3 : g ∉ T) : Rests w' b r g all := by
  obtain ⟨bg, last, hD, hS⟩ := h.dec
  obtain ⟨q, f, cs, hR⟩ := h.ring
  exact ⟨⟨bg, last, hk.has hD h1, hS⟩, ⟨q, f, cs, ring_kept hR hk h2 h3⟩, h.ne1, h.ne2⟩
theorem Rests.lt {w : World} {b r g : Nat} {all : List Nat} (h : Rests w b r g all) : b < w.heap.size ∧ r < w.heap.size ∧ g < w.heap.size := by
  obtain ⟨bg, last, hD, hS⟩ := h.dec
  obtain ⟨q, f, cs, hR⟩ := h.ring
  exact ⟨Has.lt hD, hR.core.lt_.1, hR.core.lt_.2⟩
theorem st_nil : stT [] = start := by unfold stT; rw [(walk_end 0 look_nil).1]; rfl
theorem new_k (w : World) : Calls Try.prog 5 #[] w fun e w' => ∃ b r g, e = .returned (.pointer (some ⟨b, 0, none⟩)) ∧ Rests w' b r g [] ∧ w.heap.size ≤ b ∧ w.heap.size ≤ r ∧ w.heap.size ≤ g ∧ Below w.heap.size w w' := by
  have hnew := fun W => new_yes 7 (by omega) W
  have e7 : ((7 : Nat) : Int) = 7 := rfl
  simp only [e7] at hnew
  go_enter Try.func5, Try.ntmps5
  go_wp2_with (go_at_call 17; ((with_reducible refine (hnew _).mono ?_); rintro e W1 ⟨rfl, hR, hB, hsz⟩))
  go_ret
  have hH := Has.new W1 42 #[.pointer (some ⟨w.heap.size + 1, 0, none⟩), .int .i64 0, .int .i64 0, .int .i64 0, .bool false, .int .u8 0, .bool false]
  rw [hsz] at hH
  refine ⟨w.heap.size + 2, w.heap.size + 1, w.heap.size, rfl, ⟨⟨false, 0, ?_, ?_⟩, ⟨2 ^ 7, 0, List.replicate (2 ^ 7) 0, ?_⟩, by omega, by omega⟩, by omega, by omega, by omega, hB.alloc (by omega) _⟩
  · rw [st_nil, events_nil, end_nil]
    exact hH
  · rw [st_nil]
    exact ⟨rfl, (fun p hp => by cases hp), by omega⟩
  · rw [List.drop_nil]
    exact hR.alloc _
theorem clone_k (b r g : Nat) (all : List Nat) (w : World) (h : Rests w b r g all) : Calls Try.prog 9 #[.pointer (some ⟨b, 0, none⟩)] w fun e w' => ∃ b' r' g', e = .returned (.pointer (some ⟨b', 0, none⟩)) ∧ Rests w' b' r' g' all ∧ w.heap.size ≤ b' ∧ w.heap.size ≤ r' ∧ w.heap.size ≤ g' ∧ Below w.heap.size w w' := by
  obtain ⟨bg, last, hD, hS⟩ := h.dec
  obtain ⟨q, f, cs, hR⟩ := h.ring
  have hlt := Has.lt hD
  obtain ⟨s, hs⟩ : ∃ s, (stT all).s = s := ⟨_, rfl⟩
  obtain ⟨gp, hgp⟩ : ∃ s, countL 1 (eventsT all) = s := ⟨_, rfl⟩
  obtain ⟨br, hbr⟩ : ∃ s, brk (endT all) (stT all) = s := ⟨_, rfl⟩
  obtain ⟨bl, hbl⟩ : ∃ s, all.length = s := ⟨_, rfl⟩
  have hD' := hD
  rw [hs, hgp, hbr, hbl] at hD'
  unfold DecIs at hD'
  have hcl := fun W => clone_any r g 128 q f cs (all.drop (endT all)) W
  unfold Cloned at hcl
  have c0 : w.cell? ⟨b, 0, none⟩ = some (.pointer (some ⟨r, 0, none⟩)) := hD'.cell 0
  have c1 : w.cell? ⟨b, 1, none⟩ = some (.int .i64 (bl : Nat)) := hD'.cell 1
  have c2 : w.cell? ⟨b, 2, none⟩ = some (.int .i64 (s : Nat)) := hD'.cell 2
  have c3 : w.cell? ⟨b, 3, none⟩ = some (.int .i64 (gp : Nat)) := hD'.cell 3
  have c4 : w.cell? ⟨b, 4, none⟩ = some (.bool bg) := hD'.cell 4
  have c5 : w.cell? ⟨b, 5, none⟩ = some (.int .u8 (last : Nat)) := hD'.cell 5
  have c6 : w.cell? ⟨b, 6, none⟩ = some (.bool br) := hD'.cell 6
  have hN := Has.new w 42 #[.pointer (some ⟨r, 0, none⟩), .int .i64 (bl : Nat), .int .i64 (s : Nat), .int .i64 (gp : Nat), .bool bg, .int .u8 (last : Nat), .bool br]
  have hcw := hcl _ (hR.alloc (.cells #[.pointer (some ⟨r, 0, none⟩), .int .i64 (bl : Nat), .int .i64 (s : Nat), .int .i64 (gp : Nat), .bool bg, .int .u8 (last : Nat), .bool br] 42))
  have hBa := (Below.refl w.heap.size w).alloc (Nat.le_refl _) (.cells #[.pointer (some ⟨r, 0, none⟩), .int .i64 (bl : Nat), .int .i64 (s : Nat), .int .i64 (gp : Nat), .bool bg, .int .u8 (last : Nat), .bool br] 42)
  have c0n : (w.alloc (.cells #[.pointer (some ⟨r, 0, none⟩), .int .i64 (bl : Nat), .int .i64 (s : Nat), .int .i64 (gp : Nat), .bool bg, .int .u8 (last : Nat), .bool br] 42)).cell? ⟨b, 0, none⟩ = some (.pointer (some ⟨r, 0, none⟩)) := (hD'.alloc _).cell 0
  go_enter Try.func9, Try.ntmps9
  go_wp2_with (go_at_call 27; ((with_reducible refine hcw.mono ?_); rintro e W1 ⟨b', g', q', rfl, hR', h1, h2, hB⟩; have hN1 := ((Kept.of_below (S := []) hB).has hN (by simp)); have g0 := (hN1.frozen 0); have t0 := (hN1.cell 0)))
  go_ret
  rw [World.size_alloc] at h1 h2
  have hN2 := hN1.set_ 0 (.pointer (some ⟨b', 0, none⟩))
  have hks := (Kept.refl [w.heap.size] W1).setCell (p := ⟨w.heap.size, 0, none⟩) (.inl (by simp)) (.pointer (some ⟨b', 0, none⟩))
  refine ⟨w.heap.size, b', g', rfl, ⟨⟨bg, last, ?_, hS⟩, ⟨_, _, _, ring_kept hR' hks (by simp; omega) (by simp; omega)⟩, by omega, by omega⟩, by omega, by omega, by omega, (hBa.trans (hB.mono (by simp))).setCell (by simp) _⟩
  rw [hs, hgp, hbr, hbl]
  simpa [DecIs] using hN2
/-- The kit: a decoder's blocks are its struct, its ring's and the ring's slots. -/
def kit : DecodeKit where
  Dec := fun w b S all => ∃ r g, S = [b, r, g] ∧ Rests w b r g all
  lt := by
    rintro w b S all ⟨r, g, rfl, h⟩ k hk
    obtain ⟨h1, h2, h3⟩ := h.lt
    simp at hk
    omega
  kept := by
    rintro w w' b S all T ⟨r, g, rfl, h⟩ hk hd
    exact ⟨r, g, rfl, h.kept hk (hd b (by simp)) (hd r (by simp)) (hd g (by simp))⟩
  new_any := fun w => (new_k w).mono (by
    rintro e w' ⟨b, r, g, rfl, h, h1, h2, h3, hB⟩
    exact ⟨b, [b, r, g], rfl, ⟨r, g, rfl, h⟩, (fun k hk => by simp at hk; omega), hB⟩)
  feed_any := by
    rintro b S all A n c ys w ⟨r, g, rfl, h⟩ hb hal hv hy hn hnc hc hfar
    refine (feed_k b r g all A n c ys w h hb hal hv hy hn hnc hc (fun h0 x hx => by have := hfar h0 x hx; simpa using this)).mono ?_
    rintro e w' ⟨B, m, d, rfl, h1, h2, h3, h4, h5, h6⟩
    refine ⟨B, m, d, [b, r, g], rfl, h1, h2, h3, fun x hx => ⟨h4 x hx, fun hm => ?_⟩, ⟨r, g, rfl, h5⟩, (fun k hk => .inl hk), h6⟩
    have h7 := h4 x hx
    obtain ⟨l1, l2, l3⟩ := h.lt
    simp at hm
    omega
  waits_any := by
    rintro b S all w ⟨r, g, rfl, h⟩ hb hal
    obtain ⟨bg, last, hD, hS⟩ := h.dec
    obtain ⟨q, f, cs, hR⟩ := h.ring
    refine (waits_k b r _ _ _ last g 128 q f (waitT all) cs _ bg _ w hD hR (by rw [List.length_drop]; rfl)).mono ?_
    rintro e w' ⟨rfl, rfl⟩
    exact ⟨rfl, Below.refl _ _⟩
  bytes_any := by
    rintro b S all w ⟨r, g, rfl, h⟩ hb hal
    obtain ⟨bg, last, hD, hS⟩ := h.dec
    refine (bytes_k b r _ _ _ last bg _ w hD).mono ?_
    rintro e w' ⟨rfl, rfl⟩
    exact ⟨rfl, Below.refl _ _⟩
  samples_any := by
    rintro b S all w ⟨r, g, rfl, h⟩ hb hal
    obtain ⟨bg, last, hD, hS⟩ := h.dec
    refine (samples_k b r _ _ _ last bg _ w hD).mono ?_
    rintro e w' ⟨rfl, rfl⟩
    have hs : (stT all).s = countT 2 all := by
      unfold stT countT eventsT
      rw [s_count]
      exact Nat.zero_add _
    rw [hs]
    exact ⟨rfl, Below.refl _ _⟩
  gaps_any := by
    rintro b S all w ⟨r, g, rfl, h⟩ hb hal
    obtain ⟨bg, last, hD, hS⟩ := h.dec
    refine (gaps_k b r _ _ _ last bg _ w hD).mono ?_
    rintro e w' ⟨rfl, rfl⟩
    exact ⟨rfl, Below.refl _ _⟩
  clone_any := by
    rintro b S all w ⟨r, g, rfl, h⟩ hb hal
    refine (clone_k b r g all w h).mono ?_
    rintro e w' ⟨b', r', g', rfl, h', h1, h2, h3, hB⟩
    exact ⟨b', [b', r', g'], rfl, ⟨r', g', rfl, h'⟩, (fun k hk => by simp at hk; omega), hB⟩
end Go.Proofs.Ytfimgkomfnfjkaa.Par
end
