/- The reference's Look: the frame with which bytes begin. -/
import Derived.Test.YtlhjligeigkbnaaFrameRefMay
import Derived.Test.YtlhjligeigkbnaaFrameLookMath
import Derived.Test.YtlhjligeigkbnaaCrcRefE
set_option linter.unusedSimpArgs false
set_option linter.unusedVariables false
namespace Go.Proofs.Ytlhjligeigkbnaa.Frm
open Go.RowKit RU8
end Go.Proofs.Ytlhjligeigkbnaa.Frm
namespace Go.Proofs.Ytlhjligeigkbnaa.Reg
open Go.RowKit
/-- Two operations may come up: each is walked. -/
theorem call2 {P : Program} {md : Region.Mode} {l : List Oper} {Q : Exit → Act → World → Prop} {S : World → Prop} {i j : Nat} {oi oj : Oper} {fuel : Nat} {listed : Array Bool} {a : Act} {w : World} (hi : l[i]? = some oi) (hj : l[j]? = some oj) (hr : Region.ready md l.toArray listed = [i, j]) (hwi : Region.wanted oi (yielded l.toArray a.tmps) = true) (hwj : Region.wanted oj (yielded l.toArray a.tmps) = true)
    (h : ∀ K : Act → World → Prop, Shut (∀ a w, S w → (S w → wpAnyH P md l.toArray Q S fuel (listed.setIfInBounds i true) a w) → K a w) → Oper.wp P oi a w K Q)
    (h' : ∀ K : Act → World → Prop, Shut (∀ a w, S w → (S w → wpAnyH P md l.toArray Q S fuel (listed.setIfInBounds j true) a w) → K a w) → Oper.wp P oj a w K Q) : wpAnyH P md l.toArray Q S (fuel + 1) listed a w :=
  wpAnyH_ready hr (by simp) (AllReadyH.cons (o := oi) (by rw [List.getElem?_toArray]; exact hi) (fun K hK => by rw [if_pos hwi]; exact h K hK) (AllReadyH.cons (o := oj) (by rw [List.getElem?_toArray]; exact hj) (fun K hK => by rw [if_pos hwj]; exact h' K hK) AllReadyH.nil))
end Go.Proofs.Ytlhjligeigkbnaa.Reg
namespace Go.Proofs.Ytlhjligeigkbnaa.Frm
open Go.RowKit RU8
/-- What a Look answers. -/
def LookIs (w : World) (b : List Nat) (e : Ending) (w' : World) : Prop :=
  ∃ A m c, e = .returned (.tuple #[.agg #[.int .u8 (lookSeq b), .slice A m c], .int .i64 (lookN b), .int .i64 (lookE b)]) ∧ m ≤ c ∧ c ≤ 9223372036854775807 ∧ Row.Vals sampS w' A m (lookL b) ∧ m ≤ 32 ∧ (∀ x, A = some x → w.heap.size ≤ x.block) ∧ Below w.heap.size w w'
set_option maxRecDepth 100000 in
set_option maxHeartbeats 2000000 in
theorem reflook_any (A : Option Addr) (n c : Nat) (b : List Nat) (w : World) (hv : Vals w A n b) (hb : Bytes b) (hn : n ≤ 100000) (hc : n ≤ c) (hc2 : c ≤ 9223372036854775807) :
    Calls Try.prog 22 #[.slice A n c] w (LookIs w b) := by
  have hlen := hv.len_
  have hBW := ((Below.refl w.heap.size w).alloc (Nat.le_refl _) (.cells #[.int .u8 0, .slice none 0 0] 34)).alloc (by simp) (.cells #[.int .u8 0, .slice none 0 0] 34)
  have HVO := Lib.hid hv
  have hInfo : (Try.prog.info? 49).map (fun i => (i.zero, i.size, i.bytes)) = some (some (.agg #[.int .i32 0, .bool false]), 2, 8) := by kernel_rfl
  have HInfo := Lib.hid hInfo
  clear hInfo
  replace hv := hv.below hBW
  have hs0 : Sound b 0 := ⟨rfl, fun h => absurd h (by omega)⟩
  have HS0 := Lib.hid hs0
  clear hs0
  go_enter Try.func22, Try.ntmps22
  go_wp2
  go_loop [6] (fun i => ∃ j : Nat, j ≤ 102 ∧ i = .int .i64 (j : Nat) ∧ Sound b j) (fun i => 102 - (intOf i).toNat)
  case atStart => exact ⟨0, by omega, rfl, HS0.out⟩
  case round =>
    obtain ⟨j, hj, rfl, hS⟩ := hrel
    have HS := Lib.hid hS
    clear hS HS0
    by_cases hj102 : j < 102
    · by_cases hjn : j < n
      · obtain ⟨x, rfl, hx⟩ := hv.cells (by omega)
        rcases (by omega : j = 0 ∨ j = 1 ∨ j = 2 ∨ j = 3 ∨ 4 ≤ j) with rfl | rfl | rfl | rfl | hj4
        · have hc0 := hx 0 hjn
          rw [show x.add 0 = x by simp [Addr.add]] at hc0
          have he := err_at0 (b := b) (by omega)
          obtain ⟨b0, hb0⟩ : ∃ v, b.getD 0 0 = v := ⟨_, rfl⟩
          rw [hb0] at hc0 he
          clear hx hb0 hv
          by_cases h1 : b0 = 165
          · rw [if_neg (fun h => h h1)] at he
            have hne := Lib.hid (sound_next HS.out he (fun h => absurd h (by omega)))
            subst h1
            clear he
            go_wp2
            go_round
            case rel => exact ⟨_, by omega, by first | rfl | go_num, hne.out⟩
            case measure => first | (simp [intOf]; done) | (simp [intOf]; omega)
          · rw [if_pos h1] at he
            have hres := sound_bad HS.out (by omega) he (by decide)
            have hz : ¬ (b0 : Int) = 165 := by omega
            clear he h1
            have HRES := Lib.hid hres
            clear hres
            go_wp2
            refine bodyPost_ret (v := .tuple #[.agg #[.int .u8 0, .slice none 0 0], .int .i64 0, .int .i64 60]) (by simp [results, Try.results22, go_sem]) rfl ⟨none, 0, 0, by rw [HRES.out.1, HRES.out.2.1, HRES.out.2.2.2]; rfl, by omega, by omega, by rw [HRES.out.2.2.1]; exact Row.Vals.none_ _, by omega, (fun x hx => by cases hx), hBW⟩
        · have hc0 := hx 1 hjn
          rw [show x.add 1 = ⟨x.block, x.off + 1, none⟩ by simp [Addr.add]] at hc0
          have he := err_at1 (b := b) (by omega)
          obtain ⟨b0, hb0⟩ : ∃ v, b.getD 1 0 = v := ⟨_, rfl⟩
          rw [hb0] at hc0 he
          clear hx hb0 hv
          by_cases h1 : b0 = 90
          · rw [if_neg (fun h => h h1)] at he
            have hne := Lib.hid (sound_next HS.out he (fun h => absurd h (by omega)))
            subst h1
            clear he
            go_wp2
            go_round
            case rel => exact ⟨_, by omega, by first | rfl | go_num, hne.out⟩
            case measure => first | (simp [intOf]; done) | (simp [intOf]; omega)
          · rw [if_pos h1] at he
            have hres := sound_bad HS.out (by omega) he (by decide)
            have hz : ¬ (b0 : Int) = 90 := by omega
            clear he h1
            have HRES := Lib.hid hres
            clear hres
            go_wp2
            refine bodyPost_ret (v := .tuple #[.agg #[.int .u8 0, .slice none 0 0], .int .i64 0, .int .i64 60]) (by simp [results, Try.results22, go_sem]) rfl ⟨none, 0, 0, by rw [HRES.out.1, HRES.out.2.1, HRES.out.2.2.2]; rfl, by omega, by omega, by rw [HRES.out.2.2.1]; exact Row.Vals.none_ _, by omega, (fun x hx => by cases hx), hBW⟩
        · have hne := Lib.hid (sound_next HS.out (err_at2 (by omega)) (fun h => absurd h (by omega)))
          clear hx hv
          go_wp2
          go_round
          case rel => exact ⟨_, by omega, by first | rfl | go_num, hne.out⟩
          case measure => first | (simp [intOf]; done) | (simp [intOf]; omega)
        · have hc0 := hx 3 hjn
          rw [show x.add 3 = ⟨x.block, x.off + 3, none⟩ by simp [Addr.add]] at hc0
          have he := err_at3 (b := b) (by omega)
          obtain ⟨b3, hb3⟩ : ∃ v, b.getD 3 0 = v := ⟨_, rfl⟩
          rw [hb3] at hc0 he
          have hz4 : sizeT b = 6 + 3 * b3 := by unfold sizeT; rw [hb3]
          clear hx hb3 hv
          rcases (by omega : b3 < 1 ∨ 32 < b3 ∨ (1 ≤ b3 ∧ b3 ≤ 32)) with h1 | h1 | h1
          · rw [if_pos (.inl h1)] at he
            have hres := sound_bad HS.out (by omega) he (by decide)
            have hz : (b3 : Int) < 1 := by omega
            clear he hz4
            have HRES := Lib.hid hres
            clear hres
            go_wp2
            refine bodyPost_ret (v := .tuple #[.agg #[.int .u8 0, .slice none 0 0], .int .i64 0, .int .i64 61]) (by simp [results, Try.results22, go_sem]) rfl ⟨none, 0, 0, by rw [HRES.out.1, HRES.out.2.1, HRES.out.2.2.2]; rfl, by omega, by omega, by rw [HRES.out.2.2.1]; exact Row.Vals.none_ _, by omega, (fun x hx => by cases hx), hBW⟩
          · rw [if_pos (.inr h1)] at he
            have hres := sound_bad HS.out (by omega) he (by decide)
            have hz : ¬ (b3 : Int) < 1 ∧ (32 : Int) < (b3 : Int) := by omega
            clear he hz4
            have HRES := Lib.hid hres
            clear hres
            go_wp2
            refine bodyPost_ret (v := .tuple #[.agg #[.int .u8 0, .slice none 0 0], .int .i64 0, .int .i64 61]) (by simp [results, Try.results22, go_sem]) rfl ⟨none, 0, 0, by rw [HRES.out.1, HRES.out.2.1, HRES.out.2.2.2]; rfl, by omega, by omega, by rw [HRES.out.2.2.1]; exact Row.Vals.none_ _, by omega, (fun x hx => by cases hx), hBW⟩
          · rw [if_neg (by omega)] at he
            have hne := Lib.hid (sound_next HS.out he (fun h => by omega))
            have hz : ¬ (b3 : Int) < 1 ∧ ¬ (32 : Int) < (b3 : Int) := by omega
            clear he hz4
            go_wp2
            go_round
            case rel => exact ⟨_, by omega, by first | rfl | go_num, hne.out⟩
            case measure => first | (simp [intOf]; done) | (simp [intOf]; omega)
        · have hc3 := hx 3 (by omega)
          rw [show x.add 3 = ⟨x.block, x.off + 3, none⟩ by simp [Addr.add]] at hc3
          have hcj := hx j hjn
          have he := err_at4 HS.out hj4 (by omega)
          have hzb := size_bound HS.out.1 hj4
          have hjz := HS.out.2 hj4
          obtain ⟨Z, hZ⟩ : ∃ Z, sizeT b = Z := ⟨_, rfl⟩
          rw [hZ] at he hzb hjz
          have hZ2 : sizeT b = 6 + 3 * b.getD 3 0 := rfl
          rw [hZ] at hZ2
          have HZ := Lib.hid hZ
          obtain ⟨b3, hb3⟩ : ∃ v, b.getD 3 0 = v := ⟨_, rfl⟩
          rw [hb3] at hc3 hZ2
          have HB3 := Lib.hid hb3
          have hZz : 6 + 3 * (b3 : Int) = (Z : Int) := by omega
          have hb38 : b3 ≤ 32 := by omega
          have hZm2 : (Z : Int) - 2 = ((Z - 2 : Nat) : Int) := by omega
          obtain ⟨Y, hY⟩ : ∃ Y, Z - 2 = Y := ⟨_, rfl⟩
          rw [hY] at hZm2
          obtain ⟨bj, hbj⟩ : ∃ v, b.getD j 0 = v := ⟨_, rfl⟩
          rw [hbj] at hcj he
          have hj0z : ((j : Int) == 0) = false := by simp; omega
          have hj1z : ((j : Int) == 1) = false := by simp; omega
          have hj3z : ((j : Int) == 3) = false := by simp; omega
          have hj4z : ¬ (j : Int) < 4 := by omega
          have hnx : errAt b j = 0 → j + 1 ≠ Z → Sound b (j + 1) := fun h1 h2 => sound_next HS.out h1 (fun _ => by rw [HZ.out]; omega)
          have HNX := Lib.hid hnx
          clear hZ hZ2 hb3 hbj hnx
          by_cases hlt : j + 2 < Z
          · have hltz : (j : Int) < (Y : Int) := by omega
            have hm1 : ¬ ((j : Int) = (Z : Int) - 1) := by omega
            by_cases hmod : j % 3 = 1
            · have hmz : (j : Int) % 3 = 1 := by omega
              by_cases hbig : 1 < bj
              · rw [if_pos ⟨hlt, hmod, hbig⟩] at he
                have hres := sound_bad HS.out hj102 he (by decide)
                clear he hx hv hY hlt hmod
                have HRES := Lib.hid hres
                clear hres
                go_wp2
                refine bodyPost_ret (v := .tuple #[.agg #[.int .u8 0, .slice none 0 0], .int .i64 0, .int .i64 62]) (by simp [results, Try.results22, go_sem]) rfl ⟨none, 0, 0, by rw [HRES.out.1, HRES.out.2.1, HRES.out.2.2.2]; rfl, by omega, by omega, by rw [HRES.out.2.2.1]; exact Row.Vals.none_ _, by omega, (fun x hx => by cases hx), hBW⟩
              · rw [if_neg (fun h => hbig h.2.2), if_neg (fun h => by omega)] at he
                have hne := Lib.hid (HNX.out he (by omega))
                have hbz : ¬ (1 : Int) < (bj : Int) := by omega
                clear he hx hv hY hlt hmod hbig
                go_wp2
                go_round
                case rel => exact ⟨_, by omega, by first | rfl | go_num, hne.out⟩
                case measure => first | (simp [intOf]; done) | (simp [intOf]; omega)
            · rw [if_neg (fun h => hmod h.2.1), if_neg (fun h => by omega)] at he
              have hne := Lib.hid (HNX.out he (by omega))
              have hmz : ((j : Int) % 3 == 1) = false := by simp; omega
              clear he hx hv hY hlt hmod
              go_wp2
              go_round
              case rel => exact ⟨_, by omega, by first | rfl | go_num, hne.out⟩
              case measure => first | (simp [intOf]; done) | (simp [intOf]; omega)
          · have hltz : ¬ (j : Int) < (Y : Int) := by omega
            by_cases hlast : j + 1 = Z
            · have hjz1 : (j : Int) = (Z : Int) - 1 := by omega
              have hv2 := (hv.take Z (by omega)).drop 2 (by omega)
              rw [hY] at hv2
              have e2 : (some x).map (·.add 2) = some (⟨x.block, x.off + 2, none⟩ : Addr) := by simp [Addr.add]
              rw [e2] at hv2
              have hbs : Bytes ((b.take Z).drop 2) := fun y hy => hb y (List.mem_of_mem_take (List.mem_of_mem_drop hy))
              have hse := Crc.refsealed_any _ Y (c - 2) _ _ hv2 hbs (by omega) (by omega) (by omega)
              have hc2n : ¬ c = 2 := by omega
              have hZc : (Z : Int) ≤ (c : Int) ∧ (2 : Int) ≤ (Z : Int) ∧ Z ≤ c ∧ 2 ≤ Z := by omega
              obtain ⟨sb, hsb⟩ : ∃ s, Crc.sealedB ((b.take Z).drop 2) = s := ⟨_, rfl⟩
              rw [if_neg (fun h => hlt h.1)] at he
              rw [hsb] at he hse
              have hc2b := hx 2 (by omega)
              rw [show x.add 2 = ⟨x.block, x.off + 2, none⟩ by simp [Addr.add]] at hc2b
              have hH0 := (Has.new w 34 #[.int .u8 0, .slice none 0 0]).alloc (.cells #[.int .u8 0, .slice none 0 0] 34)
              have hH1 := Has.new (w.alloc (.cells #[.int .u8 0, .slice none 0 0] 34)) 34 #[.int .u8 0, .slice none 0 0]
              rw [show (w.alloc (.cells #[.int .u8 0, .slice none 0 0] 34)).heap.size = w.heap.size + 1 by simp] at hH1
              clear hv2 hbs hsb hx
              cases sb
              · rw [if_pos ⟨hlast, rfl⟩] at he
                have hres := sound_bad HS.out hj102 he (by decide)
                clear he hv hlast hlt
                have HRES := Lib.hid hres
                clear hres
                go_wp2_with (go_at_call 28; ((with_reducible refine hse.mono ?_); rintro e W1 ⟨rfl, hB1⟩; have hBX := hBW.trans (hB1.mono hBW.size); have hR0 := hH0.below hB1 (by simp; omega); obtain ⟨c0, c1, f0, f1⟩ := hR0.two))
                obtain ⟨p0, p1, _, _⟩ := (hR0.put2 (.int .u8 0) (.slice none 0 0)).two
                refine bodyPost_ret (v := .tuple #[.agg #[.int .u8 0, .slice none 0 0], .int .i64 0, .int .i64 63]) (by simp [results, Try.results22, go_sem, p0, p1]) rfl ⟨none, 0, 0, by rw [HRES.out.1, HRES.out.2.1, HRES.out.2.2.2]; rfl, by omega, by omega, by rw [HRES.out.2.2.1]; exact Row.Vals.none_ _, by omega, (fun x hx => by cases hx), below_put2 hBX (Nat.le_refl _) _ _⟩
              · rw [if_neg (fun h => by cases h.2)] at he
                have hok : lookE b = 0 := lookE_ok (i := Z) (by rw [← hlast]; exact firstErr_step HS.out.1 he) (by omega) (by rw [HZ.out]; exact Nat.le_refl _)
                have hres := Lib.hid (look_ok hok)
                have HOK := Lib.hid hok
                have hvw := hv
                obtain ⟨sq, hsq⟩ : ∃ v, b.getD 2 0 = v := ⟨_, rfl⟩
                rw [hsq] at hc2b
                have HSQ := Lib.hid hsq
                clear he hv hlast hlt hok hsq hcj
                go_wp2_with (go_at_call 28; ((with_reducible refine hse.mono ?_); rintro e W1 ⟨rfl, hB1⟩; have hBX := hBW.trans (hB1.mono hBW.size); have hR0 := hH0.below hB1 (by simp; omega); have hF0 := hH1.below hB1 (by simp); obtain ⟨c0, c1, f0, f1⟩ := hF0.two; have hc2c := (hB1.cell (World.block_lt_of_cell? _ _ hc2b)).trans hc2b))
                have hF1 : Has (W1.setCell ⟨w.heap.size + 1, 0, none⟩ (.int .u8 sq)) (w.heap.size + 1) 34 #[.int .u8 sq, .slice none 0 0] := by
                  have := hF0.set_ 0 (.int .u8 sq)
                  simpa using this
                have hR1 := hR0.far (p := ⟨w.heap.size + 1, 0, none⟩) (by simp) (.int .u8 sq)
                have hB2 := hBX.setCell (p := ⟨w.heap.size + 1, 0, none⟩) (by simp) (.int .u8 sq)
                go_loopw [8] (fun i wr => ∃ k : Nat, k ≤ b3 ∧ i = .int .i64 ((4 + 3 * k : Nat) : Int) ∧ ∃ A' c', Has wr (w.heap.size + 1) 34 #[.int .u8 sq, .slice A' k c'] ∧ Has wr w.heap.size 34 #[.int .u8 0, .slice none 0 0] ∧
                  wr.ownsRow (w.heap.size + 2) 49 2 (.slice A' k c') k (Row.flat sampS (unsampsT b k)) ∧ Below w.heap.size w wr) (fun i _ => 102 - (intOf i).toNat)
                case atStart => exact ⟨0, Nat.zero_le _, rfl, none, 0, by exact hF1, by exact hR1, by exact Row.own_none (S := sampS) _ _ _, by exact hB2⟩
                case round =>
                  obtain ⟨k, hk, rfl, A', c', hF, hR, hO, hB⟩ := hrel
                  clear hF1 hR1 hB2 hF0 hR0 hBX c0 c1 f0 f1 hc2c hB1 hH0 hH1 hc2b hvw hc3 hse hj0z hj1z hj3z hj4z hltz
                  obtain ⟨c0, c1, f0, f1⟩ := hF.two
                  by_cases hkb : k < b3
                  · obtain ⟨i, hi⟩ : ∃ i, 4 + 3 * k = i := ⟨_, rfl⟩
                    rw [hi]
                    obtain ⟨p, hp⟩ : ∃ p, i + 1 = p := ⟨_, rfl⟩
                    obtain ⟨q, hq⟩ : ∃ q, i + 2 = q := ⟨_, rfl⟩
                    have hiz : (i : Int) < (Y : Int) := by omega
                    have hpz : (i : Int) + 1 = (p : Int) := by omega
                    have hqz : (i : Int) + 2 = (q : Int) := by omega
                    have hin : i < n := by omega
                    have hpn : p < n := by omega
                    have hqn : q < n := by omega
                    obtain ⟨y, hy, hcs⟩ := HVO.out.cells (by omega)
                    injection hy with hy
                    subst hy
                    have hci0 := hcs i hin
                    have hcp0 := hcs p hpn
                    have hcq0 := hcs q hqn
                    have hst := unsampsT_step b k
                    rw [show sampAt b k = (valT2 (b.getD p 0) (b.getD q 0), ((b.getD i 0 : Int) == 1)) by
                      unfold sampAt
                      rw [show 5 + 3 * k = p by omega, show 6 + 3 * k = q by omega, hi]
                      refine Prod.ext rfl ?_
                      show decide (b.getD i 0 = 1) = ((b.getD i 0 : Int) == 1)
                      rw [Bool.eq_iff_iff, decide_eq_true_iff, beq_iff_eq]
                      omega] at hst
                    have hf8 := hb.at_ i
                    have hl8 := hb.at_ p
                    have hh8 := hb.at_ q
                    generalize b.getD i 0 = f at *
                    generalize b.getD p 0 = lo at *
                    generalize b.getD q 0 = hi8 at *
                    have hxl := World.block_lt_of_cell? _ _ hci0
                    have hci := (hB.cell hxl).trans hci0
                    have hcp := (hB.cell (World.block_lt_of_cell? _ _ hcp0)).trans hcp0
                    have hcq := (hB.cell (World.block_lt_of_cell? _ _ hcq0)).trans hcq0
                    obtain ⟨m, hm⟩ : ∃ m, lo + 256 * hi8 = m := ⟨_, rfl⟩
                    have hmz : (lo : Int) + 256 * (hi8 : Int) = (m : Int) := by omega
                    have hm6 : m < 65536 := by omega
                    unfold valT2 at hst
                    rw [hm, hmz] at hst
                    have HY := Lib.hid (show 3 * k + 6 ≤ Y + 2 ∧ k < b3 ∧ i + 3 = 4 + 3 * (k + 1) from ⟨by omega, hkb, by omega⟩)
                    have HJ := Lib.hid hjz1
                    clear hcs hcp0 hcq0 hp hq hi hm hjz1
                    by_cases hbig : 32767 < m
                    · rw [if_pos hbig] at hst
                      obtain ⟨V, hV⟩ : ∃ V, (m : Int) - 65536 = V := ⟨_, rfl⟩
                      rw [hV] at hst
                      have hbz : (32767 : Int) < (m : Int) := by omega
                      have HST := Lib.hid hst
                      clear hst hbig
                      go_wp2
                      go_quiet (fail)
                      go_wp2
                      refine Reg.begin_ (S := fun W => W.cell? (x.add i) = some (.int .u8 f)) (by kernel_rfl) (by exact hci) (fun hHeld => ?_)
                      have hFd : Has (wr.drewN nq).drew (w.heap.size + 1) 34 #[.int .u8 sq, .slice A' k c'] := hF
                      have hRd : Has (wr.drewN nq).drew w.heap.size 34 #[.int .u8 0, .slice none 0 0] := hR
                      have hOd : World.ownsRow (wr.drewN nq).drew (w.heap.size + 2) 49 2 (.slice A' k c') k (Row.flat sampS (unsampsT b k)) := hO
                      have hBd : Below w.heap.size w (wr.drewN nq).drew := below_drewN (below_drewN hB nq) 1
                      generalize (wr.drewN nq).drew = wd at *
                      clear hF hR hO hB hci c0 c1 f0 f1
                      have hinz : (0 : Int) ≤ (i : Int) ∧ (i : Int) < (n : Int) := by omega
                      refine Reg.take (i := 0) (v := ?v1) rfl (by kernel_rfl) (by kernel_rfl) (by kernel_rfl) (by rfl) ?hv1 (by assumption) ?rest1
                      case hv1 => first | (intro w hSw; (try dsimp only at hSw); go_simp; done) | (intro w hSw; (try dsimp only at hSw); go_simp; with_reducible rfl)
                      (try simp only [Act.put, List.setIfInBounds_toArray, List.set_cons_zero, List.set_cons_succ])
                      refine Reg.take (i := 2) (v := ?v2) rfl (by kernel_rfl) (by kernel_rfl) (by kernel_rfl) (by rfl) ?hv2 (by assumption) ?rest2
                      case hv2 => first | (intro w hSw; (try dsimp only at hSw); go_simp; done) | (intro w hSw; (try dsimp only at hSw); go_simp; with_reducible rfl)
                      (try simp only [Act.put, List.setIfInBounds_toArray, List.set_cons_zero, List.set_cons_succ])
                      refine Reg.take (i := 3) (v := ?v3) rfl (by kernel_rfl) (by kernel_rfl) (by kernel_rfl) (by rfl) ?hv3 (by assumption) ?rest3
                      case hv3 => first | (intro w hSw; (try dsimp only at hSw); go_simp; done) | (intro w hSw; (try dsimp only at hSw); go_simp; with_reducible rfl)
                      (try simp only [Act.put, List.setIfInBounds_toArray, List.set_cons_zero, List.set_cons_succ])
                      refine Reg.take (i := 4) (v := ?v4) rfl (by kernel_rfl) (by kernel_rfl) (by kernel_rfl) (by rfl) ?hv4 (by assumption) ?rest4
                      case hv4 => first | (intro w hSw; (try dsimp only at hSw); go_simp; done) | (intro w hSw; (try dsimp only at hSw); go_simp; with_reducible rfl)
                      (try simp only [Act.put, List.setIfInBounds_toArray, List.set_cons_zero, List.set_cons_succ])
                      refine Reg.take (i := 5) (v := ?v5) rfl (by kernel_rfl) (by kernel_rfl) (by kernel_rfl) (by rfl) ?hv5 (by assumption) ?rest5
                      case hv5 => first | (intro w hSw; (try dsimp only at hSw); go_simp; done) | (intro w hSw; (try dsimp only at hSw); go_simp; with_reducible rfl)
                      (try simp only [Act.put, List.setIfInBounds_toArray, List.set_cons_zero, List.set_cons_succ])
                      refine Reg.take (i := 6) (v := ?v6) rfl (by kernel_rfl) (by kernel_rfl) (by kernel_rfl) (by rfl) ?hv6 (by assumption) ?rest6
                      case hv6 => first | (intro w hSw; (try dsimp only at hSw); go_simp; done) | (intro w hSw; (try dsimp only at hSw); go_simp; with_reducible rfl)
                      (try simp only [Act.put, List.setIfInBounds_toArray, List.set_cons_zero, List.set_cons_succ])
                      refine Reg.take (i := 7) (v := ?v7) rfl (by kernel_rfl) (by kernel_rfl) (by kernel_rfl) (by rfl) ?hv7 (by assumption) ?rest7
                      case hv7 => first | (intro w hSw; (try dsimp only at hSw); go_simp; done) | (intro w hSw; (try dsimp only at hSw); go_simp; with_reducible rfl)
                      (try simp only [Act.put, List.setIfInBounds_toArray, List.set_cons_zero, List.set_cons_succ])
                      refine Reg.take (i := 8) (v := ?v8) rfl (by kernel_rfl) (by kernel_rfl) (by kernel_rfl) (by rfl) ?hv8 (by assumption) ?rest8
                      case hv8 => first | (intro w hSw; (try dsimp only at hSw); go_simp; done) | (intro w hSw; (try dsimp only at hSw); go_simp; with_reducible rfl)
                      (try simp only [Act.put, List.setIfInBounds_toArray, List.set_cons_zero, List.set_cons_succ])
                      have hcia := (((hBd.alloc hBd.size (.cells #[.int .i32 (V : Int), .bool ((f : Int) == 1)] 49))).cell hxl).trans hci0
                      have hKA := (Kept.refl [] wd).alloc (.cells #[.int .i32 (V : Int), .bool ((f : Int) == 1)] 49)
                      have hOa := own_kept hOd hKA (by simp)
                      have hBa := hBd.alloc hBd.size (.cells #[.int .i32 (V : Int), .bool ((f : Int) == 1)] 49)
                      have hFa := hFd.alloc (.cells #[.int .i32 (V : Int), .bool ((f : Int) == 1)] 49)
                      have hRa := hRd.alloc (.cells #[.int .i32 (V : Int), .bool ((f : Int) == 1)] 49)
                      have hVn : Row.Vals sampS (wd.alloc (.cells #[.int .i32 (V : Int), .bool ((f : Int) == 1)] 49)) (some ⟨wd.heap.size, 0, none⟩) 1 [((V : Int), ((f : Int) == 1))] := Row.Vals.has (ys := [((V : Int), ((f : Int) == 1))]) (tl := []) (Has.new wd _ _)
                      have hBase : w.heap.size + 2 ≤ (wd.alloc (.cells #[.int .i32 (V : Int), .bool ((f : Int) == 1)] 49)).heap.size := by have := hFd.lt; simp; omega
                      obtain ⟨_, l1, _, _⟩ := hFd.two
                      obtain ⟨_, l2, _, _⟩ := hFa.two
                      refine Reg.call2 (i := 1) (j := 9) rfl rfl (by kernel_rfl) (by rfl) (by rfl) ?_ ?_
                      · intro K hK
                        go_simp
                        refine hK.out _ _ (by assumption) (fun hHeld2 => ?_)
                        clear hK K
                        (try simp only [Act.put, List.setIfInBounds_toArray, List.set_cons_zero, List.set_cons_succ])
                        refine Reg.call (i := 9) rfl (by kernel_rfl) (by rfl) ?_
                        intro K hK
                        go_simp
                        refine hK.out _ _ hcia (fun hHeld3 => ?_)
                        clear hK K
                        (try simp only [Act.put, List.setIfInBounds_toArray, List.set_cons_zero, List.set_cons_succ])
                        refine Reg.call (i := 10) rfl (by kernel_rfl) (by rfl) ?_
                        intro K hK
                        refine Row.wp_append (S := sampS) (.tmp 118) (.tmp 126) _ rfl (w.heap.size + 2) 49 _ 8 (by omega) Try.underlying32 HInfo.out (by kernel_rfl) (.slice A' k c') k (unsampsT b k) rfl hOa (some ⟨wd.heap.size, 0, none⟩) 1 1 [((V : Int), ((f : Int) == 1))] rfl hVn (by omega) hBase ?_
                        intro v1 W3 hO1 hg1 hat1
                        have hK1 := Kept.of_grown hg1
                        have hF3 := hK1.has hFa (own_apart hOa (by omega))
                        have hR3 := hK1.has hRa (own_apart hOa (by omega))
                        have hB3 := below_kept hBa hK1 hBa.size (fun y hy => by have := own_in hOa y hy; omega)
                        have hci3 := (hB3.cell hxl).trans hci0
                        rw [← HST.out] at hO1
                        obtain ⟨A1, d1, rfl, e1, e2, hV1, _⟩ := Row.Vals.own hO1
                        refine hK.out _ _ hci3 (fun hHeld4 => ?_)
                        clear hK K
                        (try simp only [Act.put, List.setIfInBounds_toArray, List.set_cons_zero, List.set_cons_succ])
                        refine Reg.take (i := 11) (v := ?v9) rfl (by kernel_rfl) (by kernel_rfl) (by kernel_rfl) (by rfl) ?hv9 (by assumption) ?rest9
                        case hv9 => first | (intro w hSw; (try dsimp only at hSw); go_simp; done) | (intro w hSw; (try dsimp only at hSw); go_simp; with_reducible rfl)
                        (try simp only [Act.put, List.setIfInBounds_toArray, List.set_cons_zero, List.set_cons_succ])
                        have hF4 : Has (W3.setCell ⟨w.heap.size + 1, 1, none⟩ (.slice A1 (k + 1) d1)) (w.heap.size + 1) 34 #[.int .u8 sq, .slice A1 (k + 1) d1] := by
                          have := hF3.set_ 1 (.slice A1 (k + 1) d1)
                          simpa using this
                        have hR4 := hR3.far (p := ⟨w.heap.size + 1, 1, none⟩) (by simp) (.slice A1 (k + 1) d1)
                        have hO4 := own_kept hO1 ((Kept.refl [w.heap.size + 1] W3).setCell (p := ⟨w.heap.size + 1, 1, none⟩) (.inl (by simp)) (.slice A1 (k + 1) d1)) (fun y hy => by simp at hy; omega)
                        have hB4 := hB3.setCell (p := ⟨w.heap.size + 1, 1, none⟩) (by simp) (.slice A1 (k + 1) d1)
                        have hci4 := (hB4.cell hxl).trans hci0
                        refine Reg.call (i := 12) rfl (by kernel_rfl) (by rfl) ?_
                        intro K hK
                        obtain ⟨_, t1, _, g1⟩ := hF3.two
                        go_simp
                        refine hK.out _ _ hci4 (fun hHeld5 => ?_)
                        clear hK K
                        (try simp only [Act.put, List.setIfInBounds_toArray, List.set_cons_zero, List.set_cons_succ])
                        refine Reg.done (by kernel_rfl) ?_ _
                        go_wp2
                        go_roundw
                        case rel => exact ⟨k + 1, by have := HY.out; omega, by have := HY.out.2.2; congr 1; omega, A1, d1, hF4, hR4, hO4, hB4⟩
                        case measure => simp [intOf]; have := HJ.out; omega
                      · intro K hK
                        go_simp
                        refine hK.out _ _ hcia (fun hHeld2 => ?_)
                        clear hK K
                        (try simp only [Act.put, List.setIfInBounds_toArray, List.set_cons_zero, List.set_cons_succ])
                        refine Reg.call (i := 1) rfl (by kernel_rfl) (by rfl) ?_
                        intro K hK
                        go_simp
                        refine hK.out _ _ hcia (fun hHeld3 => ?_)
                        clear hK K
                        (try simp only [Act.put, List.setIfInBounds_toArray, List.set_cons_zero, List.set_cons_succ])
                        refine Reg.call (i := 10) rfl (by kernel_rfl) (by rfl) ?_
                        intro K hK
                        refine Row.wp_append (S := sampS) (.tmp 118) (.tmp 126) _ rfl (w.heap.size + 2) 49 _ 8 (by omega) Try.underlying32 HInfo.out (by kernel_rfl) (.slice A' k c') k (unsampsT b k) rfl hOa (some ⟨wd.heap.size, 0, none⟩) 1 1 [((V : Int), ((f : Int) == 1))] rfl hVn (by omega) hBase ?_
                        intro v1 W3 hO1 hg1 hat1
                        have hK1 := Kept.of_grown hg1
                        have hF3 := hK1.has hFa (own_apart hOa (by omega))
                        have hR3 := hK1.has hRa (own_apart hOa (by omega))
                        have hB3 := below_kept hBa hK1 hBa.size (fun y hy => by have := own_in hOa y hy; omega)
                        have hci3 := (hB3.cell hxl).trans hci0
                        rw [← HST.out] at hO1
                        obtain ⟨A1, d1, rfl, e1, e2, hV1, _⟩ := Row.Vals.own hO1
                        refine hK.out _ _ hci3 (fun hHeld4 => ?_)
                        clear hK K
                        (try simp only [Act.put, List.setIfInBounds_toArray, List.set_cons_zero, List.set_cons_succ])
                        refine Reg.take (i := 11) (v := ?v10) rfl (by kernel_rfl) (by kernel_rfl) (by kernel_rfl) (by rfl) ?hv10 (by assumption) ?rest10
                        case hv10 => first | (intro w hSw; (try dsimp only at hSw); go_simp; done) | (intro w hSw; (try dsimp only at hSw); go_simp; with_reducible rfl)
                        (try simp only [Act.put, List.setIfInBounds_toArray, List.set_cons_zero, List.set_cons_succ])
                        have hF4 : Has (W3.setCell ⟨w.heap.size + 1, 1, none⟩ (.slice A1 (k + 1) d1)) (w.heap.size + 1) 34 #[.int .u8 sq, .slice A1 (k + 1) d1] := by
                          have := hF3.set_ 1 (.slice A1 (k + 1) d1)
                          simpa using this
                        have hR4 := hR3.far (p := ⟨w.heap.size + 1, 1, none⟩) (by simp) (.slice A1 (k + 1) d1)
                        have hO4 := own_kept hO1 ((Kept.refl [w.heap.size + 1] W3).setCell (p := ⟨w.heap.size + 1, 1, none⟩) (.inl (by simp)) (.slice A1 (k + 1) d1)) (fun y hy => by simp at hy; omega)
                        have hB4 := hB3.setCell (p := ⟨w.heap.size + 1, 1, none⟩) (by simp) (.slice A1 (k + 1) d1)
                        have hci4 := (hB4.cell hxl).trans hci0
                        refine Reg.call (i := 12) rfl (by kernel_rfl) (by rfl) ?_
                        intro K hK
                        obtain ⟨_, t1, _, g1⟩ := hF3.two
                        go_simp
                        refine hK.out _ _ hci4 (fun hHeld5 => ?_)
                        clear hK K
                        (try simp only [Act.put, List.setIfInBounds_toArray, List.set_cons_zero, List.set_cons_succ])
                        refine Reg.done (by kernel_rfl) ?_ _
                        go_wp2
                        go_roundw
                        case rel => exact ⟨k + 1, by have := HY.out; omega, by have := HY.out.2.2; congr 1; omega, A1, d1, hF4, hR4, hO4, hB4⟩
                        case measure => simp [intOf]; have := HJ.out; omega
                    · rw [if_neg hbig] at hst
                      have hbz : ¬ (32767 : Int) < (m : Int) := by omega
                      have HST := Lib.hid hst
                      clear hst hbig
                      go_wp2
                      go_quiet (fail)
                      go_wp2
                      refine Reg.begin_ (S := fun W => W.cell? (x.add i) = some (.int .u8 f)) (by kernel_rfl) (by exact hci) (fun hHeld => ?_)
                      have hFd : Has (wr.drewN nq).drew (w.heap.size + 1) 34 #[.int .u8 sq, .slice A' k c'] := hF
                      have hRd : Has (wr.drewN nq).drew w.heap.size 34 #[.int .u8 0, .slice none 0 0] := hR
                      have hOd : World.ownsRow (wr.drewN nq).drew (w.heap.size + 2) 49 2 (.slice A' k c') k (Row.flat sampS (unsampsT b k)) := hO
                      have hBd : Below w.heap.size w (wr.drewN nq).drew := below_drewN (below_drewN hB nq) 1
                      generalize (wr.drewN nq).drew = wd at *
                      clear hF hR hO hB hci c0 c1 f0 f1
                      have hinz : (0 : Int) ≤ (i : Int) ∧ (i : Int) < (n : Int) := by omega
                      refine Reg.take (i := 0) (v := ?v11) rfl (by kernel_rfl) (by kernel_rfl) (by kernel_rfl) (by rfl) ?hv11 (by assumption) ?rest11
                      case hv11 => first | (intro w hSw; (try dsimp only at hSw); go_simp; done) | (intro w hSw; (try dsimp only at hSw); go_simp; with_reducible rfl)
                      (try simp only [Act.put, List.setIfInBounds_toArray, List.set_cons_zero, List.set_cons_succ])
                      refine Reg.take (i := 2) (v := ?v12) rfl (by kernel_rfl) (by kernel_rfl) (by kernel_rfl) (by rfl) ?hv12 (by assumption) ?rest12
                      case hv12 => first | (intro w hSw; (try dsimp only at hSw); go_simp; done) | (intro w hSw; (try dsimp only at hSw); go_simp; with_reducible rfl)
                      (try simp only [Act.put, List.setIfInBounds_toArray, List.set_cons_zero, List.set_cons_succ])
                      refine Reg.take (i := 3) (v := ?v13) rfl (by kernel_rfl) (by kernel_rfl) (by kernel_rfl) (by rfl) ?hv13 (by assumption) ?rest13
                      case hv13 => first | (intro w hSw; (try dsimp only at hSw); go_simp; done) | (intro w hSw; (try dsimp only at hSw); go_simp; with_reducible rfl)
                      (try simp only [Act.put, List.setIfInBounds_toArray, List.set_cons_zero, List.set_cons_succ])
                      refine Reg.take (i := 4) (v := ?v14) rfl (by kernel_rfl) (by kernel_rfl) (by kernel_rfl) (by rfl) ?hv14 (by assumption) ?rest14
                      case hv14 => first | (intro w hSw; (try dsimp only at hSw); go_simp; done) | (intro w hSw; (try dsimp only at hSw); go_simp; with_reducible rfl)
                      (try simp only [Act.put, List.setIfInBounds_toArray, List.set_cons_zero, List.set_cons_succ])
                      refine Reg.take (i := 5) (v := ?v15) rfl (by kernel_rfl) (by kernel_rfl) (by kernel_rfl) (by rfl) ?hv15 (by assumption) ?rest15
                      case hv15 => first | (intro w hSw; (try dsimp only at hSw); go_simp; done) | (intro w hSw; (try dsimp only at hSw); go_simp; with_reducible rfl)
                      (try simp only [Act.put, List.setIfInBounds_toArray, List.set_cons_zero, List.set_cons_succ])
                      refine Reg.take (i := 6) (v := ?v16) rfl (by kernel_rfl) (by kernel_rfl) (by kernel_rfl) (by rfl) ?hv16 (by assumption) ?rest16
                      case hv16 => first | (intro w hSw; (try dsimp only at hSw); go_simp; done) | (intro w hSw; (try dsimp only at hSw); go_simp; with_reducible rfl)
                      (try simp only [Act.put, List.setIfInBounds_toArray, List.set_cons_zero, List.set_cons_succ])
                      refine Reg.take (i := 7) (v := ?v17) rfl (by kernel_rfl) (by kernel_rfl) (by kernel_rfl) (by rfl) ?hv17 (by assumption) ?rest17
                      case hv17 => first | (intro w hSw; (try dsimp only at hSw); go_simp; done) | (intro w hSw; (try dsimp only at hSw); go_simp; with_reducible rfl)
                      (try simp only [Act.put, List.setIfInBounds_toArray, List.set_cons_zero, List.set_cons_succ])
                      refine Reg.take (i := 8) (v := ?v18) rfl (by kernel_rfl) (by kernel_rfl) (by kernel_rfl) (by rfl) ?hv18 (by assumption) ?rest18
                      case hv18 => first | (intro w hSw; (try dsimp only at hSw); go_simp; done) | (intro w hSw; (try dsimp only at hSw); go_simp; with_reducible rfl)
                      (try simp only [Act.put, List.setIfInBounds_toArray, List.set_cons_zero, List.set_cons_succ])
                      have hcia := (((hBd.alloc hBd.size (.cells #[.int .i32 (m : Int), .bool ((f : Int) == 1)] 49))).cell hxl).trans hci0
                      have hKA := (Kept.refl [] wd).alloc (.cells #[.int .i32 (m : Int), .bool ((f : Int) == 1)] 49)
                      have hOa := own_kept hOd hKA (by simp)
                      have hBa := hBd.alloc hBd.size (.cells #[.int .i32 (m : Int), .bool ((f : Int) == 1)] 49)
                      have hFa := hFd.alloc (.cells #[.int .i32 (m : Int), .bool ((f : Int) == 1)] 49)
                      have hRa := hRd.alloc (.cells #[.int .i32 (m : Int), .bool ((f : Int) == 1)] 49)
                      have hVn : Row.Vals sampS (wd.alloc (.cells #[.int .i32 (m : Int), .bool ((f : Int) == 1)] 49)) (some ⟨wd.heap.size, 0, none⟩) 1 [((m : Int), ((f : Int) == 1))] := Row.Vals.has (ys := [((m : Int), ((f : Int) == 1))]) (tl := []) (Has.new wd _ _)
                      have hBase : w.heap.size + 2 ≤ (wd.alloc (.cells #[.int .i32 (m : Int), .bool ((f : Int) == 1)] 49)).heap.size := by have := hFd.lt; simp; omega
                      obtain ⟨_, l1, _, _⟩ := hFd.two
                      obtain ⟨_, l2, _, _⟩ := hFa.two
                      refine Reg.call2 (i := 1) (j := 9) rfl rfl (by kernel_rfl) (by rfl) (by rfl) ?_ ?_
                      · intro K hK
                        go_simp
                        refine hK.out _ _ (by assumption) (fun hHeld2 => ?_)
                        clear hK K
                        (try simp only [Act.put, List.setIfInBounds_toArray, List.set_cons_zero, List.set_cons_succ])
                        refine Reg.call (i := 9) rfl (by kernel_rfl) (by rfl) ?_
                        intro K hK
                        go_simp
                        refine hK.out _ _ hcia (fun hHeld3 => ?_)
                        clear hK K
                        (try simp only [Act.put, List.setIfInBounds_toArray, List.set_cons_zero, List.set_cons_succ])
                        refine Reg.call (i := 10) rfl (by kernel_rfl) (by rfl) ?_
                        intro K hK
                        refine Row.wp_append (S := sampS) (.tmp 118) (.tmp 126) _ rfl (w.heap.size + 2) 49 _ 8 (by omega) Try.underlying32 HInfo.out (by kernel_rfl) (.slice A' k c') k (unsampsT b k) rfl hOa (some ⟨wd.heap.size, 0, none⟩) 1 1 [((m : Int), ((f : Int) == 1))] rfl hVn (by omega) hBase ?_
                        intro v1 W3 hO1 hg1 hat1
                        have hK1 := Kept.of_grown hg1
                        have hF3 := hK1.has hFa (own_apart hOa (by omega))
                        have hR3 := hK1.has hRa (own_apart hOa (by omega))
                        have hB3 := below_kept hBa hK1 hBa.size (fun y hy => by have := own_in hOa y hy; omega)
                        have hci3 := (hB3.cell hxl).trans hci0
                        rw [← HST.out] at hO1
                        obtain ⟨A1, d1, rfl, e1, e2, hV1, _⟩ := Row.Vals.own hO1
                        refine hK.out _ _ hci3 (fun hHeld4 => ?_)
                        clear hK K
                        (try simp only [Act.put, List.setIfInBounds_toArray, List.set_cons_zero, List.set_cons_succ])
                        refine Reg.take (i := 11) (v := ?v19) rfl (by kernel_rfl) (by kernel_rfl) (by kernel_rfl) (by rfl) ?hv19 (by assumption) ?rest19
                        case hv19 => first | (intro w hSw; (try dsimp only at hSw); go_simp; done) | (intro w hSw; (try dsimp only at hSw); go_simp; with_reducible rfl)
                        (try simp only [Act.put, List.setIfInBounds_toArray, List.set_cons_zero, List.set_cons_succ])
                        have hF4 : Has (W3.setCell ⟨w.heap.size + 1, 1, none⟩ (.slice A1 (k + 1) d1)) (w.heap.size + 1) 34 #[.int .u8 sq, .slice A1 (k + 1) d1] := by
                          have := hF3.set_ 1 (.slice A1 (k + 1) d1)
                          simpa using this
                        have hR4 := hR3.far (p := ⟨w.heap.size + 1, 1, none⟩) (by simp) (.slice A1 (k + 1) d1)
                        have hO4 := own_kept hO1 ((Kept.refl [w.heap.size + 1] W3).setCell (p := ⟨w.heap.size + 1, 1, none⟩) (.inl (by simp)) (.slice A1 (k + 1) d1)) (fun y hy => by simp at hy; omega)
                        have hB4 := hB3.setCell (p := ⟨w.heap.size + 1, 1, none⟩) (by simp) (.slice A1 (k + 1) d1)
                        have hci4 := (hB4.cell hxl).trans hci0
                        refine Reg.call (i := 12) rfl (by kernel_rfl) (by rfl) ?_
                        intro K hK
                        obtain ⟨_, t1, _, g1⟩ := hF3.two
                        go_simp
                        refine hK.out _ _ hci4 (fun hHeld5 => ?_)
                        clear hK K
                        (try simp only [Act.put, List.setIfInBounds_toArray, List.set_cons_zero, List.set_cons_succ])
                        refine Reg.done (by kernel_rfl) ?_ _
                        go_wp2
                        go_roundw
                        case rel => exact ⟨k + 1, by have := HY.out; omega, by have := HY.out.2.2; congr 1; omega, A1, d1, hF4, hR4, hO4, hB4⟩
                        case measure => simp [intOf]; have := HJ.out; omega
                      · intro K hK
                        go_simp
                        refine hK.out _ _ hcia (fun hHeld2 => ?_)
                        clear hK K
                        (try simp only [Act.put, List.setIfInBounds_toArray, List.set_cons_zero, List.set_cons_succ])
                        refine Reg.call (i := 1) rfl (by kernel_rfl) (by rfl) ?_
                        intro K hK
                        go_simp
                        refine hK.out _ _ hcia (fun hHeld3 => ?_)
                        clear hK K
                        (try simp only [Act.put, List.setIfInBounds_toArray, List.set_cons_zero, List.set_cons_succ])
                        refine Reg.call (i := 10) rfl (by kernel_rfl) (by rfl) ?_
                        intro K hK
                        refine Row.wp_append (S := sampS) (.tmp 118) (.tmp 126) _ rfl (w.heap.size + 2) 49 _ 8 (by omega) Try.underlying32 HInfo.out (by kernel_rfl) (.slice A' k c') k (unsampsT b k) rfl hOa (some ⟨wd.heap.size, 0, none⟩) 1 1 [((m : Int), ((f : Int) == 1))] rfl hVn (by omega) hBase ?_
                        intro v1 W3 hO1 hg1 hat1
                        have hK1 := Kept.of_grown hg1
                        have hF3 := hK1.has hFa (own_apart hOa (by omega))
                        have hR3 := hK1.has hRa (own_apart hOa (by omega))
                        have hB3 := below_kept hBa hK1 hBa.size (fun y hy => by have := own_in hOa y hy; omega)
                        have hci3 := (hB3.cell hxl).trans hci0
                        rw [← HST.out] at hO1
                        obtain ⟨A1, d1, rfl, e1, e2, hV1, _⟩ := Row.Vals.own hO1
                        refine hK.out _ _ hci3 (fun hHeld4 => ?_)
                        clear hK K
                        (try simp only [Act.put, List.setIfInBounds_toArray, List.set_cons_zero, List.set_cons_succ])
                        refine Reg.take (i := 11) (v := ?v20) rfl (by kernel_rfl) (by kernel_rfl) (by kernel_rfl) (by rfl) ?hv20 (by assumption) ?rest20
                        case hv20 => first | (intro w hSw; (try dsimp only at hSw); go_simp; done) | (intro w hSw; (try dsimp only at hSw); go_simp; with_reducible rfl)
                        (try simp only [Act.put, List.setIfInBounds_toArray, List.set_cons_zero, List.set_cons_succ])
                        have hF4 : Has (W3.setCell ⟨w.heap.size + 1, 1, none⟩ (.slice A1 (k + 1) d1)) (w.heap.size + 1) 34 #[.int .u8 sq, .slice A1 (k + 1) d1] := by
                          have := hF3.set_ 1 (.slice A1 (k + 1) d1)
                          simpa using this
                        have hR4 := hR3.far (p := ⟨w.heap.size + 1, 1, none⟩) (by simp) (.slice A1 (k + 1) d1)
                        have hO4 := own_kept hO1 ((Kept.refl [w.heap.size + 1] W3).setCell (p := ⟨w.heap.size + 1, 1, none⟩) (.inl (by simp)) (.slice A1 (k + 1) d1)) (fun y hy => by simp at hy; omega)
                        have hB4 := hB3.setCell (p := ⟨w.heap.size + 1, 1, none⟩) (by simp) (.slice A1 (k + 1) d1)
                        have hci4 := (hB4.cell hxl).trans hci0
                        refine Reg.call (i := 12) rfl (by kernel_rfl) (by rfl) ?_
                        intro K hK
                        obtain ⟨_, t1, _, g1⟩ := hF3.two
                        go_simp
                        refine hK.out _ _ hci4 (fun hHeld5 => ?_)
                        clear hK K
                        (try simp only [Act.put, List.setIfInBounds_toArray, List.set_cons_zero, List.set_cons_succ])
                        refine Reg.done (by kernel_rfl) ?_ _
                        go_wp2
                        go_roundw
                        case rel => exact ⟨k + 1, by have := HY.out; omega, by have := HY.out.2.2; congr 1; omega, A1, d1, hF4, hR4, hO4, hB4⟩
                        case measure => simp [intOf]; have := HJ.out; omega
                  · have hkb2 : k = b3 := by omega
                    obtain ⟨i, hi⟩ : ∃ i, 4 + 3 * k = i := ⟨_, rfl⟩
                    rw [hi]
                    have hiz : ¬ (i : Int) < (Y : Int) := by omega
                    obtain ⟨A9, c9, e9, e1, e2, hV9, hblk, _⟩ := Row.Vals.own hO
                    injection e9 with e91 e92 e93
                    subst e91
                    subst e93
                    have hK9 := ((Kept.refl [w.heap.size] wr).setCell (p := ⟨w.heap.size, 0, none⟩) (.inl (by simp)) (.int .u8 sq)).setCell (p := ⟨w.heap.size, 1, none⟩) (.inl (by simp)) (.slice A' k c')
                    have hVw := hV9.kept hK9 (fun _ y hy => by have := (hblk y hy).1; simp; omega)
                    have hl := hres.out.2.1
                    rw [HB3.out, ← hkb2] at hl
                    have HL := Lib.hid hl
                    have hk32 : k ≤ 32 := by omega
                    obtain ⟨r0, r1, rf0, rf1⟩ := hR.two
                    clear hi hl hkb2
                    go_wp2
                    obtain ⟨p0, p1, _, _⟩ := (hR.put2 (.int .u8 sq) (.slice A' k c')).two
                    refine bodyPost_ret (v := .tuple #[.agg #[.int .u8 sq, .slice A' k c'], .int .i64 Z, .int .i64 0]) (by simp [results, Try.results22, go_sem, p0, p1]) rfl ⟨A', k, c', by rw [hres.out.1, HSQ.out, hres.out.2.2, HZ.out, HOK.out], e1, e2, by rw [HL.out]; exact hVw, hk32, (fun y hy => by have := (hblk y hy).1; omega), below_put2 hB (Nat.le_refl _) _ _⟩
            · rw [if_neg (fun h => hlt h.1), if_neg (fun h => hlast h.1)] at he
              have hne := Lib.hid (HNX.out he hlast)
              have hm1 : ¬ ((j : Int) = (Z : Int) - 1) := by omega
              clear he hx hv hY hlt hlast
              go_wp2
              go_round
              case rel => exact ⟨_, by omega, by first | rfl | go_num, hne.out⟩
              case measure => first | (simp [intOf]; done) | (simp [intOf]; omega)
      · have hres := sound_bad HS.out hj102 (err_short HS.out (by omega)) (by decide)
        clear hv
        have HRES := Lib.hid hres
        clear hres
        go_wp2
        refine bodyPost_ret (v := .tuple #[.agg #[.int .u8 0, .slice none 0 0], .int .i64 0, .int .i64 6]) (by simp [results, Try.results22, go_sem]) rfl ⟨none, 0, 0, by rw [HRES.out.1, HRES.out.2.1, HRES.out.2.2.2]; rfl, by omega, by omega, by rw [HRES.out.2.2.1]; exact Row.Vals.none_ _, by omega, (fun x hx => by cases hx), hBW⟩
    · exfalso
      have h1 : j = 102 := by omega
      have h2 := size_bound HS.out.1 (by omega)
      have h3 := HS.out.2 (by omega)
      omega
end Go.Proofs.Ytlhjligeigkbnaa.Frm
