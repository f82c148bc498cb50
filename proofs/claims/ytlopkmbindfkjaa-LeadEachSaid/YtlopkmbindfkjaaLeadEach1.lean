/- LeadEach, the walk, over whatever code answers as the kit says. -/
import Derived.Test.YtlopkmbindfkjaaLeadEachR
import Derived.Test.YtlopkmbindfkjaaLeadPushesK
set_option linter.unusedSimpArgs false
set_option linter.unusedVariables false
namespace Go.Proofs.Ytlopkmbindfkjaa.Lead
open Go.RowKit
set_option maxRecDepth 100000 in
set_option maxHeartbeats 4000000 in
theorem each_k (K : LeadKit) (a0 : Option Addr) (len0 cap0 : Nat) (z0 : List Ev) (w : World) (w0 : Row.IsFlat evS EvOk w a0 len0 cap0 z0) :
    Calls Try.prog 5 #[.slice a0 len0 cap0] w fun e w' => e = .returned (.bool true) ∧ Below w.heap.size w w' := by
  obtain ⟨hv, _, hle, hmax, _⟩ := w0
  obtain ⟨m, hm⟩ : ∃ m, min len0 600 = m := ⟨_, rfl⟩
  have hmin : (if (600 : Int) < (len0 : Int) then (600 : Int) else (len0 : Int)) = (m : Int) := by split <;> omega
  have hmb : m ≤ len0 ∧ m ≤ cap0 ∧ m ≤ 600 := by omega
  have hVm := hv.take m hmb.1
  generalize z0.take m = l at *
  have hlm := hVm.len_
  have hit := K.items_any a0 m cap0 l w hVm (by omega) hmb.2.1 hmax
  have hlive := live_k K
  clear hm hv
  go_enter Try.func5, Try.ntmps5
  go_wp2_with (go_at_call 14; ((with_reducible refine hit.mono ?_); rintro e W1 ⟨B, n, d, rfl, e1, e2, hV1, hf1, hB1⟩))
  have hn1 := hV1.len_
  go_loopw [4, 5, 20] (fun t o i wr => ∃ (j q : Nat) (on : Bool), j ≤ n ∧ q ≤ m ∧ i = .int .i64 (j : Nat) ∧ t = .int .i64 (q : Nat) ∧ o = .bool on ∧ Left l on q ((itemsT l).drop j) ∧ Below W1.heap.size W1 wr) (fun _ _ i _ => n - (intOf i).toNat)
  case atStart => exact ⟨0, 0, true, by omega, by omega, rfl, rfl, rfl, .open_ start rfl, Below.refl _ _⟩
  case round =>
    obtain ⟨j, q, on, hj, hq, rfl, rfl, rfl, hL, hC⟩ := hrel
    have hVr := hV1.below hC
    have hVl := (hVm.below hB1).below hC
    by_cases hjn : j < n
    · obtain ⟨x, rfl, _⟩ := hVr.cells (by omega)
      obtain ⟨i0, i1, i2⟩ := it_cells hVr j hjn
      have hdr : (itemsT l).drop j = (itemsT l).getD j noIt :: (itemsT l).drop (j + 1) := by
        rw [List.drop_eq_getElem_cons (by omega), List.getD_eq_getElem?_getD, List.getElem?_eq_getElem (by omega)]; rfl
      have hnx := left_next hL
      rw [hdr] at hnx
      rcases hnx with ⟨h, _⟩ | ⟨a, R', hR, hL2⟩ | ⟨p, R', h1, h2, h3, hL2, hR⟩
      · cases h
      · injection hR with hR1 hR2
        rw [hR1] at i0 i1 i2
        dsimp only at i0 i1 i2
        rw [← hR2] at hL2
        clear hR1 hR2 hdr hL
        cases on
        · go_wp2
          go_roundw
          case rel => exact ⟨j + 1, q, true, by omega, hq, by go_num, rfl, rfl, hL2, hC.alloc hC.size _⟩
          case measure => simp [intOf]; omega
        · go_wp2
          go_roundw
          case rel => exact ⟨j + 1, q, false, by omega, hq, by go_num, rfl, rfl, hL2, hC.alloc hC.size _⟩
          case measure => simp [intOf]; omega
      · obtain ⟨y, rfl, _⟩ := hVl.cells (by omega)
        obtain ⟨⟨kk, aa, vv⟩, hx⟩ : ∃ x, (itemsT l).getD j noIt = x := ⟨_, rfl⟩
        rw [hx] at i0 i1 i2 hR hdr
        dsimp only at i0 i1 i2
        have HCS := Lib.hid (fun (W : World) (hW : Below wr.heap.size wr W) (i : Nat) (hi : i < m) => ev_cells (hVl.below hW) i hi)
        have HP := Lib.hid (show Left l on (p + 1) ((itemsT l).drop (j + 1)) from by
          rcases hR with ⟨_, hR⟩ | ⟨_, hR⟩
          · injection hR with _ hR; rw [hR]; exact hL2
          · injection hR with _ hR; rw [hR]; exact hL2)
        have hkk : (kk == 2) = false ∧ (kk == 3) = false := by
          rcases hR with ⟨_, hR⟩ | ⟨_, hR⟩
          · injection hR with hR _
            obtain rfl : kk = 1 := congrArg Prod.fst hR
            exact ⟨rfl, rfl⟩
          · injection hR with hR _
            have h9 : kk = _ := congrArg Prod.fst hR
            cases on
            · have h9 : kk = 5 := h9
              subst h9
              exact ⟨rfl, rfl⟩
            · have h9 : kk = 4 := h9
              subst h9
              exact ⟨rfl, rfl⟩
        have H3 := Lib.hid h3
        have HR := Lib.hid hR
        obtain ⟨k2, k3⟩ := hkk
        have hk2 : ¬ kk = 2 := by simpa using k2
        have hk3 : ¬ kk = 3 := by simpa using k3
        clear hdr hL h3 hx hL2 hR hVr hVl hV1 hVm hlive hit
        go_wp2
        go_loop [4] (fun t => ∃ q' : Nat, q ≤ q' ∧ q' ≤ p ∧ t = .int .i64 (q' : Nat)) (fun t => p - (intOf t).toNat)
        case atStart => exact ⟨q, Nat.le_refl _, h1, rfl⟩
        case round =>
          obtain ⟨q', hq1, hq2, rfl⟩ := hrel
          have hqm : q' < m := by omega
          obtain ⟨f0, f1, f2, f3⟩ := HCS.out _ ((Below.refl wr.heap.size wr).alloc (Nat.le_refl _) (.cells #[.int .i64 kk, .int .i64 aa, .int .i32 vv] 40)) q' hqm
          have hz : (q' : Int) < (m : Int) := by omega
          by_cases hqp : q' < p
          · have hdm := H3.out q' hq1 hqp
            have hk1 : ((l.getD q' noEv).1 != 1) = true := by simpa using hdm.1
            have hk2 : ((l.getD q' noEv).1 != 2) = true := by simpa using hdm.2
            have hqb : 0 ≤ (q' : Int) ∧ (q' : Int) ≤ 600 := by omega
            have Hlm := Lib.hid hlm
            clear hdm hlm hmin
            generalize (l.getD q' noEv).1 = ek at *
            go_wp2
            go_round
            case rel => exact ⟨q' + 1, by omega, by omega, by go_num⟩
            case measure => simp [intOf]; omega
          · obtain rfl : q' = p := by omega
            have hqb : 0 ≤ (q' : Int) ∧ (q' : Int) ≤ 600 := by omega
            have hjb : 0 ≤ (j : Int) ∧ (j : Int) ≤ 9223372036854775806 := by omega
            have hne : ((q' : Int) == (m : Int)) = false := by simp; omega
            have hne2 : decide ((q' : Int) = (m : Int)) = false := by simp; omega
            have Hlm := Lib.hid hlm
            have Hn1 := Lib.hid hn1
            clear hlm hmin hqp hn1
            obtain ⟨⟨ek, ea, ev, eo⟩, hev⟩ : ∃ e, l.getD q' noEv = e := ⟨_, rfl⟩
            rw [hev] at f0 f1 f2 f3 HR
            dsimp only at f0 f1 f2 f3
            have hR := HR.out
            dsimp only at hR
            clear HR hev H3 HCS
            rcases hR with ⟨hek, hR⟩ | ⟨hek, hR⟩
            ·
              have hR := (List.cons.inj hR).1
              have hr1 : kk = 1 := congrArg Prod.fst hR
              have hr2 : aa = ea := congrArg (fun z => z.2.1) hR
              subst hek
              subst hr1
              subst hr2
              clear hR
              have hI := Has.new wr 40 #[.int .i64 1, .int .i64 aa, .int .i32 vv]
              go_wp2
              go_quiet (fail)
              go_wp2
              rcases Bool.eq_false_or_eq_true on with hon | hon
              ·
                refine r18_gap_on hqm (by omega) (by omega) (hI.cell 0) (hI.cell 1) (hI.cell 2) f2 (by first | exact hon | rfl) ?_
                intros
                go_wp2
                go_roundw
                case rel => exact ⟨j + 1, q' + 1, on, by omega, by omega, by go_num, by go_num, by first | rfl | rw [hon], HP.out, below_drewN (hC.alloc hC.size _) _⟩
                case measure => simp [intOf]; omega
              ·
                refine r18_gap_off hqm (by omega) (by omega) (hI.cell 0) (hI.cell 1) (hI.cell 2) f2 (by first | exact hon | rfl) ?_
                intros
                go_wp2
                go_roundw
                case rel => exact ⟨j + 1, q' + 1, on, by omega, by omega, by go_num, by go_num, by first | rfl | rw [hon], HP.out, below_drewN (hC.alloc hC.size _) _⟩
                case measure => simp [intOf]; omega
            · rcases Bool.eq_false_or_eq_true on with hon | hon
              · rw [hon] at hR
                have HR3 := Lib.hid (show vv = ev from congrArg (fun z => z.2.2) (List.cons.inj hR).1)
                have hR := (List.cons.inj hR).1
                have hr1 : kk = 4 := congrArg Prod.fst hR
                have hr2 : aa = ea := congrArg (fun z => z.2.1) hR
                subst hek
                subst hr1
                subst hr2
                clear hR
                have hI := Has.new wr 40 #[.int .i64 4, .int .i64 aa, .int .i32 vv]
                go_wp2
                go_quiet (fail)
                go_wp2
                refine r18_lit hqm (by omega) (by omega) (hI.cell 0) (hI.cell 1) (hI.cell 2) f2 (by first | exact hon | rfl) HR3.out ?_
                intros
                go_wp2
                go_roundw
                case rel => exact ⟨j + 1, q' + 1, on, by omega, by omega, by go_num, by go_num, by first | rfl | rw [hon], HP.out, below_drewN (hC.alloc hC.size _) _⟩
                case measure => simp [intOf]; omega
              · rw [hon] at hR
                have hR := (List.cons.inj hR).1
                have hr1 : kk = 5 := congrArg Prod.fst hR
                have hr2 : aa = ea := congrArg (fun z => z.2.1) hR
                subst hek
                subst hr1
                subst hr2
                clear hR
                have hI := Has.new wr 40 #[.int .i64 5, .int .i64 aa, .int .i32 vv]
                go_wp2
                go_quiet (fail)
                go_wp2
                refine r18_dark hqm (by omega) (by omega) (hI.cell 0) (hI.cell 1) (hI.cell 2) f2 (by first | exact hon | rfl) ?_
                intros
                go_wp2
                go_roundw
                case rel => exact ⟨j + 1, q' + 1, on, by omega, by omega, by go_num, by go_num, by first | rfl | rw [hon], HP.out, below_drewN (hC.alloc hC.size _) _⟩
                case measure => simp [intOf]; omega
    · obtain rfl : j = n := by omega
      rw [List.drop_eq_nil_of_le (by omega)] at hL
      rcases left_next hL with ⟨_, h3⟩ | ⟨a, R', hR, _⟩ | ⟨p, R', _, _, _, _, hR⟩
      · rw [hlm] at h3
        have HD := Lib.hid h3
        have hle2 : hVl.len_ = hVl.len_ := rfl
        have hll := hVl.len_
        clear hlm hmin hn1 hit h3 hle2 hV1 hVr hVm hL
        by_cases hqm : q = m
        · obtain rfl : m = q := hqm.symm
          clear hVl hll
          go_wp2
          all_goals
            go_loopw [131] (fun i wr2 => i = .int .i64 0 ∧ Below W1.heap.size W1 wr2) (fun _ _ => 0)
            case atStart => exact ⟨rfl, hC⟩
            case round =>
              obtain ⟨rfl, hC2⟩ := hrel
              go_wp2_with (go_at_call 15; ((with_reducible refine (hlive _).mono ?_); rintro e W3 ⟨rfl, hB3⟩))
              go_ret
              exact ⟨rfl, hB1.trans ((hC2.trans (hB3.mono hC2.size)).mono hB1.size)⟩
        · obtain ⟨y, rfl, _⟩ := hVl.cells (by omega)
          have hcq : ¬ cap0 = q := by omega
          have hVd := hVl.dropIf (cap := cap0) q hq hmb.2.1
          rw [if_neg hcq] at hVd
          obtain ⟨r, hr⟩ : ∃ r, m - q = r := ⟨_, rfl⟩
          have hrz : (m : Int) - (q : Int) = (r : Int) := by omega
          have hr6 : r ≤ 600 := by omega
          rw [hr] at hVd
          replace hVd : Row.Vals evS wr (some (y.add (q * 4))) r (l.drop q) := hVd
          have HCS := Lib.hid (fun (W : World) (hW : Below wr.heap.size wr W) (i : Nat) (hi : i < r) => ev_cells (hVd.below hW) i hi)
          have HDD := Lib.hid (show ∀ i, i < r → dumb ((l.drop q).getD i noEv) from fun i hi => by
            have h9 := HD.out (q + i) (by omega) (by omega)
            rwa [List.getD_eq_getElem?_getD, ← List.getElem?_drop, ← List.getD_eq_getElem?_getD] at h9)
          clear hVl hll hVd
          go_wp2
          go_loopw [131] (fun i wr2 => ∃ k : Nat, k ≤ r ∧ i = .int .i64 (k : Nat) ∧ Below wr.heap.size wr wr2) (fun i _ => r - (intOf i).toNat)
          case atStart => exact ⟨0, by omega, rfl, Below.refl _ _⟩
          case round =>
            obtain ⟨k, hk, rfl, hC2⟩ := hrel
            by_cases hkr : k < r
            · obtain ⟨f0, f1, f2, f3⟩ := HCS.out _ hC2 k hkr
              have hdm := HDD.out k hkr
              have hk1 : ((((l.drop q).getD k noEv).1 == 1)) = false := by simpa using hdm.1
              have hk2 : ((((l.drop q).getD k noEv).1 == 2)) = false := by simpa using hdm.2
              have hkb : 0 ≤ (k : Int) ∧ (k : Int) ≤ 600 := by omega
              have HR := Lib.hid hr
              have HZ := Lib.hid hrz
              clear hdm
              obtain ⟨⟨ek, ea, ev, eo⟩, hev⟩ : ∃ e, (l.drop q).getD k noEv = e := ⟨_, rfl⟩
              rw [hev] at f0 f1 f2 f3 hk1 hk2
              dsimp only at f0 f1 f2 f3 hk1 hk2
              clear hev hr hrz
              go_wp2
              go_roundw
              case rel => exact ⟨k + 1, by omega, by go_num, hC2.alloc hC2.size _⟩
              case measure => simp [intOf]; omega
            · have HR := Lib.hid hr
              have HZ := Lib.hid hrz
              clear hr hrz
              go_wp2_with (go_at_call 15; ((with_reducible refine (hlive _).mono ?_); rintro e W3 ⟨rfl, hB3⟩))
              go_ret
              exact ⟨rfl, hB1.trans ((hC.trans ((hC2.trans (hB3.mono hC2.size)).mono hC.size)).mono hB1.size)⟩
      · cases hR
      · rcases hR with ⟨_, hR⟩ | ⟨_, hR⟩ <;> cases hR
end Go.Proofs.Ytlopkmbindfkjaa.Lead
