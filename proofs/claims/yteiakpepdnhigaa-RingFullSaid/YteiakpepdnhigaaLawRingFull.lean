/- Whatever log, things and pops come in, RingFull answers true, and writes nothing that was there. -/
import Derived.Test.YteiakpepdnhigaaRows
import Derived.ShutString
import Derived.ChangeOld
import Derived.Below
import Derived.Test.YteiakpepdnhigaaLawKit
import Derived.Test.YteiakpepdnhigaaRingLive
import Derived.Test.YteiakpepdnhigaaRingTakeI
import Derived.Test.YteiakpepdnhigaaRingArgs
set_option linter.unusedSimpArgs false
set_option linter.unusedVariables false
namespace Go.Proofs.Yteiakpepdnhigaa.ringFull
open Go.ChangeShapes Go.WideShapes Go.ChangeAt Go.RowKit
open Go.ChangeMaps (open_string shut_string)
open RInt
/-- A pop, whether anything is there or not. -/
def Popped (w : World) (b g n q : Nat) (xs : List Int) (e : Ending) (w' : World) : Prop :=
  ∃ v ok, e = .returned (.tuple #[.int .i64 v, .bool ok]) ∧ ∃ f' cs', Ring w' b g n q f' cs' (xs.drop 1) ∧ Turned b g w w'
theorem pop_any (b g n q f : Nat) (cs xs : List Int) (w : World) (h : Ring w b g n q f cs xs) :
    Calls Try.prog 11 #[.pointer (some ⟨b, 0, none⟩)] w (Popped w b g n q xs) := by
  rcases Nat.eq_zero_or_pos xs.length with h0 | h0
  · have hx : xs = [] := List.eq_nil_of_length_eq_zero h0
    subst hx
    exact (pop_no b w h.core.cells.2.2).mono fun e w' ⟨he, hw⟩ => ⟨_, _, he, f, cs, by subst hw; simpa using h, by subst hw; exact Turned.refl _ _ _⟩
  · exact (pop_yes b g n q f cs xs w h h0).mono fun e w' ⟨he, cs', hR, hT⟩ => ⟨_, _, he, _, cs', hR, hT⟩
theorem wrap64_is (n : Int) : IntKind.i64.wrap n = wrap64 n := IntWalk.i64_left n
def Pops (w : World) (b g n : Nat) (ys : List Int) (P : Nat) (i : Value) (wr : World) : Prop :=
  ∃ j, j ≤ P ∧ i = .int .u8 (j : Nat) ∧ ∃ f cs, Ring wr b g n n f cs (ys.drop j) ∧ Below w.heap.size w wr
set_option maxRecDepth 100000 in
set_option maxHeartbeats 8000000 in
theorem walk (a0 : Int) (a1 : Option Addr) (len1 cap1 : Nat) (z1 : List Int) (a2 : Int) (w : World) (w0 : (Lit.int .u8 a0).wf = true) (w1 : IsRow .i64 w a1 len1 cap1 z1) (w2 : (Lit.int .u8 a2).wf = true) :
    Calls Try.prog 5 #[.int .u8 a0, .slice a1 len1 cap1, .int .u8 a2] w fun e w' => e = .returned (.bool true) ∧ Below w.heap.size w w' := by
  have b0 : 0 ≤ a0 ∧ a0 ≤ 255 := bounds_u8 w0
  have b2 : 0 ≤ a2 ∧ a2 ≤ 255 := bounds_u8 w2
  clear w0 w2
  obtain ⟨P, rfl⟩ : ∃ P : Nat, a2 = (P : Int) := ⟨a2.toNat, by omega⟩
  obtain ⟨k, hk⟩ : ∃ k : Nat, a0 % 8 = (k : Int) := ⟨(a0 % 8).toNat, by omega⟩
  have hk7 : k ≤ 7 := by omega
  have hn128 : (2 : Nat) ^ k ≤ 128 := (Nat.pow_le_pow_right (by omega) hk7 : 2 ^ k ≤ 2 ^ 7)
  have hnew := new_yes k (by omega) w
  obtain ⟨nn, hnn⟩ : ∃ n, (2 : Nat) ^ k = n := ⟨_, rfl⟩
  have hw : wrap64 ((2 : Int) ^ k) = (nn : Int) := by
    have h1 : ((2 : Int) ^ k) = ((2 ^ k : Nat) : Int) := by rw [Int.natCast_pow]; rfl
    rw [h1, hnn]
    unfold wrap64
    omega
  rw [hnn] at hn128 hnew
  clear hnn
  obtain ⟨b, g, hb, hg, hbg⟩ : ∃ b g, w.heap.size ≤ b ∧ w.heap.size ≤ g ∧ (b = w.heap.size + 1 ∧ g = w.heap.size) := ⟨_, _, by omega, by omega, rfl, rfl⟩
  have hnew2 : Calls Try.prog 6 #[.int .i64 (k : Int)] w fun e w' => e = .returned (.tuple #[.pointer (some ⟨b, 0, none⟩), .int .i64 0]) ∧ Ring w' b g nn nn 0 (List.replicate nn 0) [] ∧ Below w.heap.size w w' := by
    rw [hbg.1, hbg.2]
    exact hnew.mono fun e w' ⟨h1, h2, h3, h4⟩ => ⟨h1, h2, h3⟩
  clear hnew hbg
  generalize List.replicate nn (0 : Int) = cs at hnew2
  obtain ⟨m, p, hm, hp⟩ : ∃ m p, min len1 200 = m ∧ min m nn = p := ⟨_, _, rfl, rfl⟩
  have hm1 : m ≤ len1 := by omega
  have hm2 : m ≤ 200 := by omega
  have hminA : (if (200 : Int) < (len1 : Int) then (200 : Int) else (len1 : Int)) = (m : Int) := by split <;> omega
  have hminB : (if (nn : Int) < (m : Int) then (nn : Int) else (m : Int)) = (p : Int) := by split <;> omega
  have hminC : (if nn < m then (nn : Int) else (m : Int)) = (p : Int) := by split <;> omega
  obtain ⟨hV, hc1, hc2, hlt⟩ := row_vals w1 m (by omega)
  clear w1
  generalize z1.take m = zs at *
  have hl1 : m ≤ cap1 := by omega
  have hpm : p ≤ m := by omega
  have hpn : p ≤ nn := by omega
  have hput : ∀ W, Ring W b g nn nn 0 cs [] → Below w.heap.size w W → Calls Try.prog 10 #[.pointer (some ⟨b, 0, none⟩), .slice a1 m cap1] W fun e w' => e = .returned (.int .i64 p) ∧
      ∃ cs', Ring w' b g nn nn 0 cs' (zs.take p) ∧ Turned b g W w' := fun W hR hB => by
    have hp := put_any b g nn nn 0 cs [] a1 m cap1 zs W hR (hV.below hB) (by omega) (by omega) (fun h0 x hx => by have := hlt x h0 hx; omega)
    rw [show min m (nn - ([] : List Int).length) = p by simp; omega, List.nil_append, show zs.take (nn - ([] : List Int).length) = zs.take p by
      have := hV.len_
      rcases Nat.le_total m nn with h1 | h1
      · rw [List.take_of_length_le (by simp; omega), List.take_of_length_le (by omega)]
      · rw [show p = nn by omega]; rfl] at hp
    exact hp
  have hys : (zs.take p).length = p := by rw [List.length_take, hV.len_]; omega
  generalize zs.take p = ys at *
  obtain ⟨r, hr⟩ : ∃ r, nn - p = r := ⟨_, rfl⟩
  have hlen := fun W (f : Nat) (cs : List Int) (hR : Ring W b g nn nn f cs ys) => len_q b g nn nn f cs ys p W hR hys
  have hroom := fun W (f : Nat) (cs : List Int) (hR : Ring W b g nn nn f cs ys) => room_nat b g nn nn f cs ys r W hR (by rw [hys]; exact hr)
  have hpr : IntKind.i64.wrap ((p : Int) + (r : Int)) = (nn : Int) := by rw [IntWalk.i64_in _ (by omega)]; omega
  have hw2 : IntKind.i64.wrap ((2 : Int) ^ k) = (nn : Int) := (wrap64_is _).trans hw
  have hw3 : IntKind.i64.wrap (1 * (2 : Int) ^ k) = (nn : Int) := by rw [Int.one_mul]; exact hw2
  have HYS := Lib.hid hys
  have HRR := Lib.hid hr
  clear hys hr
  have HMP := Lib.hid (And.intro hm hp)
  clear hm hp
  · clear hV hlt
    go_enter Try.func5, Try.ntmps5
    go_wp2_with (first
      | (go_at_call 6; ((with_reducible refine hnew2.mono ?_); rintro e W1 ⟨rfl, hR1, hB1⟩))
      | (go_at_call 10; ((with_reducible refine (hput _ hR1 hB1).mono ?_); rintro e W2 ⟨rfl, cs2, hR2, hT2⟩)))
    have hB2 := below_turned hB1 hT2 hB1.size hb hg
    go_quiet ((first
      | (go_at_call 20; exact Calls.quiet_of (hlen _ _ _ (hR2.same rfl)))
      | (go_at_call 19; exact Calls.quiet_of (hroom _ _ _ (hR2.same rfl)))))
    go_wp2
    try rw [hw]
    try rw [hw]
    have HW := Lib.hid hw
    have HPR := Lib.hid hpr
    clear hw hw2 hw3 hpr hminA hminB hminC
    go_loopw [57] (fun i wr => Pops w b g nn ys P i wr) (fun i _ => P - (intOf i).toNat)
    case atStart => exact ⟨0, by omega, rfl, 0, cs2, by rw [List.drop_zero]; exact hR2.same rfl, below_drewN hB2 _⟩
    case round =>
      clear hR1 hB1 hR2 hT2 hB2
      obtain ⟨j, hj, rfl, f, cs', hR, hB⟩ := hrel
      by_cases hlt : j < P
      · have hpop := pop_any b g nn nn f cs' (ys.drop j) _ hR
        go_wp2_with (go_at_call 11; ((with_reducible refine hpop.mono ?_); rintro e W3 ⟨v, ok, rfl, hPop⟩))
        obtain ⟨f', cs'', hR3, hT3⟩ := hPop
        go_roundw
        case rel => exact ⟨j + 1, by omega, by go_num, f', cs'', by rw [List.drop_drop] at hR3; exact hR3, below_turned hB hT3 hB.size hb hg⟩
        case measure => simp [intOf]; omega
      · have hj' : j = P := by omega
        subst hj'
        have hlen0 : ∀ W f cs, Ring W b g nn nn f cs [] → Calls Try.prog 20 #[.pointer (some ⟨b, 0, none⟩)] W fun e w' => e = .returned (.int .i64 0) ∧ ∃ k, w' = W.drewN k := fun W f cs h => len_q b g nn nn f cs [] 0 W h rfl
        have hroom0 : ∀ W f cs, Ring W b g nn nn f cs [] → Calls Try.prog 19 #[.pointer (some ⟨b, 0, none⟩)] W fun e w' => e = .returned (.int .i64 (nn : Int)) ∧ ∃ k, w' = W.drewN k := fun W f cs h => room_nat b g nn nn f cs [] nn W h rfl
        have hclear := fun W h => clear_any b g nn nn f cs' (ys.drop j) W h
        have hpop0 : ∀ W f cs, Ring W b g nn nn f cs [] → Calls Try.prog 11 #[.pointer (some ⟨b, 0, none⟩)] W fun e w' => e = .returned (.tuple #[.int .i64 0, .bool false]) ∧ W = w' := fun W f cs h => pop_no b W h.core.cells.2.2
        have hleq : ∃ c r2 : Nat, ((ys.drop j).length = c ∧ nn - (ys.drop j).length = r2) ∧ ((0 < c ∧ (p : Int) - (j : Int) = (c : Int)) ∨ (ys.drop j = [] ∧ (p : Int) - (j : Int) ≤ 0)) ∧ (c : Int) + (r2 : Int) = (nn : Int) := by
          have hl : (ys.drop j).length = p - j := by rw [List.length_drop, HYS.out]
          refine ⟨p - j, nn - (p - j), ⟨hl, by rw [hl]⟩, ?_, by omega⟩
          rcases Nat.lt_or_ge j p with h3 | h3
          · exact .inl ⟨by omega, by omega⟩
          · exact .inr ⟨List.eq_nil_of_length_eq_zero (by omega), by omega⟩
        obtain ⟨c, r2, ⟨hc, hr2⟩, two, hsum⟩ := hleq
        have hpr : IntKind.i64.wrap ((c : Int) + (r2 : Int)) = (nn : Int) := by rw [IntWalk.i64_in _ (by omega)]; exact hsum
        have hsub : IntKind.i64.wrap ((p : Int) - (j : Int)) = (p : Int) - (j : Int) := IntWalk.i64_in _ (by omega)
        have hcv : IntKind.i64.wrap (j : Int) = (j : Int) := IntWalk.i64_in _ (by omega)
        rcases two with ⟨h0, hd⟩ | ⟨h0, hd⟩
        · have hsub2 := hsub.trans hd
          clear hsub
          have hlen := fun W h => len_q b g nn nn f cs' (ys.drop j) c W h hc
          have hroom := fun W h => room_nat b g nn nn f cs' (ys.drop j) r2 W h hr2
          clear hc hr2 hsum hd
          have hw := HW.out
          have hw2 : IntKind.i64.wrap ((2 : Int) ^ k) = (nn : Int) := (wrap64_is _).trans hw
          have hw3 : IntKind.i64.wrap (1 * (2 : Int) ^ k) = (nn : Int) := by rw [Int.one_mul]; exact hw2
          go_wp2
          go_quiet ((first
            | (go_at_call 20; exact Calls.quiet_of (hlen _ (hR.same rfl)))
            | (go_at_call 19; exact Calls.quiet_of (hroom _ (hR.same rfl)))))
          go_wp2_with (first
            | (go_at_call 16; ((with_reducible refine (hclear _ (by exact hR.same rfl)).mono ?_); rintro e W5 ⟨rfl, cs5, hR5, hT5⟩))
            | (go_at_call 11; ((with_reducible refine (hpop0 _ _ _ hR5).mono ?_); rintro e W6 ⟨rfl, rfl⟩)))
          go_region_with (first
            | (go_at_call 20; ((with_reducible refine (hlen0 _ _ _ (by exact hR5.same rfl)).mono ?_); rintro e W7 ⟨rfl, kk, rfl⟩))
            | (go_at_call 19; ((with_reducible refine (hroom0 _ _ _ (by exact hR5.same rfl)).mono ?_); rintro e W7 ⟨rfl, kk2, rfl⟩))
            | (go_at_call 8; ((with_reducible refine (live_ok _).mono ?_); rintro e W9 ⟨rfl, hN⟩)))
          all_goals
            go_wp2
            go_ret
            have hB5 := below_turned (below_drewN hB _) hT5 hB.size hb hg
            exact ⟨rfl, (below_drewN hB5 _).trans (hN.mono (by exact hB5.size))⟩
        · obtain ⟨d, hd2, hd3⟩ : ∃ d : Int, IntKind.i64.wrap ((p : Int) - (j : Int)) = d ∧ ¬ 0 < d := ⟨_, hsub, by omega⟩
          have hz : IntKind.i64.wrap (nn : Int) = (nn : Int) := IntWalk.i64_in _ (by omega)
          have hz2 : IntKind.i64.wrap (0 + (nn : Int)) = (nn : Int) := by rw [Int.zero_add]; exact hz
          rw [h0] at hR hclear
          clear hsub hd hc hr2 hsum hpr h0
          have hw := HW.out
          have hw2 : IntKind.i64.wrap ((2 : Int) ^ k) = (nn : Int) := (wrap64_is _).trans hw
          have hw3 : IntKind.i64.wrap (1 * (2 : Int) ^ k) = (nn : Int) := by rw [Int.one_mul]; exact hw2
          go_wp2
          go_quiet ((first
            | (go_at_call 20; exact Calls.quiet_of (hlen0 _ _ _ (hR.same rfl)))
            | (go_at_call 19; exact Calls.quiet_of (hroom0 _ _ _ (hR.same rfl)))))
          go_wp2_with (first
            | (go_at_call 16; ((with_reducible refine (hclear _ (by exact hR.same rfl)).mono ?_); rintro e W5 ⟨rfl, cs5, hR5, hT5⟩))
            | (go_at_call 11; ((with_reducible refine (hpop0 _ _ _ hR5).mono ?_); rintro e W6 ⟨rfl, rfl⟩)))
          go_region_with (first
            | (go_at_call 20; ((with_reducible refine (hlen0 _ _ _ (by exact hR5.same rfl)).mono ?_); rintro e W7 ⟨rfl, kk, rfl⟩))
            | (go_at_call 19; ((with_reducible refine (hroom0 _ _ _ (by exact hR5.same rfl)).mono ?_); rintro e W7 ⟨rfl, kk2, rfl⟩))
            | (go_at_call 8; ((with_reducible refine (live_ok _).mono ?_); rintro e W9 ⟨rfl, hN⟩)))
          all_goals
            go_wp2
            go_ret
            have hB5 := below_turned (below_drewN hB _) hT5 hB.size hb hg
            exact ⟨rfl, (below_drewN hB5 _).trans (hN.mono (by exact hB5.size))⟩

theorem own : ownKnob Try.prog.godebug = none := by kernel_rfl
theorem laidOut : laidOutB Try.prog = true := by kernel_rfl

/-! ### The row's step -/
set_option maxRecDepth 100000 in
theorem lifted (os : Os) (started : os.Started) (H : Type) (enc : TypeId × Value → H) :
    ReturnsInHanded {} Try.checked os 5 .any (Rows.ringFullSpec.pre6 enc Try.prog Try.f5 Rows.ringFullRow.domain false) (Rows.ringFullSpec.post enc Try.prog Try.f5 false true false false) := by
  refine returnsInHanded_of_change (C := Try.checked) own started (by kernel_rfl) Try.func5
    (ChangeSpec.witness6 (enc := enc) (C := Try.checked) false ⟨#[], #[.int .u8 0, .slice none 0 0, .int .u8 0], []⟩ 8 (by kernel_rfl) (by kernel_rfl) (by kernel_rfl) (by kernel_rfl)) ?_
  intro W base args ds gs before hval0 hW hcnd _
  have hval : ∀ (j : Nat) t v, Try.f5.params[j]? = some t → args[j]? = some v → Value.okWide Try.prog W .any base t v := hval0
  have hW' := hW
  obtain ⟨p, q, hA0, hV, rfl, hfz, hnd⟩ := hW
  have hA : DataW.TrodAll enc Try.prog W 0 (fun _ => true) true Try.f5.params.toList args.toList ds p := hA0
  rw [Try.params5] at hA hval
  obtain ⟨v0, vs0, d0, ds0, p0, q0, hargs, rfl, rfl, h0, r0⟩ := trodAll_cons hA
  obtain ⟨v1, vs1, d1, ds1, p1, q1, rfl, rfl, rfl, h1, r1⟩ := trodAll_cons r0
  obtain ⟨v2, vs2, d2, ds2, p2, q2, rfl, rfl, rfl, h2, r2⟩ := trodAll_cons r1
  obtain ⟨rfl, rfl, rfl⟩ := trodAll_nil r2
  obtain rfl : args = #[v0, v1, v2] := by cases args; simp_all
  obtain ⟨rfl, rfl⟩ := trodVars_none hV
  obtain ⟨a0, rfl, rfl, rfl, w0⟩ := open_int Try.underlying5 (hval 0 5 v0 rfl rfl) h0
  obtain ⟨a1, len1, cap1, rfl⟩ := okWide_slice Try.underlying27 (hval 1 27 v1 rfl rfl)
  have k1 := h1
  have lt1 : ∀ x ∈ p1, x.block < W.heap.size := by obtain ⟨m, hm⟩ := k1; exact DataW.trod_lt m _ _ _ hm
  obtain ⟨z1, w1⟩ : ∃ zs, IsRow .i64 W a1 len1 cap1 zs := by
    obtain ⟨fuel, hf⟩ := h1
    rcases open_ints Try.underlying27 Try.underlying3 (by kernel_rfl) hf with ⟨hcs, _⟩ | ⟨x, l, c, zs, hcs, hx, hl, hm, hz, _, hcell, hwz⟩
    · simp [Value.cells] at hcs
      obtain ⟨rfl, rfl, rfl⟩ := hcs
      exact ⟨[], .inl ⟨rfl, rfl, rfl, rfl⟩⟩
    · simp [Value.cells] at hcs
      obtain ⟨rfl, rfl, rfl⟩ := hcs
      exact ⟨zs, isRow_some hl hm (by simpa using hz) hcell hwz⟩
  obtain ⟨a2, rfl, rfl, rfl, w2⟩ := open_int Try.underlying5 (hval 2 5 v2 rfl rfl) h2
  clear hA0 hval0
  refine (walk a0 a1 len1 cap1 z1 a2 W w0 w1 w2).mono fun e W' ⟨he, bel⟩ => ?_
  subst he
  exact ⟨_, rfl, _, _, _, [], _, [], hW', trodAll_mk1 (shut_bool Try.underlying4 _), (trodAll_cons_mk (shut_int Try.underlying5 w0) (trodAll_cons_mk (Below.trod laidOut (by kernel_rfl) (of_decide_eq_true (by kernel_rfl)) k1 bel lt1) (trodAll_cons_mk (shut_int Try.underlying5 w2) trodAll_mk0))), rfl, bel.frame _, fun h => by cases h⟩

theorem over : Rows.ringFullRow.holds Try.pinned (OpenSpec.ofChange Rows.ringFullSpec) :=
  OpenClaim.holds_of_wide 5 Try.f5 rfl rfl rfl rfl rfl rfl rfl ⟨rfl, rfl, rfl, rfl, rfl⟩ rfl rfl rfl rfl rfl (by kernel_rfl) Try.func5 (by kernel_rfl)
    (of_decide_eq_true (by kernel_rfl)) (by unfold Func.isWrapper; first | (rw [if_pos (by decide +kernel)]; kernel_rfl) | (rw [if_neg (by decide +kernel)]; exact ⟨rfl, rfl⟩))
    (fun os started H enc _ => lifted os started H enc)

theorem proved : Rows.RingFullSaid := over
#print axioms proved
end Go.Proofs.Yteiakpepdnhigaa.ringFull
