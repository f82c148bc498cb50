/- Whatever number, samples, place and bits come in, FrameTurned answers true, and writes nothing that was there. -/
import Derived.Test.YtokgcbdpmbjagaaRows
import Derived.ShutString
import Derived.ChangeOld
import Derived.Below
import Derived.Test.YtokgcbdpmbjagaaLawKit
import Derived.Test.YtokgcbdpmbjagaaFrameLive
import Derived.Test.YtokgcbdpmbjagaaFrameTurnMath
import Derived.Test.YtokgcbdpmbjagaaOwn
set_option linter.unusedSimpArgs false
set_option linter.unusedVariables false
namespace Go.Proofs.Ytokgcbdpmbjagaa.frameTurned
open Go.ChangeShapes Go.WideShapes Go.ChangeAt Go.RowKit
open Go.ChangeMaps (open_string shut_string)
open Frm Crc RU8
/-- The law's loop behind j places: the frame's bytes, and whether one has turned. -/
def Going (w : World) (A : Option Addr) (n c : Nat) (F : List Nat) (L p : Nat) (s i : Value) (wr : World) : Prop :=
  ∃ (j : Nat) (b : Bool) (ks : List Nat), j ≤ 16 ∧ i = .int .i64 (j : Nat) ∧ s = .bool b ∧ Differ F p j b ks ∧ Bytes ks ∧ (b = false → ks = F) ∧ ks.getD 3 0 = L ∧ (∀ i, 4 + 3 * L ≤ i → ks.getD i 0 = F.getD i 0) ∧ wr.ownsRow w.heap.size 5 1 (.slice A n c) n (vals ks) ∧ Below w.heap.size w wr
theorem getD_set_ne (l : List Nat) (i j y : Nat) (h : i ≠ j) : (l.set i y).getD j 0 = l.getD j 0 := by
  rw [List.getD_eq_getElem?_getD, List.getD_eq_getElem?_getD, List.getElem?_set_ne h]
set_option maxRecDepth 100000 in
set_option maxHeartbeats 2000000 in
theorem walk (a0 : Int) (a1 : Option Addr) (len1 cap1 : Nat) (z1 : List Samp) (a2 a3 : Int) (w : World) (w0 : (Lit.int .u8 a0).wf = true) (w1 : IsSamps w a1 len1 cap1 z1) (w2 : (Lit.int .u16 a2).wf = true) (w3 : (Lit.int .u16 a3).wf = true) :
    Calls Try.prog 6 #[.int .u8 a0, .slice a1 len1 cap1, .int .u16 a2, .int .u16 a3] w fun e w' => e = .returned (.bool true) ∧ Below w.heap.size w w' := by
  have b0 := bounds_u8 w0
  have b2 := bounds_u16 w2
  have b3 := bounds_u16 w3
  obtain ⟨ys, hv, hs, hl, hm⟩ := row_samps w1
  clear w0 w1 w2 w3
  obtain ⟨r, rfl⟩ : ∃ r : Nat, a0 = (r : Int) := ⟨a0.toNat, by omega⟩
  obtain ⟨p, rfl⟩ : ∃ p : Nat, a2 = (p : Int) := ⟨a2.toNat, by omega⟩
  obtain ⟨q, rfl⟩ : ∃ q : Nat, a3 = (q : Int) := ⟨a3.toNat, by omega⟩
  have hlen := hv.len_
  have hm1 := make_any r (by omega) a1 len1 cap1 ys w hv hs (by omega)
  unfold MakeIs at hm1
  cases hmt : mayT ys with
  | false =>
    rw [show makeB r ys = [] by unfold makeB; rw [hmt]; rfl, show makeE ys = 1 by unfold makeE; rw [hmt]; rfl] at hm1
    clear hv hs hmt
    go_enter Try.func6, Try.ntmps6
    go_wp2_with (first
      | (go_at_call 8; ((with_reducible refine hm1.mono ?_); rintro e W1 ⟨v1, A1, c1, rfl, rfl, e1, e2, hO1, hB1⟩))
      | (go_at_call 7; ((with_reducible refine (live_ok _).mono ?_); rintro e W5 ⟨rfl, hB5⟩)))
    all_goals go_ret
    all_goals exact ⟨rfl, hB1.trans (hB5.mono hB1.size)⟩
  | true =>
    have hmt2 := hmt
    unfold mayT at hmt2
    have hn := of_decide_eq_true hmt2
    have hn32 : 1 ≤ len1 ∧ len1 ≤ 32 := by omega
    obtain ⟨F, hF9⟩ : ∃ F, frameT r ys = F := ⟨_, rfl⟩
    obtain ⟨Z, hZ⟩ : ∃ Z, F.length = Z := ⟨_, rfl⟩
    have hZ2 : Z = 6 + 3 * len1 := by rw [← hZ, ← hF9, frameT_length, hlen]
    rw [show makeB r ys = F by unfold makeB; rw [hmt, if_pos rfl, hF9], show makeE ys = 0 by unfold makeE; rw [hmt]; rfl, hZ] at hm1
    have hFb8 : Bytes F := by
      rw [← hF9]
      exact Bytes.append (xs := [165, 90]) (by intro y hy; simp at hy; omega) (seal_bytes (bodyT_bytes (by omega) (by omega)))
    have hF3 : F.getD 3 0 = len1 := by
      have := (frame_head r ys []).2.2.2
      rw [List.append_nil, hF9] at this
      rw [this, hlen]
    have hgood : lookE F = 0 := by
      have := (look_frame (seq := r) hmt []).1
      rwa [List.append_nil, hF9] at this
    have hbad : ∀ ks b, Differ F p 16 b ks → Bytes ks → ks.getD 3 0 = len1 → (∀ i, 4 + 3 * len1 ≤ i → ks.getD i 0 = F.getD i 0) → b = true → lookE ks ≠ 0 := fun ks b h1 h2 h3 h4 h5 => by
      rw [← hlen] at h3 h4
      rw [← hF9] at h1 h4
      exact turned_look hmt h2 h1 h3 h4 h5
    have HZ2 := Lib.hid hZ2
    obtain ⟨Y, hY⟩ : ∃ Y, 4 + 3 * len1 = Y := ⟨_, rfl⟩
    have hYz : (Z : Int) - 2 = (Y : Int) := by omega
    have hYZ : Y + 2 = Z := by omega
    have hZ102 : Z ≤ 102 := by omega
    have HY := Lib.hid hY
    have HZ := Lib.hid hZ
    clear hv hs hn hmt hmt2 hF9 hZ2 hY hZ
    go_enter Try.func6, Try.ntmps6
    go_wp2_with (first
      | (go_at_call 8; ((with_reducible refine hm1.mono ?_); rintro e W1 ⟨v1, A1, c1, rfl, rfl, e1, e2, hO1, hB1⟩)))
    obtain ⟨A9, c9, h9, _, _, hV1, _⟩ := Vals.own hO1
    injection h9 with h91 h92 h93
    subst h91
    subst h93
    clear hV1 hm1
    go_loopw [11, 12] (fun s i wr => Going w A1 Z c1 F len1 p s i wr) (fun _ i _ => 16 - (intOf i).toNat)
    case atStart => exact ⟨0, false, F, by omega, rfl, rfl, Differ.none_ _ _, hFb8, (fun _ => rfl), hF3, (fun _ _ => rfl), hO1, hB1⟩
    case round =>
      clear hO1 hB1
      obtain ⟨j, b, ks, hj, rfl, rfl, hD, hbk, hbF, hk3, hkl, hO, hB⟩ := hrel
      have HK := Lib.hid (And.intro hbF (And.intro hk3 hkl))
      clear hbF hk3 hkl
      by_cases hlt : j < 16
      · obtain ⟨K, hK⟩ : ∃ K, p + j = K := ⟨_, rfl⟩
        have hKz : (p : Int) + (j : Int) = (K : Int) := by omega
        obtain ⟨Q, hQ⟩ : ∃ Q, K / 8 = Q := ⟨_, rfl⟩
        obtain ⟨R, hR⟩ : ∃ R, K % 8 = R := ⟨_, rfl⟩
        have hQz : (K : Int) / 8 = (Q : Int) := by omega
        have hRz : (K : Int) % 8 = (R : Int) := by omega
        have hR8 : R < 8 := by omega
        by_cases hin : Q < Y
        · have hinz : (Q : Int) < (Y : Int) := by omega
          have hinz2 : ¬ (Y : Int) ≤ (Q : Int) := by omega
          by_cases hQ3 : Q = 3
          · have hQ3z : (Q : Int) = 3 := by omega
            clear hin hQ3
            go_wp2
            go_roundw
            case rel => exact ⟨j + 1, b, ks, by omega, by go_num, rfl, hD.stay, hbk, HK.out.1, HK.out.2.1, HK.out.2.2, hO, hB⟩
            case measure => simp [intOf]; omega
          · have hQ3z : ¬ (Q : Int) = 3 := by omega
            by_cases hbit : q / 2 ^ j % 2 = 1
            · have hbz : ((q : Int) / 2 ^ j).tmod 2 = 1 := by
                have h9 : ((q / 2 ^ j % 2 : Nat) : Int) = 1 := by rw [hbit]; rfl
                rw [Int.tmod_eq_emod_of_nonneg (Int.ediv_nonneg (by omega) (Int.le_of_lt (Int.pow_pos (by decide))))]
                simpa using h9
              have hlk : ks.length = Z := own_len hO
              have hQl : Q < Z := by omega
              obtain ⟨g, rfl, hg1, hg2, hcell, hfz, hset⟩ := own_set hO Q hQl
              have hD2 := hD.turn (by rw [hK, hQ, HZ.out]; exact hQl)
              rw [hK, hQ, hR] at hD2
              have hy := hbk.at_ Q
              have hx : bits .xor .u8 ((ks.getD Q 0 : Nat) : Int) ((128 : Int) / 2 ^ R) = ((ks.getD Q 0 ^^^ 2 ^ (7 - R) : Nat) : Int) := by
                have hp : (128 : Int) / 2 ^ R = ((2 ^ (7 - R) : Nat) : Int) := by
                  rcases (by omega : R = 0 ∨ R = 1 ∨ R = 2 ∨ R = 3 ∨ R = 4 ∨ R = 5 ∨ R = 6 ∨ R = 7) with rfl | rfl | rfl | rfl | rfl | rfl | rfl | rfl <;> rfl
                rw [hp]
                refine u8_xor_nat _ _ hy ?_
                have := Nat.pow_le_pow_right (n := 2) (by decide) (show 7 - R ≤ 7 by omega)
                omega
              have hYY8 : ks.getD Q 0 ^^^ 2 ^ (7 - R) < 256 := by
                refine Nat.xor_lt_two_pow (n := 8) hy ?_
                have := Nat.pow_le_pow_right (n := 2) (by decide) (show 7 - R ≤ 7 by omega)
                omega
              have hO2 := hset (ks.getD Q 0 ^^^ 2 ^ (7 - R))
              have hb2 := hbk.set Q _ hYY8
              have hB2 := hB.setCell (p := ⟨g, Q, none⟩) hg1 (.int .u8 ((ks.getD Q 0 ^^^ 2 ^ (7 - R) : Nat) : Int))
              generalize hYY : ks.getD Q 0 ^^^ 2 ^ (7 - R) = X at *
              generalize ks.getD Q 0 = y at *
              have h3s : (ks.set Q X).getD 3 0 = len1 := by rw [getD_set_ne _ _ _ _ hQ3]; exact HK.out.2.1
              have hls : ∀ i, 4 + 3 * len1 ≤ i → (ks.set Q X).getD i 0 = F.getD i 0 := fun i hi => by rw [getD_set_ne _ _ _ _ (by have := HY.out; omega)]; exact HK.out.2.2 i hi
              have HS := Lib.hid (And.intro h3s hls)
              clear hYY hset h3s hls hin hQ3
              go_wp2
              go_roundw
              case rel => exact ⟨j + 1, true, ks.set Q X, by omega, by go_num, rfl, hD2, hb2, (fun h => by cases h), HS.out.1, HS.out.2, hO2, hB2⟩
              case measure => simp [intOf]; omega
            · have hbz : ((q : Int) / 2 ^ j).tmod 2 = 0 := by
                have h8 : q / 2 ^ j % 2 = 0 := by omega
                have h9 : ((q / 2 ^ j % 2 : Nat) : Int) = 0 := by rw [h8]; rfl
                rw [Int.tmod_eq_emod_of_nonneg (Int.ediv_nonneg (by omega) (Int.le_of_lt (Int.pow_pos (by decide))))]
                simpa using h9
              clear hin hQ3
              go_wp2
              go_roundw
              case rel => exact ⟨j + 1, b, ks, by omega, by go_num, rfl, hD.stay, hbk, HK.out.1, HK.out.2.1, HK.out.2.2, hO, hB⟩
              case measure => simp [intOf]; omega
        · have hinz : (Y : Int) ≤ (Q : Int) := by omega
          clear hin
          go_wp2
          go_roundw
          case rel => exact ⟨j + 1, b, ks, by omega, by go_num, rfl, hD.stay, hbk, HK.out.1, HK.out.2.1, HK.out.2.2, hO, hB⟩
          case measure => simp [intOf]; omega
      · obtain rfl : j = 16 := by omega
        obtain ⟨A8, c8, hv8, e3, e4, hV, _⟩ := Vals.own hO
        injection hv8 with hv81 hv82 hv83
        subst hv81
        subst hv83
        have hlook := look_any A1 Z c1 ks wr hV hbk (by omega) e3 e4
        have hcase : (b = false ∧ lookE ks = 0) ∨ (b = true ∧ (lookE ks != 0) = true) := by
          cases b
          · left; exact ⟨rfl, by rw [HK.out.1 rfl]; exact hgood⟩
          · right; exact ⟨rfl, by simpa using hbad ks true hD hbk HK.out.2.1 HK.out.2.2 rfl⟩
        unfold LookIs at hlook
        generalize lookE ks = E at *
        generalize lookSeq ks = sq at *
        generalize lookN ks = sn at *
        clear hbad hgood hD hbk hV hO
        rcases hcase with ⟨rfl, rfl⟩ | ⟨rfl, hE0⟩
        all_goals
          go_wp2_with (first
            | (go_at_call 12; ((with_reducible refine hlook.mono ?_); rintro e W4 ⟨A4, m4, c4, rfl, _, _, _, _, _, hB4⟩; have hBe := hB.trans (hB4.mono hB.size); have hBf := hBe.alloc hBe.size (.cells #[.int .u8 sq, .slice A4 m4 c4] 34)))
            | (go_at_call 7; ((with_reducible refine (live_ok _).mono ?_); rintro e W5 ⟨rfl, hB5⟩)))
          go_ret
          first
            | exact ⟨rfl, hBe.trans (hB5.mono hBe.size)⟩
            | exact ⟨rfl, hBf.trans (hB5.mono hBf.size)⟩
            | (refine ⟨?_, hBf.trans (hB5.mono hBf.size)⟩; show Ending.returned (.bool (E != 0)) = Ending.returned (.bool true); rw [hE0])

theorem own : ownKnob Try.prog.godebug = none := by kernel_rfl
theorem laidOut : laidOutB Try.prog = true := by kernel_rfl

/-! ### The row's step -/
set_option maxRecDepth 100000 in
theorem lifted (os : Os) (started : os.Started) (H : Type) (enc : TypeId × Value → H) :
    ReturnsInHanded {} Try.checked os 6 .any (Rows.frameTurnedSpec.pre6 enc Try.prog Try.f6 Rows.frameTurnedRow.domain false) (Rows.frameTurnedSpec.post enc Try.prog Try.f6 false true false false) := by
  refine returnsInHanded_of_change (C := Try.checked) own started (by kernel_rfl) Try.func6
    (ChangeSpec.witness6 (enc := enc) (C := Try.checked) false ⟨#[], #[.int .u8 0, .slice none 0 0, .int .u16 0, .int .u16 0], []⟩ 8 (by kernel_rfl) (by kernel_rfl) (by kernel_rfl) (by kernel_rfl)) ?_
  intro W base args ds gs before hval0 hW hcnd _
  have hval : ∀ (j : Nat) t v, Try.f6.params[j]? = some t → args[j]? = some v → Value.okWide Try.prog W .any base t v := hval0
  have hW' := hW
  obtain ⟨p, q, hA0, hV, rfl, hfz, hnd⟩ := hW
  have hA : DataW.TrodAll enc Try.prog W 0 (fun _ => true) true Try.f6.params.toList args.toList ds p := hA0
  rw [Try.params6] at hA hval
  obtain ⟨v0, vs0, d0, ds0, p0, q0, hargs, rfl, rfl, h0, r0⟩ := trodAll_cons hA
  obtain ⟨v1, vs1, d1, ds1, p1, q1, rfl, rfl, rfl, h1, r1⟩ := trodAll_cons r0
  obtain ⟨v2, vs2, d2, ds2, p2, q2, rfl, rfl, rfl, h2, r2⟩ := trodAll_cons r1
  obtain ⟨v3, vs3, d3, ds3, p3, q3, rfl, rfl, rfl, h3, r3⟩ := trodAll_cons r2
  obtain ⟨rfl, rfl, rfl⟩ := trodAll_nil r3
  obtain rfl : args = #[v0, v1, v2, v3] := by cases args; simp_all
  obtain ⟨rfl, rfl⟩ := trodVars_none hV
  obtain ⟨a0, rfl, rfl, rfl, w0⟩ := open_int Try.underlying5 (hval 0 5 v0 rfl rfl) h0
  obtain ⟨a1, len1, cap1, rfl⟩ := okWide_slice Try.underlying22 (hval 1 22 v1 rfl rfl)
  have k1 := h1
  have lt1 : ∀ x ∈ p1, x.block < W.heap.size := by obtain ⟨m, hm⟩ := k1; exact DataW.trod_lt m _ _ _ hm
  obtain ⟨z1, w1⟩ : ∃ zs, IsSamps W a1 len1 cap1 zs := by
    obtain ⟨fuel, hf⟩ := h1
    exact samps_of (by simpa [Value.cells] using hf)
  obtain ⟨a2, rfl, rfl, rfl, w2⟩ := open_int Try.underlying42 (hval 2 42 v2 rfl rfl) h2
  obtain ⟨a3, rfl, rfl, rfl, w3⟩ := open_int Try.underlying42 (hval 3 42 v3 rfl rfl) h3
  clear hA0 hval0
  refine (walk a0 a1 len1 cap1 z1 a2 a3 W w0 w1 w2 w3).mono fun e W' ⟨he, bel⟩ => ?_
  subst he
  exact ⟨_, rfl, _, _, _, [], _, [], hW', trodAll_mk1 (shut_bool Try.underlying4 _), (trodAll_cons_mk (shut_int Try.underlying5 w0) (trodAll_cons_mk (Below.trod laidOut (by kernel_rfl) (of_decide_eq_true (by kernel_rfl)) k1 bel lt1) (trodAll_cons_mk (shut_int Try.underlying42 w2) (trodAll_cons_mk (shut_int Try.underlying42 w3) trodAll_mk0)))), rfl, bel.frame _, fun h => by cases h⟩

theorem over : Rows.frameTurnedRow.holds Try.pinned (OpenSpec.ofChange Rows.frameTurnedSpec) :=
  OpenClaim.holds_of_wide 6 Try.f6 rfl rfl rfl rfl rfl rfl rfl ⟨rfl, rfl, rfl, rfl, rfl⟩ rfl rfl rfl rfl rfl (by kernel_rfl) Try.func6 (by kernel_rfl)
    (of_decide_eq_true (by kernel_rfl)) (by unfold Func.isWrapper; first | (rw [if_pos (by decide +kernel)]; kernel_rfl) | (rw [if_neg (by decide +kernel)]; exact ⟨rfl, rfl⟩))
    (fun os started H enc _ => lifted os started H enc)

theorem proved : Rows.FrameTurnedSaid := over
#print axioms proved
end Go.Proofs.Ytokgcbdpmbjagaa.frameTurned
