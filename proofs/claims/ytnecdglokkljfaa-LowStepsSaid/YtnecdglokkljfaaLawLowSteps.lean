/- Whatever values come in, LowSteps answers true, and writes nothing that was there. -/
import Derived.Test.YtnecdglokkljfaaRows
import Derived.ShutString
import Derived.ChangeOld
import Derived.Below
import Derived.Test.YtnecdglokkljfaaLawKit
import Derived.Test.YtnecdglokkljfaaLowLive
set_option linter.unusedSimpArgs false
set_option linter.unusedVariables false
namespace Go.Proofs.Ytnecdglokkljfaa.lowSteps
open Go.ChangeShapes Go.WideShapes Go.ChangeAt Go.RowKit
open Go.ChangeMaps (open_string shut_string)
open RI64 Low
theorem outs_back (g : List Int) : (outsT lowT [] g.reverse).reverse.getD 0 0 = lowT g ∧ (outsT lowT [] g.reverse).reverse.getD 1 0 = lowT g.tail := by
  have h0 : ∀ g : List Int, (outsT lowT [] g.reverse).reverse.getD 0 0 = lowT g := fun g => by
    cases g with
    | nil => decide
    | cons v g => rw [List.reverse_cons, outs_append]; simp [outsT]
  refine ⟨h0 g, ?_⟩
  cases g with
  | nil => decide
  | cons v g =>
    rw [List.reverse_cons, outs_append, List.reverse_append]
    have := h0 g
    simpa [outsT] using this
/-- A row stays where another one has grown. -/
theorem own_grown {w w' : World} {base : Nat} {e : TypeId} {size n : Nat} {v u : Value} {xs : List Value} (h : w.ownsRow base e size v n xs) (hg : w.grownBy w' u.ownBlock) (ha : Apart v u) : w'.ownsRow base e size v n xs := by
  obtain ⟨h1, h2⟩ := h
  refine ⟨h1, ?_⟩
  rcases h2 with h2 | ⟨k, cap, cur, rfl, hk, hh, h3⟩
  · exact .inl h2
  · exact .inr ⟨k, cap, cur, rfl, hk, ((Kept.of_grown hg).block k (Has.lt (w := w) hh) (fun e => ha k rfl (by simpa using e))).trans hh, h3⟩
/-- What the law's function 'back' answers of a row that reads as ys. -/
theorem back_any (A : Option Addr) (n c : Nat) (ys : List Int) (k : Nat) (kz : Int) (w : World) (hv : Vals w A n ys) (hn : n ≤ 1000) (hkz : kz = (k : Int)) (hk : k ≤ 1000) :
    Calls Try.prog 14 #[.slice A n c, .int .i64 kz] w fun e w' => e = .returned (.int .i64 (ys.reverse.getD k 0)) ∧ w = w' := by
  subst hkz
  have hlen := hv.len_
  by_cases hlt : k < n
  · obtain ⟨x, rfl, hx⟩ := hv.cells (by omega)
    have hc := hx (n - 1 - k) (by omega)
    have hr : ys.reverse.getD k 0 = ys.getD (n - 1 - k) 0 := by
      rw [List.getD_eq_getElem?_getD, List.getElem?_reverse (by omega), List.getD_eq_getElem?_getD, hlen]
    rw [hr]
    generalize ys.getD (n - 1 - k) 0 = r at *
    have hge : ¬ ((n : Int) ≤ (k : Int)) := by omega
    have h1 : (n : Int) - 1 - (k : Int) = ((n - 1 - k : Nat) : Int) := by omega
    have h2 : (((n - 1 - k : Nat) : Int)) < (n : Int) ∧ n - 1 - k < n := by omega
    generalize n - 1 - k = i at *
    have hb : 0 ≤ (n : Int) ∧ (n : Int) ≤ 1000 ∧ 0 ≤ (k : Int) ∧ (k : Int) ≤ 1000 ∧ 0 ≤ (i : Int) ∧ (i : Int) < 1000 := by omega
    clear hx hr hlen
    go_enter Try.func14, Try.ntmps14
    go_wp2
    go_ret
    exact ⟨rfl, rfl⟩
  · have hr : ys.reverse.getD k 0 = 0 := by
      rw [List.getD_eq_getElem?_getD, List.getElem?_eq_none (by rw [List.length_reverse]; omega)]; rfl
    rw [hr]
    have hge : (n : Int) ≤ (k : Int) := by omega
    clear hlen
    go_enter Try.func14, Try.ntmps14
    go_wp2
    go_ret
    exact ⟨rfl, rfl⟩
/-- What comes of a value: 32 times its rest. -/
def fromT (v : Int) : Int := 32 * v.tmod 2048
theorem tmod_bd (v : Int) : -2047 ≤ v.tmod 2048 ∧ v.tmod 2048 ≤ 2047 := by
  rcases Int.le_total 0 v with h | h
  · rw [Int.tmod_eq_emod_of_nonneg h]; omega
  · have h1 := Int.tmod_eq_emod_of_nonneg (a := -v) (b := 2048) (by omega)
    rw [Int.neg_tmod] at h1; omega
theorem whole_from (l : List Int) : Whole (l.map fromT) := fun u hu => by
  obtain ⟨v, hv, rfl⟩ := List.mem_map.1 hu
  have := tmod_bd v
  unfold fromT; omega
set_option maxRecDepth 100000 in
set_option maxHeartbeats 2000000 in
theorem walk (a0 : Option Addr) (len0 cap0 : Nat) (z0 : List Int) (w : World) (w0 : IsRow .i16 w a0 len0 cap0 z0) :
    Calls Try.prog 6 #[.slice a0 len0 cap0] w fun e w' => e = .returned (.bool true) ∧ Below w.heap.size w w' := by
  obtain ⟨p, hp⟩ : ∃ p, min len0 150 = p := ⟨_, rfl⟩
  have hp1 : p ≤ len0 := by omega
  have hp2 : p ≤ 150 := by omega
  have hminA : (if (150 : Int) < (len0 : Int) then (150 : Int) else (len0 : Int)) = (p : Int) := by split <;> omega
  have hcap : len0 ≤ cap0 ∧ cap0 ≤ 9223372036854775807 ∧ (0 < p → ∃ x, a0 = some x ∧ ∀ i, i < p → w.cell? (x.add i) = some (.int .i16 (z0.getD i 0)) ∧ -32768 ≤ z0.getD i 0 ∧ z0.getD i 0 ≤ 32767) ∧ (z0.take p).length = p := by
    rcases w0 with ⟨rfl, rfl, rfl, rfl⟩ | ⟨x, rfl, h1, h2, h3, h4, h5⟩
    · exact ⟨by omega, by omega, fun h => by omega, by simp; omega⟩
    · unfold maxLen at h2
      refine ⟨h1, by omega, fun _ => ⟨x, rfl, fun i hi => ⟨h4 i (by omega), ?_⟩⟩, by rw [List.length_take]; omega⟩
      have := bounds_i16 (h5 (z0.getD i 0) (by rw [List.getD_eq_getElem?_getD, List.getElem?_eq_getElem (by omega)]; simp))
      exact this
  obtain ⟨hc1, hc2, hcells, hlen0⟩ := hcap
  clear w0 hp
  have hget : ∀ i, i < p → z0.getD i 0 = (z0.take p).getD i 0 := fun i hi => by simp [List.getD_eq_getElem?_getD, List.getElem?_take, hi]
  have hcells2 : 0 < p → ∃ x, a0 = some x ∧ ∀ i, i < p → w.cell? (x.add i) = some (.int .i16 ((z0.take p).getD i 0)) ∧ -32768 ≤ (z0.take p).getD i 0 ∧ (z0.take p).getD i 0 ≤ 32767 := fun h => by
    obtain ⟨x, hx, h2⟩ := hcells h
    exact ⟨x, hx, fun i hi => by rw [← hget i hi]; exact h2 i hi⟩
  clear hcells hget
  generalize z0.take p = zs at *
  have hp3 : p ≤ cap0 := by omega
  have hInfo : (Try.prog.info? 2).map (fun i => (i.zero, i.size, i.bytes)) = some (some (.int .i64 0), 1, 8) := by kernel_rfl
  have HInfo := Lib.hid hInfo
  have hnew := new_any w
  unfold NewIs at hnew
  have HLEN := Lib.hid hlen0
  clear hInfo hlen0
  go_enter Try.func6, Try.ntmps6
  go_wp2_with (go_at_call 7; ((with_reducible refine hnew.mono ?_); rintro e W1 ⟨bx, Sx, rfl, hFx, hSx, hB1⟩; have hltx := kit.lt hFx))
  clear hnew hminA
  have hz1 := hB1.size
  go_loopw [4, 5, 18] (fun vi vo i wr => ∃ j : Nat, j ≤ p ∧ i = .int .i64 (j : Nat) ∧ wr.ownsRow W1.heap.size 2 1 vi j (vals ((zs.map fromT).take j)) ∧ wr.ownsRow W1.heap.size 2 1 vo j (vals (outsT lowT [] ((zs.map fromT).take j))) ∧ Apart vi vo ∧ kit.Fil wr bx Sx ((zs.map fromT).take j).reverse ∧ Below w.heap.size w wr ∧ W1.heap.size ≤ wr.heap.size) (fun _ _ i _ => p - (intOf i).toNat)
  case atStart => exact ⟨0, by omega, rfl, own_none _ _ _, own_none _ _ _, (fun k hk => by cases hk), hFx, hB1, Nat.le_refl _⟩
  case round =>
    obtain ⟨j, hj, rfl, hOi, hOo, hap, hF, hC, hsz⟩ := hrel
    by_cases hjp : j < p
    · obtain ⟨x, rfl, hcx⟩ := hcells2 (by omega)
      obtain ⟨hcell0, hv1, hv2⟩ := hcx j hjp
      have hcell := (hC.cell (World.block_lt_of_cell? _ _ hcell0)).trans hcell0
      have HT := Lib.hid (show (zs.map fromT).take (j + 1) = (zs.map fromT).take j ++ [32 * (zs.getD j 0).tmod 2048] by
        rw [List.take_succ_eq_append_getElem (by rw [List.length_map]; have := HLEN.out; omega), List.getElem_map, List.getD_eq_getElem?_getD, List.getElem?_eq_getElem (by have := HLEN.out; omega)]
        rfl)
      have hwh : Whole (32 * (zs.getD j 0).tmod 2048 :: ((zs.map fromT).take j).reverse) := fun u hu => whole_from zs u (by
        have h2 : u ∈ (zs.map fromT).take (j + 1) := by
          rw [HT.out]
          simpa [or_comm] using hu
        exact List.mem_of_mem_take h2)
      have hrb := tmod_bd (zs.getD j 0)
      obtain ⟨e, he⟩ : ∃ e, (zs.getD j 0).tmod 2048 = e := ⟨_, rfl⟩
      rw [he] at hrb HT hwh
      generalize zs.getD j 0 = v at *
      obtain ⟨g, hg⟩ : ∃ g, (zs.map fromT).take j = List.reverse g := ⟨((zs.map fromT).take j).reverse, by rw [List.reverse_reverse]⟩
      rw [hg] at hOi hOo hF HT hwh
      rw [List.reverse_reverse] at hF hwh
      obtain ⟨hs1, hs2⟩ := low_steps (32 * e) g hwh
      obtain ⟨hb1, hb2⟩ := outs_back g
      have hq : (32 * e - 2 * g.getD 5 0 + g.getD 11 0).tdiv 32 = (32 * e - 2 * g.getD 5 0 + g.getD 11 0) / 32 := by
        obtain ⟨y, hy⟩ : ∃ y, 32 * e - 2 * g.getD 5 0 + g.getD 11 0 = 32 * y := ⟨(32 * e - 2 * g.getD 5 0 + g.getD 11 0) / 32, by omega⟩
        rw [hy, Int.mul_tdiv_cancel_left _ (by decide), Int.mul_ediv_cancel_left _ (by decide)]
      obtain ⟨Ai, ci, rfl, hci1, hci2, hVi, hfi, _⟩ := Vals.own hOi
      obtain ⟨Ao, co, rfl, hco1, hco2, hVo, hfo, _⟩ := Vals.own hOo
      have hk0 := back_any Ao j co _ 0 0 wr hVo (by omega) rfl (by omega)
      have hk1 := back_any Ao j co _ 1 1 wr hVo (by omega) rfl (by omega)
      have hk5 := back_any Ai j ci _ 5 5 wr hVi (by omega) rfl (by omega)
      have hk11 := back_any Ai j ci _ 11 11 wr hVi (by omega) rfl (by omega)
      rw [hb1] at hk0
      rw [hb2] at hk1
      rw [List.reverse_reverse] at hk5 hk11
      have w5 := (whole_at hwh 6).2
      have w11 := (whole_at hwh 12).2
      rw [show (32 * e :: g).getD 6 0 = g.getD 5 0 from rfl] at w5
      rw [show (32 * e :: g).getD 12 0 = g.getD 11 0 from rfl] at w11
      have lb0 := low_bd g
      have lb1 := low_bd g.tail
      have lbr := low_bd (32 * e :: g)
      have hso : outsT lowT [] (g.reverse ++ [32 * e]) = outsT lowT [] g.reverse ++ [lowT (32 * e :: g)] := by
        rw [outs_append, List.reverse_reverse, List.append_nil]; rfl
      have HSO := Lib.hid hso
      have hpu := fun W hW => kit.push_any bx Sx g (32 * e) W hW
      generalize lowT (32 * e :: g) = r at *
      generalize lowT g = b0 at *
      generalize lowT g.tail = b1 at *
      generalize g.getD 5 0 = b5 at *
      generalize g.getD 11 0 = b11 at *
      obtain ⟨y, hy⟩ : ∃ y, (32 * e - 2 * b5 + b11) / 32 = y := ⟨_, rfl⟩
      rw [hy] at hq hs1
      have hyb : -9999999 ≤ y ∧ y ≤ 9999999 := by omega
      have l5 := w5.2
      have l11 := w11.2
      have hP1 := one_ready 2 (32 * e) hOi hC
      have hOo1 := own_kept hOo ((Kept.refl [] wr).alloc (.cells #[.int .i64 (32 * e)] 2)) (by simp)
      have hF1 := kit.kept hF ((Kept.refl [] wr).alloc (.cells #[.int .i64 (32 * e)] 2)) (fun _ _ h => by cases h)
      have hsz1 : W1.heap.size ≤ (wr.alloc (.cells #[.int .i64 (32 * e)] 2)).heap.size := by simp; omega
      have HS := Lib.hid hs1.symm
      have HG := Lib.hid hg
      clear hso hb1 hb2 hwh hs1 hs2 hcx hcells2 hVi hVo hfi hfo hcell0 hy w5 w11 hg
      go_wp2_with (first
        | (go_at_call 14; ((with_reducible refine hk0.mono ?_); rintro e0 w0 ⟨rfl, rfl⟩))
        | (go_at_call 14; ((with_reducible refine hk1.mono ?_); rintro e1 w1 ⟨rfl, rfl⟩))
        | (go_at_call 14; ((with_reducible refine hk5.mono ?_); rintro e2 w2 ⟨rfl, rfl⟩))
        | (go_at_call 14; ((with_reducible refine hk11.mono ?_); rintro e3 w3 ⟨rfl, rfl⟩))
        | (at_builtin; refine wpList_append_vals rfl (.tmp 46) (.tmp 48) _ rfl W1.heap.size 2 8 (by omega) Try.underlying22 HInfo.out (.slice Ai j ci) j g.reverse rfl (by exact hP1.1) _ 1 1 [32 * e] rfl (by exact hP1.2.2) (by omega) (by exact hsz1) ?_; intro v3 W3 hO3 hg3 hat3; have hK3 := Kept.of_grown hg3; have hC3 := below_kept hP1.2.1 hK3 hP1.2.1.size (fun k hk => Nat.le_trans hz1 (own_in hP1.1 k hk)); have hF3 := kit.kept hF1 hK3 (fun k hk => own_apart hP1.1 (hltx k hk)); have hOo3 := own_grown hOo1 hg3 hap.symm; have hap3 := Apart.step hap hOo1 hat3; have hsz3 := Nat.le_trans hsz1 hK3.size; have hpu3 := hpu W3 hF3)
        | (go_at_call 12; ((with_reducible refine hpu3.mono ?_); rintro e4 W4 ⟨rfl, hF4, hK4⟩; have hC4 := below_kept hC3 hK4 hC3.size hSx; have hO34 := own_kept (own_kept hO3 hK4 hltx) ((Kept.refl [] W4).alloc (.cells #[.int .i64 r] 2)) (by simp); have hOo4 := own_kept hOo3 hK4 hltx; have hP4 := one_ready 2 r hOo4 hC4; have hF4a := kit.kept hF4 ((Kept.refl [] W4).alloc (.cells #[.int .i64 r] 2)) (fun _ _ h => by cases h); have hsz4 : W1.heap.size ≤ (W4.alloc (.cells #[.int .i64 r] 2)).heap.size := Nat.le_trans hsz3 (Nat.le_trans hK4.size (by simp))))
        | (at_builtin; refine wpList_append_vals rfl (.tmp 50) (.tmp 54) _ rfl W1.heap.size 2 8 (by omega) Try.underlying22 HInfo.out (.slice Ao j co) j (outsT lowT [] g.reverse) rfl (by exact hP4.1) _ 1 1 [r] rfl (by exact hP4.2.2) (by omega) (by exact hsz4) ?_; intro v5 W5 hO5 hg5 hat5; have hK5 := Kept.of_grown hg5; have hC5 := below_kept hP4.2.1 hK5 hP4.2.1.size (fun k hk => Nat.le_trans hz1 (own_in hP4.1 k hk)); have hF5 := kit.kept hF4a hK5 (fun k hk => own_apart hP4.1 (hltx k hk)); have hO35 := own_grown hO34 hg5 hap3; have hap5 := (Apart.step hap3.symm hO34 hat5).symm; have hsz5 := Nat.le_trans hsz4 hK5.size; obtain ⟨A5, c5, rfl, hc51, hc52, hV5, _, _⟩ := Vals.own hO5; have hk9 := back_any A5 (j + 1) c5 _ 0 0 W5 hV5 (by omega) rfl (by omega); rw [show (outsT lowT [] g.reverse ++ [r]).reverse.getD 0 0 = r by simp] at hk9; have HO := Lib.hid (And.intro hO35 hO5); clear hV5)
        | (go_at_call 14; ((with_reducible refine hk9.mono ?_); rintro e5 w5 ⟨rfl, rfl⟩; have hs1 := HS.out)))
      go_roundw
      case rel => exact ⟨j + 1, by omega, by go_num, by rw [HT.out]; exact HO.out.1, by rw [HT.out, HSO.out]; exact HO.out.2, hap5, by rw [HT.out]; simpa using hF5, hC5, hsz5⟩
      case measure => simp [intOf]; omega
    · obtain rfl : j = p := by omega
      go_wp2_with (go_at_call 13; ((with_reducible refine (live_k _).mono ?_); rintro e W9 ⟨rfl, hN⟩))
      go_ret
      exact ⟨rfl, hC.trans (hN.mono hC.size)⟩

theorem own : ownKnob Try.prog.godebug = none := by kernel_rfl
theorem laidOut : laidOutB Try.prog = true := by kernel_rfl

/-! ### The row's step -/
set_option maxRecDepth 100000 in
theorem lifted (os : Os) (started : os.Started) (H : Type) (enc : TypeId × Value → H) :
    ReturnsInHanded {} Try.checked os 6 .any (Rows.lowStepsSpec.pre6 enc Try.prog Try.f6 Rows.lowStepsRow.domain false) (Rows.lowStepsSpec.post enc Try.prog Try.f6 false true false false) := by
  refine returnsInHanded_of_change (C := Try.checked) own started (by kernel_rfl) Try.func6
    (ChangeSpec.witness6 (enc := enc) (C := Try.checked) false ⟨#[], #[.slice none 0 0], []⟩ 8 (by kernel_rfl) (by kernel_rfl) (by kernel_rfl) (by kernel_rfl)) ?_
  intro W base args ds gs before hval0 hW hcnd _
  have hval : ∀ (j : Nat) t v, Try.f6.params[j]? = some t → args[j]? = some v → Value.okWide Try.prog W .any base t v := hval0
  have hW' := hW
  obtain ⟨p, q, hA0, hV, rfl, hfz, hnd⟩ := hW
  have hA : DataW.TrodAll enc Try.prog W 0 (fun _ => true) true Try.f6.params.toList args.toList ds p := hA0
  rw [Try.params6] at hA hval
  obtain ⟨v0, vs0, d0, ds0, p0, q0, hargs, rfl, rfl, h0, r0⟩ := trodAll_cons hA
  obtain ⟨rfl, rfl, rfl⟩ := trodAll_nil r0
  obtain rfl : args = #[v0] := by cases args; simp_all
  obtain ⟨rfl, rfl⟩ := trodVars_none hV
  obtain ⟨a0, len0, cap0, rfl⟩ := okWide_slice Try.underlying33 (hval 0 33 v0 rfl rfl)
  have k0 := h0
  have lt0 : ∀ x ∈ p0, x.block < W.heap.size := by obtain ⟨m, hm⟩ := k0; exact DataW.trod_lt m _ _ _ hm
  obtain ⟨z0, w0⟩ : ∃ zs, IsRow .i16 W a0 len0 cap0 zs := by
    obtain ⟨fuel, hf⟩ := h0
    rcases open_ints Try.underlying33 Try.underlying35 (by kernel_rfl) hf with ⟨hcs, _⟩ | ⟨x, l, c, zs, hcs, hx, hl, hm, hz, _, hcell, hwz⟩
    · simp [Value.cells] at hcs
      obtain ⟨rfl, rfl, rfl⟩ := hcs
      exact ⟨[], .inl ⟨rfl, rfl, rfl, rfl⟩⟩
    · simp [Value.cells] at hcs
      obtain ⟨rfl, rfl, rfl⟩ := hcs
      exact ⟨zs, isRow_some hl hm (by simpa using hz) hcell hwz⟩
  clear hA0 hval0
  refine (walk a0 len0 cap0 z0 W w0).mono fun e W' ⟨he, bel⟩ => ?_
  subst he
  exact ⟨_, rfl, _, _, _, [], _, [], hW', trodAll_mk1 (shut_bool Try.underlying4 _), (trodAll_cons_mk (Below.trod laidOut (by kernel_rfl) (of_decide_eq_true (by kernel_rfl)) k0 bel lt0) trodAll_mk0), rfl, bel.frame _, fun h => by cases h⟩

theorem over : Rows.lowStepsRow.holds Try.pinned (OpenSpec.ofChange Rows.lowStepsSpec) :=
  OpenClaim.holds_of_wide 6 Try.f6 rfl rfl rfl rfl rfl rfl rfl ⟨rfl, rfl, rfl, rfl, rfl⟩ rfl rfl rfl rfl rfl (by kernel_rfl) Try.func6 (by kernel_rfl)
    (of_decide_eq_true (by kernel_rfl)) (by unfold Func.isWrapper; first | (rw [if_pos (by decide +kernel)]; kernel_rfl) | (rw [if_neg (by decide +kernel)]; exact ⟨rfl, rfl⟩))
    (fun os started H enc _ => lifted os started H enc)

theorem proved : Rows.LowStepsSaid := over
#print axioms proved
end Go.Proofs.Ytnecdglokkljfaa.lowSteps
