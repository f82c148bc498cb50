/- What frame's calls answer. -/
import Derived.Test.YtokgcbdpmbjagaaFrameLookCode
import Derived.Test.YtokgcbdpmbjagaaFrameRefMake
import Derived.Test.YtokgcbdpmbjagaaCrcCodeD
set_option linter.unusedSimpArgs false
set_option linter.unusedVariables false
namespace Go.Proofs.Ytokgcbdpmbjagaa.Frm
open Go.RowKit RU8
theorem makeE_range (l : List Samp) : 0 ≤ makeE l ∧ makeE l ≤ 1 := by unfold makeE; split <;> omega
theorem flag_any (off : Bool) (w : World) : Calls Try.prog 17 #[.bool off] w fun e w' => e = .returned (.int .u8 (if off then 1 else 0 : Nat)) ∧ w = w' := by
  cases off
  · go_enter Try.func17, Try.ntmps17
    go_wp2
    go_ret
    exact ⟨rfl, rfl⟩
  · go_enter Try.func17, Try.ntmps17
    go_wp2
    go_ret
    exact ⟨rfl, rfl⟩
theorem beyond_any (s : Samp) (w : World) : Calls Try.prog 16 #[.agg #[.int .i32 s.1, .bool s.2]] w fun e w' => e = .returned (.bool (decide (¬ Fits s))) ∧ Below w.heap.size w w' := by
  obtain ⟨v, off⟩ := s
  have hB := (Below.refl w.heap.size w).alloc (Nat.le_refl _) (.cells #[.int .i32 v, .bool off] 46)
  have hf : Fits (v, off) ↔ -32768 ≤ v ∧ v ≤ 32767 := Iff.rfl
  rcases (by omega : v < -32768 ∨ (¬ v < -32768 ∧ 32767 < v) ∨ (¬ v < -32768 ∧ ¬ 32767 < v)) with h | h | h
  · have hd : decide (¬ Fits (v, off)) = true := decide_eq_true (by rw [hf]; omega)
    rw [hd]
    clear hd hf
    go_enter Try.func16, Try.ntmps16
    go_wp2
    go_ret
    exact ⟨rfl, hB⟩
  · have hd : decide (¬ Fits (v, off)) = true := decide_eq_true (by rw [hf]; omega)
    rw [hd]
    obtain ⟨h1, h2⟩ := h
    clear hd hf
    go_enter Try.func16, Try.ntmps16
    go_wp2
    go_ret
    exact ⟨rfl, hB⟩
  · have hd : decide (¬ Fits (v, off)) = false := decide_eq_false (by rw [hf]; omega)
    rw [hd]
    obtain ⟨h1, h2⟩ := h
    clear hd hf
    go_enter Try.func16, Try.ntmps16
    go_wp2
    go_ret
    exact ⟨rfl, hB⟩
theorem index_any (A : Option Addr) (n c : Nat) (ys : List Samp) (w : World) (hv : Row.Vals sampS w A n ys) (hn : n ≤ 1000) :
    Calls Try.prog 26 #[.slice A n c, .func (.func 16) #[] #[]] w fun e w' => (∃ r : Int, e = .returned (.int .i64 r) ∧ -1 ≤ r ∧ r ≤ 1000 ∧ (0 ≤ r ↔ ¬ ∀ s ∈ ys, Fits s)) ∧ Below w.heap.size w w' := by
  have hlen := hv.len_
  have hall : (∀ k, k < n → Fits (ys.getD k (0, false))) → ∀ s ∈ ys, Fits s := fun h s hs => by
    obtain ⟨i, hi, rfl⟩ := List.getElem_of_mem hs
    have := h i (by omega)
    rwa [List.getD_eq_getElem?_getD, List.getElem?_eq_getElem hi] at this
  have hbad : ∀ k, k < n → ¬ Fits (ys.getD k (0, false)) → ¬ ∀ s ∈ ys, Fits s := fun k hk h h1 => h (h1 _ (by rw [List.getD_eq_getElem?_getD, List.getElem?_eq_getElem (by omega)]; exact List.getElem_mem _))
  have HAll := Lib.hid hall
  have HBad := Lib.hid hbad
  clear hall hbad
  go_enter Try.func26, Try.ntmps26
  go_wp2
  go_loopw [8] (fun i wr => ∃ j : Nat, j ≤ n ∧ i = .int .i64 (j : Nat) ∧ (∀ k, k < j → Fits (ys.getD k (0, false))) ∧ Below w.heap.size w wr) (fun i _ => n - (intOf i).toNat)
  case atStart => exact ⟨0, by omega, rfl, fun k hk => absurd hk (by omega), Below.refl _ _⟩
  case round =>
    obtain ⟨j, hj, rfl, hfit, hB⟩ := hrel
    have HF := Lib.hid hfit
    clear hfit
    by_cases hjn : j < n
    · have hvr := hv.below hB
      obtain ⟨x, rfl, _⟩ := hv.cells (by omega)
      obtain ⟨hc0, hc1⟩ := samp_cells hvr j hjn
      have hby := beyond_any (ys.getD j (0, false)) wr
      have HB2 := Lib.hid (HBad.out j hjn)
      obtain ⟨s, hs⟩ : ∃ s, ys.getD j (0, false) = s := ⟨_, rfl⟩
      rw [hs] at hc0 hc1 hby HB2
      have HS := Lib.hid hs
      clear hs hv hvr
      obtain ⟨v, off⟩ := s
      by_cases hfs : Fits (v, off)
      · have hd : decide (¬ Fits (v, off)) = false := decide_eq_false (fun h => h hfs)
        rw [hd] at hby
        have HFS := Lib.hid hfs
        clear hd hfs
        go_wp2_with (go_at_call 16; ((with_reducible refine hby.mono ?_); rintro e w' ⟨rfl, hB2⟩))
        go_roundw
        case rel => exact ⟨j + 1, by omega, by go_num, (fun k hk => by
          rcases (by omega : k < j ∨ k = j) with h | rfl
          · exact HF.out k h
          · rw [HS.out]; exact HFS.out), hB.trans (hB2.mono hB.size)⟩
        case measure => simp [intOf]; omega
      · have hd : decide (¬ Fits (v, off)) = true := decide_eq_true hfs
        rw [hd] at hby
        have HFS := Lib.hid hfs
        clear hd hfs
        go_wp2_with (go_at_call 16; ((with_reducible refine hby.mono ?_); rintro e w' ⟨rfl, hB2⟩))
        go_ret
        exact ⟨⟨(j : Int), rfl, by omega, by omega, ⟨fun _ => HB2.out HFS.out, fun _ => by omega⟩⟩, hB.trans (hB2.mono hB.size)⟩
    · obtain rfl : j = n := by omega
      clear hv
      go_wp2
      go_ret
      exact ⟨⟨-1, rfl, by omega, by omega, ⟨fun h => absurd h (by omega), fun h => absurd (HAll.out HF.out) h⟩⟩, hB⟩
theorem contains_any (A : Option Addr) (n c : Nat) (ys : List Samp) (w : World) (hv : Row.Vals sampS w A n ys) (hn : n ≤ 1000) :
    Calls Try.prog 15 #[.slice A n c, .func (.func 16) #[] #[]] w fun e w' => e = .returned (.bool (decide (¬ ∀ s ∈ ys, Fits s))) ∧ Below w.heap.size w w' := by
  have hi := index_any A n c ys w hv hn
  clear hv
  by_cases h : ∀ s ∈ ys, Fits s
  · have hd : decide (¬ ∀ s ∈ ys, Fits s) = false := decide_eq_false (fun h1 => h1 h)
    rw [hd]
    have H := Lib.hid h
    clear h hd
    go_enter Try.func15, Try.ntmps15
    go_wp2_with (go_at_call 26; ((with_reducible refine hi.mono ?_); rintro e w' ⟨⟨r, rfl, h1, h2, h3⟩, hB2⟩; have h4 : ¬ 0 ≤ r := (fun h5 => h3.1 h5 H.out); clear h3))
    go_ret
    exact ⟨Crc.ret_bool (decide_eq_false (by omega)), hB2⟩
  · have hd : decide (¬ ∀ s ∈ ys, Fits s) = true := decide_eq_true h
    rw [hd]
    have H := Lib.hid h
    clear h hd
    go_enter Try.func15, Try.ntmps15
    go_wp2_with (go_at_call 26; ((with_reducible refine hi.mono ?_); rintro e w' ⟨⟨r, rfl, h1, h2, h3⟩, hB2⟩; have h4 : 0 ≤ r := h3.2 H.out; clear h3))
    go_ret
    exact ⟨rfl, hB2⟩
theorem wp_append_vals {P : Program} {w : World} {o : Oper} {a : Act} {K : Act → World → Prop} {Q : Exit → Act → World → Prop} (s x : Operand) (t : TypeId)
    (ho : o.op = .call { callee := .builtin .append, args := #[s, x], argTypes := #[t, t] })
    (base : Nat) (e : TypeId) (bytes : Nat) (hby : bytes ≤ 16) (ht : P.underlying t = some (.slice e)) (hinfo : (P.info? e).map (fun i => (i.zero, i.size, i.bytes)) = some (some (.int .u8 0), 1, bytes))
    (v : Value) (n : Nat) (xs : List Nat) (hs : a.eval s = v) (hown : w.ownsRow base e 1 v n (vals xs)) (A : Option Addr) (m c : Nat) (ys : List Nat) (hx : a.eval x = .slice A m c) (hr : Vals w A m ys)
    (h63 : n + m ≤ 1048576) (hbase : base ≤ w.heap.size)
    (h : ∀ v' w', w'.ownsRow base e 1 v' (n + m) (vals (xs ++ ys)) → w.grownBy w' v.ownBlock → (v'.ownBlock = v.ownBlock ∨ v'.ownBlock = some w.heap.size) → K (a.put o.dst v') w') : Oper.wp P o a w K Q := by
  obtain ⟨v', w', hrun, h2, h3, h4⟩ := run_append_vals (P := P) base t o.type e bytes hby ht hinfo v n xs hown A m c ys hr h63 hbase
  unfold Oper.wp execOp
  simp only [ho, resolve, invoke, builtin, Sem.run_bind, Sem.run_pure, Result.andThen_ok, List.map_toArray, List.map_cons, List.map_nil, hs, hx, hrun]
  exact h v' w' h2 h3 h4
theorem mayT_iff (ys : List Samp) : mayT ys = decide (1 ≤ ys.length ∧ ys.length ≤ 32 ∧ ∀ s ∈ ys, Fits s) := rfl
set_option maxRecDepth 100000 in
set_option maxHeartbeats 2000000 in
theorem make_any (seq : Nat) (hq : seq < 256) (A : Option Addr) (n c : Nat) (ys : List Samp) (w : World) (hv : Row.Vals sampS w A n ys) (hs : Small ys) (hn : n ≤ 9223372036854775807) :
    Calls Try.prog 8 #[.int .u8 seq, .slice A n c] w (MakeIs w seq ys) := by
  have hlen := hv.len_
  have hsz := fun W => size_any (n : Int) (by omega) W
  have hInfo : (Try.prog.info? 5).map (fun i => (i.zero, i.size, i.bytes)) = some (some (.int .u8 0), 1, 1) := by kernel_rfl
  have HInfo := Lib.hid hInfo
  clear hInfo
  by_cases hnn : (n : Int) < 1 ∨ 32 < (n : Int)
  · have hm : mayT ys = false := by rw [mayT_iff]; exact decide_eq_false (fun h => by omega)
    rw [show sizeZ (n : Int) = 0 by unfold sizeZ; rw [if_pos hnn]] at hsz
    have h1 : makeB seq ys = [] := by unfold makeB; rw [hm]; rfl
    have h2 : makeE ys = 1 := by unfold makeE; rw [hm]; rfl
    have H1 := Lib.hid h1
    have H2 := Lib.hid h2
    clear h1 h2 hm hv hnn
    go_enter Try.func8, Try.ntmps8
    go_wp2_with (go_at_call 10; ((with_reducible refine (hsz _).mono ?_); rintro e w' ⟨rfl, rfl⟩))
    go_ret2
    exact ⟨.slice none 0 0, none, 0, by rw [H1.out]; rfl, by rw [H2.out]; rfl, by rw [H1.out]; exact Nat.le_refl _, by omega, by rw [H1.out]; exact own_none _ _ _, Below.refl _ _⟩
  · have hn1 : 1 ≤ n := by omega
    have hn32 : n ≤ 32 := by omega
    rw [show sizeZ (n : Int) = 6 + 3 * (n : Int) by unfold sizeZ; rw [if_neg hnn]] at hsz
    have hsn : ¬ 6 + 3 * (n : Int) = 0 := by omega
    obtain ⟨z, hz⟩ : ∃ z, 6 + 3 * (n : Int) = z := ⟨_, rfl⟩
    rw [hz] at hsz hsn
    have hbz : (z == 0) = false := by simpa using hsn
    clear hz
    have hct := contains_any A n c ys w hv (by omega)
    clear hnn
    by_cases hfit : ∀ s ∈ ys, Fits s
    · have hm : mayT ys = true := by rw [mayT_iff]; exact decide_eq_true ⟨by omega, by omega, hfit⟩
      rw [decide_eq_false (fun h => h hfit)] at hct
      have h1 : makeB seq ys = frameT seq ys := by unfold makeB; rw [hm]; rfl
      have h2 : makeE ys = 0 := by unfold makeE; rw [hm]; rfl
      have H1 := Lib.hid h1
      have H2 := Lib.hid h2
      have HF := Lib.hid hfit
      clear h1 h2 hm hfit
      have hn8 : IntKind.u8.wrap (n : Int) = (n : Int) := by rw [IntKind.wrap_u8]; omega
      have hS32 := Lib.hid hs
      clear hs
      go_enter Try.func8, Try.ntmps8
      go_wp2_with (first
        | (go_at_call 10; ((with_reducible refine (hsz _).mono ?_); rintro e w' ⟨rfl, rfl⟩))
        | (go_at_call 15; ((with_reducible refine hct.mono ?_); rintro e W0 ⟨rfl, hB0⟩)))
      have hH0 := Has.new W0 5 #[.int .u8 seq, .int .u8 n]
      have hO0 : World.ownsRow (W0.alloc (.cells #[.int .u8 seq, .int .u8 n] 5)) w.heap.size 5 1 (.slice (some ⟨W0.heap.size, 0, none⟩) 2 2) 2 (vals [seq, n]) :=
        ⟨rfl, .inr ⟨_, 2, _, rfl, hB0.size, hH0, Nat.le_refl _, by unfold maxLen; omega, rfl, rfl⟩⟩
      have hB1 := hB0.alloc hB0.size (.cells #[.int .u8 seq, .int .u8 n] 5)
      go_loopw [6, 24] (fun v i wr => ∃ (j m : Nat), j ≤ n ∧ i = .int .i64 (j : Nat) ∧ m = 2 + 3 * j ∧ wr.ownsRow w.heap.size 5 1 v m (vals ([seq, n] ++ sampsT (ys.take j))) ∧ Below w.heap.size w wr) (fun _ i _ => n - (intOf i).toNat)
      case atStart => exact ⟨0, 2, by omega, rfl, rfl, hO0, hB1⟩
      case round =>
        clear hH0 hO0 hB1 hct hB0
        obtain ⟨j, m, hj, rfl, hmj, hO, hB⟩ := hrel
        have HM := Lib.hid hmj
        have hm98 : m ≤ 98 := by omega
        clear hmj
        by_cases hjn : j < n
        · have hvr := hv.below hB
          obtain ⟨x, rfl, _⟩ := hv.cells (by omega)
          obtain ⟨hc0, hc1⟩ := samp_cells hvr j hjn
          have hf := HF.out (ys.getD j (0, false)) (by rw [List.getD_eq_getElem?_getD, List.getElem?_eq_getElem (by omega)]; exact List.getElem_mem _)
          have hst := sampsT_take ys j (by omega)
          generalize ys.getD j (0, false) = s at *
          obtain ⟨v, off⟩ := s
          unfold Fits at hf
          replace hst : sampsT (ys.take (j + 1)) = sampsT (ys.take j) ++ [if off then 1 else 0, modT v % 256, modT v / 256] := hst
          have HST := Lib.hid hst
          clear hst
          have hlo : IntKind.u8.wrap v = ((modT v % 256 : Nat) : Int) := by rw [IntKind.wrap_u8]; unfold modT; omega
          have hhi : IntKind.u8.wrap (v / 256) = ((modT v / 256 : Nat) : Int) := by rw [IntKind.wrap_u8]; unfold modT; omega
          have hlob : modT v % 256 < 256 := by omega
          have hhib : modT v / 256 < 256 := by have := modT_lt v; omega
          generalize modT v % 256 = lo at *
          generalize modT v / 256 = hi at *
          obtain ⟨f, hf2⟩ : ∃ f : Nat, (if off then 1 else 0) = f := ⟨_, rfl⟩
          rw [hf2] at HST
          have hfl := fun W => flag_any off W
          rw [hf2] at hfl
          have hv32 : -2147483648 ≤ v ∧ v ≤ 2147483647 := by omega
          clear hf2
          go_wp2
          have hHb := Has.new wr 46 #[.int .i32 v, .bool off]
          refine Reg.begin_ (S := fun W => W.cell? ⟨wr.heap.size, 0, none⟩ = some (.int .i32 v) ∧ W.cell? ⟨wr.heap.size, 1, none⟩ = some (.bool off)) (by kernel_rfl) ⟨hHb.cell 0, hHb.cell 1⟩ (fun hHeld => ?_)
          have hOd := own_kept hO (((Kept.refl [] wr).alloc (.cells #[.int .i32 v, .bool off] 46)).drewN 1) (by simp)
          have hBd := below_drewN (hB.alloc hB.size (.cells #[.int .i32 v, .bool off] 46)) 1
          have hHd : Has ((wr.alloc (.cells #[.int .i32 v, .bool off] 46)).drewN 1) wr.heap.size 46 #[.int .i32 v, .bool off] := hHb.drewN 1
          change World.ownsRow (wr.alloc (.cells #[.int .i32 v, .bool off] 46)).drew _ _ _ _ _ _ at hOd
          change Below _ _ (wr.alloc (.cells #[.int .i32 v, .bool off] 46)).drew at hBd
          change Has (wr.alloc (.cells #[.int .i32 v, .bool off] 46)).drew _ _ _ at hHd
          generalize hwd : (wr.alloc (.cells #[.int .i32 v, .bool off] 46)).drew = wd at *
          obtain ⟨bb, hbb⟩ : ∃ bb, wr.heap.size = bb := ⟨_, rfl⟩
          rw [hbb] at hHd hHeld ⊢
          have hbw : w.heap.size ≤ bb := by rw [← hbb]; exact hB.size
          have hrow : ∀ k ∈ u6.ownBlock.toList, k ≠ bb := fun k hk e => by
            have h5 := (own_block hO k (by simpa using hk)).2
            omega
          clear hwd hbb hHb hO hB
          refine Reg.take (i := 0) (v := ?v1) rfl (by kernel_rfl) (by kernel_rfl) (by kernel_rfl) (by rfl) ?hv1 (by assumption) ?rest1
          case hv1 => first | (intro w hSw; (try dsimp only at hSw); go_simp; done) | (intro w hSw; (try dsimp only at hSw); go_simp; with_reducible rfl)
          (try simp only [Act.put, List.setIfInBounds_toArray, List.set_cons_zero, List.set_cons_succ])
          refine Reg.take (i := 1) (v := ?v2) rfl (by kernel_rfl) (by kernel_rfl) (by kernel_rfl) (by rfl) ?hv2 (by assumption) ?rest2
          case hv2 => first | (intro w hSw; (try dsimp only at hSw); go_simp; done) | (intro w hSw; (try dsimp only at hSw); go_simp; with_reducible rfl)
          (try simp only [Act.put, List.setIfInBounds_toArray, List.set_cons_zero, List.set_cons_succ])
          refine Reg.take (i := 2) (v := ?v3) rfl (by kernel_rfl) (by kernel_rfl) (by kernel_rfl) (by rfl) ?hv3 (by assumption) ?rest3
          case hv3 => first | (intro w hSw; (try dsimp only at hSw); go_simp; done) | (intro w hSw; (try dsimp only at hSw); go_simp; with_reducible rfl)
          (try simp only [Act.put, List.setIfInBounds_toArray, List.set_cons_zero, List.set_cons_succ])
          refine Reg.take (i := 4) (v := ?v4) rfl (by kernel_rfl) (by kernel_rfl) (by kernel_rfl) (by rfl) ?hv4 (by assumption) ?rest4
          case hv4 => first | (intro w hSw; (try dsimp only at hSw); go_simp; done) | (intro w hSw; (try dsimp only at hSw); go_simp; with_reducible rfl)
          (try simp only [Act.put, List.setIfInBounds_toArray, List.set_cons_zero, List.set_cons_succ])
          refine Reg.take (i := 5) (v := ?v5) rfl (by kernel_rfl) (by kernel_rfl) (by kernel_rfl) (by rfl) ?hv5 (by assumption) ?rest5
          case hv5 => first | (intro w hSw; (try dsimp only at hSw); go_simp; done) | (intro w hSw; (try dsimp only at hSw); go_simp; with_reducible rfl)
          (try simp only [Act.put, List.setIfInBounds_toArray, List.set_cons_zero, List.set_cons_succ])
          refine Reg.take (i := 6) (v := ?v6) rfl (by kernel_rfl) (by kernel_rfl) (by kernel_rfl) (by rfl) ?hv6 (by assumption) ?rest6
          case hv6 => first | (intro w hSw; (try dsimp only at hSw); go_simp; done) | (intro w hSw; (try dsimp only at hSw); go_simp; with_reducible rfl)
          (try simp only [Act.put, List.setIfInBounds_toArray, List.set_cons_zero, List.set_cons_succ])
          refine Reg.take (i := 7) (v := ?v7) rfl (by kernel_rfl) (by kernel_rfl) (by kernel_rfl) (by rfl) ?hv7 (by assumption) ?rest7
          case hv7 => first | (intro w hSw; (try dsimp only at hSw); go_simp; done) | (intro w hSw; (try dsimp only at hSw); go_simp; with_reducible rfl)
          (try simp only [Act.put, List.setIfInBounds_toArray, List.set_cons_zero, List.set_cons_succ])
          refine Reg.take (i := 8) (v := ?v8) rfl (by kernel_rfl) (by kernel_rfl) (by kernel_rfl) (by rfl) ?hv8 (by assumption) ?rest8
          case hv8 => first | (intro w hSw; (try dsimp only at hSw); go_simp; done) | (intro w hSw; (try dsimp only at hSw); go_simp; with_reducible rfl)
          (try simp only [Act.put, List.setIfInBounds_toArray, List.set_cons_zero, List.set_cons_succ])
          refine Reg.take (i := 9) (v := ?v9) rfl (by kernel_rfl) (by kernel_rfl) (by kernel_rfl) (by rfl) ?hv9 (by assumption) ?rest9
          case hv9 => first | (intro w hSw; (try dsimp only at hSw); go_simp; done) | (intro w hSw; (try dsimp only at hSw); go_simp; with_reducible rfl)
          (try simp only [Act.put, List.setIfInBounds_toArray, List.set_cons_zero, List.set_cons_succ])
          refine Reg.take (i := 10) (v := ?v10) rfl (by kernel_rfl) (by kernel_rfl) (by kernel_rfl) (by rfl) ?hv10 (by assumption) ?rest10
          case hv10 => first | (intro w hSw; (try dsimp only at hSw); go_simp; done) | (intro w hSw; (try dsimp only at hSw); go_simp; with_reducible rfl)
          (try simp only [Act.put, List.setIfInBounds_toArray, List.set_cons_zero, List.set_cons_succ])
          refine Reg.call (i := 3) rfl (by kernel_rfl) (by rfl) ?_
          intro K hK
          go_simp
          go_at_call 17
          (with_reducible refine (hfl _).mono ?_)
          rintro e9 w9 ⟨rfl, rfl⟩
          refine hK.out _ _ (by assumption) (fun hHeld2 => ?_)
          clear hK K
          (try simp only [Act.put, List.setIfInBounds_toArray, List.set_cons_zero, List.set_cons_succ])
          have hHa := hHd.alloc (.cells #[.int .u8 f, .int .u8 lo, .int .u8 hi] 5)
          have hOa := own_kept hOd ((Kept.refl [] wd).alloc (.cells #[.int .u8 f, .int .u8 lo, .int .u8 hi] 5)) (by simp)
          have hBa := hBd.alloc hBd.size (.cells #[.int .u8 f, .int .u8 lo, .int .u8 hi] 5)
          have hVn : Vals (wd.alloc (.cells #[.int .u8 f, .int .u8 lo, .int .u8 hi] 5)) (some ⟨wd.heap.size, 0, none⟩) 3 [f, lo, hi] := Vals.has (ys := [f, lo, hi]) (tl := []) (Has.new wd _ _)
          refine Reg.call (i := 11) rfl (by kernel_rfl) (by rfl) ?_
          intro K hK
          go_simp
          refine hK.out _ _ ⟨hHa.cell 0, hHa.cell 1⟩ (fun hHeld3 => ?_)
          clear hK K
          (try simp only [Act.put, List.setIfInBounds_toArray, List.set_cons_zero, List.set_cons_succ])
          refine Reg.call (i := 12) rfl (by kernel_rfl) (by rfl) ?_
          intro K hK
          refine wp_append_vals (.tmp 28) (.tmp 39) _ rfl w.heap.size 5 1 (by omega) Try.underlying24 HInfo.out u6 m ([seq, n] ++ sampsT (ys.take j)) rfl (by exact hOa) (some ⟨wd.heap.size, 0, none⟩) 3 3 [f, lo, hi] rfl hVn (by omega) hBa.size ?_
          intro v9 W3 hO1 hg1 hat1
          have hK1 := Kept.of_grown hg1
          have hH3 := hK1.has hHa (fun hm => hrow bb hm rfl)
          have hB3 := below_kept hBa hK1 hBa.size (own_in hOa)
          refine hK.out _ _ ⟨hH3.cell 0, hH3.cell 1⟩ (fun hHeld4 => ?_)
          clear hK K
          (try simp only [Act.put, List.setIfInBounds_toArray, List.set_cons_zero, List.set_cons_succ])
          refine Reg.take (i := 13) (v := ?v11) rfl (by kernel_rfl) (by kernel_rfl) (by kernel_rfl) (by rfl) ?hv11 (by assumption) ?rest11
          case hv11 => first | (intro w hSw; (try dsimp only at hSw); go_simp; done) | (intro w hSw; (try dsimp only at hSw); go_simp; with_reducible rfl)
          (try simp only [Act.put, List.setIfInBounds_toArray, List.set_cons_zero, List.set_cons_succ])
          refine Reg.done (by kernel_rfl) ?_ _
          go_wp2
          go_roundw
          case rel => exact ⟨j + 1, m + 3, by omega, by go_num, by have := HM.out; omega, by rw [HST.out, ← List.append_assoc]; exact hO1, hB3⟩
          case measure => simp [intOf]; omega
        · have hjn2 : j = n := by omega
          subst hjn2
          have hbody : [seq, j] ++ sampsT (ys.take j) = bodyT seq ys := by rw [List.take_of_length_le (by omega)]; unfold bodyT; rw [hlen]; rfl
          rw [hbody] at hO
          obtain ⟨A9, c9, rfl, e1, e2, hV9, _⟩ := Vals.own hO
          have hbb := bodyT_bytes (seq := seq) (l := ys) hq (by omega)
          have hfin := Lib.hid (show [165, 90] ++ Crc.sealZ (bodyT seq ys) = frameT seq ys from rfl)
          have hfl := frameT_length seq ys
          have hseal := Crc.seal_any A9 m c9 (bodyT seq ys) (wr.alloc (.cells #[.int .u8 165, .int .u8 90] 5)) (hV9.alloc _) hbb (by omega)
          have hHx := Has.new wr 5 #[.int .u8 165, .int .u8 90]
          have hBa := hB.alloc hB.size (.cells #[.int .u8 165, .int .u8 90] 5)
          have hsz : (wr.alloc (.cells #[.int .u8 165, .int .u8 90] 5)).heap.size = wr.heap.size + 1 := by simp
          have hml : 2 + (m + 2) = (frameT seq ys).length := by rw [hfl, hlen]; have := HM.out; omega
          unfold Crc.Sealed at hseal
          generalize Crc.sealZ (bodyT seq ys) = Z at *
          clear hbody hbb hfl hO hv
          go_wp2_with (first
            | (go_at_call 18; ((with_reducible refine hseal.mono ?_); rintro e W2 ⟨v2, rfl, hO2, hB2⟩; have hBb := hBa.trans (hB2.mono hBa.size); have hHy := hHx.below hB2 (by rw [hsz]; omega); obtain ⟨A8, c8, rfl, e3, e4, hV8, _⟩ := Vals.own hO2; have hO165 : World.ownsRow W2 w.heap.size 5 1 (.slice (some ⟨wr.heap.size, 0, none⟩) 2 2) 2 (vals [165, 90]) := ⟨rfl, .inr ⟨_, 2, _, rfl, hB.size, hHy, Nat.le_refl _, by unfold maxLen; omega, rfl, rfl⟩⟩))
            | (at_builtin; refine wpList_append_vals rfl (.tmp 42) (.tmp 44) _ rfl w.heap.size 5 1 (by omega) Try.underlying24 HInfo.out (.slice (some ⟨wr.heap.size, 0, none⟩) 2 2) 2 [165, 90] rfl (by exact hO165) A8 (m + 2) c8 Z rfl (by exact hV8) (by omega) (by exact hBb.size) ?_; intro v3 W3 hO3 hg3 hat3; have hK3 := Kept.of_grown hg3; have hB3 := below_kept hBb hK3 hBb.size (own_in hO165); rw [hfin.out, hml] at hO3; obtain ⟨A7, c7, rfl, e5, e6, hV7, _⟩ := Vals.own hO3))
          go_ret2
          exact ⟨_, A7, c7, by rw [H1.out], by rw [H2.out]; rfl, by rw [H1.out]; exact e5, e6, by rw [H1.out]; exact hO3, hB3⟩
    · have hm : mayT ys = false := by rw [mayT_iff]; exact decide_eq_false (fun h => hfit h.2.2)
      rw [decide_eq_true hfit] at hct
      have h1 : makeB seq ys = [] := by unfold makeB; rw [hm]; rfl
      have h2 : makeE ys = 1 := by unfold makeE; rw [hm]; rfl
      have H1 := Lib.hid h1
      have H2 := Lib.hid h2
      clear h1 h2 hm hv hfit
      go_enter Try.func8, Try.ntmps8
      go_wp2_with (first
        | (go_at_call 10; ((with_reducible refine (hsz _).mono ?_); rintro e w' ⟨rfl, rfl⟩))
        | (go_at_call 15; ((with_reducible refine hct.mono ?_); rintro e W0 ⟨rfl, hB0⟩)))
      go_ret2
      exact ⟨.slice none 0 0, none, 0, by rw [H1.out]; rfl, by rw [H2.out]; rfl, by rw [H1.out]; exact Nat.le_refl _, by omega, by rw [H1.out]; exact own_none _ _ _, hB0⟩
end Go.Proofs.Ytokgcbdpmbjagaa.Frm
