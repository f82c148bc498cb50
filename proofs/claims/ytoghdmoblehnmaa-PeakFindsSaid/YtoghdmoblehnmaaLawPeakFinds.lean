/- Whatever steps come in, PeakFinds answers true, and writes nothing that was there. -/
import Derived.Test.YtoghdmoblehnmaaRows
import Derived.ShutString
import Derived.ChangeOld
import Derived.Below
import Derived.Test.YtoghdmoblehnmaaLawKit
import Derived.Test.YtoghdmoblehnmaaPeakLive
import Derived.Test.YtoghdmoblehnmaaPeakArgs
import Derived.Test.YtoghdmoblehnmaaPeakRefAll
import Derived.Test.YtoghdmoblehnmaaRegionMore
import Derived.Deep.DeepCutAuto
import Derived.Test.YtoghdmoblehnmaaFlat
set_option linter.unusedSimpArgs false
set_option linter.unusedVariables false
namespace Go.Proofs.Ytoghdmoblehnmaa.peakFinds
open Go.ChangeShapes Go.WideShapes Go.ChangeAt Go.RowKit
open Go.ChangeMaps (open_string shut_string)
open Peak
/-- Where the loop stands: these steps have come since it was made, or reset. -/
structure At (w0 : World) (base b : Nat) (vw vd vg : Value) (L : List (Int × Int)) (W : World) : Prop where
  rw_ : W.ownsRow base 2 1 vw L.length (RI64.vals (L.map Prod.fst))
  rd : W.ownsRow base 2 1 vd L.length (RI64.vals (L.map Prod.snd))
  rg : W.ownsRow base 30 4 vg (Peak.runT (.falls none) 0 L).1.length (Row.flat peakS (Peak.runT (.falls none) 0 L).1)
  wd : Apart vw vd
  wg : Apart vw vg
  dg : Apart vd vg
  fil : Fil W b (Peak.runT (.falls none) 0 L).2 (L.length : Int)
  below : Below w0.heap.size w0 W
  base_ : base ≤ W.heap.size
/-- .. within a round: the step lies in block g; the rows have these numbers, and these peaks. -/
structure Mid (w0 : World) (base b g : Nat) (sw sd : Int) (vw : Value) (xs : List Int) (vd : Value) (ys : List Int) (vg : Value) (ps : List Pk) (s : St) (n : Int) (W : World) : Prop where
  rw_ : W.ownsRow base 2 1 vw xs.length (RI64.vals xs)
  rd : W.ownsRow base 2 1 vd ys.length (RI64.vals ys)
  rg : W.ownsRow base 30 4 vg ps.length (Row.flat peakS ps)
  wd : Apart vw vd
  wg : Apart vw vg
  dg : Apart vd vg
  fil : Fil W b s n
  below : Below w0.heap.size w0 W
  base_ : base ≤ W.heap.size
  x : Has W g 28 #[.int .i64 sw, .int .i64 sd]
  gw : ∀ k, vw.ownBlock = some k → k ≠ g
  gd : ∀ k, vd.ownBlock = some k → k ≠ g
  gg : ∀ k, vg.ownBlock = some k → k ≠ g
  bb : b < base
  gb : base ≤ g
  b0 : w0.heap.size ≤ b
section
variable {w0 : World} {base b g : Nat} {sw sd : Int} {vw : Value} {xs : List Int} {vd : Value} {ys : List Int} {vg : Value} {ps : List Pk} {s : St} {n : Int} {W W' : World}
theorem Mid.kept {T : List Nat} (M : Mid w0 base b g sw sd vw xs vd ys vg ps s n W) (hK : Kept T W W') (h1 : ∀ k, vw.ownBlock = some k → k ∉ T) (h2 : ∀ k, vd.ownBlock = some k → k ∉ T) (h3 : ∀ k, vg.ownBlock = some k → k ∉ T) (hb : b ∉ T) (hg : g ∉ T) (hT : ∀ k ∈ T, w0.heap.size ≤ k) : Mid w0 base b g sw sd vw xs vd ys vg ps s n W' :=
  ⟨own_off M.rw_ hK h1, own_off M.rd hK h2, own_off M.rg hK h3, M.wd, M.wg, M.dg, M.fil.kept hK hb, below_kept M.below hK M.below.size hT, Nat.le_trans M.base_ hK.size, hK.has M.x hg, M.gw, M.gd, M.gg, M.bb, M.gb, M.b0⟩
theorem Mid.alloc (M : Mid w0 base b g sw sd vw xs vd ys vg ps s n W) (o : Obj) : Mid w0 base b g sw sd vw xs vd ys vg ps s n (W.alloc o) :=
  M.kept ((Kept.refl [] W).alloc o) (fun _ _ => by simp) (fun _ _ => by simp) (fun _ _ => by simp) (by simp) (by simp) (by simp)
theorem Mid.drewN (M : Mid w0 base b g sw sd vw xs vd ys vg ps s n W) (z : Nat) : Mid w0 base b g sw sd vw xs vd ys vg ps s n (W.drewN z) :=
  M.kept ((Kept.refl [] W).drewN z) (fun _ _ => by simp) (fun _ _ => by simp) (fun _ _ => by simp) (by simp) (by simp) (by simp)
theorem Mid.wb (M : Mid w0 base b g sw sd vw xs vd ys vg ps s n W) : w0.heap.size ≤ base := Nat.le_of_lt (Nat.lt_of_le_of_lt M.b0 M.bb)
theorem own_new {v v' : Value} {e : TypeId} {k : Nat} {us : List Value} (hg : ∀ k, v.ownBlock = some k → k ≠ g) (hx : g < W.heap.size) (hat : v'.ownBlock = v.ownBlock ∨ v'.ownBlock = some W.heap.size) : ∀ k, v'.ownBlock = some k → k ≠ g := by
  intro k hk he
  rcases hat with hat | hat
  · exact hg k (hat ▸ hk) he
  · rw [hat] at hk
    injection hk with hk
    omega
/-- The first row has grown. -/
theorem Mid.growW {v' : Value} {zs : List Int} (M : Mid w0 base b g sw sd vw xs vd ys vg ps s n W) (hO : W'.ownsRow base 2 1 v' zs.length (RI64.vals zs)) (hg : W.grownBy W' vw.ownBlock) (hat : v'.ownBlock = vw.ownBlock ∨ v'.ownBlock = some W.heap.size) : Mid w0 base b g sw sd v' zs vd ys vg ps s n W' := by
  have hK := Kept.of_grown hg
  exact ⟨hO, own_grown M.rd hg M.wd.symm, own_grown M.rg hg M.wg.symm, Apart.step M.wd M.rd hat, Apart.step M.wg M.rg hat, M.dg, M.fil.kept hK (own_apart M.rw_ M.bb), below_kept M.below hK M.below.size (fun k hk => Nat.le_trans M.wb (own_in M.rw_ k hk)), Nat.le_trans M.base_ hK.size,
    hK.has M.x (fun hm => M.gw g (by simpa using hm) rfl), own_new (e := 0) (k := 0) (us := []) M.gw M.x.lt hat, M.gd, M.gg, M.bb, M.gb, M.b0⟩
/-- The second row has grown. -/
theorem Mid.growD {v' : Value} {zs : List Int} (M : Mid w0 base b g sw sd vw xs vd ys vg ps s n W) (hO : W'.ownsRow base 2 1 v' zs.length (RI64.vals zs)) (hg : W.grownBy W' vd.ownBlock) (hat : v'.ownBlock = vd.ownBlock ∨ v'.ownBlock = some W.heap.size) : Mid w0 base b g sw sd vw xs v' zs vg ps s n W' := by
  have hK := Kept.of_grown hg
  exact ⟨own_grown M.rw_ hg M.wd, hO, own_grown M.rg hg M.dg.symm, (Apart.step M.wd.symm M.rw_ hat).symm, M.wg, Apart.step M.dg M.rg hat, M.fil.kept hK (own_apart M.rd M.bb), below_kept M.below hK M.below.size (fun k hk => Nat.le_trans M.wb (own_in M.rd k hk)), Nat.le_trans M.base_ hK.size,
    hK.has M.x (fun hm => M.gd g (by simpa using hm) rfl), M.gw, own_new (e := 0) (k := 0) (us := []) M.gd M.x.lt hat, M.gg, M.bb, M.gb, M.b0⟩
/-- The peaks have grown. -/
theorem Mid.growG {v' : Value} {qs : List Pk} (M : Mid w0 base b g sw sd vw xs vd ys vg ps s n W) (hO : W'.ownsRow base 30 4 v' qs.length (Row.flat peakS qs)) (hg : W.grownBy W' vg.ownBlock) (hat : v'.ownBlock = vg.ownBlock ∨ v'.ownBlock = some W.heap.size) : Mid w0 base b g sw sd vw xs vd ys v' qs s n W' := by
  have hK := Kept.of_grown hg
  exact ⟨own_grown M.rw_ hg M.wg, own_grown M.rd hg M.dg, hO, M.wd, (Apart.step M.wg.symm M.rw_ hat).symm, (Apart.step M.dg.symm M.rd hat).symm, M.fil.kept hK (own_apart M.rg M.bb), below_kept M.below hK M.below.size (fun k hk => Nat.le_trans M.wb (own_in M.rg k hk)), Nat.le_trans M.base_ hK.size,
    hK.has M.x (fun hm => M.gg g (by simpa using hm) rfl), M.gw, M.gd, own_new (e := 0) (k := 0) (us := []) M.gg M.x.lt hat, M.bb, M.gb, M.b0⟩
/-- The finder has had the step. -/
theorem Mid.pushed {s' : St} {n' : Int} (M : Mid w0 base b g sw sd vw xs vd ys vg ps s n W) (hF : Fil W' b s' n') (hK : Kept [b] W W') : Mid w0 base b g sw sd vw xs vd ys vg ps s' n' W' := by
  have hb : ∀ k ∈ [b], k < base := by simpa using M.bb
  exact ⟨own_kept M.rw_ hK hb, own_kept M.rd hK hb, own_kept M.rg hK hb, M.wd, M.wg, M.dg, hF, below_kept M.below hK M.below.size (by simpa using M.b0), Nat.le_trans M.base_ hK.size, hK.has M.x (by have h1 := M.bb; have h2 := M.gb; simp; omega), M.gw, M.gd, M.gg, M.bb, M.gb, M.b0⟩
theorem Mid.at_ {L : List (Int × Int)} (M : Mid w0 base b g sw sd vw (L.map Prod.fst ++ [sw]) vd (L.map Prod.snd ++ [sd]) vg ps s ((L.length : Int) + 1) W) (hr : Peak.runT (.falls none) 0 (L ++ [(sw, sd)]) = (ps, s)) : At w0 base b vw vd vg (L ++ [(sw, sd)]) W := by
  have hl : (L ++ [(sw, sd)]).length = L.length + 1 := by simp
  refine ⟨?_, ?_, by rw [hr]; exact M.rg, M.wd, M.wg, M.dg, by rw [hr, hl]; exact M.fil, M.below, M.base_⟩
  · have h := M.rw_
    rw [List.map_append]
    simpa using h
  · have h := M.rd
    rw [List.map_append]
    simpa using h
/-- All is begun anew. -/
theorem Mid.cleared (M : Mid w0 base b g sw sd vw xs vd ys vg ps s n W) : Mid w0 base b g sw sd (.slice none 0 0) [] (.slice none 0 0) [] (.slice none 0 0) [] s n W :=
  ⟨RI64.own_none _ _ _, RI64.own_none _ _ _, Row.own_none _ _ _, (fun k hk => by cases hk), (fun k hk => by cases hk), (fun k hk => by cases hk), M.fil, M.below, M.base_, M.x, (fun k hk => by cases hk), (fun k hk => by cases hk), (fun k hk => by cases hk), M.bb, M.gb, M.b0⟩
theorem At.mid {L : List (Int × Int)} (A : At w0 base b vw vd vg L W) (hb : b < base) (h0 : w0.heap.size ≤ b) : Mid w0 base b W.heap.size sw sd vw (L.map Prod.fst) vd (L.map Prod.snd) vg (Peak.runT (.falls none) 0 L).1 (Peak.runT (.falls none) 0 L).2 (L.length : Int) (W.alloc (.cells #[.int .i64 sw, .int .i64 sd] 28)) := by
  have hK := (Kept.refl [] W).alloc (.cells #[.int .i64 sw, .int .i64 sd] 28)
  refine ⟨?_, ?_, own_kept A.rg hK (by simp), A.wd, A.wg, A.dg, A.fil.alloc _, A.below.alloc A.below.size _, by have := A.base_; simp; omega, Has.new W _ _, ?_, ?_, ?_, hb, A.base_, h0⟩
  · rw [List.length_map]; exact own_kept A.rw_ hK (by simp)
  · rw [List.length_map]; exact own_kept A.rd hK (by simp)
  · exact fun k hk => by have := (own_block A.rw_ k hk).2; omega
  · exact fun k hk => by have := (own_block A.rd k hk).2; omega
  · exact fun k hk => by have := (own_block A.rg k hk).2; omega
end
set_option maxRecDepth 100000 in
set_option maxHeartbeats 2000000 in
theorem walk (a0 : Option Addr) (len0 cap0 : Nat) (z0 : List (Int × Int)) (a1 : Int) (w : World) (w0 : Row.IsFlat stepS AnyStep w a0 len0 cap0 z0) (w1 : (Lit.int .u8 a1).wf = true) :
    Calls Try.prog 3 #[.slice a0 len0 cap0, .int .u8 a1] w fun e w' => e = .returned (.bool true) ∧ Below w.heap.size w w' := by
  have b1 : 0 ≤ a1 ∧ a1 ≤ 255 := bounds_u8 w1
  clear w1
  obtain ⟨c, rfl⟩ : ∃ c : Nat, a1 = (c : Int) := ⟨a1.toNat, by omega⟩
  obtain ⟨p, hp⟩ : ∃ p, min len0 200 = p := ⟨_, rfl⟩
  have hp1 : p ≤ len0 := by omega
  have hp2 : p ≤ 200 := by omega
  have hminA : (if (200 : Int) < (len0 : Int) then (200 : Int) else (len0 : Int)) = (p : Int) := by split <;> omega
  obtain ⟨hV, _, hc1, hc2, hfar⟩ := w0
  have hp3 : p ≤ cap0 := by omega
  clear hp
  have HInfo := Lib.hid (show (Try.prog.info? 2).map (fun i => (i.zero, i.size, i.bytes)) = some (some (.int .i64 0), 1, 8) by kernel_rfl)
  have HInfP := Lib.hid (show (Try.prog.info? 30).map (fun i => (i.zero, i.size, i.bytes)) = some (some (.agg #[.int .i64 0, .int .i64 0, .int .i64 0, .int .i64 0]), 4, 32) by kernel_rfl)
  go_enter Try.func3, Try.ntmps3
  go_wp2_with (go_at_call 8; ((with_reducible refine (new_any w).mono ?_); rintro e W1 ⟨b, rfl, hG, hs1, hB1⟩))
  clear hminA
  have hb1 := hG.lt
  have hat0 : At w W1.heap.size b (.slice none 0 0) (.slice none 0 0) (.slice none 0 0) [] W1 := ⟨RI64.own_none _ _ _, RI64.own_none _ _ _, Row.own_none _ _ _, (fun k hk => by cases hk), (fun k hk => by cases hk), (fun k hk => by cases hk), hG, hB1, Nat.le_refl _⟩
  go_loopw [6, 7, 8, 23] (fun vw vd vg i wr => ∃ (j : Nat) (L : List (Int × Int)), j ≤ p ∧ i = .int .i64 (j : Nat) ∧ L.length ≤ j ∧ At w W1.heap.size b vw vd vg L wr) (fun _ _ _ i _ => p - (intOf i).toNat)
  case atStart => exact ⟨0, [], by omega, rfl, by simp, hat0⟩
  case round =>
    clear hat0 hG hB1
    obtain ⟨j, L, hj, rfl, hLj, hat⟩ := hrel
    by_cases hjp : j < p
    · obtain ⟨x, rfl, _⟩ := hV.cells (by omega)
      obtain ⟨k0, k1⟩ := step_cells (hV.below hat.below) j (by omega)
      have hjz : (j : Int) < (p : Int) := by omega
      generalize (z0.getD j (0, 0)).1 = sw at *
      generalize (z0.getD j (0, 0)).2 = sd at *
      clear hV hfar
      go_upto_region 8 with (fail)
      go_cut [35] (fun q wx => (∃ B : Bool, q = .bool B) ∧ wx = wr.alloc (.cells #[.int .i64 sw, .int .i64 sd] 28))
      case first =>
        go_wp2_with fail
        all_goals
          go_meet
          case rel => exact ⟨⟨_, rfl⟩, rfl⟩
      case rest =>
      obtain ⟨⟨B, rfl⟩, rfl⟩ := hcut
      have M0 := hat.mid (sw := sw) (sd := sd) hb1 hs1
      clear hat
      go_upto_if 35 with (fail)
      go_cut [6, 7, 8] (fun vw vd vg wx => ∃ L : List (Int × Int), L.length ≤ j ∧ Mid w W1.heap.size b wr.heap.size sw sd vw (L.map Prod.fst) vd (L.map Prod.snd) vg (Peak.runT (.falls none) 0 L).1 (Peak.runT (.falls none) 0 L).2 (L.length : Int) wx)
      case first =>
        cases B with
        | true =>
          have hre := reset_any b _ _ _ M0.fil
          go_wp2_with (first | (go_at_call 9; ((with_reducible refine hre.mono ?_); rintro e W4 ⟨rfl, hF4, hK4⟩)) | fail)
          go_meet
          case rel => exact ⟨[], by simp, (M0.pushed hF4 hK4).cleared⟩
        | false =>
          go_wp2_with fail
          go_meet
          case rel => exact ⟨L, hLj, M0⟩
      case rest =>
        clear hLj M0
        obtain ⟨L, hLj, M⟩ := hcut
        generalize wr.heap.size = g at *
        go_upto_region 11 with (fail)
        go_cut [6, 7] (fun vw vd wx => Mid w W1.heap.size b g sw sd vw (L.map Prod.fst ++ [sw]) vd (L.map Prod.snd ++ [sd]) u8 (Peak.runT (.falls none) 0 L).1 (Peak.runT (.falls none) 0 L).2 (L.length : Int) wx)
        case first =>
          have hxl : (L.map Prod.fst).length ≤ 200 := by rw [List.length_map]; omega
          have hyl : (L.map Prod.snd).length ≤ 200 := by rw [List.length_map]; omega
          generalize L.map Prod.fst = xs at *
          generalize L.map Prod.snd = ys at *
          generalize (Peak.runT (.falls none) 0 L).1 = ps at *
          generalize (Peak.runT (.falls none) 0 L).2 = s at *
          generalize (L.length : Int) = n at *
          have Md := M.drewN 1
          refine Reg.begin_ (S := fun W => W.cell? ⟨g, 0, none⟩ = some (.int .i64 sw) ∧ W.cell? ⟨g, 1, none⟩ = some (.int .i64 sd)) (by kernel_rfl) (by exact ⟨M.x.cell 0, M.x.cell 1⟩) (fun hHeld => ?_)
          clear M k0 k1
          refine Reg.take (i := 0) (v := ?v1) rfl (by kernel_rfl) (by kernel_rfl) (by kernel_rfl) (by rfl) ?hv1 (by assumption) ?rest1
          case hv1 => first | (intro w hSw; (try dsimp only at hSw); go_simp; done) | (intro w hSw; (try dsimp only at hSw); go_simp; with_reducible rfl)
          (try simp only [Act.put, List.setIfInBounds_toArray, List.set_cons_zero, List.set_cons_succ])
          refine Reg.take (i := 1) (v := ?v2) rfl (by kernel_rfl) (by kernel_rfl) (by kernel_rfl) (by rfl) ?hv2 (by assumption) ?rest2
          case hv2 => first | (intro w hSw; (try dsimp only at hSw); go_simp; done) | (intro w hSw; (try dsimp only at hSw); go_simp; with_reducible rfl)
          (try simp only [Act.put, List.setIfInBounds_toArray, List.set_cons_zero, List.set_cons_succ])
          refine Reg.take (i := 2) (v := ?v3) rfl (by kernel_rfl) (by kernel_rfl) (by kernel_rfl) (by rfl) ?hv3 (by assumption) ?rest3
          case hv3 => first | (intro w hSw; (try dsimp only at hSw); go_simp; done) | (intro w hSw; (try dsimp only at hSw); go_simp; with_reducible rfl)
          (try simp only [Act.put, List.setIfInBounds_toArray, List.set_cons_zero, List.set_cons_succ])
          refine Reg.take (i := 5) (v := ?v4) rfl (by kernel_rfl) (by kernel_rfl) (by kernel_rfl) (by rfl) ?hv4 (by assumption) ?rest4
          case hv4 => first | (intro w hSw; (try dsimp only at hSw); go_simp; done) | (intro w hSw; (try dsimp only at hSw); go_simp; with_reducible rfl)
          (try simp only [Act.put, List.setIfInBounds_toArray, List.set_cons_zero, List.set_cons_succ])
          refine Reg.take (i := 6) (v := ?v5) rfl (by kernel_rfl) (by kernel_rfl) (by kernel_rfl) (by rfl) ?hv5 (by assumption) ?rest5
          case hv5 => first | (intro w hSw; (try dsimp only at hSw); go_simp; done) | (intro w hSw; (try dsimp only at hSw); go_simp; with_reducible rfl)
          (try simp only [Act.put, List.setIfInBounds_toArray, List.set_cons_zero, List.set_cons_succ])
          refine Reg.take (i := 7) (v := ?v6) rfl (by kernel_rfl) (by kernel_rfl) (by kernel_rfl) (by rfl) ?hv6 (by assumption) ?rest6
          case hv6 => first | (intro w hSw; (try dsimp only at hSw); go_simp; done) | (intro w hSw; (try dsimp only at hSw); go_simp; with_reducible rfl)
          (try simp only [Act.put, List.setIfInBounds_toArray, List.set_cons_zero, List.set_cons_succ])
          clear hHeld
          replace Md : Mid w W1.heap.size b g sw sd u6 xs u7 ys u8 ps s n wc.drew := Md
          generalize wc.drew = wd at *
          have MA := Md.alloc (.cells #[.int .i64 sw] 2)
          have VA : RI64.Vals (wd.alloc (.cells #[.int .i64 sw] 2)) (some ⟨wd.heap.size, 0, none⟩) 1 [sw] := RI64.Vals.has (ys := [sw]) (tl := []) (Has.new wd _ _)
          have MB := Md.alloc (.cells #[.int .i64 sd] 2)
          have VB : RI64.Vals (wd.alloc (.cells #[.int .i64 sd] 2)) (some ⟨wd.heap.size, 0, none⟩) 1 [sd] := RI64.Vals.has (ys := [sd]) (tl := []) (Has.new wd _ _)
          refine Reg.both (i := 3) (j := 8) rfl rfl (by kernel_rfl) (by rfl) (by rfl) ?_ ?_
          · intro K hK
            go_simp
            refine hK.out _ _ (by exact ⟨MA.x.cell 0, MA.x.cell 1⟩) (fun hHeld => ?_)
            clear hK K hHeld
            (try simp only [Act.put, List.setIfInBounds_toArray, List.set_cons_zero, List.set_cons_succ])
            have hown := fun k hk => (own_block Md.rw_ k hk).2
            have hsz : (wd.alloc (.cells #[.int .i64 sw] 2)).heap.size = wd.heap.size + 1 := by simp
            clear MB VB Md
            generalize (wd.alloc (.cells #[.int .i64 sw] 2)) = WA at *
            generalize wd.heap.size = na at *
            refine Reg.both (i := 4) (j := 8) rfl rfl (by kernel_rfl) (by rfl) (by rfl) ?_ ?_
            · intro K hK
              refine RI64.wp_append_one (.tmp 38) (.tmp 41) _ rfl W1.heap.size 2 8 (by omega) Try.underlying25 HInfo.out u6 xs.length xs rfl MA.rw_ (some ⟨na, 0, none⟩) 1 1 [sw] rfl VA (by omega) MA.base_ ?_
              intro v4 W4 hO4 hg4 hat4
              have MC := Mid.growW (zs := xs ++ [sw]) MA (by rw [List.length_append]; exact hO4) hg4 hat4
              refine hK.out _ _ (by exact ⟨MC.x.cell 0, MC.x.cell 1⟩) (fun hHeld => ?_)
              clear hK K hHeld
              (try simp only [Act.put, List.setIfInBounds_toArray, List.set_cons_zero, List.set_cons_succ])
              refine Reg.call (i := 8) rfl (by kernel_rfl) (by rfl) ?_
              intro K hK
              have MD := MC.alloc (.cells #[.int .i64 sd] 2)
              have VD : RI64.Vals (W4.alloc (.cells #[.int .i64 sd] 2)) (some ⟨W4.heap.size, 0, none⟩) 1 [sd] := RI64.Vals.has (ys := [sd]) (tl := []) (Has.new W4 _ _)
              go_simp
              refine hK.out _ _ (by exact ⟨MD.x.cell 0, MD.x.cell 1⟩) (fun hHeld => ?_)
              clear hK K hHeld
              (try simp only [Act.put, List.setIfInBounds_toArray, List.set_cons_zero, List.set_cons_succ])
              generalize (W4.alloc (.cells #[.int .i64 sd] 2)) = W6 at *
              generalize W4.heap.size = nb at *
              refine Reg.call (i := 9) rfl (by kernel_rfl) (by rfl) ?_
              intro K hK
              refine RI64.wp_append_one (.tmp 43) (.tmp 46) _ rfl W1.heap.size 2 8 (by omega) Try.underlying25 HInfo.out u7 ys.length ys rfl MD.rd (some ⟨nb, 0, none⟩) 1 1 [sd] rfl VD (by omega) MD.base_ ?_
              intro v5 W5 hO5 hg5 hat5
              have ME := Mid.growD (zs := ys ++ [sd]) MD (by rw [List.length_append]; exact hO5) hg5 hat5
              refine hK.out _ _ (by exact ⟨ME.x.cell 0, ME.x.cell 1⟩) (fun hHeld => ?_)
              clear hK K hHeld
              (try simp only [Act.put, List.setIfInBounds_toArray, List.set_cons_zero, List.set_cons_succ])
              have hHeld : W5.cell? ⟨g, 0, none⟩ = some (.int .i64 sw) ∧ W5.cell? ⟨g, 1, none⟩ = some (.int .i64 sd) := ⟨ME.x.cell 0, ME.x.cell 1⟩
              refine Reg.take (i := 10) (v := ?v7) rfl (by kernel_rfl) (by kernel_rfl) (by kernel_rfl) (by rfl) ?hv7 (by assumption) ?rest7
              case hv7 => first | (intro w hSw; (try dsimp only at hSw); go_simp; done) | (intro w hSw; (try dsimp only at hSw); go_simp; with_reducible rfl)
              (try simp only [Act.put, List.setIfInBounds_toArray, List.set_cons_zero, List.set_cons_succ])
              refine Reg.take (i := 11) (v := ?v8) rfl (by kernel_rfl) (by kernel_rfl) (by kernel_rfl) (by rfl) ?hv8 (by assumption) ?rest8
              case hv8 => first | (intro w hSw; (try dsimp only at hSw); go_simp; done) | (intro w hSw; (try dsimp only at hSw); go_simp; with_reducible rfl)
              (try simp only [Act.put, List.setIfInBounds_toArray, List.set_cons_zero, List.set_cons_succ])
              clear hHeld
              refine Reg.done (by kernel_rfl) ?_ _
              go_wp2_with fail
              go_meet
              case rel => exact ME
            · intro K hK
              have hown2 : ∀ k, u6.ownBlock = some k → k ≠ WA.heap.size := fun k hk => by have := hown k hk; omega
              clear hown hsz
              have MC := MA.alloc (.cells #[.int .i64 sd] 2)
              have VC := VA.alloc (.cells #[.int .i64 sd] 2)
              have VD : RI64.Vals (WA.alloc (.cells #[.int .i64 sd] 2)) (some ⟨WA.heap.size, 0, none⟩) 1 [sd] := RI64.Vals.has (ys := [sd]) (tl := []) (Has.new WA _ _)
              go_simp
              refine hK.out _ _ (by exact ⟨MC.x.cell 0, MC.x.cell 1⟩) (fun hHeld => ?_)
              clear hK K hHeld
              (try simp only [Act.put, List.setIfInBounds_toArray, List.set_cons_zero, List.set_cons_succ])
              clear MA VA
              generalize (WA.alloc (.cells #[.int .i64 sd] 2)) = W3 at *
              generalize WA.heap.size = nb at *
              refine Reg.call (i := 4) rfl (by kernel_rfl) (by rfl) ?_
              intro K hK
              refine RI64.wp_append_one (.tmp 38) (.tmp 41) _ rfl W1.heap.size 2 8 (by omega) Try.underlying25 HInfo.out u6 xs.length xs rfl MC.rw_ (some ⟨na, 0, none⟩) 1 1 [sw] rfl VC (by omega) MC.base_ ?_
              intro v4 W4 hO4 hg4 hat4
              have MD := Mid.growW (zs := xs ++ [sw]) MC (by rw [List.length_append]; exact hO4) hg4 hat4
              have VE := VD.kept (Kept.of_grown hg4) (fun _ x hx hm => by injection hx with hx; subst hx; exact hown2 _ (by simpa using hm) rfl)
              refine hK.out _ _ (by exact ⟨MD.x.cell 0, MD.x.cell 1⟩) (fun hHeld => ?_)
              clear hK K hHeld
              (try simp only [Act.put, List.setIfInBounds_toArray, List.set_cons_zero, List.set_cons_succ])
              refine Reg.call (i := 9) rfl (by kernel_rfl) (by rfl) ?_
              intro K hK
              refine RI64.wp_append_one (.tmp 43) (.tmp 46) _ rfl W1.heap.size 2 8 (by omega) Try.underlying25 HInfo.out u7 ys.length ys rfl MD.rd (some ⟨nb, 0, none⟩) 1 1 [sd] rfl VE (by omega) MD.base_ ?_
              intro v5 W5 hO5 hg5 hat5
              have ME := Mid.growD (zs := ys ++ [sd]) MD (by rw [List.length_append]; exact hO5) hg5 hat5
              refine hK.out _ _ (by exact ⟨ME.x.cell 0, ME.x.cell 1⟩) (fun hHeld => ?_)
              clear hK K hHeld
              (try simp only [Act.put, List.setIfInBounds_toArray, List.set_cons_zero, List.set_cons_succ])
              have hHeld : W5.cell? ⟨g, 0, none⟩ = some (.int .i64 sw) ∧ W5.cell? ⟨g, 1, none⟩ = some (.int .i64 sd) := ⟨ME.x.cell 0, ME.x.cell 1⟩
              refine Reg.take (i := 10) (v := ?v9) rfl (by kernel_rfl) (by kernel_rfl) (by kernel_rfl) (by rfl) ?hv9 (by assumption) ?rest9
              case hv9 => first | (intro w hSw; (try dsimp only at hSw); go_simp; done) | (intro w hSw; (try dsimp only at hSw); go_simp; with_reducible rfl)
              (try simp only [Act.put, List.setIfInBounds_toArray, List.set_cons_zero, List.set_cons_succ])
              refine Reg.take (i := 11) (v := ?v10) rfl (by kernel_rfl) (by kernel_rfl) (by kernel_rfl) (by rfl) ?hv10 (by assumption) ?rest10
              case hv10 => first | (intro w hSw; (try dsimp only at hSw); go_simp; done) | (intro w hSw; (try dsimp only at hSw); go_simp; with_reducible rfl)
              (try simp only [Act.put, List.setIfInBounds_toArray, List.set_cons_zero, List.set_cons_succ])
              clear hHeld
              refine Reg.done (by kernel_rfl) ?_ _
              go_wp2_with fail
              go_meet
              case rel => exact ME
          · intro K hK
            go_simp
            refine hK.out _ _ (by exact ⟨MB.x.cell 0, MB.x.cell 1⟩) (fun hHeld => ?_)
            clear hK K hHeld
            (try simp only [Act.put, List.setIfInBounds_toArray, List.set_cons_zero, List.set_cons_succ])
            have hown : ∀ k, u6.ownBlock = some k → k ≠ wd.heap.size := fun k hk => by have := (own_block Md.rw_ k hk).2; omega
            clear MA VA Md
            generalize (wd.alloc (.cells #[.int .i64 sd] 2)) = WA at *
            generalize wd.heap.size = na at *
            refine Reg.call (i := 3) rfl (by kernel_rfl) (by rfl) ?_
            intro K hK
            have MC := MB.alloc (.cells #[.int .i64 sw] 2)
            have VC := VB.alloc (.cells #[.int .i64 sw] 2)
            have VD : RI64.Vals (WA.alloc (.cells #[.int .i64 sw] 2)) (some ⟨WA.heap.size, 0, none⟩) 1 [sw] := RI64.Vals.has (ys := [sw]) (tl := []) (Has.new WA _ _)
            go_simp
            refine hK.out _ _ (by exact ⟨MC.x.cell 0, MC.x.cell 1⟩) (fun hHeld => ?_)
            clear hK K hHeld
            (try simp only [Act.put, List.setIfInBounds_toArray, List.set_cons_zero, List.set_cons_succ])
            clear MB VB
            generalize (WA.alloc (.cells #[.int .i64 sw] 2)) = W3 at *
            generalize WA.heap.size = nb at *
            refine Reg.call (i := 4) rfl (by kernel_rfl) (by rfl) ?_
            intro K hK
            refine RI64.wp_append_one (.tmp 38) (.tmp 41) _ rfl W1.heap.size 2 8 (by omega) Try.underlying25 HInfo.out u6 xs.length xs rfl MC.rw_ (some ⟨nb, 0, none⟩) 1 1 [sw] rfl VD (by omega) MC.base_ ?_
            intro v4 W4 hO4 hg4 hat4
            have MD := Mid.growW (zs := xs ++ [sw]) MC (by rw [List.length_append]; exact hO4) hg4 hat4
            have VE := VC.kept (Kept.of_grown hg4) (fun _ x hx hm => by injection hx with hx; subst hx; exact hown _ (by simpa using hm) rfl)
            refine hK.out _ _ (by exact ⟨MD.x.cell 0, MD.x.cell 1⟩) (fun hHeld => ?_)
            clear hK K hHeld
            (try simp only [Act.put, List.setIfInBounds_toArray, List.set_cons_zero, List.set_cons_succ])
            refine Reg.call (i := 9) rfl (by kernel_rfl) (by rfl) ?_
            intro K hK
            refine RI64.wp_append_one (.tmp 43) (.tmp 46) _ rfl W1.heap.size 2 8 (by omega) Try.underlying25 HInfo.out u7 ys.length ys rfl MD.rd (some ⟨na, 0, none⟩) 1 1 [sd] rfl VE (by omega) MD.base_ ?_
            intro v5 W5 hO5 hg5 hat5
            have ME := Mid.growD (zs := ys ++ [sd]) MD (by rw [List.length_append]; exact hO5) hg5 hat5
            refine hK.out _ _ (by exact ⟨ME.x.cell 0, ME.x.cell 1⟩) (fun hHeld => ?_)
            clear hK K hHeld
            (try simp only [Act.put, List.setIfInBounds_toArray, List.set_cons_zero, List.set_cons_succ])
            have hHeld : W5.cell? ⟨g, 0, none⟩ = some (.int .i64 sw) ∧ W5.cell? ⟨g, 1, none⟩ = some (.int .i64 sd) := ⟨ME.x.cell 0, ME.x.cell 1⟩
            refine Reg.take (i := 10) (v := ?v11) rfl (by kernel_rfl) (by kernel_rfl) (by kernel_rfl) (by rfl) ?hv11 (by assumption) ?rest11
            case hv11 => first | (intro w hSw; (try dsimp only at hSw); go_simp; done) | (intro w hSw; (try dsimp only at hSw); go_simp; with_reducible rfl)
            (try simp only [Act.put, List.setIfInBounds_toArray, List.set_cons_zero, List.set_cons_succ])
            refine Reg.take (i := 11) (v := ?v12) rfl (by kernel_rfl) (by kernel_rfl) (by kernel_rfl) (by rfl) ?hv12 (by assumption) ?rest12
            case hv12 => first | (intro w hSw; (try dsimp only at hSw); go_simp; done) | (intro w hSw; (try dsimp only at hSw); go_simp; with_reducible rfl)
            (try simp only [Act.put, List.setIfInBounds_toArray, List.set_cons_zero, List.set_cons_succ])
            clear hHeld
            refine Reg.done (by kernel_rfl) ?_ _
            go_wp2_with fail
            go_meet
            case rel => exact ME
        case rest =>
          clear M
          have hsn := run_snoc L (sw, sd) (.falls none) 0
          rw [Int.zero_add] at hsn
          obtain ⟨ps, s, hT⟩ : ∃ ps s, Peak.runT (.falls none) 0 L = (ps, s) := ⟨_, _, rfl⟩
          have hpl := run_len L (.falls none) 0
          rw [hT] at hcut hsn hpl
          dsimp only at hcut hsn hpl
          have hpu := fun W hF => push_any b s (L.length : Int) sw sd W hF (by omega)
          obtain ⟨o, s', hst⟩ : ∃ o s', Peak.stepT s (L.length : Int) sw sd = (o, s') := ⟨_, _, rfl⟩
          rw [hst] at hsn hpu
          dsimp only at hsn hpu
          have hR := hcut.rw_
          rw [show (L.map Prod.fst ++ [sw]).length = L.length + 1 by simp] at hR
          obtain ⟨Aw, cw, rfl, hcw1, hcw2, _, _, _⟩ := RI64.Vals.own hR
          have hsl : ((L.length + 1 : Nat) : Int) = (L.length : Int) + 1 := by omega
          have hln : (L ++ [(sw, sd)]).length ≤ j + 1 := by rw [List.length_append]; simp; omega
          have HSN := Lib.hid hsn
          have HPL := Lib.hid hpl
          have HLN := Lib.hid hln
          have HLJ := Lib.hid hLj
          have hLb : L.length ≤ 200 := by omega
          have hstp := fun W hF => steps_any b s' ((L.length : Int) + 1) W hF
          have c0 := hcut.x.cell 0
          have c1 := hcut.x.cell 1
          clear hT hst hsn hpl hln hR hLj k0 k1
          cases o with
          | none =>
            rw [show pkV none = .agg #[.int .i64 0, .int .i64 0, .int .i64 0, .int .i64 0] from rfl, show (none : Option Pk).isSome = false from rfl] at hpu
            have hg := fun (W : World) (x y : Operand) => guard_neq W x y 0 0 0 0 0 0 0 0
            have hc : ∀ W : World, (binOp .neq 30 (.agg #[.int .i64 0, .int .i64 0, .int .i64 0, .int .i64 0]) (.agg #[.int .i64 0, .int .i64 0, .int .i64 0, .int .i64 0])).run Try.prog W = .ok (.bool false) W := fun W => by rw [neq_peak]; simp
            go_wp2_with (first
              | (go_at_call 10; ((with_reducible refine (hpu _ (by exact hcut.fil)).mono ?_); rintro e W4 ⟨rfl, hF4, hK4⟩; have M4 := (hcut.pushed hF4 hK4).alloc (.cells #[.int .i64 0, .int .i64 0, .int .i64 0, .int .i64 0] 30)))
              | (go_at_call 11; ((with_reducible refine (hstp _ (by exact M4.fil)).mono ?_); rintro e W5 ⟨rfl, rfl⟩)))
            have hA := M4.at_ (by rw [HSN.out, Option.toList_none, List.append_nil])
            clear M4
            exact ⟨⟨j + 1, L ++ [(sw, sd)], by omega, by go_num, HLN.out, hA⟩, by simp [intOf]; omega⟩
          | some q =>
            obtain ⟨qa, qn, qt, qp⟩ := q
            rw [show pkV (some (qa, qn, qt, qp)) = .agg #[.int .i64 qa, .int .i64 qn, .int .i64 qt, .int .i64 qp] from rfl, show (some (qa, qn, qt, qp) : Option Pk).isSome = true from rfl] at hpu
            have hpb : ps.length ≤ 200 := by have := HPL.out; omega
            have hread := fun W4 hF4 hK4 => (hcut.pushed (W' := W4) (s' := s') (n' := (L.length : Int) + 1) hF4 hK4).alloc (.cells #[.int .i64 qa, .int .i64 qn, .int .i64 qt, .int .i64 qp] 30)
            have hVq := fun W4 : World => (Row.Vals.has (S := peakS) (ys := [(qa, qn, qt, qp)]) (tl := []) (Has.new W4 30 _) : Row.Vals peakS (W4.alloc (.cells #[.int .i64 qa, .int .i64 qn, .int .i64 qt, .int .i64 qp] 30)) (some ⟨W4.heap.size, 0, none⟩) 1 [(qa, qn, qt, qp)])
            go_wp2_with (first
              | (go_at_call 10; ((with_reducible refine (hpu _ (by exact hcut.fil)).mono ?_); rintro e W4 ⟨rfl, hF4, hK4⟩; have M4 := (hread W4 hF4 hK4).alloc (.cells #[.int .i64 qa, .int .i64 qn, .int .i64 qt, .int .i64 qp] 30); have V4 := hVq (W4.alloc (.cells #[.int .i64 qa, .int .i64 qn, .int .i64 qt, .int .i64 qp] 30)); rw [show (W4.alloc (.cells #[.int .i64 qa, .int .i64 qn, .int .i64 qt, .int .i64 qp] 30)).heap.size = W4.heap.size + 1 by simp] at V4))
              | (at_builtin; refine Row.wpList_append (S := peakS) rfl (.tmp 58) (.tmp 60) _ rfl W1.heap.size 30 _ 32 (by omega) Try.underlying26 HInfP.out (by kernel_rfl) u8 ps.length ps rfl (by exact M4.rg) _ 1 1 [(qa, qn, qt, qp)] rfl (by exact V4) (by omega) (by exact M4.base_) ?_; intro v6 W6 hO6 hg6 hat6; have M6 := Mid.growG (qs := ps ++ [(qa, qn, qt, qp)]) M4 (by rw [List.length_append]; exact hO6) hg6 hat6)
              | (go_at_call 11; ((with_reducible refine (hstp _ (by exact M6.fil)).mono ?_); rintro e W5 ⟨rfl, rfl⟩)))
            have hA := M6.at_ (by rw [HSN.out]; rfl)
            clear M4 M6
            exact ⟨⟨j + 1, L ++ [(sw, sd)], by omega, by go_num, HLN.out, hA⟩, by simp [intOf]; omega⟩
    · obtain rfl : j = p := by omega
      clear hV hfar
      have hl1 := hat.rw_
      have hl2 := hat.rd
      have hl3 := hat.rg
      obtain ⟨Aw, cw, rfl, hcw1, hcw2, hVw, _, _⟩ := RI64.Vals.own hl1
      obtain ⟨Ad, cd, rfl, hcd1, hcd2, hVd, _, _⟩ := RI64.Vals.own hl2
      obtain ⟨Ag, cg, rfl, hcg1, hcg2, hVg, _, _⟩ := Row.Vals.own hl3
      have hzip : (L.map Prod.fst).zip (L.map Prod.snd) = L := by rw [List.zip_map']; simp
      have hLb : L.length ≤ 200 := by omega
      have hrf := refall_any Aw L.length cw _ Ad L.length cd _ wr hVw hVd (by omega) (by omega)
      rw [hzip] at hrf
      have hal : ∀ W, Below wr.heap.size wr W → Calls Try.prog 15 #[.slice Aw L.length cw, .slice Ad L.length cd] W (PeaksIs (Peak.runT (.falls none) 0 L).1 W) := fun W hB => by
        have h9 := all_any Aw L.length cw _ Ad L.length cd _ W (hVw.below hB) (hVd.below hB) (by omega) (by omega)
        rwa [hzip] at h9
      have hpl := run_len L (.falls none) 0
      have hF := hat.fil
      have hC := hat.below
      unfold AllIs at hrf
      unfold PeaksIs at hal
      have hri := fun W hB => rising_any b (Peak.runT (.falls none) 0 L).2 (L.length : Int) W (hF.below hB)
      generalize (Peak.runT (.falls none) 0 L).1 = ps at *
      generalize up (Peak.runT (.falls none) 0 L).2 = rs at *
      have hpb : ps.length ≤ 1000000 := by omega
      have hsz := hC.size
      clear hl1 hl2 hl3 hat hVw hVd hzip hF hpl
      go_wp2_with (first
        | (go_at_call 12; ((with_reducible refine hrf.mono ?_); rintro e W2 ⟨B2, d2, rfl, _, _, hV2, _, hB2⟩; have hs1 := same_yes Ag B2 ps.length cg d2 ps W2 (hVg.below hB2) hV2 hpb))
        | (go_at_call 13; ((with_reducible refine hs1.mono ?_); rintro e W3 ⟨rfl, z, rfl⟩; have hB3 := below_drewN hB2 z))
        | (go_at_call 14; ((with_reducible refine (hri _ (by exact hB3)).mono ?_); rintro e W4 ⟨rfl, rfl⟩))
        | (go_at_call 15; ((with_reducible refine (hal _ (by exact hB3)).mono ?_); rintro e W5 ⟨B5, d5, rfl, _, _, hV5, _, hB5⟩; have hs2 := same_yes B5 B2 ps.length d5 d2 ps W5 hV5 ((hV2.drewN z).below hB5) hpb; have hB6 := hB3.trans (hB5.mono hB3.size)))
        | (go_at_call 13; ((with_reducible refine hs2.mono ?_); rintro e W7 ⟨rfl, z2, rfl⟩; have hB7 := below_drewN hB6 z2))
        | (go_at_call 16; ((with_reducible refine (live_k _).mono ?_); rintro e W9 ⟨rfl, hN⟩; have hB9 := hB7.trans (hN.mono hB7.size))))
      go_ret
      exact ⟨rfl, hC.trans (hB9.mono hsz)⟩

theorem own : ownKnob Try.prog.godebug = none := by kernel_rfl
theorem laidOut : laidOutB Try.prog = true := by kernel_rfl

/-! ### The row's step -/
set_option maxRecDepth 100000 in
theorem lifted (os : Os) (started : os.Started) (H : Type) (enc : TypeId × Value → H) :
    ReturnsInHanded {} Try.checked os 3 .any (Rows.peakFindsSpec.pre6 enc Try.prog Try.f3 Rows.peakFindsRow.domain false) (Rows.peakFindsSpec.post enc Try.prog Try.f3 false true false false) := by
  refine returnsInHanded_of_change (C := Try.checked) own started (by kernel_rfl) Try.func3
    (ChangeSpec.witness6 (enc := enc) (C := Try.checked) false ⟨#[], #[.slice none 0 0, .int .u8 0], []⟩ 8 (by kernel_rfl) (by kernel_rfl) (by kernel_rfl) (by kernel_rfl)) ?_
  intro W base args ds gs before hval0 hW hcnd _
  have hval : ∀ (j : Nat) t v, Try.f3.params[j]? = some t → args[j]? = some v → Value.okWide Try.prog W .any base t v := hval0
  have hW' := hW
  obtain ⟨p, q, hA0, hV, rfl, hfz, hnd⟩ := hW
  have hA : DataW.TrodAll enc Try.prog W 0 (fun _ => true) true Try.f3.params.toList args.toList ds p := hA0
  rw [Try.params3] at hA hval
  obtain ⟨v0, vs0, d0, ds0, p0, q0, hargs, rfl, rfl, h0, r0⟩ := trodAll_cons hA
  obtain ⟨v1, vs1, d1, ds1, p1, q1, rfl, rfl, rfl, h1, r1⟩ := trodAll_cons r0
  obtain ⟨rfl, rfl, rfl⟩ := trodAll_nil r1
  obtain rfl : args = #[v0, v1] := by cases args; simp_all
  obtain ⟨rfl, rfl⟩ := trodVars_none hV
  obtain ⟨a0, len0, cap0, rfl⟩ := okWide_slice Try.underlying22 (hval 0 22 v0 rfl rfl)
  have k0 := h0
  have lt0 : ∀ x ∈ p0, x.block < W.heap.size := by obtain ⟨m, hm⟩ := k0; exact DataW.trod_lt m _ _ _ hm
  obtain ⟨z0, w0⟩ : ∃ zs, Row.IsFlat Peak.stepS Peak.AnyStep W a0 len0 cap0 zs := by
    obtain ⟨fuel, hf⟩ := h0
    exact Row.flat_of Peak.stepS Peak.AnyStep Try.underlying22 (by kernel_rfl) (by kernel_rfl) rfl Peak.step_dec (by simpa [Value.cells] using hf)
  obtain ⟨a1, rfl, rfl, rfl, w1⟩ := open_int Try.underlying5 (hval 1 5 v1 rfl rfl) h1
  clear hA0 hval0
  refine (walk a0 len0 cap0 z0 a1 W w0 w1).mono fun e W' ⟨he, bel⟩ => ?_
  subst he
  exact ⟨_, rfl, _, _, _, [], _, [], hW', trodAll_mk1 (shut_bool Try.underlying4 _), (trodAll_cons_mk (Below.trod laidOut (by kernel_rfl) (of_decide_eq_true (by kernel_rfl)) k0 bel lt0) (trodAll_cons_mk (shut_int Try.underlying5 w1) trodAll_mk0)), rfl, bel.frame _, fun h => by cases h⟩

theorem over : Rows.peakFindsRow.holds Try.pinned (OpenSpec.ofChange Rows.peakFindsSpec) :=
  OpenClaim.holds_of_wide 3 Try.f3 rfl rfl rfl rfl rfl rfl rfl ⟨rfl, rfl, rfl, rfl, rfl⟩ rfl rfl rfl rfl rfl (by kernel_rfl) Try.func3 (by kernel_rfl)
    (of_decide_eq_true (by kernel_rfl)) (by unfold Func.isWrapper; first | (rw [if_pos (by decide +kernel)]; kernel_rfl) | (rw [if_neg (by decide +kernel)]; exact ⟨rfl, rfl⟩))
    (fun os started H enc _ => lifted os started H enc)

theorem proved : Rows.PeakFindsSaid := over
#print axioms proved
end Go.Proofs.Ytoghdmoblehnmaa.peakFinds
