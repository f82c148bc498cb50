/- OrderPlays, over whatever a queue's calls answer. -/
import Derived.Test.YtmefdgmbpihdfaaDoorOrderDeeds
import Derived.Test.YtmefdgmbpihdfaaDoorOrderRefDue
import Derived.Test.YtmefdgmbpihdfaaDoorOrderLive
import Derived.Test.YtmefdgmbpihdfaaDoorOrderSame
import Derived.Test.YtmefdgmbpihdfaaDoorRegionMore
import Derived.Lib.MinMax
set_option linter.unusedSimpArgs false
set_option linter.unusedVariables false
namespace Go.Proofs.YtmefdgmbpihdfaaDoor.Order
open Go.RowKit
open Alarm (Or orS noOr or_cells)
open Txt
/-- The queue in block b stands as s, the document's in block y as r. -/
structure Pl (Que : World → Nat → St → Prop) (w : World) (b y : Nat) (s : St) (r : Rf) (A : Option Addr) (c : Nat) (W : World) : Prop where
  mr : Mr Que w b s W
  st : Has W y 41 #[.slice A r.l.length c, .int .i64 r.frm]
  lv : Row.Vals orS W A r.l.length r.l
  ne_ : y ≠ b
  far : w.heap.size ≤ y
  ap : ∀ x, A = some x → x.block ≠ y ∧ x.block ≠ b ∧ x.block < W.heap.size
section
variable {Que : World → Nat → St → Prop} (K : QueKit Que) {w W W' : World} {b c' y cc : Nat} {s s' : St} {r r' : Rf} {A : Option Addr} {V : Value}
include K
theorem Pl.grow (h : Pl Que w b y s r A cc W) (hB : Below W.heap.size W W') : Pl Que w b y s r A cc W' :=
  ⟨h.mr.later K hB, h.st.below hB h.st.lt, h.lv.below hB, h.ne_, h.far, fun x hx => ⟨(h.ap x hx).1, (h.ap x hx).2.1, Nat.lt_of_lt_of_le (h.ap x hx).2.2 hB.size⟩⟩
omit K in
theorem Pl.turned (h : Pl Que w b y s r A cc W) (hM : Mr Que w b s' W') (hK : Kept [b] W W') : Pl Que w b y s' r A cc W' :=
  ⟨hM, hK.has h.st (by simp; exact h.ne_), h.lv.kept hK (fun _ x hx => by simp; exact (h.ap x hx).2.1), h.ne_, h.far, fun x hx => ⟨(h.ap x hx).1, (h.ap x hx).2.1, Nat.lt_of_lt_of_le (h.ap x hx).2.2 hK.size⟩⟩
theorem Pl.stored (h : Pl Que w b y s r A cc W) (hB : Below W.heap.size W W') (hR : RfIs W A r' V W') :
    ∃ A' c', V = rV A' r'.l.length c' r'.frm ∧ Pl Que w b y s r' A' c' ((W'.setCell ⟨y, 0, none⟩ (.slice A' r'.l.length c')).setCell ⟨y, 1, none⟩ (.int .i64 r'.frm)) := by
  obtain ⟨A', c', rfl, hv, hf⟩ := hR
  have h1 := h.grow K hB
  have hK := ((Kept.refl [y] W').setCell (p := ⟨y, 0, none⟩) (.inl (by simp)) (.slice A' r'.l.length c')).setCell (p := ⟨y, 1, none⟩) (.inl (by simp)) (.int .i64 r'.frm)
  have hb := K.lt h.mr.que
  have hy := h.st.lt
  have hap : ∀ x, A' = some x → x.block ≠ y ∧ x.block ≠ b ∧ x.block < W'.heap.size := fun x hx => by
    rcases hf x hx with h2 | ⟨h2, h3⟩
    · exact h1.ap x h2
    · exact ⟨by omega, by omega, h3⟩
  exact ⟨A', c', rfl, ⟨⟨K.kept h1.mr.que hK (by simp; exact Ne.symm h.ne_), below_put2 h1.mr.below h.far _ _, h.mr.far⟩, h1.st.put2 _ _, hv.kept hK (fun _ x hx => by simp; exact (hap x hx).1), h.ne_, h.far, fun x hx => ⟨(hap x hx).1, (hap x hx).2.1, Nat.lt_of_lt_of_le (hap x hx).2.2 hK.size⟩⟩⟩
/-- Another queue, made since w, has turned. -/
theorem Pl.other (h : Pl Que w c' y s r A cc W) (hK : Kept [b] W W') (hb : w.heap.size ≤ b) (h1 : y ≠ b) (h2 : c' ≠ b) (h3 : ∀ x, A = some x → x.block ≠ b) : Pl Que w c' y s r A cc W' :=
  ⟨h.mr.beside K hK hb h2, hK.has h.st (by simp; exact h1), h.lv.kept hK (fun _ x hx => by simp; exact h3 x hx), h.ne_, h.far, fun x hx => ⟨(h.ap x hx).1, (h.ap x hx).2.1, Nat.lt_of_lt_of_le (h.ap x hx).2.2 hK.size⟩⟩
end
theorem two_mixed {P : Program} {md : Region.Mode} {l : List Oper} {Q : Exit → Act → World → Prop} {S : World → Prop} {T : List Nat} {i j : Nat} {oi oj : Oper} {n : Nat} {L : Array Bool} {a : Act} {w : World} (hi : l[i]? = some oi) (hj : l[j]? = some oj) (hr : Region.ready md l.toArray L = [i, j]) (hwi : Region.wanted oi (yielded l.toArray a.tmps) = true) (hwj : Region.wanted oj (yielded l.toArray a.tmps) = true) (hT : T.contains j = true)
    (h : ∀ K : Act → World → Prop, Shut (∀ a w, S w → Till.Any P md l Q S T n (L.setIfInBounds i true) a w → K a w) → Oper.wp P oi a w K Q)
    (h' : ∀ K : Act → World → Prop, Shut (∀ a w, Till.Any P md l Q S T n (L.setIfInBounds j true) a w → K a w) → Oper.wp P oj a w K Q) : Till.Any P md l Q S T (n + 1) L a w := by
  refine ⟨fun h0 => (by rw [hr] at h0; cases h0), fun k hk => ?_⟩
  rw [hr] at hk
  rcases List.mem_cons.1 hk with rfl | hk
  · exact wpOp_step (by rw [List.getElem?_toArray]; exact hi) (fun K hK => by rw [if_pos hwi]; exact h K (fun a w hS hW => hK a w ⟨fun _ => hS, hW⟩))
  · obtain rfl : k = j := by simpa using hk
    exact wpOp_step (by rw [List.getElem?_toArray]; exact hj) (fun K hK => by rw [if_pos hwj]; exact h' K (fun a w hW => hK a w ⟨fun hn => absurd (by simpa using hT) hn, hW⟩))
theorem two_last {P : Program} {md : Region.Mode} {l : List Oper} {Q : Exit → Act → World → Prop} {S : World → Prop} {T : List Nat} {i j : Nat} {oi oj : Oper} {n : Nat} {L : Array Bool} {a : Act} {w : World} (hi : l[i]? = some oi) (hj : l[j]? = some oj) (hr : Region.ready md l.toArray L = [i, j]) (hwi : Region.wanted oi (yielded l.toArray a.tmps) = true) (hwj : Region.wanted oj (yielded l.toArray a.tmps) = true) (hTi : T.contains i = true) (hT : T.contains j = true)
    (h : ∀ K : Act → World → Prop, Shut (∀ a w, Till.Any P md l Q S T n (L.setIfInBounds i true) a w → K a w) → Oper.wp P oi a w K Q)
    (h' : ∀ K : Act → World → Prop, Shut (∀ a w, Till.Any P md l Q S T n (L.setIfInBounds j true) a w → K a w) → Oper.wp P oj a w K Q) : Till.Any P md l Q S T (n + 1) L a w := by
  refine ⟨fun h0 => (by rw [hr] at h0; cases h0), fun k hk => ?_⟩
  rw [hr] at hk
  rcases List.mem_cons.1 hk with rfl | hk
  · exact wpOp_step (by rw [List.getElem?_toArray]; exact hi) (fun K hK => by rw [if_pos hwi]; exact h K (fun a w hW => hK a w ⟨fun hn => absurd (by simpa using hTi) hn, hW⟩))
  · obtain rfl : k = j := by simpa using hk
    exact wpOp_step (by rw [List.getElem?_toArray]; exact hj) (fun K hK => by rw [if_pos hwj]; exact h' K (fun a w hW => hK a w ⟨fun hn => absurd (by simpa using hT) hn, hW⟩))
theorem alike_many {s : St} {r : Rf} (h : Alike s r) : s.l.length = r.l.length := by rw [h.1, sort_len]
theorem puts_next {s s1 : St} {zs : List Or} {m : Nat} (hm : m < zs.length) (h : putsT s (zs.take m) = (s1, m, 0)) : putsT s (zs.take (m + 1)) = ((putT s1 (zs.getD m noOr)).1, (if (putT s1 (zs.getD m noOr)).2 = 0 then m + 1 else m), (putT s1 (zs.getD m noOr)).2) := by
  have e : zs.take (m + 1) = zs.take m ++ [zs.getD m noOr] := take_get hm
  have h2 := puts_go (s := s) (xs := zs.take m) (o := zs.getD m noOr) (by rw [h])
  rw [e, h2, h]
  dsimp only
  split
  · rename_i h0; rw [h0]
  · rfl
theorem puts_end {s s1 : St} {zs : List Or} {k m : Nat} {er : Int} (hk : k ≤ zs.length) (h : putsT s (zs.take k) = (s1, m, er)) (he : ¬ (m < zs.length ∧ er = 0)) : putsT s zs = (s1, m, er) := by
  by_cases h0 : er = 0
  · have h1 := puts_all (s := s) (xs := zs.take k) (by rw [h]; exact h0)
    rw [h, List.length_take] at h1
    dsimp only at h1
    have : k = zs.length := by omega
    rw [this, List.take_of_length_le (Nat.le_refl _)] at h
    exact h
  · have h1 := puts_stop (s := s) (xs := zs.take k) (ys := zs.drop k) (by rw [h]; exact h0)
    rw [List.take_append_drop, h] at h1
    exact h1
theorem puts_at {s s1 : St} {zs : List Or} {k m : Nat} (hk : k ≤ zs.length) (h : putsT s (zs.take k) = (s1, m, 0)) : m = k := by
  have h1 := puts_all (s := s) (xs := zs.take k) (by rw [h])
  rw [h, List.length_take] at h1
  dsimp only at h1
  omega
set_option maxRecDepth 100000 in
set_option maxHeartbeats 8000000 in
theorem plays_k {Que : World → Nat → St → Prop} (K : QueKit Que) (a0 : Option Addr) (len0 cap0 : Nat) (w : World) (w0 : IsDeeds w a0 len0 cap0) (hLd : Pows w) :
    Calls Tryd.prog 4 #[.slice a0 len0 cap0] w fun e w' => e = .returned (.bool true) ∧ Below w.heap.size w w' := by
  have hli := fun W h => live_k K W h
  have hnew := fun W => K.new_any W
  obtain ⟨p, hp⟩ : ∃ p, min len0 60 = p := ⟨_, rfl⟩
  have hD : len0 ≤ cap0 ∧ cap0 ≤ 9223372036854775807 := by
    rcases w0 with ⟨_, rfl, rfl⟩ | ⟨x, _, h1, h2, _⟩
    · omega
    · unfold maxLen at h2; omega
  have hlc := hD.1
  have hcm := hD.2
  have hminA : min (len0 : Int) 60 = (p : Int) := by omega
  have hpl : (p : Int) ≤ (len0 : Int) ∧ (p : Int) ≤ (cap0 : Int) := by omega
  have hDs : p ≤ cap0 ∧ (0 < p → ∃ x, a0 = some x ∧ ∀ r, r < p → ∃ D B M E N z2, w.cell? (x.add (r * 3)) = some (.int .i64 D) ∧ w.cell? (x.add (r * 3 + 1)) = some (.slice B M E) ∧ w.cell? (x.add (r * 3 + 2)) = some (.int .i64 N) ∧
    (Lit.int .i64 D).wf = true ∧ Row.IsFlat orS OrOk w B M E z2 ∧ (Lit.int .i64 N).wf = true) := by
    rcases w0 with ⟨_, rfl, rfl⟩ | ⟨x, hx, h1, h2, h3⟩
    · exact ⟨by omega, fun h => by omega⟩
    · exact ⟨by omega, fun _ => ⟨x, hx, fun r hr => h3 r (by omega)⟩⟩
  have HD := Lib.hid hDs.2
  clear w0 hp hD hDs
  go_enter Tryd.func4, Tryd.ntmps4
  go_upto_region 3 with (go_at_call 15; ((with_reducible refine (hnew _).mono ?_); rintro e W1 ⟨b, rfl, hQ, hfar, hB1⟩; have hM1 : Mr Que w b st0 W1 := ⟨hQ, hB1, hfar⟩; have hbl := K.lt hQ))
  have hP0 : Pl Que w b W1.heap.size st0 rf0 none 0 (W1.alloc (.cells #[.slice none 0 0, .int .i64 0] 41)) :=
    ⟨hM1.alloc K _, Has.new _ _ _, Row.Vals.none_ _, by omega, hM1.below.size, fun x hx => by cases hx⟩
  clear hQ hfar hB1 hM1 hnew hbl
  generalize W1.alloc (.cells #[.slice none 0 0, .int .i64 0] 41) = W2 at *
  generalize W1.heap.size = y at *
  go_wp2
  go_loopw [3, 22] (fun V i wr => ∃ (k b : Nat) (s : St) (r : Rf) (A : Option Addr) (c : Nat), k ≤ p ∧ V = .pointer (some ⟨b, 0, none⟩) ∧ i = .int .i64 (k : Nat) ∧ Alike s r ∧ Pl Que w b y s r A c wr) (fun _ i _ => p - (intOf i).toNat)
  case atStart => exact ⟨0, b, st0, rf0, none, 0, by omega, rfl, rfl, alike_0, hP0⟩
  case round =>
    clear hP0
    obtain ⟨k, b, s, r, A, c, hk, rfl, rfl, hal, hP⟩ := hrel
    by_cases hkp : k < p
    · obtain ⟨x, hx, hall⟩ := HD.out (by omega)
      obtain ⟨D, B, M, C2, N, z2, c0, c1, c2, g0, g1, g2⟩ := hall k hkp
      subst hx
      clear hall
      have hcell := fun p u (h : w.cell? p = some u) => (hP.mr.below.cell (World.block_lt_of_cell? _ _ h)).trans h
      replace c0 := hcell _ _ c0
      replace c1 := hcell _ _ c1
      replace c2 := hcell _ _ c2
      clear hcell
      have hkz : (k : Int) < (p : Int) := by omega
      rw [← RI64.addr_add] at c1 c2
      replace c1 : wr.cell? ⟨(x.add (k * 3)).block, (x.add (k * 3)).off + 1, none⟩ = _ := c1
      replace c2 : wr.cell? ⟨(x.add (k * 3)).block, (x.add (k * 3)).off + 2, none⟩ = _ := c2
      obtain ⟨q, hq⟩ : ∃ q, min M 40 = q := ⟨_, rfl⟩
      have hmB : min (M : Int) 40 = (q : Int) := by omega
      have e1 := g1.le
      have e2 := g1.max
      have e5 : (q : Int) ≤ (M : Int) ∧ (q : Int) ≤ (C2 : Int) := by omega
      have e7 : q ≤ 40 := by omega
      have hTb := hP.grow K ((Below.refl _ wr).alloc (Nat.le_refl _) (.cells #[.int .i64 D, .slice B M C2, .int .i64 N] 43))
      have hZ := Has.new wr 43 #[.int .i64 D, .slice B M C2, .int .i64 N]
      have hV2 := g1.row.take q (by omega)
      have hf2 : 0 < q → ∀ y, B = some y → y.block < w.heap.size := fun h0 y hy => g1.far (by omega) y hy
      have hbz : b < wr.heap.size ∧ y < wr.heap.size := ⟨K.lt hP.mr.que, hP.st.lt⟩
      have hr32 : r.l.length ≤ 32 := by rw [← alike_many hal]; exact (K.ok hP.mr.que).1
      have HKP := Lib.hid (And.intro hkp hk)
      generalize z2.take q = zs at *
      clear g0 g1 g2 hq hP hkp hk
      by_cases hd0 : D = 0
      · subst hd0
        have HV2 := Lib.hid hV2
        have HF2 := Lib.hid hf2
        have HAL0 := Lib.hid hal
        clear hV2 hf2 hal
        go_upto_region 10 with (fail)
        clear c0 c1 c2 hmB hZ
        generalize wr.alloc _ = W4 at *
        go_loopw [8, 9] (fun j e wr => ∃ (k m : Nat) (er : Int) (s1 : St) (r1 : Rf) (A1 : Option Addr) (c1 : Nat), k ≤ q ∧ j = .int .i64 (m : Nat) ∧ e = .int .i64 er ∧ putsT s (zs.take k) = (s1, m, er) ∧ Alike s1 r1 ∧ Ok s1 ∧ Pl Que w b y s r1 A1 c1 wr) (fun j e _ => if intOf e = 0 then q + 1 - (intOf j).toNat else 0)
        case atStart => exact ⟨0, 0, 0, s, r, A, c, by omega, rfl, rfl, rfl, HAL0.out, K.ok hTb.mr.que, hTb⟩
        case round =>
          clear hTb
          obtain ⟨k1, m, er, s1, r1, A1, c1, hk1, rfl, rfl, hps, hal, hok, hP⟩ := hrel
          have hzl : zs.length = q := HV2.out.len_
          by_cases hgo : m < q ∧ er = 0
          · obtain ⟨hmq, rfl⟩ := hgo
            obtain rfl : m = k1 := puts_at (by omega) hps
            have hnx := puts_next (by omega) hps
            obtain ⟨x9, rfl, -⟩ := HV2.out.cells (by omega)
            obtain ⟨x0, x1, x2⟩ := or_cells (HV2.out.below hP.mr.below) m hmq
            have hxl := hP.mr.below.size
            have hfz := HF2.out (by omega) x9 rfl
            have halp := alike_put hal (zs.getD m noOr)
            have hok2 := ok_put hok (zs.getD m noOr)
            have hr32b : r1.l.length ≤ 32 := by rw [← alike_many hal]; exact hok.1
            generalize zs.getD m noOr = o at *
            rw [halp.2] at hnx
            obtain ⟨l1, f1⟩ := r1
            dsimp only at *
            have hrp := fun (W : World) (hv : Row.Vals orS W A1 l1.length l1) => refput_any A1 l1.length c1 f1 l1 o W hv hr32b
            unfold rV at hrp
            obtain ⟨o0, o1, o2⟩ := o
            dsimp only at x0 x1 x2 hrp
            have hmz : (m : Int) < (q : Int) := by omega
            have hal2 := halp.1
            clear halp
            generalize rputT ⟨l1, f1⟩ (o0, o1, o2) = rr at *
            generalize (putT s1 (o0, o1, o2)).1 = s2 at *
            obtain ⟨r2, e2⟩ := rr
            dsimp only at hnx hal2 hrp
            have hHN := Lib.hid hnx
            have hHA := Lib.hid hal2
            have hHO := Lib.hid hok2
            have HKM := Lib.hid hmq
            clear hnx hal2 hok2 hal hok hps hk1 hzl
            go_wp2
            have yt := hP.st.two
            refine Till.begin_ (T := [8, 9, 10]) (S := fun W => W.cell? ⟨y, 0, none⟩ = some (.slice A1 l1.length c1) ∧ W.cell? ⟨y, 1, none⟩ = some (.int .i64 f1) ∧ W.cell? (x9.add (m * 3)) = some (.int .i64 o0) ∧ W.cell? ⟨(x9.add (m * 3)).block, (x9.add (m * 3)).off + 1, none⟩ = some (.int .i64 o1) ∧ W.cell? ⟨(x9.add (m * 3)).block, (x9.add (m * 3)).off + 2, none⟩ = some (.int .i64 o2)) (by kernel_rfl) (by exact ⟨yt.1, yt.2.1, x0, x1, x2⟩) (fun hHeld => ?_)
            have hPd := hP.grow K (below_drewN (Below.refl _ _) 1)
            change Pl Que w b y s ⟨l1, f1⟩ A1 c1 wr.drew at hPd
            have z0 : wr.drew.cell? (x9.add (m * 3)) = _ := x0
            have z1 : wr.drew.cell? ⟨(x9.add (m * 3)).block, (x9.add (m * 3)).off + 1, none⟩ = _ := x1
            have z2 : wr.drew.cell? ⟨(x9.add (m * 3)).block, (x9.add (m * 3)).off + 2, none⟩ = _ := x2
            clear hP yt x0 x1 x2 hxl
            generalize wr.drew = Wd at *
            refine Till.take (i := 0) (v := ?v1) rfl (by kernel_rfl) (by kernel_rfl) (by kernel_rfl) (by kernel_rfl) (by rfl) ?hv1 (by assumption) ?rest1
            case hv1 => first | (intro w hSw; (try dsimp only at hSw); go_simp; done) | (intro w hSw; (try dsimp only at hSw); go_simp; with_reducible rfl)
            (try simp only [Act.put, List.setIfInBounds_toArray, List.set_cons_zero, List.set_cons_succ])
            refine Till.take (i := 1) (v := ?v2) rfl (by kernel_rfl) (by kernel_rfl) (by kernel_rfl) (by kernel_rfl) (by rfl) ?hv2 (by assumption) ?rest2
            case hv2 => first | (intro w hSw; (try dsimp only at hSw); go_simp; done) | (intro w hSw; (try dsimp only at hSw); go_simp; with_reducible rfl)
            (try simp only [Act.put, List.setIfInBounds_toArray, List.set_cons_zero, List.set_cons_succ])
            refine Till.take (i := 2) (v := ?v3) rfl (by kernel_rfl) (by kernel_rfl) (by kernel_rfl) (by kernel_rfl) (by rfl) ?hv3 (by assumption) ?rest3
            case hv3 => first | (intro w hSw; (try dsimp only at hSw); go_simp; done) | (intro w hSw; (try dsimp only at hSw); go_simp; with_reducible rfl)
            (try simp only [Act.put, List.setIfInBounds_toArray, List.set_cons_zero, List.set_cons_succ])
            refine Till.take (i := 3) (v := ?v4) rfl (by kernel_rfl) (by kernel_rfl) (by kernel_rfl) (by kernel_rfl) (by rfl) ?hv4 (by assumption) ?rest4
            case hv4 => first | (intro w hSw; (try dsimp only at hSw); go_simp; done) | (intro w hSw; (try dsimp only at hSw); go_simp; with_reducible rfl)
            (try simp only [Act.put, List.setIfInBounds_toArray, List.set_cons_zero, List.set_cons_succ])
            refine Till.take (i := 4) (v := ?v5) rfl (by kernel_rfl) (by kernel_rfl) (by kernel_rfl) (by kernel_rfl) (by rfl) ?hv5 (by assumption) ?rest5
            case hv5 => first | (intro w hSw; (try dsimp only at hSw); go_simp; done) | (intro w hSw; (try dsimp only at hSw); go_simp; with_reducible rfl)
            (try simp only [Act.put, List.setIfInBounds_toArray, List.set_cons_zero, List.set_cons_succ])
            refine Till.call (i := 5) rfl (by kernel_rfl) (by rfl) ?_
            intro K' hK
            go_simp
            go_at_call 16
            (with_reducible refine (hrp Wd hPd.lv).mono ?_)
            rintro e W5 ⟨V, rfl, hR5, hB5⟩
            obtain ⟨A5, c5, hV5, hP5⟩ := hPd.stored K hB5 hR5
            unfold rV at hV5
            subst hV5
            have hcell := fun p u (h : Wd.cell? p = some u) => (hB5.cell (World.block_lt_of_cell? _ _ h)).trans h
            replace z0 := hcell _ _ z0
            replace z1 := hcell _ _ z1
            replace z2 := hcell _ _ z2
            have yt := (hPd.st.below hB5 hPd.st.lt).two
            refine hK.out _ _ (by exact ⟨yt.1, yt.2.1, z0, z1, z2⟩) (fun hHeld => ?_)
            clear hK K' hcell z0 z1 z2 hrp hPd hB5
            (try simp only [Act.put, List.setIfInBounds_toArray, List.set_cons_zero, List.set_cons_succ])
            refine Till.take (i := 6) (v := ?v6) rfl (by kernel_rfl) (by kernel_rfl) (by kernel_rfl) (by kernel_rfl) (by rfl) ?hv6 (by assumption) ?rest6
            case hv6 => first | (intro w hSw; (try dsimp only at hSw); go_simp; done) | (intro w hSw; (try dsimp only at hSw); go_simp; with_reducible rfl)
            (try simp only [Act.put, List.setIfInBounds_toArray, List.set_cons_zero, List.set_cons_succ])
            obtain ⟨y0, y1, g0, g1⟩ := yt
            refine two_mixed (i := 7) (j := 8) rfl rfl (by kernel_rfl) (by rfl) (by rfl) (by rfl) ?_ ?_
            · intro K' hK
              go_simp
              refine hK.out _ _ (by exact hHeld) ?_
              clear hK K' hHeld
              (try simp only [Act.put, List.setIfInBounds_toArray, List.set_cons_zero, List.set_cons_succ])
              refine two_last (i := 8) (j := 9) rfl rfl (by kernel_rfl) (by rfl) (by rfl) (by rfl) (by rfl) ?_ ?_
              · skip
                intro K' hK
                go_simp
                refine hK.out _ _ ?_
                clear hK K'
                (try simp only [Act.put, List.setIfInBounds_toArray, List.set_cons_zero, List.set_cons_succ])
                refine Till.put (i := 9) rfl (by kernel_rfl) (by rfl) (by rfl) ?_
                intro K' hK
                go_simp
                refine hK.out _ _ ?_
                clear hK K'
                (try simp only [Act.put, List.setIfInBounds_toArray, List.set_cons_zero, List.set_cons_succ])
                refine Till.put (i := 10) rfl (by kernel_rfl) (by rfl) (by rfl) ?_
                intro K' hK
                go_simp
                refine hK.out _ _ ?_
                clear hK K'
                (try simp only [Act.put, List.setIfInBounds_toArray, List.set_cons_zero, List.set_cons_succ])
                refine Till.done (by kernel_rfl) ?_ _
                clear y0 y1 g0 g1 hR5
                generalize (W5.setCell ⟨y, 0, none⟩ (.slice A5 r2.l.length c5)).setCell ⟨y, 1, none⟩ (.int .i64 r2.frm) = W6 at *
                by_cases he2 : e2 = 0
                · subst he2
                  go_wp2
                  go_roundw
                  case rel => exact ⟨m + 1, m + 1, 0, s2, r2, A5, c5, by have := HKM.out; omega, by go_num, rfl, by have := hHN.out; rwa [if_pos rfl] at this, hHA.out, hHO.out, hP5⟩
                  case measure => have := HKM.out; simp [intOf]; omega
                · have he2z : (e2 == 0) = false := by simpa using he2
                  go_wp2
                  go_roundw
                  case rel => exact ⟨m + 1, m, e2, s2, r2, A5, c5, by have := HKM.out; omega, rfl, rfl, by have := hHN.out; rwa [if_neg he2] at this, hHA.out, hHO.out, hP5⟩
                  case measure => have := HKM.out; simp [intOf, he2]; omega
              · skip
                intro K' hK
                go_simp
                refine hK.out _ _ ?_
                clear hK K'
                (try simp only [Act.put, List.setIfInBounds_toArray, List.set_cons_zero, List.set_cons_succ])
                refine Till.put (i := 8) rfl (by kernel_rfl) (by rfl) (by rfl) ?_
                intro K' hK
                go_simp
                refine hK.out _ _ ?_
                clear hK K'
                (try simp only [Act.put, List.setIfInBounds_toArray, List.set_cons_zero, List.set_cons_succ])
                refine Till.put (i := 10) rfl (by kernel_rfl) (by rfl) (by rfl) ?_
                intro K' hK
                go_simp
                refine hK.out _ _ ?_
                clear hK K'
                (try simp only [Act.put, List.setIfInBounds_toArray, List.set_cons_zero, List.set_cons_succ])
                refine Till.done (by kernel_rfl) ?_ _
                clear y0 y1 g0 g1 hR5
                generalize (W5.setCell ⟨y, 0, none⟩ (.slice A5 r2.l.length c5)).setCell ⟨y, 1, none⟩ (.int .i64 r2.frm) = W6 at *
                by_cases he2 : e2 = 0
                · subst he2
                  go_wp2
                  go_roundw
                  case rel => exact ⟨m + 1, m + 1, 0, s2, r2, A5, c5, by have := HKM.out; omega, by go_num, rfl, by have := hHN.out; rwa [if_pos rfl] at this, hHA.out, hHO.out, hP5⟩
                  case measure => have := HKM.out; simp [intOf]; omega
                · have he2z : (e2 == 0) = false := by simpa using he2
                  go_wp2
                  go_roundw
                  case rel => exact ⟨m + 1, m, e2, s2, r2, A5, c5, by have := HKM.out; omega, rfl, rfl, by have := hHN.out; rwa [if_neg he2] at this, hHA.out, hHO.out, hP5⟩
                  case measure => have := HKM.out; simp [intOf, he2]; omega
            · skip
              intro K' hK
              go_simp
              refine hK.out _ _ ?_
              clear hK K'
              (try simp only [Act.put, List.setIfInBounds_toArray, List.set_cons_zero, List.set_cons_succ])
              refine Till.call (i := 7) rfl (by kernel_rfl) (by rfl) ?_
              intro K' hK
              go_simp
              refine hK.out _ _ (by exact hHeld) (fun hHeld => ?_)
              clear hK K' hHeld
              (try simp only [Act.put, List.setIfInBounds_toArray, List.set_cons_zero, List.set_cons_succ])
              refine Till.put (i := 9) rfl (by kernel_rfl) (by rfl) (by rfl) ?_
              intro K' hK
              go_simp
              refine hK.out _ _ ?_
              clear hK K'
              (try simp only [Act.put, List.setIfInBounds_toArray, List.set_cons_zero, List.set_cons_succ])
              refine Till.put (i := 10) rfl (by kernel_rfl) (by rfl) (by rfl) ?_
              intro K' hK
              go_simp
              refine hK.out _ _ ?_
              clear hK K'
              (try simp only [Act.put, List.setIfInBounds_toArray, List.set_cons_zero, List.set_cons_succ])
              refine Till.done (by kernel_rfl) ?_ _
              clear y0 y1 g0 g1 hR5
              generalize (W5.setCell ⟨y, 0, none⟩ (.slice A5 r2.l.length c5)).setCell ⟨y, 1, none⟩ (.int .i64 r2.frm) = W6 at *
              by_cases he2 : e2 = 0
              · subst he2
                go_wp2
                go_roundw
                case rel => exact ⟨m + 1, m + 1, 0, s2, r2, A5, c5, by have := HKM.out; omega, by go_num, rfl, by have := hHN.out; rwa [if_pos rfl] at this, hHA.out, hHO.out, hP5⟩
                case measure => have := HKM.out; simp [intOf]; omega
              · have he2z : (e2 == 0) = false := by simpa using he2
                go_wp2
                go_roundw
                case rel => exact ⟨m + 1, m, e2, s2, r2, A5, c5, by have := HKM.out; omega, rfl, rfl, by have := hHN.out; rwa [if_neg he2] at this, hHA.out, hHO.out, hP5⟩
                case measure => have := HKM.out; simp [intOf, he2]; omega
          · have hpe := puts_end (by omega) hps (by rw [hzl]; exact hgo)
            have hput := K.put_any wr b s B q C2 zs hP.mr.que (HV2.out.below hP.mr.below) (by omega) (fun h0 x9 hx => by have := HF2.out h0 x9 hx; have := hP.mr.far; omega)
            rw [hpe] at hput
            dsimp only at hput
            have hgz : m < q → (er == 0) = false := fun h => by simpa using fun h2 => hgo ⟨h, h2⟩
            have hmM : m ≤ q := by have h1 := puts_len (s := s) (xs := zs.take k1); rw [hps, List.length_take] at h1; dsimp only at h1; omega
            clear hps hpe HV2 HF2 hzl hok hk1
            by_cases hmq : m < q
            · have hmz : (m : Int) < (q : Int) := by omega
              have herz := hgz hmq
              clear hgz hgo
              go_wp2_with (go_at_call 17; ((with_reducible refine hput.mono ?_); rintro e W6 ⟨rfl, hQ6, hK6⟩; have hM6 := hP.mr.kept hQ6 hK6; have hP9 := hP.turned hM6 hK6))
              have hlr := alike_many hal
              have hfr := hal.2
              have hln : ∀ d, Calls Tryd.prog 22 #[.pointer (some ⟨b, 0, none⟩)] ((W6).drewN d) fun e w' => e = .returned (.int .i64 (((s1).l.length : Nat) : Int)) ∧ w' = (W6).drewN d := fun d => K.len_any _ b s1 (K.below hP9.mr.que (below_drewN (Below.refl _ _) d))
              have hfn : ∀ d, Calls Tryd.prog 23 #[.pointer (some ⟨b, 0, none⟩)] ((W6).drewN d) fun e w' => e = .returned (.int .i64 (s1).frm) ∧ w' = (W6).drewN d := fun d => K.from_any _ b s1 (K.below hP9.mr.que (below_drewN (Below.refl _ _) d))
              rw [hlr] at hln
              rw [hfr] at hfn
              obtain ⟨y0, y1, -, -⟩ := hP9.st.two
              have HP9 := Lib.hid hP9
              have HAL := Lib.hid hal
              clear hP9 hal hlr hfr
              go_quiet ((first
                | (go_at_call 22; exact Calls.quiet_of_same (hln _))
                | (go_at_call 23; exact Calls.quiet_of_same (hfn _))))
              go_wp2
              go_roundw
              case rel => exact ⟨k + 1, b, s1, r1, _, _, by have := HKP.out; omega, rfl, by go_num, HAL.out, HP9.out.grow K (below_drewN (Below.refl _ _) _)⟩
              case measure => have := HKP.out; simp [intOf]; omega
            · have hmz : ¬ (m : Int) < (q : Int) := by omega
              clear hgz hgo
              go_wp2_with (go_at_call 17; ((with_reducible refine hput.mono ?_); rintro e W6 ⟨rfl, hQ6, hK6⟩; have hM6 := hP.mr.kept hQ6 hK6; have hP9 := hP.turned hM6 hK6))
              have hlr := alike_many hal
              have hfr := hal.2
              have hln : ∀ d, Calls Tryd.prog 22 #[.pointer (some ⟨b, 0, none⟩)] ((W6).drewN d) fun e w' => e = .returned (.int .i64 (((s1).l.length : Nat) : Int)) ∧ w' = (W6).drewN d := fun d => K.len_any _ b s1 (K.below hP9.mr.que (below_drewN (Below.refl _ _) d))
              have hfn : ∀ d, Calls Tryd.prog 23 #[.pointer (some ⟨b, 0, none⟩)] ((W6).drewN d) fun e w' => e = .returned (.int .i64 (s1).frm) ∧ w' = (W6).drewN d := fun d => K.from_any _ b s1 (K.below hP9.mr.que (below_drewN (Below.refl _ _) d))
              rw [hlr] at hln
              rw [hfr] at hfn
              obtain ⟨y0, y1, -, -⟩ := hP9.st.two
              have HP9 := Lib.hid hP9
              have HAL := Lib.hid hal
              clear hP9 hal hlr hfr
              go_quiet ((first
                | (go_at_call 22; exact Calls.quiet_of_same (hln _))
                | (go_at_call 23; exact Calls.quiet_of_same (hfn _))))
              go_wp2
              go_roundw
              case rel => exact ⟨k + 1, b, s1, r1, _, _, by have := HKP.out; omega, rfl, by go_num, HAL.out, HP9.out.grow K (below_drewN (Below.refl _ _) _)⟩
              case measure => have := HKP.out; simp [intOf]; omega
      · clear hV2 hf2 hmB e1 e2 e5 e7
        by_cases hd1 : D = 1
        · subst hd1
          have hal2 := alike_due hal N
          have hrd := fun W hv h => refdue_any A r.l.length c r.frm r.l N W hv hr32 h
          have hdu := fun W (hM : Mr Que w b s W) => hM.due K N
          rw [hal2.2] at hdu
          have hDl : (rdueT r N).2.length ≤ 32 := by have h1 := gone_len r.l (nearA N); show (sortT (goneT (nearA N) r.l)).length ≤ 32; omega
          unfold rV at hrd
          have hre : (⟨r.l, r.frm⟩ : Rf) = r := rfl
          rw [hre] at hrd
          have hal3 := hal2.1
          generalize rdueT r N = rr at *
          generalize (dueT s N).1 = s2 at *
          obtain ⟨r2, ds⟩ := rr
          dsimp only at hrd hdu hal3 hDl
          obtain ⟨y0, y1, g0, g1⟩ := hTb.st.two
          clear hal hal2 hre
          go_upto_region 20 with (go_at_call 18; ((with_reducible refine (hrd _ hTb.lv (fun _ z hz => (hTb.ap z hz).2.2)).mono ?_); rintro e W5 ⟨V, A5, c5, rfl, hR5, hV5, hf5, hB5⟩; obtain ⟨A6, c6, hV6, hP6⟩ := hTb.stored K hB5 hR5; unfold rV at hV6; subst hV6; obtain ⟨y5, y6, g5, g6⟩ := (hTb.st.below hB5 hTb.st.lt).two; have hZ5 := hZ.below hB5 hZ.lt))
          have hs8 : (wr.alloc (.cells #[.int .i64 1, .slice B M C2, .int .i64 N] 43)).heap.size = wr.heap.size + 1 := World.size_alloc _ _
          have hK6 := ((Kept.refl [y] W5).setCell (p := ⟨y, 0, none⟩) (.inl (by simp)) (.slice A6 r2.l.length c6)).setCell (p := ⟨y, 1, none⟩) (.inl (by simp)) (.int .i64 r2.frm)
          have hZ6 := hK6.has hZ5 (by simp; omega)
          have hV6 := hV5.kept hK6 (fun _ z hz => by have := hf5 z hz; simp; omega)
          have z2 := hZ6.cell 2
          have hfb : ∀ z, A5 = some z → z.block ≠ b := fun z hz => by have := hf5 z hz; omega
          clear hV5 hf5 hB5 hR5 hZ5 hK6 hZ6 y0 y1 g0 g1 y5 y6 g5 g6 hTb hZ hrd c0 c1 c2
          generalize (W5.setCell ⟨y, 0, none⟩ (.slice A6 r2.l.length c6)).setCell ⟨y, 1, none⟩ (.int .i64 r2.frm) = W6 at *
          have hdw := hdu W6 hP6.mr
          clear hdu
          go_upto_region 27 with (first
            | (go_at_call 20; ((with_reducible refine hdw.mono ?_); rintro e W7 ⟨A7, c7, rfl, hV7, -, -, -, hM7, hK7⟩; have hP7 := hP6.turned hM7 hK7; have hV8 := hV6.kept hK7 (fun _ z hz => by have := hfb z hz; simp; omega); have hsm := same_yes A7 A5 ds.length c7 c5 ds W7 hV7 hV8 (by omega)))
            | (go_at_call 19; ((with_reducible refine hsm.mono ?_); rintro e W8 ⟨rfl, zz, rfl⟩; have hP9 := hP7.grow K (below_drewN (Below.refl _ _) zz))))
          have hal := hal3
          clear hsm hP7 hV8 hV7 hM7 hK7 hP6 hV6 z2 hal3 hdw
          generalize W7.drewN zz = W9 at *
          have hlr := alike_many hal
          have hfr := hal.2
          have hln : ∀ d, Calls Tryd.prog 22 #[.pointer (some ⟨b, 0, none⟩)] ((W9).drewN d) fun e w' => e = .returned (.int .i64 (((s2).l.length : Nat) : Int)) ∧ w' = (W9).drewN d := fun d => K.len_any _ b s2 (K.below hP9.mr.que (below_drewN (Below.refl _ _) d))
          have hfn : ∀ d, Calls Tryd.prog 23 #[.pointer (some ⟨b, 0, none⟩)] ((W9).drewN d) fun e w' => e = .returned (.int .i64 (s2).frm) ∧ w' = (W9).drewN d := fun d => K.from_any _ b s2 (K.below hP9.mr.que (below_drewN (Below.refl _ _) d))
          rw [hlr] at hln
          rw [hfr] at hfn
          obtain ⟨y0, y1, -, -⟩ := hP9.st.two
          have HP9 := Lib.hid hP9
          have HAL := Lib.hid hal
          clear hP9 hal hlr hfr
          go_quiet ((first
            | (go_at_call 22; exact Calls.quiet_of_same (hln _))
            | (go_at_call 23; exact Calls.quiet_of_same (hfn _))))
          go_wp2
          go_roundw
          case rel => exact ⟨k + 1, b, s2, r2, _, _, by have := HKP.out; omega, rfl, by go_num, HAL.out, HP9.out.grow K (below_drewN (Below.refl _ _) _)⟩
          case measure => have := HKP.out; simp [intOf]; omega
        · by_cases hd2 : D = 2
          · subst hd2
            have hs8 : (wr.alloc (.cells #[.int .i64 2, .slice B M C2, .int .i64 N] 43)).heap.size = wr.heap.size + 1 := World.size_alloc _ _
            have hcl := fun W (h : Que W b s) => K.clone_any W b s h
            go_upto_region 25 with (go_at_call 21; ((with_reducible refine (hcl _ hTb.mr.que).mono ?_); rintro e W3 ⟨cq, rfl, hC3, hfc, hB3⟩; have hO3 := hTb.grow K hB3; have hZ3 := hZ.below hB3 hZ.lt))
            have hcb : cq ≠ b ∧ cq ≠ y := by omega
            have hC4 : Pl Que w cq y s r A c W3 := ⟨⟨hC3, hO3.mr.below, by have h1 := hTb.mr.below.size; omega⟩, hO3.st, hO3.lv, by omega, hO3.far, fun x hx => ⟨(hO3.ap x hx).1, by have := (hTb.ap x hx).2.2; omega, (hO3.ap x hx).2.2⟩⟩
            have hput := hO3.mr.put_one K (1099511627776, 1, 0) 1
            have hfar := hO3.mr.far
            have hne := hO3.ne_
            have hap := fun x hx => (hO3.ap x hx).2.1
            generalize putT s (1099511627776, 1, 0) = r4 at *
            obtain ⟨s4, e4⟩ := r4
            dsimp only at hput
            clear hcl hTb hZ hC3 hB3 c0 c1 c2 hO3
            go_upto_region 26 with (go_at_call 17; ((with_reducible refine hput.mono ?_); rintro e W5 ⟨rfl, hM5, hK5⟩))
            have hC5 := hC4.other K hK5 hfar hne hcb.1 hap
            have hZ5 := hK5.has hZ3 (by simp; omega)
            have z2 := hZ5.cell 2
            have hdu := hM5.due K N
            generalize dueT s4 N = r6 at *
            obtain ⟨s6, ds⟩ := r6
            dsimp only at hdu
            clear hput hC4 hZ3 hM5 hK5
            go_upto_region 27 with (go_at_call 20; ((with_reducible refine hdu.mono ?_); rintro e W7 ⟨A7, c7, rfl, -, -, -, -, hM7, hK7⟩))
            have hP9 := hC5.other K hK7 hfar hne hcb.1 hap
            clear hC5 hZ5 z2 hdu hM7 hK7
            have hlr := alike_many hal
            have hfr := hal.2
            have hln : ∀ d, Calls Tryd.prog 22 #[.pointer (some ⟨cq, 0, none⟩)] ((W7).drewN d) fun e w' => e = .returned (.int .i64 (((s).l.length : Nat) : Int)) ∧ w' = (W7).drewN d := fun d => K.len_any _ cq s (K.below hP9.mr.que (below_drewN (Below.refl _ _) d))
            have hfn : ∀ d, Calls Tryd.prog 23 #[.pointer (some ⟨cq, 0, none⟩)] ((W7).drewN d) fun e w' => e = .returned (.int .i64 (s).frm) ∧ w' = (W7).drewN d := fun d => K.from_any _ cq s (K.below hP9.mr.que (below_drewN (Below.refl _ _) d))
            rw [hlr] at hln
            rw [hfr] at hfn
            obtain ⟨y0, y1, -, -⟩ := hP9.st.two
            have HP9 := Lib.hid hP9
            have HAL := Lib.hid hal
            clear hP9 hal hlr hfr
            go_quiet ((first
              | (go_at_call 22; exact Calls.quiet_of_same (hln _))
              | (go_at_call 23; exact Calls.quiet_of_same (hfn _))))
            go_wp2
            go_roundw
            case rel => exact ⟨k + 1, cq, s, r, _, _, by have := HKP.out; omega, rfl, by go_num, HAL.out, HP9.out.grow K (below_drewN (Below.refl _ _) _)⟩
            case measure => have := HKP.out; simp [intOf]; omega
          · have b0 : (D == 0) = false := by simpa using hd0
            have b1 : (D == 1) = false := by simpa using hd1
            have b2 : (D == 2) = false := by simpa using hd2
            go_upto_region 27 with (fail)
            have hP9 := hTb
            clear hTb hZ hbz c0 c1 c2
            generalize wr.alloc _ = W9 at *
            have hlr := alike_many hal
            have hfr := hal.2
            have hln : ∀ d, Calls Tryd.prog 22 #[.pointer (some ⟨b, 0, none⟩)] ((W9).drewN d) fun e w' => e = .returned (.int .i64 (((s).l.length : Nat) : Int)) ∧ w' = (W9).drewN d := fun d => K.len_any _ b s (K.below hP9.mr.que (below_drewN (Below.refl _ _) d))
            have hfn : ∀ d, Calls Tryd.prog 23 #[.pointer (some ⟨b, 0, none⟩)] ((W9).drewN d) fun e w' => e = .returned (.int .i64 (s).frm) ∧ w' = (W9).drewN d := fun d => K.from_any _ b s (K.below hP9.mr.que (below_drewN (Below.refl _ _) d))
            rw [hlr] at hln
            rw [hfr] at hfn
            obtain ⟨y0, y1, -, -⟩ := hP9.st.two
            have HP9 := Lib.hid hP9
            have HAL := Lib.hid hal
            clear hP9 hal hlr hfr
            go_quiet ((first
              | (go_at_call 22; exact Calls.quiet_of_same (hln _))
              | (go_at_call 23; exact Calls.quiet_of_same (hfn _))))
            go_wp2
            go_roundw
            case rel => exact ⟨k + 1, b, s, r, _, _, by have := HKP.out; omega, rfl, by go_num, HAL.out, HP9.out.grow K (below_drewN (Below.refl _ _) _)⟩
            case measure => have := HKP.out; simp [intOf]; omega
    · obtain rfl : k = p := by omega
      go_wp2_with (first
        | (go_at_call 8; ((with_reducible refine (hli _ (hLd.below hP.mr.below)).mono ?_); rintro e W8 ⟨rfl, hB8⟩; have hM8 := hP.grow K hB8)))
      go_ret
      exact ⟨rfl, hM8.mr.below⟩
end Go.Proofs.YtmefdgmbpihdfaaDoor.Order
