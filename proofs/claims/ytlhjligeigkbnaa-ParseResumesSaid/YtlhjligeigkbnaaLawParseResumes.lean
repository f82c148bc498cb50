/- Whatever garbage, number and lists come in, ParseResumes answers true, and writes nothing that was there. -/
import Derived.Test.YtlhjligeigkbnaaRows
import Derived.ShutString
import Derived.ChangeOld
import Derived.Below
import Derived.Test.YtlhjligeigkbnaaLawKit
import Derived.Test.YtlhjligeigkbnaaParseLive
import Derived.Test.YtlhjligeigkbnaaParseResumeMath
import Derived.Test.YtlhjligeigkbnaaSampRows
import Derived.Test.YtlhjligeigkbnaaFrameRefMay
import Derived.Deep.Matrix
set_option linter.unusedSimpArgs false
set_option linter.unusedVariables false
namespace Go.Proofs.Ytlhjligeigkbnaa.parseResumes
open Go.Deep
open Go.ChangeShapes Go.WideShapes Go.ChangeAt Go.RowKit
open Go.ChangeMaps (open_string shut_string)
open Par Frm RU8
theorem same_yes (A : Option Addr) (n c : Nat) (xs : List Ev) (B : Option Addr) (m d : Nat) (w : World) (hv : Row.Vals evSh w A n xs) (hu : Row.Vals evSh w B m xs) (hn : n ≤ 100000) (hm : m ≤ 100000) :
    Calls Try.prog 15 #[.slice A n c, .slice B m d] w fun e w' => e = .returned (.bool true) ∧ ∃ z, w' = w.drewN z := by
  have := refsame_any A n c xs B m d xs w hv hu (by omega) (by omega)
  rwa [decide_eq_true rfl] at this
/-- An own row stays, where another one has grown. -/
theorem own_grown {w w' : World} {base : Nat} {e : TypeId} {size n : Nat} {v u : Value} {xs : List Value} (h : w.ownsRow base e size v n xs) (hg : w.grownBy w' u.ownBlock) (ha : Apart v u) : w'.ownsRow base e size v n xs := by
  obtain ⟨h1, h2⟩ := h
  refine ⟨h1, ?_⟩
  rcases h2 with h2 | ⟨k, cap, cur, rfl, hk, hh, h3⟩
  · exact .inl h2
  · exact .inr ⟨k, cap, cur, rfl, hk, ((Kept.of_grown hg).block k (Has.lt (w := w) hh) (fun e => ha k rfl (by simpa using e))).trans hh, h3⟩
def fixB (x : Nat) : Nat := if x = 165 then 0 else x
def cleanT (J : List Nat) (k : Nat) : List Nat := (J.take k).map fixB ++ J.drop k
theorem cleanT_length (J : List Nat) (k : Nat) : (cleanT J k).length = J.length := by unfold cleanT; rw [List.length_append, List.length_map, List.length_take, List.length_drop]; omega
theorem cleanT_get (J : List Nat) (k : Nat) (h : k < J.length) : (cleanT J k).getD k 0 = J.getD k 0 := by
  unfold cleanT
  rw [List.getD_eq_getElem?_getD, List.getElem?_append_right (by rw [List.length_map, List.length_take]; exact Nat.min_le_left _ _), List.getD_eq_getElem?_getD]
  simp [Nat.min_eq_left (Nat.le_of_lt h)]
theorem cleanT_step (J : List Nat) (k : Nat) (h : k < J.length) : cleanT J (k + 1) = (cleanT J k).set k (fixB (J.getD k 0)) := by
  unfold cleanT
  rw [take_step J 0 k h, List.map_append, List.set_append_right _ _ (by rw [List.length_map, List.length_take]; exact Nat.min_le_left _ _), List.append_assoc]
  congr 1
  rw [show k - ((J.take k).map fixB).length = 0 by rw [List.length_map, List.length_take, Nat.min_eq_left (Nat.le_of_lt h)]; omega, List.drop_eq_getElem_cons h, List.set_cons_zero]
  simp
theorem cleanT_same (J : List Nat) (k : Nat) (h : k < J.length) (hx : J.getD k 0 ≠ 165) : cleanT J (k + 1) = cleanT J k := by
  rw [cleanT_step J k h, ← cleanT_get J k h]
  have e : fixB ((cleanT J k).getD k 0) = (cleanT J k).getD k 0 := by unfold fixB; rw [cleanT_get J k h, if_neg hx]
  rw [e]
  have hl := cleanT_length J k
  generalize cleanT J k = K at *
  apply List.ext_getElem (by simp)
  intro i h1 h2
  rw [List.getElem_set]
  split
  · rename_i hki
    subst hki
    rw [List.getD_eq_getElem?_getD, List.getElem?_eq_getElem h2]; rfl
  · rfl
theorem cleanT_end (J : List Nat) : cleanT J J.length = J.map fixB := by unfold cleanT; rw [List.take_length, List.drop_length, List.append_nil]
theorem fix_no (J : List Nat) : ∀ x ∈ J.map fixB, x ≠ 165 := by
  intro x hx
  obtain ⟨y, _, rfl⟩ := List.mem_map.1 hx
  unfold fixB
  split <;> omega
theorem fix_bytes {J : List Nat} (h : Bytes J) : Bytes (J.map fixB) := by
  intro x hx
  obtain ⟨y, hy, rfl⟩ := List.mem_map.1 hx
  have := h y hy
  unfold fixB
  split <;> omega
theorem want_zero (d : Bool) : wantT d [] = [] := by cases d <;> rfl
theorem want_len (d : Bool) (ls : List (List Samp)) : (wantT d ls).length ≤ 1 + total ls := by
  unfold wantT
  rw [List.length_append, evsOf_length]
  split <;> simp
theorem event_new (W : World) (o : Obj) (t : TypeId) (e : Ev) : Row.Vals evSh ((W.alloc o).alloc (.cells #[.int .i64 (e.1 : Nat), .int .i64 (e.2.1 : Nat), .int .i32 e.2.2.1, .bool e.2.2.2] t)) (some ⟨W.heap.size + 1, 0, none⟩) 1 [e] := by
  have h := one_new (W.alloc o) t e
  rwa [show (W.alloc o).heap.size = W.heap.size + 1 by simp] at h
set_option maxRecDepth 100000 in
set_option maxHeartbeats 4000000 in
theorem walk (a0 : Option Addr) (len0 cap0 : Nat) (z0 : List Int) (a1 : Int) (a2 : Option Addr) (len2 cap2 : Nat) (w : World) (w0 : IsRow .u8 w a0 len0 cap0 z0) (w1 : (Lit.int .u8 a1).wf = true) (w2 : IsSampRows w a2 len2 cap2) :
    Calls Try.prog 7 #[.slice a0 len0 cap0, .int .u8 a1, .slice a2 len2 cap2] w fun e w' => e = .returned (.bool true) ∧ Below w.heap.size w w' := by
  have b1 := bounds_u8 w1
  obtain ⟨J0, hV0, hb, hl0, hm0, _⟩ := row_vals w0
  obtain ⟨Q, Ls, hl2, hm2, hrows⟩ := rows_lists w2
  have hlen := hV0.len_
  obtain ⟨q0, rfl⟩ : ∃ q : Nat, a1 = (q : Int) := ⟨a1.toNat, by omega⟩
  have hq0 : q0 < 256 := by omega
  clear w0 w1 w2 b1
  rcases Nat.lt_or_ge 300 len0 with hbig | hs0
  · have hlive := live_ok w
    clear hV0 hb hlen hrows
    go_enter Try.func7, Try.ntmps7
    go_wp2_with (go_at_call 8; ((with_reducible refine hlive.mono ?_); rintro e w' ⟨rfl, hB⟩))
    go_ret
    exact ⟨rfl, hB⟩
  have hInfoB : (Try.prog.info? 5).map (fun i => (i.zero, i.size, i.bytes)) = some (some (.int .u8 0), 1, 1) := by kernel_rfl
  have hInfoE : (Try.prog.info? 51).map (fun i => (i.zero, i.size, i.bytes)) = some (some (.agg #[.int .i64 0, .int .i64 0, .int .i32 0, .bool false]), 4, 24) := by kernel_rfl
  have HInfoB := Lib.hid hInfoB
  have HInfoE := Lib.hid hInfoE
  have hOe := own_empty w 5
  have hBe := (Below.refl w.heap.size w).alloc (Nat.le_refl _) (.cells #[] 5)
  have hVe := hV0.alloc (.cells #[] 5)
  have hl300 : 0 + len0 ≤ 1048576 := by omega
  clear hInfoB hInfoE
  go_enter Try.func7, Try.ntmps7
  go_wp2_with (at_builtin; refine wpList_append_vals rfl (.tmp 24) (.tmp 25) _ rfl w.heap.size 5 1 (by omega) Try.underlying22 HInfoB.out (.slice (some ⟨w.heap.size, 0, none⟩) 0 0) 0 [] rfl (by exact hOe) a0 len0 cap0 J0 rfl (by exact hVe) (by exact hl300) (by exact hBe.size) ?_; intro v1 W1 hO1 hg1 hat1; have hK1 := Kept.of_grown hg1; have hB1 := below_kept hBe hK1 hBe.size (own_in hOe); rw [Nat.zero_add, List.nil_append] at hO1; obtain ⟨A1, c1, rfl, g1, g2, _, _⟩ := Vals.own hO1)
  clear hV0 hVe hOe hg1 hat1 hK1 hBe hl300
  go_loopw [29] (fun i wr => ∃ k : Nat, k ≤ len0 ∧ i = .int .i64 (k : Nat) ∧ wr.ownsRow w.heap.size 5 1 (.slice A1 len0 c1) len0 (vals (cleanT J0 k)) ∧ Below w.heap.size w wr) (fun i _ => len0 - (intOf i).toNat)
  case atStart => exact ⟨0, by omega, rfl, hO1, hB1⟩
  case round =>
    obtain ⟨k, hk, rfl, hO, hB⟩ := hrel
    by_cases hkn : k < len0
    · have hg := cleanT_get J0 k (by omega)
      have hby := hb.at_ k
      obtain ⟨g, rfl, hg1, hg2, hcell, hfz, hset⟩ := own_set hO k hkn
      rw [hg] at hcell
      by_cases hx : J0.getD k 0 = 165
      · have hs := cleanT_step J0 k (by omega)
        rw [hx] at hs hcell
        have hO2 := hset 0
        rw [show (0 : Nat) = fixB 165 from rfl, ← hs] at hO2
        have hB2 := hB.setCell (p := ⟨g, k, none⟩) hg1 (.int .u8 0)
        clear hs hset hO hg hby hx
        go_wp2
        go_roundw
        case rel => exact ⟨k + 1, by omega, by go_num, hO2, hB2⟩
        case measure => simp [intOf]; omega
      · have hs := cleanT_same J0 k (by omega) hx
        have hxz : ((J0.getD k 0 : Nat) : Int) ≠ 165 := by omega
        generalize J0.getD k 0 = y at *
        rw [← hs] at hO
        clear hs hset hg hx
        go_wp2
        go_roundw
        case rel => exact ⟨k + 1, by omega, by go_num, hO, hB⟩
        case measure => simp [intOf]; omega
    · have hkn2 : k = len0 := by omega
      subst hkn2
      have hce := cleanT_end J0
      rw [hlen] at hce
      rw [hce] at hO
      have hno := fix_no J0
      have hbF := fix_bytes hb
      have hlF : (J0.map fixB).length = k := by rw [List.length_map, hlen]
      obtain ⟨_, _, he, _, _, hVJ, _, _⟩ := Vals.own hO
      injection he with he1 he2 he3
      subst he1
      subst he3
      generalize J0.map fixB = J at *
      clear hce hb hlen hO hO1 hB1
      rcases Nat.lt_or_ge 6 len2 with h6 | h6
      · have h6z : (6 : Int) < (len2 : Int) := by omega
        have hM6 : (6 : Nat) ≤ 6 := by omega
        have hML : 6 ≤ len2 := by omega
        obtain ⟨W3, rfl⟩ : ∃ z : World, z = wr := ⟨_, rfl⟩
        obtain ⟨LL, hLL, hLn⟩ : ∃ LL : List (List Samp), LL.length = 6 ∧ ∀ i, i < 6 → LL.getD i [] = Ls i := ⟨(List.range 6).map Ls, by simp, fun i hi => by simp [List.getD_eq_getElem?_getD, hi]⟩
        obtain ⟨D, hD⟩ : ∃ D, decide (0 < k) = D := ⟨_, rfl⟩
        have HL := Lib.hid hLL
        have HD := Lib.hid hD
        have hwz := want_zero D
        clear hLL hD hm0
        go_wp2
        go_loopw [1, 7, 8, 11, 46] (fun q v u t i wy => ∃ (j : Nat) (vs : List (List Samp)) (ws : List Ev) (fb : List Nat), j ≤ 6 ∧ vs = validT LL j ∧ ws = wantT D vs ∧ fb = framesOf q0 vs ∧ i = .int .i64 (j : Nat) ∧ q = .int .u8 ((q0 + vs.length) % 256 : Nat) ∧ t = .int .i64 (total vs : Nat) ∧ wy.ownsRow W3.heap.size 5 1 v fb.length (vals fb) ∧ wy.ownsRow W3.heap.size 51 4 u ws.length (Row.flat evSh ws) ∧ Apart v u ∧ Below W3.heap.size W3 wy) (fun _ _ _ _ i _ => 6 - (intOf i).toNat)
        case atStart => exact ⟨0, [], [], [], by omega, rfl, hwz.symm, rfl, rfl, by rw [List.length_nil, Nat.add_zero, Nat.mod_eq_of_lt hq0], rfl, RU8.own_none _ _ _, Row.own_none (S := evSh) _ _ _, (fun _ h => by cases h), Below.refl _ _⟩
        case round =>
          obtain ⟨j, vs, ws, fb, hj, hvs, hws, hfb, rfl, rfl, rfl, hOb, hOw, hA, hBy⟩ := hrel
          by_cases hjn : j < 6
          · obtain ⟨x, rfl, hr⟩ := hrows (by omega)
            obtain ⟨hc, hv, hs, hq1, hq2⟩ := hr j (by omega)
            have hstep := valid_step LL j (by rw [HL.out]; exact hjn)
            rw [hLn j hjn, ← hvs] at hstep
            have hvl := valid_len LL j
            have hvm := valid_may LL j
            rw [← hvs] at hvl hvm
            have htot := total_le vs hvm
            have hfl := framesOf_length q0 vs
            have hwl := want_len D vs
            rw [← hws] at hwl
            rw [← hfb] at hfl
            have hBw := hB.trans (hBy.mono hB.size)
            replace hc := (hBw.cell (World.block_lt_of_cell? _ _ hc)).trans hc
            have hvw := hv
            replace hv := hv.below hBw
            clear hr hrows hLn
            generalize Ls j = l at *
            generalize Q j = q1 at *
            obtain ⟨Aq, mq, dq⟩ := q1
            dsimp only at hc hv hq1 hq2
            obtain rfl : mq = l.length := hv.len_.symm
            generalize hsq : (q0 + vs.length) % 256 = sq at *
            generalize hTT : total vs = T at *
            have HSQ := Lib.hid hsq
            have HTT := Lib.hid hTT
            by_cases hm : mayT l = true
            · skip
              rw [if_pos hm] at hstep
              obtain ⟨hl1, hl32⟩ := may_len hm
              have hmb : makeB sq l = frameT sq l := by unfold makeB; rw [if_pos hm]
              have hme : makeE l = 0 := by unfold makeE; rw [if_pos hm]
              have hmy := refmay_any Aq l.length dq l _ hv hs (by omega)
              rw [hm] at hmy
              have hmk := fun W h => refmake_any sq (by omega) Aq l.length dq l W h hs (by omega)
              unfold MakeIs at hmk
              simp only [hmb, hme] at hmk
              have hfs := framesOf_snoc q0 hq0 vs l
              rw [hsq, ← hfb] at hfs
              have hwn := wantT_snoc D vs l
              rw [← hws, hTT] at hwn
              have htn := total_snoc vs l
              rw [hTT] at htn
              have hsn : ((sq : Int) + 1) % 256 = (((q0 + (vs ++ [l]).length) % 256 : Nat) : Int) := by rw [List.length_append, List.length_singleton]; omega
              have hlf := frameT_length sq l
              have hwnil := want_nil D vs hvm
              rw [← hws] at hwnil
              have hroom : fb.length + (frameT sq l).length ≤ 1048576 := by omega
              have hT200 : T ≤ 200 := by omega
              have hwl2 : ws.length ≤ 300 := by omega
              have hwroom : ws.length + 1 ≤ 1048576 := by omega
              generalize frameT sq l = F at *
              clear hlf
              have HSTEP := Lib.hid hstep
              have HFS := Lib.hid hfs
              have HTN := Lib.hid htn
              have HSN := Lib.hid hsn
              have HDo := HD.out
              clear hm hs htot hfl hwl hvm hsq hTT hstep hfs htn hmb hme hws hfb hvs hsn
              by_cases hw0 : ws.length = 0
              · have hws0 : ws = [] := List.eq_nil_of_length_eq_zero hw0
                have hvs0 := hwnil.1 hw0
                subst hws0
                by_cases hk0 : 0 < k
                · have hk0z : (0 : Int) < (k : Int) := by omega
                  have hDt : D = true := by rw [← HDo]; exact decide_eq_true hk0
                  obtain ⟨E1, hE1⟩ : ∃ E1 : List Ev, ([] : List Ev) ++ [(1, 0, (0, false))] = E1 := ⟨_, rfl⟩
                  rw [if_pos (by rw [hDt, decide_eq_true hvs0]; rfl), hE1] at hwn
                  have HW2 := Lib.hid hwn
                  have hE1r : E1.length ≤ 400 := by rw [← hE1]; decide
                  have HE1 := Lib.hid (show Row.flat evSh (([] : List Ev) ++ [(1, 0, (0, false))]) = Row.flat evSh E1 ∧ 0 + 1 = E1.length by rw [hE1]; exact ⟨rfl, by rw [← hE1]; rfl⟩)
                  clear hwn hE1 hvs0 hwnil HDo hDt hw0 hwl2 hwroom
                  go_wp2_with (first
                    | (go_at_call 17; ((with_reducible refine hmy.mono ?_); rintro e w1 ⟨rfl, rfl⟩))
                    | (go_at_call 18; ((with_reducible refine (hmk _ hv).mono ?_); rintro e W2 ⟨vF, AF, cF, rfl, rfl, f1, f2, hOf, hB2⟩; obtain ⟨_, _, he, _, _, hVf, _, _⟩ := Vals.own hOf; injection he with he1 he2 he3; subst he1; subst he3; have hOb2 := own_kept hOb (Kept.of_below (S := []) hB2) (by simp); have hOw2 := own_kept hOw (Kept.of_below (S := []) hB2) (by simp); have hBI := hBy.trans (hB2.mono hBy.size); clear hmk hmy hv))
                    | (at_builtin; refine wpList_append_vals rfl (.tmp 59) (.tmp 60) _ rfl _ 5 1 (by omega) Try.underlying22 HInfoB.out _ fb.length fb rfl (by exact hOb2) AF F.length cF F rfl (by exact hVf) (by exact hroom) (by exact hBI.size) ?_; intro v5 W5 hObI hg5 hat5; have hK5 := Kept.of_grown hg5; replace hBI := below_kept hBI hK5 hBI.size (own_in hOb2); rw [← List.length_append, ← HFS.out] at hObI; have hOwI := own_grown hOw2 hg5 hA.symm; have hAI := hA.step hOw2 hat5; obtain ⟨Aw, cw, rfl, _, _, _, _, _⟩ := Row.Vals.own hOwI; clear hOb2 hOw2 hA hg5 hat5 hVf hOf hOb hOw hB2)
                    | (at_builtin; have hObG := own_kept hObI ((Kept.refl [] W5).alloc (.cells #[.int .i64 1, .int .i64 0, .int .i32 0, .bool false] 51)) (by simp); have hOwG := own_kept hOwI ((Kept.refl [] W5).alloc (.cells #[.int .i64 1, .int .i64 0, .int .i32 0, .bool false] 51)) (by simp); have hBG := hBI.alloc hBI.size (.cells #[.int .i64 1, .int .i64 0, .int .i32 0, .bool false] 51); have hVG : Row.Vals evSh (W5.alloc (.cells #[.int .i64 1, .int .i64 0, .int .i32 0, .bool false] 51)) (some ⟨W5.heap.size, 0, none⟩) 1 [(1, 0, (0, false))] := one_new W5 51 (1, 0, (0, false)); refine Row.wpList_append (S := evSh) rfl (.tmp 70) (.tmp 72) _ rfl _ 51 _ 24 (by omega) Try.underlying39 HInfoE.out (by kernel_rfl) _ 0 ([] : List Ev) rfl (by exact hOwG) _ 1 1 [(1, 0, (0, false))] rfl (by exact hVG) (by omega) (by exact hBG.size) ?_; intro v6 W6 hO6 hg6 hat6; have hK6 := Kept.of_grown hg6; replace hBI := below_kept hBG hK6 hBG.size (own_in hOwG); replace hObI := own_grown hObG hg6 hAI; replace hAI := (hAI.symm.step hObG hat6).symm; replace hOwI := hO6; rw [HE1.out.1, HE1.out.2] at hOwI; clear hO6 hObG hOwG hBG hVG hg6 hat6))
                  go_loopw [8, 11, 76] (fun u t i wz => ∃ n : Nat, n ≤ l.length ∧ i = .int .i64 (n : Nat) ∧ t = .int .i64 ((T + n : Nat) : Int) ∧ wz.ownsRow W3.heap.size 5 1 v5 (framesOf q0 (vs ++ [l])).length (vals (framesOf q0 (vs ++ [l]))) ∧ wz.ownsRow W3.heap.size 51 4 u (E1 ++ evS T (l.take n)).length (Row.flat evSh (E1 ++ evS T (l.take n))) ∧ Apart v5 u ∧ Below W3.heap.size W3 wz) (fun _ _ i _ => l.length - (intOf i).toNat)
                  case atStart => exact ⟨0, Nat.zero_le _, rfl, rfl, hObI, by rw [List.take_zero, evS, List.append_nil]; exact hOwI, hAI, hBI⟩
                  case round =>
                    clear hObI hOwI hAI hBI
                    obtain ⟨n, hn, rfl, rfl, hObI, hOwI, hAI, hBI⟩ := hrel
                    by_cases hnl : n < l.length
                    · have hvn := hvw.below (hB.trans (hBI.mono hB.size))
                      obtain ⟨y, rfl, _⟩ := hvn.cells (by omega)
                      obtain ⟨m0, m1⟩ := samp_cells hvn n hnl
                      have hstp := evS_take T l n hnl
                      have hroom2 : (E1 ++ evS T (l.take n)).length + 1 ≤ 1048576 := by rw [List.length_append, evS_length, List.length_take]; (try simp only [List.length_nil]); omega
                      have HSTP := Lib.hid hstp
                      generalize l.getD n (0, false) = sm at *
                      obtain ⟨sv, so⟩ := sm
                      dsimp only at m0 m1
                      generalize hE : E1 ++ evS T (l.take n) = E2 at *
                      obtain ⟨sk, hsk⟩ : ∃ z, T + n = z := ⟨_, rfl⟩
                      rw [hsk] at HSTP ⊢
                      have hObA := own_kept hObI (((Kept.refl [] wr).alloc (.cells #[.int .i32 sv, .bool so] 49)).alloc (.cells #[.int .i64 2, .int .i64 (sk : Nat), .int .i32 sv, .bool so] 51)) (by simp)
                      have hOwA := own_kept hOwI (((Kept.refl [] wr).alloc (.cells #[.int .i32 sv, .bool so] 49)).alloc (.cells #[.int .i64 2, .int .i64 (sk : Nat), .int .i32 sv, .bool so] 51)) (by simp)
                      have hBA := (hBI.alloc hBI.size (.cells #[.int .i32 sv, .bool so] 49)).alloc (Nat.le_trans hBI.size (by simp)) (.cells #[.int .i64 2, .int .i64 (sk : Nat), .int .i32 sv, .bool so] 51)
                      have hVn := event_new wr (.cells #[.int .i32 sv, .bool so] 49) 51 (2, sk, (sv, so))
                      have hskz : (T : Int) + (n : Int) = (sk : Int) := by omega
                      have hsk1 : IntKind.i64.wrap ((sk : Int) + 1) = (sk : Int) + 1 := by exact IntWalk.i64_in _ (by omega)
                      have HSK := Lib.hid hsk
                      have HE := Lib.hid hE
                      clear hstp hsk hE hObI hOwI
                      go_wp2_with (at_builtin; refine Row.wpList_append (S := evSh) rfl (.tmp 80) (.tmp 84) _ rfl _ 51 _ 24 (by omega) Try.underlying39 HInfoE.out (by kernel_rfl) _ E2.length E2 rfl (by exact hOwA) _ 1 1 [(2, sk, (sv, so))] rfl (by exact hVn) (by exact hroom2) (by exact hBA.size) ?_; intro v7 W7 hO7 hg7 hat7; have hK7 := Kept.of_grown hg7; have hB7 := below_kept hBA hK7 hBA.size (own_in hOwA); have hOb7 := own_grown hObA hg7 hAI; have hA7 := (hAI.symm.step hObA hat7).symm)
                      go_roundw
                      case rel => exact ⟨n + 1, by omega, by go_num, by first | go_num | (rw [← Nat.add_assoc, HSK.out]; go_num), hOb7, by rw [HSTP.out, ← List.append_assoc, HE.out, List.length_append, List.length_singleton]; exact hO7, hA7, hB7⟩
                      case measure => simp [intOf]; omega
                    · have hnl2 : n = l.length := by omega
                      subst hnl2
                      rw [List.take_of_length_le (Nat.le_refl _)] at hOwI
                      clear hnl hn
                      go_wp2
                      go_roundw
                      case rel => exact ⟨j + 1, vs ++ [l], E1 ++ evS T l, framesOf q0 (vs ++ [l]), by omega, HSTEP.out.symm, HW2.out.symm, rfl, by go_num, by rw [HSN.out], by rw [HTN.out], hObI, hOwI, hAI, hBI⟩
                      case measure => simp [intOf]; omega
                · have hk0z : ¬ (0 : Int) < (k : Int) := by omega
                  have hDt : D = false := by rw [← HDo]; exact decide_eq_false hk0
                  rw [if_neg (by rw [hDt]; simp), List.append_nil] at hwn
                  have HW2 := Lib.hid hwn
                  clear hwn hvs0 hwnil HDo hDt hw0 hwl2 hwroom
                  go_wp2_with (first
                    | (go_at_call 17; ((with_reducible refine hmy.mono ?_); rintro e w1 ⟨rfl, rfl⟩))
                    | (go_at_call 18; ((with_reducible refine (hmk _ hv).mono ?_); rintro e W2 ⟨vF, AF, cF, rfl, rfl, f1, f2, hOf, hB2⟩; obtain ⟨_, _, he, _, _, hVf, _, _⟩ := Vals.own hOf; injection he with he1 he2 he3; subst he1; subst he3; have hOb2 := own_kept hOb (Kept.of_below (S := []) hB2) (by simp); have hOw2 := own_kept hOw (Kept.of_below (S := []) hB2) (by simp); have hBI := hBy.trans (hB2.mono hBy.size); clear hmk hmy hv))
                    | (at_builtin; refine wpList_append_vals rfl (.tmp 59) (.tmp 60) _ rfl _ 5 1 (by omega) Try.underlying22 HInfoB.out _ fb.length fb rfl (by exact hOb2) AF F.length cF F rfl (by exact hVf) (by exact hroom) (by exact hBI.size) ?_; intro v5 W5 hObI hg5 hat5; have hK5 := Kept.of_grown hg5; replace hBI := below_kept hBI hK5 hBI.size (own_in hOb2); rw [← List.length_append, ← HFS.out] at hObI; have hOwI := own_grown hOw2 hg5 hA.symm; have hAI := hA.step hOw2 hat5; obtain ⟨Aw, cw, rfl, _, _, _, _, _⟩ := Row.Vals.own hOwI; clear hOb2 hOw2 hA hg5 hat5 hVf hOf hOb hOw hB2))
                  go_loopw [8, 11, 76] (fun u t i wz => ∃ n : Nat, n ≤ l.length ∧ i = .int .i64 (n : Nat) ∧ t = .int .i64 ((T + n : Nat) : Int) ∧ wz.ownsRow W3.heap.size 5 1 v5 (framesOf q0 (vs ++ [l])).length (vals (framesOf q0 (vs ++ [l]))) ∧ wz.ownsRow W3.heap.size 51 4 u (([] : List Ev) ++ evS T (l.take n)).length (Row.flat evSh (([] : List Ev) ++ evS T (l.take n))) ∧ Apart v5 u ∧ Below W3.heap.size W3 wz) (fun _ _ i _ => l.length - (intOf i).toNat)
                  case atStart => exact ⟨0, Nat.zero_le _, rfl, rfl, hObI, by rw [List.take_zero, evS, List.append_nil]; exact hOwI, hAI, hBI⟩
                  case round =>
                    clear hObI hOwI hAI hBI
                    obtain ⟨n, hn, rfl, rfl, hObI, hOwI, hAI, hBI⟩ := hrel
                    by_cases hnl : n < l.length
                    · have hvn := hvw.below (hB.trans (hBI.mono hB.size))
                      obtain ⟨y, rfl, _⟩ := hvn.cells (by omega)
                      obtain ⟨m0, m1⟩ := samp_cells hvn n hnl
                      have hstp := evS_take T l n hnl
                      have hroom2 : (([] : List Ev) ++ evS T (l.take n)).length + 1 ≤ 1048576 := by rw [List.length_append, evS_length, List.length_take]; (try simp only [List.length_nil]); omega
                      have HSTP := Lib.hid hstp
                      generalize l.getD n (0, false) = sm at *
                      obtain ⟨sv, so⟩ := sm
                      dsimp only at m0 m1
                      generalize hE : ([] : List Ev) ++ evS T (l.take n) = E2 at *
                      obtain ⟨sk, hsk⟩ : ∃ z, T + n = z := ⟨_, rfl⟩
                      rw [hsk] at HSTP ⊢
                      have hObA := own_kept hObI (((Kept.refl [] wr).alloc (.cells #[.int .i32 sv, .bool so] 49)).alloc (.cells #[.int .i64 2, .int .i64 (sk : Nat), .int .i32 sv, .bool so] 51)) (by simp)
                      have hOwA := own_kept hOwI (((Kept.refl [] wr).alloc (.cells #[.int .i32 sv, .bool so] 49)).alloc (.cells #[.int .i64 2, .int .i64 (sk : Nat), .int .i32 sv, .bool so] 51)) (by simp)
                      have hBA := (hBI.alloc hBI.size (.cells #[.int .i32 sv, .bool so] 49)).alloc (Nat.le_trans hBI.size (by simp)) (.cells #[.int .i64 2, .int .i64 (sk : Nat), .int .i32 sv, .bool so] 51)
                      have hVn := event_new wr (.cells #[.int .i32 sv, .bool so] 49) 51 (2, sk, (sv, so))
                      have hskz : (T : Int) + (n : Int) = (sk : Int) := by omega
                      have hsk1 : IntKind.i64.wrap ((sk : Int) + 1) = (sk : Int) + 1 := by exact IntWalk.i64_in _ (by omega)
                      have HSK := Lib.hid hsk
                      have HE := Lib.hid hE
                      clear hstp hsk hE hObI hOwI
                      go_wp2_with (at_builtin; refine Row.wpList_append (S := evSh) rfl (.tmp 80) (.tmp 84) _ rfl _ 51 _ 24 (by omega) Try.underlying39 HInfoE.out (by kernel_rfl) _ E2.length E2 rfl (by exact hOwA) _ 1 1 [(2, sk, (sv, so))] rfl (by exact hVn) (by exact hroom2) (by exact hBA.size) ?_; intro v7 W7 hO7 hg7 hat7; have hK7 := Kept.of_grown hg7; have hB7 := below_kept hBA hK7 hBA.size (own_in hOwA); have hOb7 := own_grown hObA hg7 hAI; have hA7 := (hAI.symm.step hObA hat7).symm)
                      go_roundw
                      case rel => exact ⟨n + 1, by omega, by go_num, by first | go_num | (rw [← Nat.add_assoc, HSK.out]; go_num), hOb7, by rw [HSTP.out, ← List.append_assoc, HE.out, List.length_append, List.length_singleton]; exact hO7, hA7, hB7⟩
                      case measure => simp [intOf]; omega
                    · have hnl2 : n = l.length := by omega
                      subst hnl2
                      rw [List.take_of_length_le (Nat.le_refl _)] at hOwI
                      clear hnl hn
                      go_wp2
                      go_roundw
                      case rel => exact ⟨j + 1, vs ++ [l], ([] : List Ev) ++ evS T l, framesOf q0 (vs ++ [l]), by omega, HSTEP.out.symm, HW2.out.symm, rfl, by go_num, by rw [HSN.out], by rw [HTN.out], hObI, hOwI, hAI, hBI⟩
                      case measure => simp [intOf]; omega
              · have hw0z : ((ws.length : Int) == 0) = false := by rw [beq_eq_false_iff_ne]; omega
                have hvs0 : vs ≠ [] := fun h => hw0 (hwnil.2 h)
                rw [if_neg (by simp [hvs0]), List.append_nil] at hwn
                have HW2 := Lib.hid hwn
                clear hwn hvs0 hwnil HDo
                go_wp2_with (first
                  | (go_at_call 17; ((with_reducible refine hmy.mono ?_); rintro e w1 ⟨rfl, rfl⟩))
                  | (go_at_call 18; ((with_reducible refine (hmk _ hv).mono ?_); rintro e W2 ⟨vF, AF, cF, rfl, rfl, f1, f2, hOf, hB2⟩; obtain ⟨_, _, he, _, _, hVf, _, _⟩ := Vals.own hOf; injection he with he1 he2 he3; subst he1; subst he3; have hOb2 := own_kept hOb (Kept.of_below (S := []) hB2) (by simp); have hOw2 := own_kept hOw (Kept.of_below (S := []) hB2) (by simp); have hBI := hBy.trans (hB2.mono hBy.size); clear hmk hmy hv))
                  | (at_builtin; refine wpList_append_vals rfl (.tmp 59) (.tmp 60) _ rfl _ 5 1 (by omega) Try.underlying22 HInfoB.out _ fb.length fb rfl (by exact hOb2) AF F.length cF F rfl (by exact hVf) (by exact hroom) (by exact hBI.size) ?_; intro v5 W5 hObI hg5 hat5; have hK5 := Kept.of_grown hg5; replace hBI := below_kept hBI hK5 hBI.size (own_in hOb2); rw [← List.length_append, ← HFS.out] at hObI; have hOwI := own_grown hOw2 hg5 hA.symm; have hAI := hA.step hOw2 hat5; obtain ⟨Aw, cw, rfl, _, _, _, _, _⟩ := Row.Vals.own hOwI; clear hOb2 hOw2 hA hg5 hat5 hVf hOf hOb hOw hB2))
                go_loopw [8, 11, 76] (fun u t i wz => ∃ n : Nat, n ≤ l.length ∧ i = .int .i64 (n : Nat) ∧ t = .int .i64 ((T + n : Nat) : Int) ∧ wz.ownsRow W3.heap.size 5 1 v5 (framesOf q0 (vs ++ [l])).length (vals (framesOf q0 (vs ++ [l]))) ∧ wz.ownsRow W3.heap.size 51 4 u (ws ++ evS T (l.take n)).length (Row.flat evSh (ws ++ evS T (l.take n))) ∧ Apart v5 u ∧ Below W3.heap.size W3 wz) (fun _ _ i _ => l.length - (intOf i).toNat)
                case atStart => exact ⟨0, Nat.zero_le _, rfl, rfl, hObI, by rw [List.take_zero, evS, List.append_nil]; exact hOwI, hAI, hBI⟩
                case round =>
                  clear hObI hOwI hAI hBI
                  obtain ⟨n, hn, rfl, rfl, hObI, hOwI, hAI, hBI⟩ := hrel
                  by_cases hnl : n < l.length
                  · have hvn := hvw.below (hB.trans (hBI.mono hB.size))
                    obtain ⟨y, rfl, _⟩ := hvn.cells (by omega)
                    obtain ⟨m0, m1⟩ := samp_cells hvn n hnl
                    have hstp := evS_take T l n hnl
                    have hroom2 : (ws ++ evS T (l.take n)).length + 1 ≤ 1048576 := by rw [List.length_append, evS_length, List.length_take]; (try simp only [List.length_nil]); omega
                    have HSTP := Lib.hid hstp
                    generalize l.getD n (0, false) = sm at *
                    obtain ⟨sv, so⟩ := sm
                    dsimp only at m0 m1
                    generalize hE : ws ++ evS T (l.take n) = E2 at *
                    obtain ⟨sk, hsk⟩ : ∃ z, T + n = z := ⟨_, rfl⟩
                    rw [hsk] at HSTP ⊢
                    have hObA := own_kept hObI (((Kept.refl [] wr).alloc (.cells #[.int .i32 sv, .bool so] 49)).alloc (.cells #[.int .i64 2, .int .i64 (sk : Nat), .int .i32 sv, .bool so] 51)) (by simp)
                    have hOwA := own_kept hOwI (((Kept.refl [] wr).alloc (.cells #[.int .i32 sv, .bool so] 49)).alloc (.cells #[.int .i64 2, .int .i64 (sk : Nat), .int .i32 sv, .bool so] 51)) (by simp)
                    have hBA := (hBI.alloc hBI.size (.cells #[.int .i32 sv, .bool so] 49)).alloc (Nat.le_trans hBI.size (by simp)) (.cells #[.int .i64 2, .int .i64 (sk : Nat), .int .i32 sv, .bool so] 51)
                    have hVn := event_new wr (.cells #[.int .i32 sv, .bool so] 49) 51 (2, sk, (sv, so))
                    have hskz : (T : Int) + (n : Int) = (sk : Int) := by omega
                    have hsk1 : IntKind.i64.wrap ((sk : Int) + 1) = (sk : Int) + 1 := by exact IntWalk.i64_in _ (by omega)
                    have HSK := Lib.hid hsk
                    have HE := Lib.hid hE
                    clear hstp hsk hE hObI hOwI
                    go_wp2_with (at_builtin; refine Row.wpList_append (S := evSh) rfl (.tmp 80) (.tmp 84) _ rfl _ 51 _ 24 (by omega) Try.underlying39 HInfoE.out (by kernel_rfl) _ E2.length E2 rfl (by exact hOwA) _ 1 1 [(2, sk, (sv, so))] rfl (by exact hVn) (by exact hroom2) (by exact hBA.size) ?_; intro v7 W7 hO7 hg7 hat7; have hK7 := Kept.of_grown hg7; have hB7 := below_kept hBA hK7 hBA.size (own_in hOwA); have hOb7 := own_grown hObA hg7 hAI; have hA7 := (hAI.symm.step hObA hat7).symm)
                    go_roundw
                    case rel => exact ⟨n + 1, by omega, by go_num, by first | go_num | (rw [← Nat.add_assoc, HSK.out]; go_num), hOb7, by rw [HSTP.out, ← List.append_assoc, HE.out, List.length_append, List.length_singleton]; exact hO7, hA7, hB7⟩
                    case measure => simp [intOf]; omega
                  · have hnl2 : n = l.length := by omega
                    subst hnl2
                    rw [List.take_of_length_le (Nat.le_refl _)] at hOwI
                    clear hnl hn
                    go_wp2
                    go_roundw
                    case rel => exact ⟨j + 1, vs ++ [l], ws ++ evS T l, framesOf q0 (vs ++ [l]), by omega, HSTEP.out.symm, HW2.out.symm, rfl, by go_num, by rw [HSN.out], by rw [HTN.out], hObI, hOwI, hAI, hBI⟩
                    case measure => simp [intOf]; omega
            · skip
              rw [if_neg hm, List.append_nil] at hstep
              have hmz : mayT l = false := by simpa using hm
              have hmy := refmay_any Aq l.length dq l _ hv hs (by omega)
              rw [hmz] at hmy
              clear hm hmz hs htot hfl hwl hvl hvm hsq hTT
              go_wp2_with (go_at_call 17; ((with_reducible refine hmy.mono ?_); rintro e w1 ⟨rfl, rfl⟩))
              go_roundw
              case rel => exact ⟨j + 1, vs, ws, fb, by omega, hstep.symm, hws, hfb, by go_num, by rw [HSQ.out], by rw [HTT.out], hOb, hOw, hA, hBy⟩
              case measure => simp [intOf]; omega
          · skip
            have hvl := valid_len LL j
            have hvm := valid_may LL j
            rw [← hvs] at hvl hvm
            have htot := total_le vs hvm
            have hfl := framesOf_length q0 vs
            rw [← hfb] at hfl
            have hwl := want_len D vs
            rw [← hws] at hwl
            have hfby := framesOf_bytes q0 hq0 vs hvm
            rw [← hfb] at hfby
            obtain ⟨he1, he2⟩ := resumes J hno q0 vs hvm
            rw [hlF, HD.out, ← hws, ← hfb] at he1
            rw [hlF, ← hfb] at he2
            have hfb700 : fb.length ≤ 700 := by omega
            have hws300 : ws.length ≤ 300 := by omega
            have hbb : Bytes (J ++ fb) := fun y hy => (List.mem_append.1 hy).elim (hbF y) (hfby y)
            have hev := fun A n c W hV hn hc hc2 => events_any A n c (J ++ fb) W hV hbb hn hc hc2
            unfold EventsIs at hev
            rw [he1, he2] at hev
            obtain ⟨E, hE⟩ : ∃ E, k + fb.length = E := ⟨_, rfl⟩
            rw [hE] at hev
            have hEz : ((E : Int) == (k : Int) + (fb.length : Int)) = true := by rw [beq_iff_eq]; omega
            have hE1 : E ≤ 1000 := by omega
            have hr1 : 0 + k ≤ 1048576 := by omega
            have hr2 : k + fb.length ≤ 1048576 := by omega
            obtain ⟨AB, cB, rfl, b1, b2, hVB, _, _⟩ := Vals.own hOb
            obtain ⟨AW, cW, rfl, w1, w2, hVW, _, _⟩ := Row.Vals.own hOw
            have hVJw := hVJ.below hBy
            have hC := hB.trans (hBy.mono hB.size)
            have hOe2 := own_empty wr 5
            have hBe2 := (Below.refl wr.heap.size wr).alloc (Nat.le_refl _) (.cells #[] 5)
            have hVJe := hVJw.alloc (.cells #[] 5)
            have HE := Lib.hid hE
            clear hvs hws hfb he1 he2 htot hfl hwl hfby hbb hvl hvm hE hno hbF hlF hOb hOw hA hrows hLn hwz
            go_wp2_with (first
              | (at_builtin; refine wpList_append_vals rfl (.tmp 93) (.tmp 94) _ rfl wr.heap.size 5 1 (by omega) Try.underlying22 HInfoB.out (.slice (some ⟨wr.heap.size, 0, none⟩) 0 0) 0 [] rfl (by exact hOe2) A1 k c1 J rfl (by exact hVJe) (by exact hr1) (by exact hBe2.size) ?_; intro v8 W8 hO8 hg8 hat8; have hB8 := below_kept hBe2 (Kept.of_grown hg8) hBe2.size (own_in hOe2); rw [Nat.zero_add, List.nil_append] at hO8; replace hVB := hVB.below hB8; clear hg8 hat8 hOe2 hVJe)
              | (at_builtin; refine wpList_append_vals rfl (.tmp 95) (.tmp 96) _ rfl wr.heap.size 5 1 (by omega) Try.underlying22 HInfoB.out v8 k J rfl (by exact hO8) AB fb.length cB fb rfl (by exact hVB) (by exact hr2) (by exact hB8.size) ?_; intro v9 W9 hO9 hg9 hat9; have hB9 := below_kept hB8 (Kept.of_grown hg9) hB8.size (own_in hO8); obtain ⟨A9, c9, rfl, g91, g92, hV9, _, _⟩ := Vals.own hO9; replace hVW := hVW.below hB9; rw [HE.out] at hV9 g91 ⊢; replace hC := hC.trans (hB9.mono hC.size); clear hO9 hO8 hg9 hat9 hB9)
              | (go_at_call 13; ((with_reducible refine (hev _ _ _ _ hV9 (by omega) (by omega) (by omega)).mono ?_); rintro e w1 ⟨A2, n2, c2, rfl, h1a, h1b, h1n, hV1, h1f, hB1⟩; replace hC := hC.trans (hB1.mono hC.size); replace hVW := hVW.below hB1; have hsm := same_yes A2 n2 c2 ws AW ws.length cW _ hV1 hVW h1n (by omega); clear hV9 hV1 hVW hev))
              | (go_at_call 15; ((with_reducible refine hsm.mono ?_); rintro e w6 ⟨rfl, kd, rfl⟩; replace hC := below_drewN hC kd; clear hsm))
              | (go_at_call 8; ((with_reducible refine (live_ok _).mono ?_); rintro e w7 ⟨rfl, hB7⟩; replace hC := hC.trans (hB7.mono hC.size))))
            go_ret
            exact ⟨rfl, hC⟩
      · have h6z : (len2 : Int) ≤ 6 := by omega
        have hM6 : len2 ≤ 6 := h6
        have hML : len2 ≤ len2 := Nat.le_refl _
        obtain ⟨W3, rfl⟩ : ∃ z : World, z = wr := ⟨_, rfl⟩
        obtain ⟨LL, hLL, hLn⟩ : ∃ LL : List (List Samp), LL.length = len2 ∧ ∀ i, i < len2 → LL.getD i [] = Ls i := ⟨(List.range len2).map Ls, by simp, fun i hi => by simp [List.getD_eq_getElem?_getD, hi]⟩
        obtain ⟨D, hD⟩ : ∃ D, decide (0 < k) = D := ⟨_, rfl⟩
        have HL := Lib.hid hLL
        have HD := Lib.hid hD
        have hwz := want_zero D
        clear hLL hD hm0
        go_wp2
        go_loopw [1, 7, 8, 11, 46] (fun q v u t i wy => ∃ (j : Nat) (vs : List (List Samp)) (ws : List Ev) (fb : List Nat), j ≤ len2 ∧ vs = validT LL j ∧ ws = wantT D vs ∧ fb = framesOf q0 vs ∧ i = .int .i64 (j : Nat) ∧ q = .int .u8 ((q0 + vs.length) % 256 : Nat) ∧ t = .int .i64 (total vs : Nat) ∧ wy.ownsRow W3.heap.size 5 1 v fb.length (vals fb) ∧ wy.ownsRow W3.heap.size 51 4 u ws.length (Row.flat evSh ws) ∧ Apart v u ∧ Below W3.heap.size W3 wy) (fun _ _ _ _ i _ => len2 - (intOf i).toNat)
        case atStart => exact ⟨0, [], [], [], by omega, rfl, hwz.symm, rfl, rfl, by rw [List.length_nil, Nat.add_zero, Nat.mod_eq_of_lt hq0], rfl, RU8.own_none _ _ _, Row.own_none (S := evSh) _ _ _, (fun _ h => by cases h), Below.refl _ _⟩
        case round =>
          obtain ⟨j, vs, ws, fb, hj, hvs, hws, hfb, rfl, rfl, rfl, hOb, hOw, hA, hBy⟩ := hrel
          by_cases hjn : j < len2
          · obtain ⟨x, rfl, hr⟩ := hrows (by omega)
            obtain ⟨hc, hv, hs, hq1, hq2⟩ := hr j (by omega)
            have hstep := valid_step LL j (by rw [HL.out]; exact hjn)
            rw [hLn j hjn, ← hvs] at hstep
            have hvl := valid_len LL j
            have hvm := valid_may LL j
            rw [← hvs] at hvl hvm
            have htot := total_le vs hvm
            have hfl := framesOf_length q0 vs
            have hwl := want_len D vs
            rw [← hws] at hwl
            rw [← hfb] at hfl
            have hBw := hB.trans (hBy.mono hB.size)
            replace hc := (hBw.cell (World.block_lt_of_cell? _ _ hc)).trans hc
            have hvw := hv
            replace hv := hv.below hBw
            clear hr hrows hLn
            generalize Ls j = l at *
            generalize Q j = q1 at *
            obtain ⟨Aq, mq, dq⟩ := q1
            dsimp only at hc hv hq1 hq2
            obtain rfl : mq = l.length := hv.len_.symm
            generalize hsq : (q0 + vs.length) % 256 = sq at *
            generalize hTT : total vs = T at *
            have HSQ := Lib.hid hsq
            have HTT := Lib.hid hTT
            by_cases hm : mayT l = true
            · skip
              rw [if_pos hm] at hstep
              obtain ⟨hl1, hl32⟩ := may_len hm
              have hmb : makeB sq l = frameT sq l := by unfold makeB; rw [if_pos hm]
              have hme : makeE l = 0 := by unfold makeE; rw [if_pos hm]
              have hmy := refmay_any Aq l.length dq l _ hv hs (by omega)
              rw [hm] at hmy
              have hmk := fun W h => refmake_any sq (by omega) Aq l.length dq l W h hs (by omega)
              unfold MakeIs at hmk
              simp only [hmb, hme] at hmk
              have hfs := framesOf_snoc q0 hq0 vs l
              rw [hsq, ← hfb] at hfs
              have hwn := wantT_snoc D vs l
              rw [← hws, hTT] at hwn
              have htn := total_snoc vs l
              rw [hTT] at htn
              have hsn : ((sq : Int) + 1) % 256 = (((q0 + (vs ++ [l]).length) % 256 : Nat) : Int) := by rw [List.length_append, List.length_singleton]; omega
              have hlf := frameT_length sq l
              have hwnil := want_nil D vs hvm
              rw [← hws] at hwnil
              have hroom : fb.length + (frameT sq l).length ≤ 1048576 := by omega
              have hT200 : T ≤ 200 := by omega
              have hwl2 : ws.length ≤ 300 := by omega
              have hwroom : ws.length + 1 ≤ 1048576 := by omega
              generalize frameT sq l = F at *
              clear hlf
              have HSTEP := Lib.hid hstep
              have HFS := Lib.hid hfs
              have HTN := Lib.hid htn
              have HSN := Lib.hid hsn
              have HDo := HD.out
              clear hm hs htot hfl hwl hvm hsq hTT hstep hfs htn hmb hme hws hfb hvs hsn
              by_cases hw0 : ws.length = 0
              · have hws0 : ws = [] := List.eq_nil_of_length_eq_zero hw0
                have hvs0 := hwnil.1 hw0
                subst hws0
                by_cases hk0 : 0 < k
                · have hk0z : (0 : Int) < (k : Int) := by omega
                  have hDt : D = true := by rw [← HDo]; exact decide_eq_true hk0
                  obtain ⟨E1, hE1⟩ : ∃ E1 : List Ev, ([] : List Ev) ++ [(1, 0, (0, false))] = E1 := ⟨_, rfl⟩
                  rw [if_pos (by rw [hDt, decide_eq_true hvs0]; rfl), hE1] at hwn
                  have HW2 := Lib.hid hwn
                  have hE1r : E1.length ≤ 400 := by rw [← hE1]; decide
                  have HE1 := Lib.hid (show Row.flat evSh (([] : List Ev) ++ [(1, 0, (0, false))]) = Row.flat evSh E1 ∧ 0 + 1 = E1.length by rw [hE1]; exact ⟨rfl, by rw [← hE1]; rfl⟩)
                  clear hwn hE1 hvs0 hwnil HDo hDt hw0 hwl2 hwroom
                  go_wp2_with (first
                    | (go_at_call 17; ((with_reducible refine hmy.mono ?_); rintro e w1 ⟨rfl, rfl⟩))
                    | (go_at_call 18; ((with_reducible refine (hmk _ hv).mono ?_); rintro e W2 ⟨vF, AF, cF, rfl, rfl, f1, f2, hOf, hB2⟩; obtain ⟨_, _, he, _, _, hVf, _, _⟩ := Vals.own hOf; injection he with he1 he2 he3; subst he1; subst he3; have hOb2 := own_kept hOb (Kept.of_below (S := []) hB2) (by simp); have hOw2 := own_kept hOw (Kept.of_below (S := []) hB2) (by simp); have hBI := hBy.trans (hB2.mono hBy.size); clear hmk hmy hv))
                    | (at_builtin; refine wpList_append_vals rfl (.tmp 59) (.tmp 60) _ rfl _ 5 1 (by omega) Try.underlying22 HInfoB.out _ fb.length fb rfl (by exact hOb2) AF F.length cF F rfl (by exact hVf) (by exact hroom) (by exact hBI.size) ?_; intro v5 W5 hObI hg5 hat5; have hK5 := Kept.of_grown hg5; replace hBI := below_kept hBI hK5 hBI.size (own_in hOb2); rw [← List.length_append, ← HFS.out] at hObI; have hOwI := own_grown hOw2 hg5 hA.symm; have hAI := hA.step hOw2 hat5; obtain ⟨Aw, cw, rfl, _, _, _, _, _⟩ := Row.Vals.own hOwI; clear hOb2 hOw2 hA hg5 hat5 hVf hOf hOb hOw hB2)
                    | (at_builtin; have hObG := own_kept hObI ((Kept.refl [] W5).alloc (.cells #[.int .i64 1, .int .i64 0, .int .i32 0, .bool false] 51)) (by simp); have hOwG := own_kept hOwI ((Kept.refl [] W5).alloc (.cells #[.int .i64 1, .int .i64 0, .int .i32 0, .bool false] 51)) (by simp); have hBG := hBI.alloc hBI.size (.cells #[.int .i64 1, .int .i64 0, .int .i32 0, .bool false] 51); have hVG : Row.Vals evSh (W5.alloc (.cells #[.int .i64 1, .int .i64 0, .int .i32 0, .bool false] 51)) (some ⟨W5.heap.size, 0, none⟩) 1 [(1, 0, (0, false))] := one_new W5 51 (1, 0, (0, false)); refine Row.wpList_append (S := evSh) rfl (.tmp 70) (.tmp 72) _ rfl _ 51 _ 24 (by omega) Try.underlying39 HInfoE.out (by kernel_rfl) _ 0 ([] : List Ev) rfl (by exact hOwG) _ 1 1 [(1, 0, (0, false))] rfl (by exact hVG) (by omega) (by exact hBG.size) ?_; intro v6 W6 hO6 hg6 hat6; have hK6 := Kept.of_grown hg6; replace hBI := below_kept hBG hK6 hBG.size (own_in hOwG); replace hObI := own_grown hObG hg6 hAI; replace hAI := (hAI.symm.step hObG hat6).symm; replace hOwI := hO6; rw [HE1.out.1, HE1.out.2] at hOwI; clear hO6 hObG hOwG hBG hVG hg6 hat6))
                  go_loopw [8, 11, 76] (fun u t i wz => ∃ n : Nat, n ≤ l.length ∧ i = .int .i64 (n : Nat) ∧ t = .int .i64 ((T + n : Nat) : Int) ∧ wz.ownsRow W3.heap.size 5 1 v5 (framesOf q0 (vs ++ [l])).length (vals (framesOf q0 (vs ++ [l]))) ∧ wz.ownsRow W3.heap.size 51 4 u (E1 ++ evS T (l.take n)).length (Row.flat evSh (E1 ++ evS T (l.take n))) ∧ Apart v5 u ∧ Below W3.heap.size W3 wz) (fun _ _ i _ => l.length - (intOf i).toNat)
                  case atStart => exact ⟨0, Nat.zero_le _, rfl, rfl, hObI, by rw [List.take_zero, evS, List.append_nil]; exact hOwI, hAI, hBI⟩
                  case round =>
                    clear hObI hOwI hAI hBI
                    obtain ⟨n, hn, rfl, rfl, hObI, hOwI, hAI, hBI⟩ := hrel
                    by_cases hnl : n < l.length
                    · have hvn := hvw.below (hB.trans (hBI.mono hB.size))
                      obtain ⟨y, rfl, _⟩ := hvn.cells (by omega)
                      obtain ⟨m0, m1⟩ := samp_cells hvn n hnl
                      have hstp := evS_take T l n hnl
                      have hroom2 : (E1 ++ evS T (l.take n)).length + 1 ≤ 1048576 := by rw [List.length_append, evS_length, List.length_take]; (try simp only [List.length_nil]); omega
                      have HSTP := Lib.hid hstp
                      generalize l.getD n (0, false) = sm at *
                      obtain ⟨sv, so⟩ := sm
                      dsimp only at m0 m1
                      generalize hE : E1 ++ evS T (l.take n) = E2 at *
                      obtain ⟨sk, hsk⟩ : ∃ z, T + n = z := ⟨_, rfl⟩
                      rw [hsk] at HSTP ⊢
                      have hObA := own_kept hObI (((Kept.refl [] wr).alloc (.cells #[.int .i32 sv, .bool so] 49)).alloc (.cells #[.int .i64 2, .int .i64 (sk : Nat), .int .i32 sv, .bool so] 51)) (by simp)
                      have hOwA := own_kept hOwI (((Kept.refl [] wr).alloc (.cells #[.int .i32 sv, .bool so] 49)).alloc (.cells #[.int .i64 2, .int .i64 (sk : Nat), .int .i32 sv, .bool so] 51)) (by simp)
                      have hBA := (hBI.alloc hBI.size (.cells #[.int .i32 sv, .bool so] 49)).alloc (Nat.le_trans hBI.size (by simp)) (.cells #[.int .i64 2, .int .i64 (sk : Nat), .int .i32 sv, .bool so] 51)
                      have hVn := event_new wr (.cells #[.int .i32 sv, .bool so] 49) 51 (2, sk, (sv, so))
                      have hskz : (T : Int) + (n : Int) = (sk : Int) := by omega
                      have hsk1 : IntKind.i64.wrap ((sk : Int) + 1) = (sk : Int) + 1 := by exact IntWalk.i64_in _ (by omega)
                      have HSK := Lib.hid hsk
                      have HE := Lib.hid hE
                      clear hstp hsk hE hObI hOwI
                      go_wp2_with (at_builtin; refine Row.wpList_append (S := evSh) rfl (.tmp 80) (.tmp 84) _ rfl _ 51 _ 24 (by omega) Try.underlying39 HInfoE.out (by kernel_rfl) _ E2.length E2 rfl (by exact hOwA) _ 1 1 [(2, sk, (sv, so))] rfl (by exact hVn) (by exact hroom2) (by exact hBA.size) ?_; intro v7 W7 hO7 hg7 hat7; have hK7 := Kept.of_grown hg7; have hB7 := below_kept hBA hK7 hBA.size (own_in hOwA); have hOb7 := own_grown hObA hg7 hAI; have hA7 := (hAI.symm.step hObA hat7).symm)
                      go_roundw
                      case rel => exact ⟨n + 1, by omega, by go_num, by first | go_num | (rw [← Nat.add_assoc, HSK.out]; go_num), hOb7, by rw [HSTP.out, ← List.append_assoc, HE.out, List.length_append, List.length_singleton]; exact hO7, hA7, hB7⟩
                      case measure => simp [intOf]; omega
                    · have hnl2 : n = l.length := by omega
                      subst hnl2
                      rw [List.take_of_length_le (Nat.le_refl _)] at hOwI
                      clear hnl hn
                      go_wp2
                      go_roundw
                      case rel => exact ⟨j + 1, vs ++ [l], E1 ++ evS T l, framesOf q0 (vs ++ [l]), by omega, HSTEP.out.symm, HW2.out.symm, rfl, by go_num, by rw [HSN.out], by rw [HTN.out], hObI, hOwI, hAI, hBI⟩
                      case measure => simp [intOf]; omega
                · have hk0z : ¬ (0 : Int) < (k : Int) := by omega
                  have hDt : D = false := by rw [← HDo]; exact decide_eq_false hk0
                  rw [if_neg (by rw [hDt]; simp), List.append_nil] at hwn
                  have HW2 := Lib.hid hwn
                  clear hwn hvs0 hwnil HDo hDt hw0 hwl2 hwroom
                  go_wp2_with (first
                    | (go_at_call 17; ((with_reducible refine hmy.mono ?_); rintro e w1 ⟨rfl, rfl⟩))
                    | (go_at_call 18; ((with_reducible refine (hmk _ hv).mono ?_); rintro e W2 ⟨vF, AF, cF, rfl, rfl, f1, f2, hOf, hB2⟩; obtain ⟨_, _, he, _, _, hVf, _, _⟩ := Vals.own hOf; injection he with he1 he2 he3; subst he1; subst he3; have hOb2 := own_kept hOb (Kept.of_below (S := []) hB2) (by simp); have hOw2 := own_kept hOw (Kept.of_below (S := []) hB2) (by simp); have hBI := hBy.trans (hB2.mono hBy.size); clear hmk hmy hv))
                    | (at_builtin; refine wpList_append_vals rfl (.tmp 59) (.tmp 60) _ rfl _ 5 1 (by omega) Try.underlying22 HInfoB.out _ fb.length fb rfl (by exact hOb2) AF F.length cF F rfl (by exact hVf) (by exact hroom) (by exact hBI.size) ?_; intro v5 W5 hObI hg5 hat5; have hK5 := Kept.of_grown hg5; replace hBI := below_kept hBI hK5 hBI.size (own_in hOb2); rw [← List.length_append, ← HFS.out] at hObI; have hOwI := own_grown hOw2 hg5 hA.symm; have hAI := hA.step hOw2 hat5; obtain ⟨Aw, cw, rfl, _, _, _, _, _⟩ := Row.Vals.own hOwI; clear hOb2 hOw2 hA hg5 hat5 hVf hOf hOb hOw hB2))
                  go_loopw [8, 11, 76] (fun u t i wz => ∃ n : Nat, n ≤ l.length ∧ i = .int .i64 (n : Nat) ∧ t = .int .i64 ((T + n : Nat) : Int) ∧ wz.ownsRow W3.heap.size 5 1 v5 (framesOf q0 (vs ++ [l])).length (vals (framesOf q0 (vs ++ [l]))) ∧ wz.ownsRow W3.heap.size 51 4 u (([] : List Ev) ++ evS T (l.take n)).length (Row.flat evSh (([] : List Ev) ++ evS T (l.take n))) ∧ Apart v5 u ∧ Below W3.heap.size W3 wz) (fun _ _ i _ => l.length - (intOf i).toNat)
                  case atStart => exact ⟨0, Nat.zero_le _, rfl, rfl, hObI, by rw [List.take_zero, evS, List.append_nil]; exact hOwI, hAI, hBI⟩
                  case round =>
                    clear hObI hOwI hAI hBI
                    obtain ⟨n, hn, rfl, rfl, hObI, hOwI, hAI, hBI⟩ := hrel
                    by_cases hnl : n < l.length
                    · have hvn := hvw.below (hB.trans (hBI.mono hB.size))
                      obtain ⟨y, rfl, _⟩ := hvn.cells (by omega)
                      obtain ⟨m0, m1⟩ := samp_cells hvn n hnl
                      have hstp := evS_take T l n hnl
                      have hroom2 : (([] : List Ev) ++ evS T (l.take n)).length + 1 ≤ 1048576 := by rw [List.length_append, evS_length, List.length_take]; (try simp only [List.length_nil]); omega
                      have HSTP := Lib.hid hstp
                      generalize l.getD n (0, false) = sm at *
                      obtain ⟨sv, so⟩ := sm
                      dsimp only at m0 m1
                      generalize hE : ([] : List Ev) ++ evS T (l.take n) = E2 at *
                      obtain ⟨sk, hsk⟩ : ∃ z, T + n = z := ⟨_, rfl⟩
                      rw [hsk] at HSTP ⊢
                      have hObA := own_kept hObI (((Kept.refl [] wr).alloc (.cells #[.int .i32 sv, .bool so] 49)).alloc (.cells #[.int .i64 2, .int .i64 (sk : Nat), .int .i32 sv, .bool so] 51)) (by simp)
                      have hOwA := own_kept hOwI (((Kept.refl [] wr).alloc (.cells #[.int .i32 sv, .bool so] 49)).alloc (.cells #[.int .i64 2, .int .i64 (sk : Nat), .int .i32 sv, .bool so] 51)) (by simp)
                      have hBA := (hBI.alloc hBI.size (.cells #[.int .i32 sv, .bool so] 49)).alloc (Nat.le_trans hBI.size (by simp)) (.cells #[.int .i64 2, .int .i64 (sk : Nat), .int .i32 sv, .bool so] 51)
                      have hVn := event_new wr (.cells #[.int .i32 sv, .bool so] 49) 51 (2, sk, (sv, so))
                      have hskz : (T : Int) + (n : Int) = (sk : Int) := by omega
                      have hsk1 : IntKind.i64.wrap ((sk : Int) + 1) = (sk : Int) + 1 := by exact IntWalk.i64_in _ (by omega)
                      have HSK := Lib.hid hsk
                      have HE := Lib.hid hE
                      clear hstp hsk hE hObI hOwI
                      go_wp2_with (at_builtin; refine Row.wpList_append (S := evSh) rfl (.tmp 80) (.tmp 84) _ rfl _ 51 _ 24 (by omega) Try.underlying39 HInfoE.out (by kernel_rfl) _ E2.length E2 rfl (by exact hOwA) _ 1 1 [(2, sk, (sv, so))] rfl (by exact hVn) (by exact hroom2) (by exact hBA.size) ?_; intro v7 W7 hO7 hg7 hat7; have hK7 := Kept.of_grown hg7; have hB7 := below_kept hBA hK7 hBA.size (own_in hOwA); have hOb7 := own_grown hObA hg7 hAI; have hA7 := (hAI.symm.step hObA hat7).symm)
                      go_roundw
                      case rel => exact ⟨n + 1, by omega, by go_num, by first | go_num | (rw [← Nat.add_assoc, HSK.out]; go_num), hOb7, by rw [HSTP.out, ← List.append_assoc, HE.out, List.length_append, List.length_singleton]; exact hO7, hA7, hB7⟩
                      case measure => simp [intOf]; omega
                    · have hnl2 : n = l.length := by omega
                      subst hnl2
                      rw [List.take_of_length_le (Nat.le_refl _)] at hOwI
                      clear hnl hn
                      go_wp2
                      go_roundw
                      case rel => exact ⟨j + 1, vs ++ [l], ([] : List Ev) ++ evS T l, framesOf q0 (vs ++ [l]), by omega, HSTEP.out.symm, HW2.out.symm, rfl, by go_num, by rw [HSN.out], by rw [HTN.out], hObI, hOwI, hAI, hBI⟩
                      case measure => simp [intOf]; omega
              · have hw0z : ((ws.length : Int) == 0) = false := by rw [beq_eq_false_iff_ne]; omega
                have hvs0 : vs ≠ [] := fun h => hw0 (hwnil.2 h)
                rw [if_neg (by simp [hvs0]), List.append_nil] at hwn
                have HW2 := Lib.hid hwn
                clear hwn hvs0 hwnil HDo
                go_wp2_with (first
                  | (go_at_call 17; ((with_reducible refine hmy.mono ?_); rintro e w1 ⟨rfl, rfl⟩))
                  | (go_at_call 18; ((with_reducible refine (hmk _ hv).mono ?_); rintro e W2 ⟨vF, AF, cF, rfl, rfl, f1, f2, hOf, hB2⟩; obtain ⟨_, _, he, _, _, hVf, _, _⟩ := Vals.own hOf; injection he with he1 he2 he3; subst he1; subst he3; have hOb2 := own_kept hOb (Kept.of_below (S := []) hB2) (by simp); have hOw2 := own_kept hOw (Kept.of_below (S := []) hB2) (by simp); have hBI := hBy.trans (hB2.mono hBy.size); clear hmk hmy hv))
                  | (at_builtin; refine wpList_append_vals rfl (.tmp 59) (.tmp 60) _ rfl _ 5 1 (by omega) Try.underlying22 HInfoB.out _ fb.length fb rfl (by exact hOb2) AF F.length cF F rfl (by exact hVf) (by exact hroom) (by exact hBI.size) ?_; intro v5 W5 hObI hg5 hat5; have hK5 := Kept.of_grown hg5; replace hBI := below_kept hBI hK5 hBI.size (own_in hOb2); rw [← List.length_append, ← HFS.out] at hObI; have hOwI := own_grown hOw2 hg5 hA.symm; have hAI := hA.step hOw2 hat5; obtain ⟨Aw, cw, rfl, _, _, _, _, _⟩ := Row.Vals.own hOwI; clear hOb2 hOw2 hA hg5 hat5 hVf hOf hOb hOw hB2))
                go_loopw [8, 11, 76] (fun u t i wz => ∃ n : Nat, n ≤ l.length ∧ i = .int .i64 (n : Nat) ∧ t = .int .i64 ((T + n : Nat) : Int) ∧ wz.ownsRow W3.heap.size 5 1 v5 (framesOf q0 (vs ++ [l])).length (vals (framesOf q0 (vs ++ [l]))) ∧ wz.ownsRow W3.heap.size 51 4 u (ws ++ evS T (l.take n)).length (Row.flat evSh (ws ++ evS T (l.take n))) ∧ Apart v5 u ∧ Below W3.heap.size W3 wz) (fun _ _ i _ => l.length - (intOf i).toNat)
                case atStart => exact ⟨0, Nat.zero_le _, rfl, rfl, hObI, by rw [List.take_zero, evS, List.append_nil]; exact hOwI, hAI, hBI⟩
                case round =>
                  clear hObI hOwI hAI hBI
                  obtain ⟨n, hn, rfl, rfl, hObI, hOwI, hAI, hBI⟩ := hrel
                  by_cases hnl : n < l.length
                  · have hvn := hvw.below (hB.trans (hBI.mono hB.size))
                    obtain ⟨y, rfl, _⟩ := hvn.cells (by omega)
                    obtain ⟨m0, m1⟩ := samp_cells hvn n hnl
                    have hstp := evS_take T l n hnl
                    have hroom2 : (ws ++ evS T (l.take n)).length + 1 ≤ 1048576 := by rw [List.length_append, evS_length, List.length_take]; (try simp only [List.length_nil]); omega
                    have HSTP := Lib.hid hstp
                    generalize l.getD n (0, false) = sm at *
                    obtain ⟨sv, so⟩ := sm
                    dsimp only at m0 m1
                    generalize hE : ws ++ evS T (l.take n) = E2 at *
                    obtain ⟨sk, hsk⟩ : ∃ z, T + n = z := ⟨_, rfl⟩
                    rw [hsk] at HSTP ⊢
                    have hObA := own_kept hObI (((Kept.refl [] wr).alloc (.cells #[.int .i32 sv, .bool so] 49)).alloc (.cells #[.int .i64 2, .int .i64 (sk : Nat), .int .i32 sv, .bool so] 51)) (by simp)
                    have hOwA := own_kept hOwI (((Kept.refl [] wr).alloc (.cells #[.int .i32 sv, .bool so] 49)).alloc (.cells #[.int .i64 2, .int .i64 (sk : Nat), .int .i32 sv, .bool so] 51)) (by simp)
                    have hBA := (hBI.alloc hBI.size (.cells #[.int .i32 sv, .bool so] 49)).alloc (Nat.le_trans hBI.size (by simp)) (.cells #[.int .i64 2, .int .i64 (sk : Nat), .int .i32 sv, .bool so] 51)
                    have hVn := event_new wr (.cells #[.int .i32 sv, .bool so] 49) 51 (2, sk, (sv, so))
                    have hskz : (T : Int) + (n : Int) = (sk : Int) := by omega
                    have hsk1 : IntKind.i64.wrap ((sk : Int) + 1) = (sk : Int) + 1 := by exact IntWalk.i64_in _ (by omega)
                    have HSK := Lib.hid hsk
                    have HE := Lib.hid hE
                    clear hstp hsk hE hObI hOwI
                    go_wp2_with (at_builtin; refine Row.wpList_append (S := evSh) rfl (.tmp 80) (.tmp 84) _ rfl _ 51 _ 24 (by omega) Try.underlying39 HInfoE.out (by kernel_rfl) _ E2.length E2 rfl (by exact hOwA) _ 1 1 [(2, sk, (sv, so))] rfl (by exact hVn) (by exact hroom2) (by exact hBA.size) ?_; intro v7 W7 hO7 hg7 hat7; have hK7 := Kept.of_grown hg7; have hB7 := below_kept hBA hK7 hBA.size (own_in hOwA); have hOb7 := own_grown hObA hg7 hAI; have hA7 := (hAI.symm.step hObA hat7).symm)
                    go_roundw
                    case rel => exact ⟨n + 1, by omega, by go_num, by first | go_num | (rw [← Nat.add_assoc, HSK.out]; go_num), hOb7, by rw [HSTP.out, ← List.append_assoc, HE.out, List.length_append, List.length_singleton]; exact hO7, hA7, hB7⟩
                    case measure => simp [intOf]; omega
                  · have hnl2 : n = l.length := by omega
                    subst hnl2
                    rw [List.take_of_length_le (Nat.le_refl _)] at hOwI
                    clear hnl hn
                    go_wp2
                    go_roundw
                    case rel => exact ⟨j + 1, vs ++ [l], ws ++ evS T l, framesOf q0 (vs ++ [l]), by omega, HSTEP.out.symm, HW2.out.symm, rfl, by go_num, by rw [HSN.out], by rw [HTN.out], hObI, hOwI, hAI, hBI⟩
                    case measure => simp [intOf]; omega
            · skip
              rw [if_neg hm, List.append_nil] at hstep
              have hmz : mayT l = false := by simpa using hm
              have hmy := refmay_any Aq l.length dq l _ hv hs (by omega)
              rw [hmz] at hmy
              clear hm hmz hs htot hfl hwl hvl hvm hsq hTT
              go_wp2_with (go_at_call 17; ((with_reducible refine hmy.mono ?_); rintro e w1 ⟨rfl, rfl⟩))
              go_roundw
              case rel => exact ⟨j + 1, vs, ws, fb, by omega, hstep.symm, hws, hfb, by go_num, by rw [HSQ.out], by rw [HTT.out], hOb, hOw, hA, hBy⟩
              case measure => simp [intOf]; omega
          · skip
            have hvl := valid_len LL j
            have hvm := valid_may LL j
            rw [← hvs] at hvl hvm
            have htot := total_le vs hvm
            have hfl := framesOf_length q0 vs
            rw [← hfb] at hfl
            have hwl := want_len D vs
            rw [← hws] at hwl
            have hfby := framesOf_bytes q0 hq0 vs hvm
            rw [← hfb] at hfby
            obtain ⟨he1, he2⟩ := resumes J hno q0 vs hvm
            rw [hlF, HD.out, ← hws, ← hfb] at he1
            rw [hlF, ← hfb] at he2
            have hfb700 : fb.length ≤ 700 := by omega
            have hws300 : ws.length ≤ 300 := by omega
            have hbb : Bytes (J ++ fb) := fun y hy => (List.mem_append.1 hy).elim (hbF y) (hfby y)
            have hev := fun A n c W hV hn hc hc2 => events_any A n c (J ++ fb) W hV hbb hn hc hc2
            unfold EventsIs at hev
            rw [he1, he2] at hev
            obtain ⟨E, hE⟩ : ∃ E, k + fb.length = E := ⟨_, rfl⟩
            rw [hE] at hev
            have hEz : ((E : Int) == (k : Int) + (fb.length : Int)) = true := by rw [beq_iff_eq]; omega
            have hE1 : E ≤ 1000 := by omega
            have hr1 : 0 + k ≤ 1048576 := by omega
            have hr2 : k + fb.length ≤ 1048576 := by omega
            obtain ⟨AB, cB, rfl, b1, b2, hVB, _, _⟩ := Vals.own hOb
            obtain ⟨AW, cW, rfl, w1, w2, hVW, _, _⟩ := Row.Vals.own hOw
            have hVJw := hVJ.below hBy
            have hC := hB.trans (hBy.mono hB.size)
            have hOe2 := own_empty wr 5
            have hBe2 := (Below.refl wr.heap.size wr).alloc (Nat.le_refl _) (.cells #[] 5)
            have hVJe := hVJw.alloc (.cells #[] 5)
            have HE := Lib.hid hE
            clear hvs hws hfb he1 he2 htot hfl hwl hfby hbb hvl hvm hE hno hbF hlF hOb hOw hA hrows hLn hwz
            go_wp2_with (first
              | (at_builtin; refine wpList_append_vals rfl (.tmp 93) (.tmp 94) _ rfl wr.heap.size 5 1 (by omega) Try.underlying22 HInfoB.out (.slice (some ⟨wr.heap.size, 0, none⟩) 0 0) 0 [] rfl (by exact hOe2) A1 k c1 J rfl (by exact hVJe) (by exact hr1) (by exact hBe2.size) ?_; intro v8 W8 hO8 hg8 hat8; have hB8 := below_kept hBe2 (Kept.of_grown hg8) hBe2.size (own_in hOe2); rw [Nat.zero_add, List.nil_append] at hO8; replace hVB := hVB.below hB8; clear hg8 hat8 hOe2 hVJe)
              | (at_builtin; refine wpList_append_vals rfl (.tmp 95) (.tmp 96) _ rfl wr.heap.size 5 1 (by omega) Try.underlying22 HInfoB.out v8 k J rfl (by exact hO8) AB fb.length cB fb rfl (by exact hVB) (by exact hr2) (by exact hB8.size) ?_; intro v9 W9 hO9 hg9 hat9; have hB9 := below_kept hB8 (Kept.of_grown hg9) hB8.size (own_in hO8); obtain ⟨A9, c9, rfl, g91, g92, hV9, _, _⟩ := Vals.own hO9; replace hVW := hVW.below hB9; rw [HE.out] at hV9 g91 ⊢; replace hC := hC.trans (hB9.mono hC.size); clear hO9 hO8 hg9 hat9 hB9)
              | (go_at_call 13; ((with_reducible refine (hev _ _ _ _ hV9 (by omega) (by omega) (by omega)).mono ?_); rintro e w1 ⟨A2, n2, c2, rfl, h1a, h1b, h1n, hV1, h1f, hB1⟩; replace hC := hC.trans (hB1.mono hC.size); replace hVW := hVW.below hB1; have hsm := same_yes A2 n2 c2 ws AW ws.length cW _ hV1 hVW h1n (by omega); clear hV9 hV1 hVW hev))
              | (go_at_call 15; ((with_reducible refine hsm.mono ?_); rintro e w6 ⟨rfl, kd, rfl⟩; replace hC := below_drewN hC kd; clear hsm))
              | (go_at_call 8; ((with_reducible refine (live_ok _).mono ?_); rintro e w7 ⟨rfl, hB7⟩; replace hC := hC.trans (hB7.mono hC.size))))
            go_ret
            exact ⟨rfl, hC⟩

theorem own : ownKnob Try.prog.godebug = none := by kernel_rfl
theorem laidOut : laidOutB Try.prog = true := by kernel_rfl

/-! ### The row's step -/
set_option maxRecDepth 100000 in
theorem lifted (os : Os) (started : os.Started) (H : Type) (enc : TypeId × Value → H) :
    ReturnsInHanded {} Try.checked os 7 .any (Rows.parseResumesSpec.pre6 enc Try.prog Try.f7 Rows.parseResumesRow.domain false) (Rows.parseResumesSpec.post enc Try.prog Try.f7 false true false false) := by
  refine returnsInHanded_of_change (C := Try.checked) own started (by kernel_rfl) Try.func7
    (ChangeSpec.witness6 (enc := enc) (C := Try.checked) false ⟨#[], #[.slice none 0 0, .int .u8 0, .slice none 0 0], []⟩ 8 (by kernel_rfl) (by kernel_rfl) (by kernel_rfl) (by kernel_rfl)) ?_
  intro W base args ds gs before hval0 hW hcnd _
  have hval : ∀ (j : Nat) t v, Try.f7.params[j]? = some t → args[j]? = some v → Value.okWide Try.prog W .any base t v := hval0
  have hW' := hW
  obtain ⟨p, q, hA0, hV, rfl, hfz, hnd⟩ := hW
  have hA : DataW.TrodAll enc Try.prog W 0 (fun _ => true) true Try.f7.params.toList args.toList ds p := hA0
  rw [Try.params7] at hA hval
  obtain ⟨v0, vs0, d0, ds0, p0, q0, hargs, rfl, rfl, h0, r0⟩ := trodAll_cons hA
  obtain ⟨v1, vs1, d1, ds1, p1, q1, rfl, rfl, rfl, h1, r1⟩ := trodAll_cons r0
  obtain ⟨v2, vs2, d2, ds2, p2, q2, rfl, rfl, rfl, h2, r2⟩ := trodAll_cons r1
  obtain ⟨rfl, rfl, rfl⟩ := trodAll_nil r2
  obtain rfl : args = #[v0, v1, v2] := by cases args; simp_all
  obtain ⟨rfl, rfl⟩ := trodVars_none hV
  obtain ⟨a0, len0, cap0, rfl⟩ := okWide_slice Try.underlying22 (hval 0 22 v0 rfl rfl)
  have k0 := h0
  have lt0 : ∀ x ∈ p0, x.block < W.heap.size := by obtain ⟨m, hm⟩ := k0; exact DataW.trod_lt m _ _ _ hm
  obtain ⟨z0, w0⟩ : ∃ zs, IsRow .u8 W a0 len0 cap0 zs := by
    obtain ⟨fuel, hf⟩ := h0
    rcases open_ints Try.underlying22 Try.underlying5 (by kernel_rfl) hf with ⟨hcs, _⟩ | ⟨x, l, c, zs, hcs, hx, hl, hm, hz, _, hcell, hwz⟩
    · simp [Value.cells] at hcs
      obtain ⟨rfl, rfl, rfl⟩ := hcs
      exact ⟨[], .inl ⟨rfl, rfl, rfl, rfl⟩⟩
    · simp [Value.cells] at hcs
      obtain ⟨rfl, rfl, rfl⟩ := hcs
      exact ⟨zs, isRow_some hl hm (by simpa using hz) hcell hwz⟩
  obtain ⟨a1, rfl, rfl, rfl, w1⟩ := open_int Try.underlying5 (hval 1 5 v1 rfl rfl) h1
  obtain ⟨a2, len2, cap2, rfl⟩ := okWide_slice Try.underlying52 (hval 2 52 v2 rfl rfl)
  have k2 := h2
  have lt2 : ∀ x ∈ p2, x.block < W.heap.size := by obtain ⟨m, hm⟩ := k2; exact DataW.trod_lt m _ _ _ hm
  have w2 : IsSampRows W a2 len2 cap2 := by
    obtain ⟨fuel, hf⟩ := h2
    exact samp_rows_of (by simpa [Value.cells] using hf)
  clear hA0 hval0
  refine (walk a0 len0 cap0 z0 a1 a2 len2 cap2 W w0 w1 w2).mono fun e W' ⟨he, bel⟩ => ?_
  subst he
  exact ⟨_, rfl, _, _, _, [], _, [], hW', trodAll_mk1 (shut_bool Try.underlying4 _), (trodAll_cons_mk (Below.trod laidOut (by kernel_rfl) (of_decide_eq_true (by kernel_rfl)) k0 bel lt0) (trodAll_cons_mk (shut_int Try.underlying5 w1) (trodAll_cons_mk (Below.trod laidOut (by kernel_rfl) (of_decide_eq_true (by kernel_rfl)) k2 bel lt2) trodAll_mk0))), rfl, bel.frame _, fun h => by cases h⟩

theorem over : Rows.parseResumesRow.holds Try.pinned (OpenSpec.ofChange Rows.parseResumesSpec) :=
  OpenClaim.holds_of_wide 7 Try.f7 rfl rfl rfl rfl rfl rfl rfl ⟨rfl, rfl, rfl, rfl, rfl⟩ rfl rfl rfl rfl rfl (by kernel_rfl) Try.func7 (by kernel_rfl)
    (of_decide_eq_true (by kernel_rfl)) (by unfold Func.isWrapper; first | (rw [if_pos (by decide +kernel)]; kernel_rfl) | (rw [if_neg (by decide +kernel)]; exact ⟨rfl, rfl⟩))
    (fun os started H enc _ => lifted os started H enc)

theorem proved : Rows.ParseResumesSaid := over
#print axioms proved
end Go.Proofs.Ytlhjligeigkbnaa.parseResumes
