/- RhythmTurns, over whatever a rhythm's calls answer. -/
import Derived.Test.YtpmjgomfjfhfkaaRhythmMarks
import Derived.Test.YtpmjgomfjfhfkaaTallyLim
import Derived.Test.YtpmjgomfjfhfkaaRegion
set_option linter.unusedSimpArgs false
set_option linter.unusedVariables false
namespace Go.Proofs.Ytpmjgomfjfhfkaa.Rhythm
open Go.RowKit
open Tally (Lim May mayT limV limC)
def cellsO (o : On5) : Array Value := #[.bool false, .bool o.o1, .bool o.o2, .bool o.o3, .bool o.o4, .bool o.o5]
theorem lim_parts (l : Lim) : ∃ l0 l1 l2 l3 l4 l5 l6 l7 l8 : Int, limV l = .agg #[.int .i64 l0, .int .i64 l1, .int .i64 l2, .int .i64 l3, .int .i64 l4, .int .i64 l5, .int .i64 l6, .int .i64 l7, .int .i64 l8] ∧ limC l = #[.int .i64 l0, .int .i64 l1, .int .i64 l2, .int .i64 l3, .int .i64 l4, .int .i64 l5, .int .i64 l6, .int .i64 l7, .int .i64 l8] :=
  ⟨_, _, _, _, _, _, _, _, _, rfl, rfl⟩
/-- What holds between two marks. -/
def Fine (s : St) : Prop := s.on.o1 = s.dark ∧ (s.on.o1 = true → s.on.o2 = false ∧ s.on.o3 = false ∧ s.on.o4 = false ∧ s.on.o5 = false)
theorem fine_none : Fine noSt := ⟨rfl, fun h => by cases h⟩
theorem fine_step {l : Lim} (hl : May l) {s : St} (h : Fine s) (m : Mk) : Fine (stepT l s m) := by
  cases hc : counts s m with
  | true =>
    have h1 : stepT l s m = ⟨(takeT s m).dark, (takeT s m).t, (takeT s m).h, onT l s m⟩ := by unfold stepT; rw [if_pos hc]
    rw [h1]
    exact ⟨rfl, fun hd => now_dark hl s m hc hd⟩
  | false =>
    have h1 : stepT l s m = s := by unfold stepT; rw [hc]; rfl
    rw [h1]
    exact h
/-- Where the loops stand. -/
structure Tn (Rhy : World → Nat → List Nat → Lim → St → Prop) (w : World) (b : Nat) (S : List Nat) (l : Lim) (base o : Nat) (A : Option Addr) (M : List Mk) (s : St) (O : On5) (W : World) : Prop where
  mr : Mr Rhy w b S l s W
  box : Has W o 39 (cellsO O)
  row : Row.Vals mkS W A M.length M
  oS : o ∉ S
  oL : w.heap.size ≤ o ∧ o < base
  sL : ∀ k ∈ S, k < base
  aL : ∀ x, A = some x → base ≤ x.block
  base_ : base ≤ W.heap.size
section
variable {Rhy : World → Nat → List Nat → Lim → St → Prop} (K : RhyKit Rhy) {w W W' : World} {b base o : Nat} {S : List Nat} {l : Lim} {A : Option Addr} {M : List Mk} {s s' : St} {O O' : On5}
include K
theorem Tn.grow (h : Tn Rhy w b S l base o A M s O W) (hB : Below W.heap.size W W') : Tn Rhy w b S l base o A M s O W' :=
  ⟨Mr.grow K h.mr hB, h.box.below hB h.box.lt, h.row.below hB, h.oS, h.oL, h.sL, h.aL, Nat.le_trans h.base_ hB.size⟩
omit K in
theorem Tn.pushed (h : Tn Rhy w b S l base o A M s O W) (hM : Mr Rhy w b S l s' W') (hK : Kept S W W') : Tn Rhy w b S l base o A M s' O W' :=
  ⟨hM, hK.has h.box h.oS, h.row.kept hK (fun _ x hx hk => by have := h.aL x hx; have := h.sL _ hk; omega), h.oS, h.oL, h.sL, h.aL, Nat.le_trans h.base_ hK.size⟩
theorem Tn.set (h : Tn Rhy w b S l base o A M s O W) (k : Nat) (v : Bool) (he : (cellsO O).setIfInBounds k (.bool v) = cellsO O') : Tn Rhy w b S l base o A M s O' (W.setCell ⟨o, k, none⟩ (.bool v)) := by
  have hK : Kept [o] W (W.setCell ⟨o, k, none⟩ (.bool v)) := (Kept.refl [o] W).setCell (p := ⟨o, k, none⟩) (.inl (by simp)) _
  refine ⟨Mr.late K h.mr hK (fun q hq => by simp at hq; subst hq; exact ⟨h.oL.1, h.oS⟩), ?_, h.row.kept hK (fun _ x hx hk => by have := h.aL x hx; have := h.oL; simp at hk; omega), h.oS, h.oL, h.sL, h.aL, Nat.le_trans h.base_ hK.size⟩
  have h9 := h.box.set_ k (.bool v)
  rwa [he] at h9
end
/-- Within a mark: its box, and what was told of it. -/
structure Ti (Rhy : World → Nat → List Nat → Lim → St → Prop) (w : World) (b : Nat) (S : List Nat) (l : Lim) (base o : Nat) (A : Option Addr) (M : List Mk) (s : St) (O : On5) (g : Nat) (m : Mk) (B : Option Addr) (cs : List Cd) (W : World) : Prop where
  tn : Tn Rhy w b S l base o A M s O W
  mbox : Has W g 45 (mkC m)
  mg : g ≠ o
  crow : Row.Vals cdS W B cs.length cs
  cB : ∀ x, B = some x → x.block ≠ o
section
variable {Rhy : World → Nat → List Nat → Lim → St → Prop} (K : RhyKit Rhy) {w W W' : World} {b base o g : Nat} {S : List Nat} {l : Lim} {A B : Option Addr} {M : List Mk} {m : Mk} {cs : List Cd} {s s' : St} {O O' : On5}
include K
theorem Ti.grow (h : Ti Rhy w b S l base o A M s O g m B cs W) (hB : Below W.heap.size W W') : Ti Rhy w b S l base o A M s O g m B cs W' :=
  ⟨h.tn.grow K hB, h.mbox.below hB h.mbox.lt, h.mg, h.crow.below hB, h.cB⟩
theorem Ti.set (h : Ti Rhy w b S l base o A M s O g m B cs W) (k : Nat) (v : Bool) (he : (cellsO O).setIfInBounds k (.bool v) = cellsO O') : Ti Rhy w b S l base o A M s O' g m B cs (W.setCell ⟨o, k, none⟩ (.bool v)) := by
  have hK : Kept [o] W (W.setCell ⟨o, k, none⟩ (.bool v)) := (Kept.refl [o] W).setCell (p := ⟨o, k, none⟩) (.inl (by simp)) _
  exact ⟨h.tn.set K k v he, hK.has h.mbox (by simp; exact h.mg), h.mg, h.crow.kept hK (fun _ x hx hk => h.cB x hx (by simpa using hk)), h.cB⟩
end
theorem valid_drop {a : Int} {o n : On5} {cs : List Cd} {z : Nat} (h : Valid a o (cs.drop z) n) (hz : z < cs.length) : (1 ≤ (cs.getD z noCd).1 ∧ (cs.getD z noCd).1 ≤ 5) ∧ o.get (cs.getD z noCd).1 = !(cs.getD z noCd).2.2 ∧ (cs.getD z noCd).2.1 = a ∧ Valid a (o.set (cs.getD z noCd).1 (cs.getD z noCd).2.2) (cs.drop (z + 1)) n := by
  rw [List.drop_eq_getElem_cons hz] at h
  rw [List.getD_eq_getElem?_getD, List.getElem?_eq_getElem hz]
  exact h
set_option maxRecDepth 100000 in
set_option maxHeartbeats 8000000 in
theorem turns_k {Rhy : World → Nat → List Nat → Lim → St → Prop} (K : RhyKit Rhy) (l : Lim) (a1 : Option Addr) (len1 cap1 : Nat) (z1 : List Rn) (w : World) (w1 : Row.IsFlat rnS RnOk w a1 len1 cap1 z1) :
    Calls Try.prog 4 #[limV l, .slice a1 len1 cap1] w fun e w' => e = .returned (.bool true) ∧ Below w.heap.size w w' := by
  have hli := fun W => live_k K W
  have hB0 := (Below.refl w.heap.size w).alloc (Nat.le_refl _) (.cells (limC l) 23)
  cases hm : mayT l with
  | false =>
    have hnw := fun W => K.new_no W l hm
    clear hm
    obtain ⟨l0, l1, l2, l3, l4, l5, l6, l7, l8⟩ := l
    unfold limV at hnw ⊢
    unfold limC at hB0
    dsimp only at hnw hB0 ⊢
    go_enter Try.func4, Try.ntmps4
    go_wp2_with (first
      | (go_at_call 8; ((with_reducible refine (hnw _).mono ?_); rintro e W1 ⟨rfl, hB1⟩; have hB2 := hB0.trans (hB1.mono hB0.size)))
      | (go_at_call 11; ((with_reducible refine (hli _).mono ?_); rintro e W5 ⟨rfl, hB5⟩; have hB6 := hB2.trans (hB5.mono hB2.size))))
    go_ret
    exact ⟨rfl, hB6⟩
  | true =>
    have hnw := fun W => K.new_yes W l hm
    have hmay := Tally.may_of hm
    have hmk := fun W hV => marks_any 0 a1 len1 cap1 z1 W (by omega) hV w1.each w1.le w1.max
    have hV0 := w1.row
    have hLm := marks_len w1.each 0 (min len1 20)
    clear hm w1
    obtain ⟨l0, l1, l2, l3, l4, l5, l6, l7, l8, hlv, hlc⟩ := lim_parts l
    rw [hlv] at hnw ⊢
    rw [hlc] at hB0
    clear hlv hlc
    generalize hMM : marksK 0 z1 (min len1 20) = M at *
    have HLm := Lib.hid (show M.length ≤ 5120 by omega)
    clear hLm hMM
    go_enter Try.func4, Try.ntmps4
    go_wp2_with (first
      | (go_at_call 8; ((with_reducible refine (hnw _).mono ?_); rintro e W1 ⟨b, S, rfl, hP, hfar, hB1⟩; have hB2 := hB0.trans (hB1.mono hB0.size); have hB3 := hB2.alloc hB2.size (.cells (cellsO off5) 39); have hX := Has.new W1 39 (cellsO off5); have hP2 := K.alloc hP (.cells (cellsO off5) 39)))
      | (go_at_call 12; ((refine Calls.mono (by exact hmk _ (hV0.below hB3)) ?_); rintro e W3 ⟨V, rfl, hO3, hB4⟩; obtain ⟨A3, c3, rfl, e1, e2, hV3, hf3, _⟩ := Row.Vals.own hO3)))
    have hSz : W1.heap.size < (W1.alloc (.cells (cellsO off5) 39)).heap.size := by simp
    have hT0 : Tn Rhy w b S l (W1.alloc (.cells (cellsO off5) 39)).heap.size W1.heap.size A3 M noSt off5 W3 :=
      ⟨⟨K.below hP2 hB4, hB3.trans (hB4.mono hB3.size), fun k hk => Nat.le_trans hB0.size (hfar k hk)⟩, hX.below hB4 hX.lt, hV3, fun hk => Nat.lt_irrefl _ ((K.lt hP).2 _ hk), ⟨hB2.size, hSz⟩, fun k hk => Nat.lt_trans ((K.lt hP).2 _ hk) hSz, fun x hx => (hf3 x hx).1, hB4.size⟩
    clear hnw hmk hV0 hB0 hP hfar hB1 hB2 hB3 hX hP2 hO3 hB4 hV3 hf3 hSz
    generalize (W1.alloc (.cells (cellsO off5) 39)).heap.size = base at *
    generalize W1.heap.size = o at *
    go_loopw [25] (fun i wr => ∃ (k : Nat) (s : St), k ≤ M.length ∧ i = .int .i64 (k : Nat) ∧ Fine s ∧ s.t.rs.length ≤ k ∧ Tn Rhy w b S l base o A3 M s s.on wr) (fun i _ => M.length - (intOf i).toNat)
    case atStart => exact ⟨0, noSt, by omega, rfl, fine_none, Nat.le_refl _, hT0⟩
    case round =>
      clear hT0
      obtain ⟨k, s, hk, rfl, hF, hrs, hT⟩ := hrel
      have HF := Lib.hid hF
      clear hF
      by_cases hkM : k < M.length
      · obtain ⟨x, rfl, _⟩ := hT.row.cells (by omega)
        obtain ⟨c0, c1, c2, c3', c4, c5, c6⟩ := mk_cells hT.row k hkM
        obtain ⟨m, hm⟩ : ∃ m, M.getD k noMk = m := ⟨_, rfl⟩
        rw [hm] at c0 c1 c2 c3' c4 c5 c6
        clear hm
        have hML := HLm.out
        have hkz : (k : Int) < (M.length : Int) := by omega
        have HKM := Lib.hid (show k < M.length ∧ M.length ≤ 5120 from ⟨hkM, hML⟩)
        have hT1 := hT.grow K ((Below.refl _ wr).alloc (Nat.le_refl _) (.cells (mkC m) 45))
        have hpu := Mr.push_one K hT1.mr 45 m 1 (by omega)
        rw [show (wr.alloc (.cells (mkC m) 45)).heap.size = wr.heap.size + 1 from by simp] at hpu
        have hval := valid_says l s m
        have hrs2 := step_rs l s m
        have HF2 := Lib.hid (fine_step hmay HF.out m)
        have HRS := Lib.hid (show (stepT l s m).t.rs.length ≤ k + 1 by omega)
        have hTi : ∀ (W : World) (B : Option Addr), Mr Rhy w b S l (stepT l s m) W → Kept S (wr.alloc (.cells (mkC m) 45)) W → Row.Vals cdS W B (saysT l s m).length (saysT l s m) → (∀ x, B = some x → wr.heap.size + 1 ≤ x.block ∧ x.block ∉ S) → Ti Rhy w b S l base o (some x) M (stepT l s m) s.on wr.heap.size m B (saysT l s m) W :=
          fun W B hM hK hV hf => ⟨hT1.pushed hM hK, hK.has (Has.new wr _ _) (fun hk => by have := hT.sL _ hk; have := hT.base_; omega), by have := hT.oL; have := hT.base_; omega, hV, fun y hy => by have h1 := (hf y hy).1; have := hT.oL; have := hT.base_; omega⟩
        have HTI := Lib.hid hTi
        clear hTi hT hT1 hrs hrs2 HF hkM hML
        generalize stepT l s m = s2 at *
        generalize saysT l s m = cs at *
        generalize s.on = O0 at *
        unfold mkC at hpu
        go_wp2_with (go_at_call 15; ((with_reducible refine hpu.mono ?_); rintro e W3 ⟨B3, d3, rfl, g1, g2, hV3, hf3, hM3, hK3⟩; have hI3 := HTI.out W3 B3 hM3 hK3 hV3 hf3; clear hpu hf3 hM3 hK3 hV3 c0 c1 c2 c3' c4 c5 c6))
        clear HTI
        generalize wr.heap.size = g at *
        go_loopw [34] (fun i wr2 => ∃ (z : Nat) (O : On5), z ≤ cs.length ∧ i = .int .i64 (z : Nat) ∧ Valid m.at_ O (cs.drop z) s2.on ∧ Ti Rhy w b S l base o (some x) M s2 O g m B3 cs wr2) (fun i _ => cs.length - (intOf i).toNat)
        case atStart => exact ⟨0, O0, by omega, rfl, hval, hI3⟩
        case round =>
          clear hI3 hval
          obtain ⟨z, O, hz, rfl, hval, hI⟩ := hrel
          by_cases hzl : z < cs.length
          · obtain ⟨y, rfl, _⟩ := hI.crow.cells (by omega)
            obtain ⟨y0, y1, y2⟩ := cd_cells hI.crow z hzl
            obtain ⟨hkb, hge, hca, hvn⟩ := valid_drop hval hzl
            have hzz : (z : Int) < (cs.length : Int) := by omega
            obtain ⟨c, hcc⟩ : ∃ c, cs.getD z noCd = c := ⟨_, rfl⟩
            rw [hcc] at y0 y1 y2 hkb hge hca hvn
            clear hcc hval
            obtain ⟨ck, ca, cn⟩ := c
            dsimp only at y0 y1 y2 hkb hge hca hvn
            subst hca
            have hI1 := hI.grow K ((Below.refl _ wr).alloc (Nat.le_refl _) (.cells #[.int .i64 ck, .int .i64 m.at_, .bool cn] 52))
            have hC1 := Has.new wr 52 #[.int .i64 ck, .int .i64 m.at_, .bool cn]
            clear hI
            have hqq : ((!cn) == cn) = false := by cases cn <;> rfl
            have HVN := Lib.hid hvn
            clear hvn
            have hcs : ck = 1 ∨ ck = 2 ∨ ck = 3 ∨ ck = 4 ∨ ck = 5 := by omega
            clear hkb
            rcases hcs with rfl | rfl | rfl | rfl | rfl
            · skip
              have q : O.o1 = !cn := hge
              go_wp2
              generalize wr.alloc (.cells #[.int .i64 1, .int .i64 m.at_, .bool cn] 52) = W5 at *
              generalize wr.heap.size = h at *
              have hI2 := hI1.grow K (below_drewN (Below.refl _ W5) 1)
              have hC2 : Has W5.drew h 52 #[.int .i64 1, .int .i64 m.at_, .bool cn] := hC1
              change Ti Rhy w b S l base o (some x) M s2 O g m (some y) cs W5.drew at hI2
              have z0 : W5.drew.cell? ⟨o, 1, none⟩ = some (.bool (!cn)) := by rw [← q]; exact hI2.tn.box.cell 1
              refine Reg.begin_ (S := fun W => W.cell? ⟨o, 1, none⟩ = some (.bool (!cn)) ∧ W.cell? ⟨h, 0, none⟩ = some (.int .i64 1) ∧ W.cell? ⟨h, 1, none⟩ = some (.int .i64 m.at_) ∧ W.cell? ⟨h, 2, none⟩ = some (.bool cn) ∧ W.cell? ⟨g, 1, none⟩ = some (.int .i64 m.at_)) (by kernel_rfl) (by exact ⟨z0, hC2.cell 0, hC2.cell 1, hC2.cell 2, hI2.mbox.cell 1⟩) (fun hHeld => ?_)
              refine Reg.take (i := 0) (v := ?v1) rfl (by kernel_rfl) (by kernel_rfl) (by kernel_rfl) (by rfl) ?hv1 (by assumption) ?rest1
              case hv1 => first | (intro w hSw; (try dsimp only at hSw); go_simp; done) | (intro w hSw; (try dsimp only at hSw); go_simp; with_reducible rfl)
              (try simp only [Act.put, List.setIfInBounds_toArray, List.set_cons_zero, List.set_cons_succ])
              refine Reg.take (i := 1) (v := ?v2) rfl (by kernel_rfl) (by kernel_rfl) (by kernel_rfl) (by rfl) ?hv2 (by assumption) ?rest2
              case hv2 => first | (intro w hSw; (try dsimp only at hSw); go_simp; done) | (intro w hSw; (try dsimp only at hSw); go_simp; with_reducible rfl)
              (try simp only [Act.put, List.setIfInBounds_toArray, List.set_cons_zero, List.set_cons_succ])
              refine Reg.take (i := 2) (v := ?v3) rfl (by kernel_rfl) (by kernel_rfl) (by kernel_rfl) (by rfl) ?hv3 (by assumption) ?rest3
              case hv3 => first | (intro w hSw; (try dsimp only at hSw); go_simp; done) | (intro w hSw; (try dsimp only at hSw); go_simp; with_reducible rfl)
              (try simp only [Act.put, List.setIfInBounds_toArray, List.set_cons_zero, List.set_cons_succ])
              refine Reg.take (i := 3) (v := ?v4) rfl (by kernel_rfl) (by kernel_rfl) (by kernel_rfl) (by rfl) ?hv4 (by assumption) ?rest4
              case hv4 => first | (intro w hSw; (try dsimp only at hSw); go_simp; done) | (intro w hSw; (try dsimp only at hSw); go_simp; with_reducible rfl)
              (try simp only [Act.put, List.setIfInBounds_toArray, List.set_cons_zero, List.set_cons_succ])
              refine Reg.take (i := 4) (v := ?v5) rfl (by kernel_rfl) (by kernel_rfl) (by kernel_rfl) (by rfl) ?hv5 (by assumption) ?rest5
              case hv5 => first | (intro w hSw; (try dsimp only at hSw); go_simp; done) | (intro w hSw; (try dsimp only at hSw); go_simp; with_reducible rfl)
              (try simp only [Act.put, List.setIfInBounds_toArray, List.set_cons_zero, List.set_cons_succ])
              refine Reg.take (i := 5) (v := ?v6) rfl (by kernel_rfl) (by kernel_rfl) (by kernel_rfl) (by rfl) ?hv6 (by assumption) ?rest6
              case hv6 => first | (intro w hSw; (try dsimp only at hSw); go_simp; done) | (intro w hSw; (try dsimp only at hSw); go_simp; with_reducible rfl)
              (try simp only [Act.put, List.setIfInBounds_toArray, List.set_cons_zero, List.set_cons_succ])
              refine Reg.take (i := 6) (v := ?v7) rfl (by kernel_rfl) (by kernel_rfl) (by kernel_rfl) (by rfl) ?hv7 (by assumption) ?rest7
              case hv7 => first | (intro w hSw; (try dsimp only at hSw); go_simp; done) | (intro w hSw; (try dsimp only at hSw); go_simp; with_reducible rfl)
              (try simp only [Act.put, List.setIfInBounds_toArray, List.set_cons_zero, List.set_cons_succ])
              refine Reg.take (i := 7) (v := ?v8) rfl (by kernel_rfl) (by kernel_rfl) (by kernel_rfl) (by rfl) ?hv8 (by assumption) ?rest8
              case hv8 => first | (intro w hSw; (try dsimp only at hSw); go_simp; done) | (intro w hSw; (try dsimp only at hSw); go_simp; with_reducible rfl)
              (try simp only [Act.put, List.setIfInBounds_toArray, List.set_cons_zero, List.set_cons_succ])
              refine Reg.take (i := 8) (v := ?v9) rfl (by kernel_rfl) (by kernel_rfl) (by kernel_rfl) (by rfl) ?hv9 (by assumption) ?rest9
              case hv9 => first | (intro w hSw; (try dsimp only at hSw); go_simp; done) | (intro w hSw; (try dsimp only at hSw); go_simp; with_reducible rfl)
              (try simp only [Act.put, List.setIfInBounds_toArray, List.set_cons_zero, List.set_cons_succ])
              refine Reg.take (i := 9) (v := ?v10) rfl (by kernel_rfl) (by kernel_rfl) (by kernel_rfl) (by rfl) ?hv10 (by assumption) ?rest10
              case hv10 => first | (intro w hSw; (try dsimp only at hSw); go_simp; done) | (intro w hSw; (try dsimp only at hSw); go_simp; with_reducible rfl)
              (try simp only [Act.put, List.setIfInBounds_toArray, List.set_cons_zero, List.set_cons_succ])
              refine Reg.take (i := 10) (v := ?v11) rfl (by kernel_rfl) (by kernel_rfl) (by kernel_rfl) (by rfl) ?hv11 (by assumption) ?rest11
              case hv11 => first | (intro w hSw; (try dsimp only at hSw); go_simp; done) | (intro w hSw; (try dsimp only at hSw); go_simp; with_reducible rfl)
              (try simp only [Act.put, List.setIfInBounds_toArray, List.set_cons_zero, List.set_cons_succ])
              refine Reg.take (i := 11) (v := ?v12) rfl (by kernel_rfl) (by kernel_rfl) (by kernel_rfl) (by rfl) ?hv12 (by assumption) ?rest12
              case hv12 => first | (intro w hSw; (try dsimp only at hSw); go_simp; done) | (intro w hSw; (try dsimp only at hSw); go_simp; with_reducible rfl)
              (try simp only [Act.put, List.setIfInBounds_toArray, List.set_cons_zero, List.set_cons_succ])
              refine Reg.take (i := 12) (v := ?v13) rfl (by kernel_rfl) (by kernel_rfl) (by kernel_rfl) (by rfl) ?hv13 (by assumption) ?rest13
              case hv13 => first | (intro w hSw; (try dsimp only at hSw); go_simp; done) | (intro w hSw; (try dsimp only at hSw); go_simp; with_reducible rfl)
              (try simp only [Act.put, List.setIfInBounds_toArray, List.set_cons_zero, List.set_cons_succ])
              refine Reg.take (i := 13) (v := ?v14) rfl (by kernel_rfl) (by kernel_rfl) (by kernel_rfl) (by rfl) ?hv14 (by assumption) ?rest14
              case hv14 => first | (intro w hSw; (try dsimp only at hSw); go_simp; done) | (intro w hSw; (try dsimp only at hSw); go_simp; with_reducible rfl)
              (try simp only [Act.put, List.setIfInBounds_toArray, List.set_cons_zero, List.set_cons_succ])
              refine Reg.take (i := 14) (v := ?v15) rfl (by kernel_rfl) (by kernel_rfl) (by kernel_rfl) (by rfl) ?hv15 (by assumption) ?rest15
              case hv15 => first | (intro w hSw; (try dsimp only at hSw); go_simp; done) | (intro w hSw; (try dsimp only at hSw); go_simp; with_reducible rfl)
              (try simp only [Act.put, List.setIfInBounds_toArray, List.set_cons_zero, List.set_cons_succ])
              refine Reg.take (i := 15) (v := ?v16) rfl (by kernel_rfl) (by kernel_rfl) (by kernel_rfl) (by rfl) ?hv16 (by assumption) ?rest16
              case hv16 => first | (intro w hSw; (try dsimp only at hSw); go_simp; done) | (intro w hSw; (try dsimp only at hSw); go_simp; with_reducible rfl)
              (try simp only [Act.put, List.setIfInBounds_toArray, List.set_cons_zero, List.set_cons_succ])
              refine Reg.take (i := 16) (v := ?v17) rfl (by kernel_rfl) (by kernel_rfl) (by kernel_rfl) (by rfl) ?hv17 (by assumption) ?rest17
              case hv17 => first | (intro w hSw; (try dsimp only at hSw); go_simp; done) | (intro w hSw; (try dsimp only at hSw); go_simp; with_reducible rfl)
              (try simp only [Act.put, List.setIfInBounds_toArray, List.set_cons_zero, List.set_cons_succ])
              refine Reg.take (i := 17) (v := ?v18) rfl (by kernel_rfl) (by kernel_rfl) (by kernel_rfl) (by rfl) ?hv18 (by assumption) ?rest18
              case hv18 => first | (intro w hSw; (try dsimp only at hSw); go_simp; done) | (intro w hSw; (try dsimp only at hSw); go_simp; with_reducible rfl)
              (try simp only [Act.put, List.setIfInBounds_toArray, List.set_cons_zero, List.set_cons_succ])
              refine Reg.take (i := 18) (v := ?v19) rfl (by kernel_rfl) (by kernel_rfl) (by kernel_rfl) (by rfl) ?hv19 (by assumption) ?rest19
              case hv19 => first | (intro w hSw; (try dsimp only at hSw); go_simp; done) | (intro w hSw; (try dsimp only at hSw); go_simp; with_reducible rfl)
              (try simp only [Act.put, List.setIfInBounds_toArray, List.set_cons_zero, List.set_cons_succ])
              refine Reg.take (i := 19) (v := ?v20) rfl (by kernel_rfl) (by kernel_rfl) (by kernel_rfl) (by rfl) ?hv20 (by assumption) ?rest20
              case hv20 => first | (intro w hSw; (try dsimp only at hSw); go_simp; done) | (intro w hSw; (try dsimp only at hSw); go_simp; with_reducible rfl)
              (try simp only [Act.put, List.setIfInBounds_toArray, List.set_cons_zero, List.set_cons_succ])
              refine Reg.take (i := 20) (v := ?v21) rfl (by kernel_rfl) (by kernel_rfl) (by kernel_rfl) (by rfl) ?hv21 (by assumption) ?rest21
              case hv21 => first | (intro w hSw; (try dsimp only at hSw); go_simp; done) | (intro w hSw; (try dsimp only at hSw); go_simp; with_reducible rfl)
              (try simp only [Act.put, List.setIfInBounds_toArray, List.set_cons_zero, List.set_cons_succ])
              refine Reg.take (i := 21) (v := ?v22) rfl (by kernel_rfl) (by kernel_rfl) (by kernel_rfl) (by rfl) ?hv22 (by assumption) ?rest22
              case hv22 => first | (intro w hSw; (try dsimp only at hSw); go_simp; done) | (intro w hSw; (try dsimp only at hSw); go_simp; with_reducible rfl)
              (try simp only [Act.put, List.setIfInBounds_toArray, List.set_cons_zero, List.set_cons_succ])
              refine Reg.take (i := 22) (v := ?v23) rfl (by kernel_rfl) (by kernel_rfl) (by kernel_rfl) (by rfl) ?hv23 (by assumption) ?rest23
              case hv23 => first | (intro w hSw; (try dsimp only at hSw); go_simp; done) | (intro w hSw; (try dsimp only at hSw); go_simp; with_reducible rfl)
              (try simp only [Act.put, List.setIfInBounds_toArray, List.set_cons_zero, List.set_cons_succ])
              refine Reg.take (i := 23) (v := ?v24) rfl (by kernel_rfl) (by kernel_rfl) (by kernel_rfl) (by rfl) ?hv24 (by assumption) ?rest24
              case hv24 => first | (intro w hSw; (try dsimp only at hSw); go_simp; done) | (intro w hSw; (try dsimp only at hSw); go_simp; with_reducible rfl)
              (try simp only [Act.put, List.setIfInBounds_toArray, List.set_cons_zero, List.set_cons_succ])
              refine Reg.done (by kernel_rfl) ?_ _
              clear hHeld hI1 hC1
              generalize W5.drew = W6 at *
              have d0 := hC2.cell 0
              have d2 := hC2.cell 2
              have f0 := hI2.tn.box.frozen 1
              have hI3 := hI2.set K (O' := O.set 1 cn) 1 cn rfl
              clear hI2 hC2
              go_wp2
              go_roundw
              case rel => exact ⟨z + 1, O.set 1 cn, by omega, by go_num, HVN.out, hI3⟩
              case measure => simp [intOf]; omega
            · skip
              have q : O.o2 = !cn := hge
              go_wp2
              generalize wr.alloc (.cells #[.int .i64 2, .int .i64 m.at_, .bool cn] 52) = W5 at *
              generalize wr.heap.size = h at *
              have hI2 := hI1.grow K (below_drewN (Below.refl _ W5) 1)
              have hC2 : Has W5.drew h 52 #[.int .i64 2, .int .i64 m.at_, .bool cn] := hC1
              change Ti Rhy w b S l base o (some x) M s2 O g m (some y) cs W5.drew at hI2
              have z0 : W5.drew.cell? ⟨o, 2, none⟩ = some (.bool (!cn)) := by rw [← q]; exact hI2.tn.box.cell 2
              refine Reg.begin_ (S := fun W => W.cell? ⟨o, 2, none⟩ = some (.bool (!cn)) ∧ W.cell? ⟨h, 0, none⟩ = some (.int .i64 2) ∧ W.cell? ⟨h, 1, none⟩ = some (.int .i64 m.at_) ∧ W.cell? ⟨h, 2, none⟩ = some (.bool cn) ∧ W.cell? ⟨g, 1, none⟩ = some (.int .i64 m.at_)) (by kernel_rfl) (by exact ⟨z0, hC2.cell 0, hC2.cell 1, hC2.cell 2, hI2.mbox.cell 1⟩) (fun hHeld => ?_)
              refine Reg.take (i := 0) (v := ?v25) rfl (by kernel_rfl) (by kernel_rfl) (by kernel_rfl) (by rfl) ?hv25 (by assumption) ?rest25
              case hv25 => first | (intro w hSw; (try dsimp only at hSw); go_simp; done) | (intro w hSw; (try dsimp only at hSw); go_simp; with_reducible rfl)
              (try simp only [Act.put, List.setIfInBounds_toArray, List.set_cons_zero, List.set_cons_succ])
              refine Reg.take (i := 1) (v := ?v26) rfl (by kernel_rfl) (by kernel_rfl) (by kernel_rfl) (by rfl) ?hv26 (by assumption) ?rest26
              case hv26 => first | (intro w hSw; (try dsimp only at hSw); go_simp; done) | (intro w hSw; (try dsimp only at hSw); go_simp; with_reducible rfl)
              (try simp only [Act.put, List.setIfInBounds_toArray, List.set_cons_zero, List.set_cons_succ])
              refine Reg.take (i := 2) (v := ?v27) rfl (by kernel_rfl) (by kernel_rfl) (by kernel_rfl) (by rfl) ?hv27 (by assumption) ?rest27
              case hv27 => first | (intro w hSw; (try dsimp only at hSw); go_simp; done) | (intro w hSw; (try dsimp only at hSw); go_simp; with_reducible rfl)
              (try simp only [Act.put, List.setIfInBounds_toArray, List.set_cons_zero, List.set_cons_succ])
              refine Reg.take (i := 3) (v := ?v28) rfl (by kernel_rfl) (by kernel_rfl) (by kernel_rfl) (by rfl) ?hv28 (by assumption) ?rest28
              case hv28 => first | (intro w hSw; (try dsimp only at hSw); go_simp; done) | (intro w hSw; (try dsimp only at hSw); go_simp; with_reducible rfl)
              (try simp only [Act.put, List.setIfInBounds_toArray, List.set_cons_zero, List.set_cons_succ])
              refine Reg.take (i := 4) (v := ?v29) rfl (by kernel_rfl) (by kernel_rfl) (by kernel_rfl) (by rfl) ?hv29 (by assumption) ?rest29
              case hv29 => first | (intro w hSw; (try dsimp only at hSw); go_simp; done) | (intro w hSw; (try dsimp only at hSw); go_simp; with_reducible rfl)
              (try simp only [Act.put, List.setIfInBounds_toArray, List.set_cons_zero, List.set_cons_succ])
              refine Reg.take (i := 5) (v := ?v30) rfl (by kernel_rfl) (by kernel_rfl) (by kernel_rfl) (by rfl) ?hv30 (by assumption) ?rest30
              case hv30 => first | (intro w hSw; (try dsimp only at hSw); go_simp; done) | (intro w hSw; (try dsimp only at hSw); go_simp; with_reducible rfl)
              (try simp only [Act.put, List.setIfInBounds_toArray, List.set_cons_zero, List.set_cons_succ])
              refine Reg.take (i := 6) (v := ?v31) rfl (by kernel_rfl) (by kernel_rfl) (by kernel_rfl) (by rfl) ?hv31 (by assumption) ?rest31
              case hv31 => first | (intro w hSw; (try dsimp only at hSw); go_simp; done) | (intro w hSw; (try dsimp only at hSw); go_simp; with_reducible rfl)
              (try simp only [Act.put, List.setIfInBounds_toArray, List.set_cons_zero, List.set_cons_succ])
              refine Reg.take (i := 7) (v := ?v32) rfl (by kernel_rfl) (by kernel_rfl) (by kernel_rfl) (by rfl) ?hv32 (by assumption) ?rest32
              case hv32 => first | (intro w hSw; (try dsimp only at hSw); go_simp; done) | (intro w hSw; (try dsimp only at hSw); go_simp; with_reducible rfl)
              (try simp only [Act.put, List.setIfInBounds_toArray, List.set_cons_zero, List.set_cons_succ])
              refine Reg.take (i := 8) (v := ?v33) rfl (by kernel_rfl) (by kernel_rfl) (by kernel_rfl) (by rfl) ?hv33 (by assumption) ?rest33
              case hv33 => first | (intro w hSw; (try dsimp only at hSw); go_simp; done) | (intro w hSw; (try dsimp only at hSw); go_simp; with_reducible rfl)
              (try simp only [Act.put, List.setIfInBounds_toArray, List.set_cons_zero, List.set_cons_succ])
              refine Reg.take (i := 9) (v := ?v34) rfl (by kernel_rfl) (by kernel_rfl) (by kernel_rfl) (by rfl) ?hv34 (by assumption) ?rest34
              case hv34 => first | (intro w hSw; (try dsimp only at hSw); go_simp; done) | (intro w hSw; (try dsimp only at hSw); go_simp; with_reducible rfl)
              (try simp only [Act.put, List.setIfInBounds_toArray, List.set_cons_zero, List.set_cons_succ])
              refine Reg.take (i := 10) (v := ?v35) rfl (by kernel_rfl) (by kernel_rfl) (by kernel_rfl) (by rfl) ?hv35 (by assumption) ?rest35
              case hv35 => first | (intro w hSw; (try dsimp only at hSw); go_simp; done) | (intro w hSw; (try dsimp only at hSw); go_simp; with_reducible rfl)
              (try simp only [Act.put, List.setIfInBounds_toArray, List.set_cons_zero, List.set_cons_succ])
              refine Reg.take (i := 11) (v := ?v36) rfl (by kernel_rfl) (by kernel_rfl) (by kernel_rfl) (by rfl) ?hv36 (by assumption) ?rest36
              case hv36 => first | (intro w hSw; (try dsimp only at hSw); go_simp; done) | (intro w hSw; (try dsimp only at hSw); go_simp; with_reducible rfl)
              (try simp only [Act.put, List.setIfInBounds_toArray, List.set_cons_zero, List.set_cons_succ])
              refine Reg.take (i := 12) (v := ?v37) rfl (by kernel_rfl) (by kernel_rfl) (by kernel_rfl) (by rfl) ?hv37 (by assumption) ?rest37
              case hv37 => first | (intro w hSw; (try dsimp only at hSw); go_simp; done) | (intro w hSw; (try dsimp only at hSw); go_simp; with_reducible rfl)
              (try simp only [Act.put, List.setIfInBounds_toArray, List.set_cons_zero, List.set_cons_succ])
              refine Reg.take (i := 13) (v := ?v38) rfl (by kernel_rfl) (by kernel_rfl) (by kernel_rfl) (by rfl) ?hv38 (by assumption) ?rest38
              case hv38 => first | (intro w hSw; (try dsimp only at hSw); go_simp; done) | (intro w hSw; (try dsimp only at hSw); go_simp; with_reducible rfl)
              (try simp only [Act.put, List.setIfInBounds_toArray, List.set_cons_zero, List.set_cons_succ])
              refine Reg.take (i := 14) (v := ?v39) rfl (by kernel_rfl) (by kernel_rfl) (by kernel_rfl) (by rfl) ?hv39 (by assumption) ?rest39
              case hv39 => first | (intro w hSw; (try dsimp only at hSw); go_simp; done) | (intro w hSw; (try dsimp only at hSw); go_simp; with_reducible rfl)
              (try simp only [Act.put, List.setIfInBounds_toArray, List.set_cons_zero, List.set_cons_succ])
              refine Reg.take (i := 15) (v := ?v40) rfl (by kernel_rfl) (by kernel_rfl) (by kernel_rfl) (by rfl) ?hv40 (by assumption) ?rest40
              case hv40 => first | (intro w hSw; (try dsimp only at hSw); go_simp; done) | (intro w hSw; (try dsimp only at hSw); go_simp; with_reducible rfl)
              (try simp only [Act.put, List.setIfInBounds_toArray, List.set_cons_zero, List.set_cons_succ])
              refine Reg.take (i := 16) (v := ?v41) rfl (by kernel_rfl) (by kernel_rfl) (by kernel_rfl) (by rfl) ?hv41 (by assumption) ?rest41
              case hv41 => first | (intro w hSw; (try dsimp only at hSw); go_simp; done) | (intro w hSw; (try dsimp only at hSw); go_simp; with_reducible rfl)
              (try simp only [Act.put, List.setIfInBounds_toArray, List.set_cons_zero, List.set_cons_succ])
              refine Reg.take (i := 17) (v := ?v42) rfl (by kernel_rfl) (by kernel_rfl) (by kernel_rfl) (by rfl) ?hv42 (by assumption) ?rest42
              case hv42 => first | (intro w hSw; (try dsimp only at hSw); go_simp; done) | (intro w hSw; (try dsimp only at hSw); go_simp; with_reducible rfl)
              (try simp only [Act.put, List.setIfInBounds_toArray, List.set_cons_zero, List.set_cons_succ])
              refine Reg.take (i := 18) (v := ?v43) rfl (by kernel_rfl) (by kernel_rfl) (by kernel_rfl) (by rfl) ?hv43 (by assumption) ?rest43
              case hv43 => first | (intro w hSw; (try dsimp only at hSw); go_simp; done) | (intro w hSw; (try dsimp only at hSw); go_simp; with_reducible rfl)
              (try simp only [Act.put, List.setIfInBounds_toArray, List.set_cons_zero, List.set_cons_succ])
              refine Reg.take (i := 19) (v := ?v44) rfl (by kernel_rfl) (by kernel_rfl) (by kernel_rfl) (by rfl) ?hv44 (by assumption) ?rest44
              case hv44 => first | (intro w hSw; (try dsimp only at hSw); go_simp; done) | (intro w hSw; (try dsimp only at hSw); go_simp; with_reducible rfl)
              (try simp only [Act.put, List.setIfInBounds_toArray, List.set_cons_zero, List.set_cons_succ])
              refine Reg.take (i := 20) (v := ?v45) rfl (by kernel_rfl) (by kernel_rfl) (by kernel_rfl) (by rfl) ?hv45 (by assumption) ?rest45
              case hv45 => first | (intro w hSw; (try dsimp only at hSw); go_simp; done) | (intro w hSw; (try dsimp only at hSw); go_simp; with_reducible rfl)
              (try simp only [Act.put, List.setIfInBounds_toArray, List.set_cons_zero, List.set_cons_succ])
              refine Reg.take (i := 21) (v := ?v46) rfl (by kernel_rfl) (by kernel_rfl) (by kernel_rfl) (by rfl) ?hv46 (by assumption) ?rest46
              case hv46 => first | (intro w hSw; (try dsimp only at hSw); go_simp; done) | (intro w hSw; (try dsimp only at hSw); go_simp; with_reducible rfl)
              (try simp only [Act.put, List.setIfInBounds_toArray, List.set_cons_zero, List.set_cons_succ])
              refine Reg.take (i := 22) (v := ?v47) rfl (by kernel_rfl) (by kernel_rfl) (by kernel_rfl) (by rfl) ?hv47 (by assumption) ?rest47
              case hv47 => first | (intro w hSw; (try dsimp only at hSw); go_simp; done) | (intro w hSw; (try dsimp only at hSw); go_simp; with_reducible rfl)
              (try simp only [Act.put, List.setIfInBounds_toArray, List.set_cons_zero, List.set_cons_succ])
              refine Reg.take (i := 23) (v := ?v48) rfl (by kernel_rfl) (by kernel_rfl) (by kernel_rfl) (by rfl) ?hv48 (by assumption) ?rest48
              case hv48 => first | (intro w hSw; (try dsimp only at hSw); go_simp; done) | (intro w hSw; (try dsimp only at hSw); go_simp; with_reducible rfl)
              (try simp only [Act.put, List.setIfInBounds_toArray, List.set_cons_zero, List.set_cons_succ])
              refine Reg.done (by kernel_rfl) ?_ _
              clear hHeld hI1 hC1
              generalize W5.drew = W6 at *
              have d0 := hC2.cell 0
              have d2 := hC2.cell 2
              have f0 := hI2.tn.box.frozen 2
              have hI3 := hI2.set K (O' := O.set 2 cn) 2 cn rfl
              clear hI2 hC2
              go_wp2
              go_roundw
              case rel => exact ⟨z + 1, O.set 2 cn, by omega, by go_num, HVN.out, hI3⟩
              case measure => simp [intOf]; omega
            · skip
              have q : O.o3 = !cn := hge
              go_wp2
              generalize wr.alloc (.cells #[.int .i64 3, .int .i64 m.at_, .bool cn] 52) = W5 at *
              generalize wr.heap.size = h at *
              have hI2 := hI1.grow K (below_drewN (Below.refl _ W5) 1)
              have hC2 : Has W5.drew h 52 #[.int .i64 3, .int .i64 m.at_, .bool cn] := hC1
              change Ti Rhy w b S l base o (some x) M s2 O g m (some y) cs W5.drew at hI2
              have z0 : W5.drew.cell? ⟨o, 3, none⟩ = some (.bool (!cn)) := by rw [← q]; exact hI2.tn.box.cell 3
              refine Reg.begin_ (S := fun W => W.cell? ⟨o, 3, none⟩ = some (.bool (!cn)) ∧ W.cell? ⟨h, 0, none⟩ = some (.int .i64 3) ∧ W.cell? ⟨h, 1, none⟩ = some (.int .i64 m.at_) ∧ W.cell? ⟨h, 2, none⟩ = some (.bool cn) ∧ W.cell? ⟨g, 1, none⟩ = some (.int .i64 m.at_)) (by kernel_rfl) (by exact ⟨z0, hC2.cell 0, hC2.cell 1, hC2.cell 2, hI2.mbox.cell 1⟩) (fun hHeld => ?_)
              refine Reg.take (i := 0) (v := ?v49) rfl (by kernel_rfl) (by kernel_rfl) (by kernel_rfl) (by rfl) ?hv49 (by assumption) ?rest49
              case hv49 => first | (intro w hSw; (try dsimp only at hSw); go_simp; done) | (intro w hSw; (try dsimp only at hSw); go_simp; with_reducible rfl)
              (try simp only [Act.put, List.setIfInBounds_toArray, List.set_cons_zero, List.set_cons_succ])
              refine Reg.take (i := 1) (v := ?v50) rfl (by kernel_rfl) (by kernel_rfl) (by kernel_rfl) (by rfl) ?hv50 (by assumption) ?rest50
              case hv50 => first | (intro w hSw; (try dsimp only at hSw); go_simp; done) | (intro w hSw; (try dsimp only at hSw); go_simp; with_reducible rfl)
              (try simp only [Act.put, List.setIfInBounds_toArray, List.set_cons_zero, List.set_cons_succ])
              refine Reg.take (i := 2) (v := ?v51) rfl (by kernel_rfl) (by kernel_rfl) (by kernel_rfl) (by rfl) ?hv51 (by assumption) ?rest51
              case hv51 => first | (intro w hSw; (try dsimp only at hSw); go_simp; done) | (intro w hSw; (try dsimp only at hSw); go_simp; with_reducible rfl)
              (try simp only [Act.put, List.setIfInBounds_toArray, List.set_cons_zero, List.set_cons_succ])
              refine Reg.take (i := 3) (v := ?v52) rfl (by kernel_rfl) (by kernel_rfl) (by kernel_rfl) (by rfl) ?hv52 (by assumption) ?rest52
              case hv52 => first | (intro w hSw; (try dsimp only at hSw); go_simp; done) | (intro w hSw; (try dsimp only at hSw); go_simp; with_reducible rfl)
              (try simp only [Act.put, List.setIfInBounds_toArray, List.set_cons_zero, List.set_cons_succ])
              refine Reg.take (i := 4) (v := ?v53) rfl (by kernel_rfl) (by kernel_rfl) (by kernel_rfl) (by rfl) ?hv53 (by assumption) ?rest53
              case hv53 => first | (intro w hSw; (try dsimp only at hSw); go_simp; done) | (intro w hSw; (try dsimp only at hSw); go_simp; with_reducible rfl)
              (try simp only [Act.put, List.setIfInBounds_toArray, List.set_cons_zero, List.set_cons_succ])
              refine Reg.take (i := 5) (v := ?v54) rfl (by kernel_rfl) (by kernel_rfl) (by kernel_rfl) (by rfl) ?hv54 (by assumption) ?rest54
              case hv54 => first | (intro w hSw; (try dsimp only at hSw); go_simp; done) | (intro w hSw; (try dsimp only at hSw); go_simp; with_reducible rfl)
              (try simp only [Act.put, List.setIfInBounds_toArray, List.set_cons_zero, List.set_cons_succ])
              refine Reg.take (i := 6) (v := ?v55) rfl (by kernel_rfl) (by kernel_rfl) (by kernel_rfl) (by rfl) ?hv55 (by assumption) ?rest55
              case hv55 => first | (intro w hSw; (try dsimp only at hSw); go_simp; done) | (intro w hSw; (try dsimp only at hSw); go_simp; with_reducible rfl)
              (try simp only [Act.put, List.setIfInBounds_toArray, List.set_cons_zero, List.set_cons_succ])
              refine Reg.take (i := 7) (v := ?v56) rfl (by kernel_rfl) (by kernel_rfl) (by kernel_rfl) (by rfl) ?hv56 (by assumption) ?rest56
              case hv56 => first | (intro w hSw; (try dsimp only at hSw); go_simp; done) | (intro w hSw; (try dsimp only at hSw); go_simp; with_reducible rfl)
              (try simp only [Act.put, List.setIfInBounds_toArray, List.set_cons_zero, List.set_cons_succ])
              refine Reg.take (i := 8) (v := ?v57) rfl (by kernel_rfl) (by kernel_rfl) (by kernel_rfl) (by rfl) ?hv57 (by assumption) ?rest57
              case hv57 => first | (intro w hSw; (try dsimp only at hSw); go_simp; done) | (intro w hSw; (try dsimp only at hSw); go_simp; with_reducible rfl)
              (try simp only [Act.put, List.setIfInBounds_toArray, List.set_cons_zero, List.set_cons_succ])
              refine Reg.take (i := 9) (v := ?v58) rfl (by kernel_rfl) (by kernel_rfl) (by kernel_rfl) (by rfl) ?hv58 (by assumption) ?rest58
              case hv58 => first | (intro w hSw; (try dsimp only at hSw); go_simp; done) | (intro w hSw; (try dsimp only at hSw); go_simp; with_reducible rfl)
              (try simp only [Act.put, List.setIfInBounds_toArray, List.set_cons_zero, List.set_cons_succ])
              refine Reg.take (i := 10) (v := ?v59) rfl (by kernel_rfl) (by kernel_rfl) (by kernel_rfl) (by rfl) ?hv59 (by assumption) ?rest59
              case hv59 => first | (intro w hSw; (try dsimp only at hSw); go_simp; done) | (intro w hSw; (try dsimp only at hSw); go_simp; with_reducible rfl)
              (try simp only [Act.put, List.setIfInBounds_toArray, List.set_cons_zero, List.set_cons_succ])
              refine Reg.take (i := 11) (v := ?v60) rfl (by kernel_rfl) (by kernel_rfl) (by kernel_rfl) (by rfl) ?hv60 (by assumption) ?rest60
              case hv60 => first | (intro w hSw; (try dsimp only at hSw); go_simp; done) | (intro w hSw; (try dsimp only at hSw); go_simp; with_reducible rfl)
              (try simp only [Act.put, List.setIfInBounds_toArray, List.set_cons_zero, List.set_cons_succ])
              refine Reg.take (i := 12) (v := ?v61) rfl (by kernel_rfl) (by kernel_rfl) (by kernel_rfl) (by rfl) ?hv61 (by assumption) ?rest61
              case hv61 => first | (intro w hSw; (try dsimp only at hSw); go_simp; done) | (intro w hSw; (try dsimp only at hSw); go_simp; with_reducible rfl)
              (try simp only [Act.put, List.setIfInBounds_toArray, List.set_cons_zero, List.set_cons_succ])
              refine Reg.take (i := 13) (v := ?v62) rfl (by kernel_rfl) (by kernel_rfl) (by kernel_rfl) (by rfl) ?hv62 (by assumption) ?rest62
              case hv62 => first | (intro w hSw; (try dsimp only at hSw); go_simp; done) | (intro w hSw; (try dsimp only at hSw); go_simp; with_reducible rfl)
              (try simp only [Act.put, List.setIfInBounds_toArray, List.set_cons_zero, List.set_cons_succ])
              refine Reg.take (i := 14) (v := ?v63) rfl (by kernel_rfl) (by kernel_rfl) (by kernel_rfl) (by rfl) ?hv63 (by assumption) ?rest63
              case hv63 => first | (intro w hSw; (try dsimp only at hSw); go_simp; done) | (intro w hSw; (try dsimp only at hSw); go_simp; with_reducible rfl)
              (try simp only [Act.put, List.setIfInBounds_toArray, List.set_cons_zero, List.set_cons_succ])
              refine Reg.take (i := 15) (v := ?v64) rfl (by kernel_rfl) (by kernel_rfl) (by kernel_rfl) (by rfl) ?hv64 (by assumption) ?rest64
              case hv64 => first | (intro w hSw; (try dsimp only at hSw); go_simp; done) | (intro w hSw; (try dsimp only at hSw); go_simp; with_reducible rfl)
              (try simp only [Act.put, List.setIfInBounds_toArray, List.set_cons_zero, List.set_cons_succ])
              refine Reg.take (i := 16) (v := ?v65) rfl (by kernel_rfl) (by kernel_rfl) (by kernel_rfl) (by rfl) ?hv65 (by assumption) ?rest65
              case hv65 => first | (intro w hSw; (try dsimp only at hSw); go_simp; done) | (intro w hSw; (try dsimp only at hSw); go_simp; with_reducible rfl)
              (try simp only [Act.put, List.setIfInBounds_toArray, List.set_cons_zero, List.set_cons_succ])
              refine Reg.take (i := 17) (v := ?v66) rfl (by kernel_rfl) (by kernel_rfl) (by kernel_rfl) (by rfl) ?hv66 (by assumption) ?rest66
              case hv66 => first | (intro w hSw; (try dsimp only at hSw); go_simp; done) | (intro w hSw; (try dsimp only at hSw); go_simp; with_reducible rfl)
              (try simp only [Act.put, List.setIfInBounds_toArray, List.set_cons_zero, List.set_cons_succ])
              refine Reg.take (i := 18) (v := ?v67) rfl (by kernel_rfl) (by kernel_rfl) (by kernel_rfl) (by rfl) ?hv67 (by assumption) ?rest67
              case hv67 => first | (intro w hSw; (try dsimp only at hSw); go_simp; done) | (intro w hSw; (try dsimp only at hSw); go_simp; with_reducible rfl)
              (try simp only [Act.put, List.setIfInBounds_toArray, List.set_cons_zero, List.set_cons_succ])
              refine Reg.take (i := 19) (v := ?v68) rfl (by kernel_rfl) (by kernel_rfl) (by kernel_rfl) (by rfl) ?hv68 (by assumption) ?rest68
              case hv68 => first | (intro w hSw; (try dsimp only at hSw); go_simp; done) | (intro w hSw; (try dsimp only at hSw); go_simp; with_reducible rfl)
              (try simp only [Act.put, List.setIfInBounds_toArray, List.set_cons_zero, List.set_cons_succ])
              refine Reg.take (i := 20) (v := ?v69) rfl (by kernel_rfl) (by kernel_rfl) (by kernel_rfl) (by rfl) ?hv69 (by assumption) ?rest69
              case hv69 => first | (intro w hSw; (try dsimp only at hSw); go_simp; done) | (intro w hSw; (try dsimp only at hSw); go_simp; with_reducible rfl)
              (try simp only [Act.put, List.setIfInBounds_toArray, List.set_cons_zero, List.set_cons_succ])
              refine Reg.take (i := 21) (v := ?v70) rfl (by kernel_rfl) (by kernel_rfl) (by kernel_rfl) (by rfl) ?hv70 (by assumption) ?rest70
              case hv70 => first | (intro w hSw; (try dsimp only at hSw); go_simp; done) | (intro w hSw; (try dsimp only at hSw); go_simp; with_reducible rfl)
              (try simp only [Act.put, List.setIfInBounds_toArray, List.set_cons_zero, List.set_cons_succ])
              refine Reg.take (i := 22) (v := ?v71) rfl (by kernel_rfl) (by kernel_rfl) (by kernel_rfl) (by rfl) ?hv71 (by assumption) ?rest71
              case hv71 => first | (intro w hSw; (try dsimp only at hSw); go_simp; done) | (intro w hSw; (try dsimp only at hSw); go_simp; with_reducible rfl)
              (try simp only [Act.put, List.setIfInBounds_toArray, List.set_cons_zero, List.set_cons_succ])
              refine Reg.take (i := 23) (v := ?v72) rfl (by kernel_rfl) (by kernel_rfl) (by kernel_rfl) (by rfl) ?hv72 (by assumption) ?rest72
              case hv72 => first | (intro w hSw; (try dsimp only at hSw); go_simp; done) | (intro w hSw; (try dsimp only at hSw); go_simp; with_reducible rfl)
              (try simp only [Act.put, List.setIfInBounds_toArray, List.set_cons_zero, List.set_cons_succ])
              refine Reg.done (by kernel_rfl) ?_ _
              clear hHeld hI1 hC1
              generalize W5.drew = W6 at *
              have d0 := hC2.cell 0
              have d2 := hC2.cell 2
              have f0 := hI2.tn.box.frozen 3
              have hI3 := hI2.set K (O' := O.set 3 cn) 3 cn rfl
              clear hI2 hC2
              go_wp2
              go_roundw
              case rel => exact ⟨z + 1, O.set 3 cn, by omega, by go_num, HVN.out, hI3⟩
              case measure => simp [intOf]; omega
            · skip
              have q : O.o4 = !cn := hge
              go_wp2
              generalize wr.alloc (.cells #[.int .i64 4, .int .i64 m.at_, .bool cn] 52) = W5 at *
              generalize wr.heap.size = h at *
              have hI2 := hI1.grow K (below_drewN (Below.refl _ W5) 1)
              have hC2 : Has W5.drew h 52 #[.int .i64 4, .int .i64 m.at_, .bool cn] := hC1
              change Ti Rhy w b S l base o (some x) M s2 O g m (some y) cs W5.drew at hI2
              have z0 : W5.drew.cell? ⟨o, 4, none⟩ = some (.bool (!cn)) := by rw [← q]; exact hI2.tn.box.cell 4
              refine Reg.begin_ (S := fun W => W.cell? ⟨o, 4, none⟩ = some (.bool (!cn)) ∧ W.cell? ⟨h, 0, none⟩ = some (.int .i64 4) ∧ W.cell? ⟨h, 1, none⟩ = some (.int .i64 m.at_) ∧ W.cell? ⟨h, 2, none⟩ = some (.bool cn) ∧ W.cell? ⟨g, 1, none⟩ = some (.int .i64 m.at_)) (by kernel_rfl) (by exact ⟨z0, hC2.cell 0, hC2.cell 1, hC2.cell 2, hI2.mbox.cell 1⟩) (fun hHeld => ?_)
              refine Reg.take (i := 0) (v := ?v73) rfl (by kernel_rfl) (by kernel_rfl) (by kernel_rfl) (by rfl) ?hv73 (by assumption) ?rest73
              case hv73 => first | (intro w hSw; (try dsimp only at hSw); go_simp; done) | (intro w hSw; (try dsimp only at hSw); go_simp; with_reducible rfl)
              (try simp only [Act.put, List.setIfInBounds_toArray, List.set_cons_zero, List.set_cons_succ])
              refine Reg.take (i := 1) (v := ?v74) rfl (by kernel_rfl) (by kernel_rfl) (by kernel_rfl) (by rfl) ?hv74 (by assumption) ?rest74
              case hv74 => first | (intro w hSw; (try dsimp only at hSw); go_simp; done) | (intro w hSw; (try dsimp only at hSw); go_simp; with_reducible rfl)
              (try simp only [Act.put, List.setIfInBounds_toArray, List.set_cons_zero, List.set_cons_succ])
              refine Reg.take (i := 2) (v := ?v75) rfl (by kernel_rfl) (by kernel_rfl) (by kernel_rfl) (by rfl) ?hv75 (by assumption) ?rest75
              case hv75 => first | (intro w hSw; (try dsimp only at hSw); go_simp; done) | (intro w hSw; (try dsimp only at hSw); go_simp; with_reducible rfl)
              (try simp only [Act.put, List.setIfInBounds_toArray, List.set_cons_zero, List.set_cons_succ])
              refine Reg.take (i := 3) (v := ?v76) rfl (by kernel_rfl) (by kernel_rfl) (by kernel_rfl) (by rfl) ?hv76 (by assumption) ?rest76
              case hv76 => first | (intro w hSw; (try dsimp only at hSw); go_simp; done) | (intro w hSw; (try dsimp only at hSw); go_simp; with_reducible rfl)
              (try simp only [Act.put, List.setIfInBounds_toArray, List.set_cons_zero, List.set_cons_succ])
              refine Reg.take (i := 4) (v := ?v77) rfl (by kernel_rfl) (by kernel_rfl) (by kernel_rfl) (by rfl) ?hv77 (by assumption) ?rest77
              case hv77 => first | (intro w hSw; (try dsimp only at hSw); go_simp; done) | (intro w hSw; (try dsimp only at hSw); go_simp; with_reducible rfl)
              (try simp only [Act.put, List.setIfInBounds_toArray, List.set_cons_zero, List.set_cons_succ])
              refine Reg.take (i := 5) (v := ?v78) rfl (by kernel_rfl) (by kernel_rfl) (by kernel_rfl) (by rfl) ?hv78 (by assumption) ?rest78
              case hv78 => first | (intro w hSw; (try dsimp only at hSw); go_simp; done) | (intro w hSw; (try dsimp only at hSw); go_simp; with_reducible rfl)
              (try simp only [Act.put, List.setIfInBounds_toArray, List.set_cons_zero, List.set_cons_succ])
              refine Reg.take (i := 6) (v := ?v79) rfl (by kernel_rfl) (by kernel_rfl) (by kernel_rfl) (by rfl) ?hv79 (by assumption) ?rest79
              case hv79 => first | (intro w hSw; (try dsimp only at hSw); go_simp; done) | (intro w hSw; (try dsimp only at hSw); go_simp; with_reducible rfl)
              (try simp only [Act.put, List.setIfInBounds_toArray, List.set_cons_zero, List.set_cons_succ])
              refine Reg.take (i := 7) (v := ?v80) rfl (by kernel_rfl) (by kernel_rfl) (by kernel_rfl) (by rfl) ?hv80 (by assumption) ?rest80
              case hv80 => first | (intro w hSw; (try dsimp only at hSw); go_simp; done) | (intro w hSw; (try dsimp only at hSw); go_simp; with_reducible rfl)
              (try simp only [Act.put, List.setIfInBounds_toArray, List.set_cons_zero, List.set_cons_succ])
              refine Reg.take (i := 8) (v := ?v81) rfl (by kernel_rfl) (by kernel_rfl) (by kernel_rfl) (by rfl) ?hv81 (by assumption) ?rest81
              case hv81 => first | (intro w hSw; (try dsimp only at hSw); go_simp; done) | (intro w hSw; (try dsimp only at hSw); go_simp; with_reducible rfl)
              (try simp only [Act.put, List.setIfInBounds_toArray, List.set_cons_zero, List.set_cons_succ])
              refine Reg.take (i := 9) (v := ?v82) rfl (by kernel_rfl) (by kernel_rfl) (by kernel_rfl) (by rfl) ?hv82 (by assumption) ?rest82
              case hv82 => first | (intro w hSw; (try dsimp only at hSw); go_simp; done) | (intro w hSw; (try dsimp only at hSw); go_simp; with_reducible rfl)
              (try simp only [Act.put, List.setIfInBounds_toArray, List.set_cons_zero, List.set_cons_succ])
              refine Reg.take (i := 10) (v := ?v83) rfl (by kernel_rfl) (by kernel_rfl) (by kernel_rfl) (by rfl) ?hv83 (by assumption) ?rest83
              case hv83 => first | (intro w hSw; (try dsimp only at hSw); go_simp; done) | (intro w hSw; (try dsimp only at hSw); go_simp; with_reducible rfl)
              (try simp only [Act.put, List.setIfInBounds_toArray, List.set_cons_zero, List.set_cons_succ])
              refine Reg.take (i := 11) (v := ?v84) rfl (by kernel_rfl) (by kernel_rfl) (by kernel_rfl) (by rfl) ?hv84 (by assumption) ?rest84
              case hv84 => first | (intro w hSw; (try dsimp only at hSw); go_simp; done) | (intro w hSw; (try dsimp only at hSw); go_simp; with_reducible rfl)
              (try simp only [Act.put, List.setIfInBounds_toArray, List.set_cons_zero, List.set_cons_succ])
              refine Reg.take (i := 12) (v := ?v85) rfl (by kernel_rfl) (by kernel_rfl) (by kernel_rfl) (by rfl) ?hv85 (by assumption) ?rest85
              case hv85 => first | (intro w hSw; (try dsimp only at hSw); go_simp; done) | (intro w hSw; (try dsimp only at hSw); go_simp; with_reducible rfl)
              (try simp only [Act.put, List.setIfInBounds_toArray, List.set_cons_zero, List.set_cons_succ])
              refine Reg.take (i := 13) (v := ?v86) rfl (by kernel_rfl) (by kernel_rfl) (by kernel_rfl) (by rfl) ?hv86 (by assumption) ?rest86
              case hv86 => first | (intro w hSw; (try dsimp only at hSw); go_simp; done) | (intro w hSw; (try dsimp only at hSw); go_simp; with_reducible rfl)
              (try simp only [Act.put, List.setIfInBounds_toArray, List.set_cons_zero, List.set_cons_succ])
              refine Reg.take (i := 14) (v := ?v87) rfl (by kernel_rfl) (by kernel_rfl) (by kernel_rfl) (by rfl) ?hv87 (by assumption) ?rest87
              case hv87 => first | (intro w hSw; (try dsimp only at hSw); go_simp; done) | (intro w hSw; (try dsimp only at hSw); go_simp; with_reducible rfl)
              (try simp only [Act.put, List.setIfInBounds_toArray, List.set_cons_zero, List.set_cons_succ])
              refine Reg.take (i := 15) (v := ?v88) rfl (by kernel_rfl) (by kernel_rfl) (by kernel_rfl) (by rfl) ?hv88 (by assumption) ?rest88
              case hv88 => first | (intro w hSw; (try dsimp only at hSw); go_simp; done) | (intro w hSw; (try dsimp only at hSw); go_simp; with_reducible rfl)
              (try simp only [Act.put, List.setIfInBounds_toArray, List.set_cons_zero, List.set_cons_succ])
              refine Reg.take (i := 16) (v := ?v89) rfl (by kernel_rfl) (by kernel_rfl) (by kernel_rfl) (by rfl) ?hv89 (by assumption) ?rest89
              case hv89 => first | (intro w hSw; (try dsimp only at hSw); go_simp; done) | (intro w hSw; (try dsimp only at hSw); go_simp; with_reducible rfl)
              (try simp only [Act.put, List.setIfInBounds_toArray, List.set_cons_zero, List.set_cons_succ])
              refine Reg.take (i := 17) (v := ?v90) rfl (by kernel_rfl) (by kernel_rfl) (by kernel_rfl) (by rfl) ?hv90 (by assumption) ?rest90
              case hv90 => first | (intro w hSw; (try dsimp only at hSw); go_simp; done) | (intro w hSw; (try dsimp only at hSw); go_simp; with_reducible rfl)
              (try simp only [Act.put, List.setIfInBounds_toArray, List.set_cons_zero, List.set_cons_succ])
              refine Reg.take (i := 18) (v := ?v91) rfl (by kernel_rfl) (by kernel_rfl) (by kernel_rfl) (by rfl) ?hv91 (by assumption) ?rest91
              case hv91 => first | (intro w hSw; (try dsimp only at hSw); go_simp; done) | (intro w hSw; (try dsimp only at hSw); go_simp; with_reducible rfl)
              (try simp only [Act.put, List.setIfInBounds_toArray, List.set_cons_zero, List.set_cons_succ])
              refine Reg.take (i := 19) (v := ?v92) rfl (by kernel_rfl) (by kernel_rfl) (by kernel_rfl) (by rfl) ?hv92 (by assumption) ?rest92
              case hv92 => first | (intro w hSw; (try dsimp only at hSw); go_simp; done) | (intro w hSw; (try dsimp only at hSw); go_simp; with_reducible rfl)
              (try simp only [Act.put, List.setIfInBounds_toArray, List.set_cons_zero, List.set_cons_succ])
              refine Reg.take (i := 20) (v := ?v93) rfl (by kernel_rfl) (by kernel_rfl) (by kernel_rfl) (by rfl) ?hv93 (by assumption) ?rest93
              case hv93 => first | (intro w hSw; (try dsimp only at hSw); go_simp; done) | (intro w hSw; (try dsimp only at hSw); go_simp; with_reducible rfl)
              (try simp only [Act.put, List.setIfInBounds_toArray, List.set_cons_zero, List.set_cons_succ])
              refine Reg.take (i := 21) (v := ?v94) rfl (by kernel_rfl) (by kernel_rfl) (by kernel_rfl) (by rfl) ?hv94 (by assumption) ?rest94
              case hv94 => first | (intro w hSw; (try dsimp only at hSw); go_simp; done) | (intro w hSw; (try dsimp only at hSw); go_simp; with_reducible rfl)
              (try simp only [Act.put, List.setIfInBounds_toArray, List.set_cons_zero, List.set_cons_succ])
              refine Reg.take (i := 22) (v := ?v95) rfl (by kernel_rfl) (by kernel_rfl) (by kernel_rfl) (by rfl) ?hv95 (by assumption) ?rest95
              case hv95 => first | (intro w hSw; (try dsimp only at hSw); go_simp; done) | (intro w hSw; (try dsimp only at hSw); go_simp; with_reducible rfl)
              (try simp only [Act.put, List.setIfInBounds_toArray, List.set_cons_zero, List.set_cons_succ])
              refine Reg.take (i := 23) (v := ?v96) rfl (by kernel_rfl) (by kernel_rfl) (by kernel_rfl) (by rfl) ?hv96 (by assumption) ?rest96
              case hv96 => first | (intro w hSw; (try dsimp only at hSw); go_simp; done) | (intro w hSw; (try dsimp only at hSw); go_simp; with_reducible rfl)
              (try simp only [Act.put, List.setIfInBounds_toArray, List.set_cons_zero, List.set_cons_succ])
              refine Reg.done (by kernel_rfl) ?_ _
              clear hHeld hI1 hC1
              generalize W5.drew = W6 at *
              have d0 := hC2.cell 0
              have d2 := hC2.cell 2
              have f0 := hI2.tn.box.frozen 4
              have hI3 := hI2.set K (O' := O.set 4 cn) 4 cn rfl
              clear hI2 hC2
              go_wp2
              go_roundw
              case rel => exact ⟨z + 1, O.set 4 cn, by omega, by go_num, HVN.out, hI3⟩
              case measure => simp [intOf]; omega
            · skip
              have q : O.o5 = !cn := hge
              go_wp2
              generalize wr.alloc (.cells #[.int .i64 5, .int .i64 m.at_, .bool cn] 52) = W5 at *
              generalize wr.heap.size = h at *
              have hI2 := hI1.grow K (below_drewN (Below.refl _ W5) 1)
              have hC2 : Has W5.drew h 52 #[.int .i64 5, .int .i64 m.at_, .bool cn] := hC1
              change Ti Rhy w b S l base o (some x) M s2 O g m (some y) cs W5.drew at hI2
              have z0 : W5.drew.cell? ⟨o, 5, none⟩ = some (.bool (!cn)) := by rw [← q]; exact hI2.tn.box.cell 5
              refine Reg.begin_ (S := fun W => W.cell? ⟨o, 5, none⟩ = some (.bool (!cn)) ∧ W.cell? ⟨h, 0, none⟩ = some (.int .i64 5) ∧ W.cell? ⟨h, 1, none⟩ = some (.int .i64 m.at_) ∧ W.cell? ⟨h, 2, none⟩ = some (.bool cn) ∧ W.cell? ⟨g, 1, none⟩ = some (.int .i64 m.at_)) (by kernel_rfl) (by exact ⟨z0, hC2.cell 0, hC2.cell 1, hC2.cell 2, hI2.mbox.cell 1⟩) (fun hHeld => ?_)
              refine Reg.take (i := 0) (v := ?v97) rfl (by kernel_rfl) (by kernel_rfl) (by kernel_rfl) (by rfl) ?hv97 (by assumption) ?rest97
              case hv97 => first | (intro w hSw; (try dsimp only at hSw); go_simp; done) | (intro w hSw; (try dsimp only at hSw); go_simp; with_reducible rfl)
              (try simp only [Act.put, List.setIfInBounds_toArray, List.set_cons_zero, List.set_cons_succ])
              refine Reg.take (i := 1) (v := ?v98) rfl (by kernel_rfl) (by kernel_rfl) (by kernel_rfl) (by rfl) ?hv98 (by assumption) ?rest98
              case hv98 => first | (intro w hSw; (try dsimp only at hSw); go_simp; done) | (intro w hSw; (try dsimp only at hSw); go_simp; with_reducible rfl)
              (try simp only [Act.put, List.setIfInBounds_toArray, List.set_cons_zero, List.set_cons_succ])
              refine Reg.take (i := 2) (v := ?v99) rfl (by kernel_rfl) (by kernel_rfl) (by kernel_rfl) (by rfl) ?hv99 (by assumption) ?rest99
              case hv99 => first | (intro w hSw; (try dsimp only at hSw); go_simp; done) | (intro w hSw; (try dsimp only at hSw); go_simp; with_reducible rfl)
              (try simp only [Act.put, List.setIfInBounds_toArray, List.set_cons_zero, List.set_cons_succ])
              refine Reg.take (i := 3) (v := ?v100) rfl (by kernel_rfl) (by kernel_rfl) (by kernel_rfl) (by rfl) ?hv100 (by assumption) ?rest100
              case hv100 => first | (intro w hSw; (try dsimp only at hSw); go_simp; done) | (intro w hSw; (try dsimp only at hSw); go_simp; with_reducible rfl)
              (try simp only [Act.put, List.setIfInBounds_toArray, List.set_cons_zero, List.set_cons_succ])
              refine Reg.take (i := 4) (v := ?v101) rfl (by kernel_rfl) (by kernel_rfl) (by kernel_rfl) (by rfl) ?hv101 (by assumption) ?rest101
              case hv101 => first | (intro w hSw; (try dsimp only at hSw); go_simp; done) | (intro w hSw; (try dsimp only at hSw); go_simp; with_reducible rfl)
              (try simp only [Act.put, List.setIfInBounds_toArray, List.set_cons_zero, List.set_cons_succ])
              refine Reg.take (i := 5) (v := ?v102) rfl (by kernel_rfl) (by kernel_rfl) (by kernel_rfl) (by rfl) ?hv102 (by assumption) ?rest102
              case hv102 => first | (intro w hSw; (try dsimp only at hSw); go_simp; done) | (intro w hSw; (try dsimp only at hSw); go_simp; with_reducible rfl)
              (try simp only [Act.put, List.setIfInBounds_toArray, List.set_cons_zero, List.set_cons_succ])
              refine Reg.take (i := 6) (v := ?v103) rfl (by kernel_rfl) (by kernel_rfl) (by kernel_rfl) (by rfl) ?hv103 (by assumption) ?rest103
              case hv103 => first | (intro w hSw; (try dsimp only at hSw); go_simp; done) | (intro w hSw; (try dsimp only at hSw); go_simp; with_reducible rfl)
              (try simp only [Act.put, List.setIfInBounds_toArray, List.set_cons_zero, List.set_cons_succ])
              refine Reg.take (i := 7) (v := ?v104) rfl (by kernel_rfl) (by kernel_rfl) (by kernel_rfl) (by rfl) ?hv104 (by assumption) ?rest104
              case hv104 => first | (intro w hSw; (try dsimp only at hSw); go_simp; done) | (intro w hSw; (try dsimp only at hSw); go_simp; with_reducible rfl)
              (try simp only [Act.put, List.setIfInBounds_toArray, List.set_cons_zero, List.set_cons_succ])
              refine Reg.take (i := 8) (v := ?v105) rfl (by kernel_rfl) (by kernel_rfl) (by kernel_rfl) (by rfl) ?hv105 (by assumption) ?rest105
              case hv105 => first | (intro w hSw; (try dsimp only at hSw); go_simp; done) | (intro w hSw; (try dsimp only at hSw); go_simp; with_reducible rfl)
              (try simp only [Act.put, List.setIfInBounds_toArray, List.set_cons_zero, List.set_cons_succ])
              refine Reg.take (i := 9) (v := ?v106) rfl (by kernel_rfl) (by kernel_rfl) (by kernel_rfl) (by rfl) ?hv106 (by assumption) ?rest106
              case hv106 => first | (intro w hSw; (try dsimp only at hSw); go_simp; done) | (intro w hSw; (try dsimp only at hSw); go_simp; with_reducible rfl)
              (try simp only [Act.put, List.setIfInBounds_toArray, List.set_cons_zero, List.set_cons_succ])
              refine Reg.take (i := 10) (v := ?v107) rfl (by kernel_rfl) (by kernel_rfl) (by kernel_rfl) (by rfl) ?hv107 (by assumption) ?rest107
              case hv107 => first | (intro w hSw; (try dsimp only at hSw); go_simp; done) | (intro w hSw; (try dsimp only at hSw); go_simp; with_reducible rfl)
              (try simp only [Act.put, List.setIfInBounds_toArray, List.set_cons_zero, List.set_cons_succ])
              refine Reg.take (i := 11) (v := ?v108) rfl (by kernel_rfl) (by kernel_rfl) (by kernel_rfl) (by rfl) ?hv108 (by assumption) ?rest108
              case hv108 => first | (intro w hSw; (try dsimp only at hSw); go_simp; done) | (intro w hSw; (try dsimp only at hSw); go_simp; with_reducible rfl)
              (try simp only [Act.put, List.setIfInBounds_toArray, List.set_cons_zero, List.set_cons_succ])
              refine Reg.take (i := 12) (v := ?v109) rfl (by kernel_rfl) (by kernel_rfl) (by kernel_rfl) (by rfl) ?hv109 (by assumption) ?rest109
              case hv109 => first | (intro w hSw; (try dsimp only at hSw); go_simp; done) | (intro w hSw; (try dsimp only at hSw); go_simp; with_reducible rfl)
              (try simp only [Act.put, List.setIfInBounds_toArray, List.set_cons_zero, List.set_cons_succ])
              refine Reg.take (i := 13) (v := ?v110) rfl (by kernel_rfl) (by kernel_rfl) (by kernel_rfl) (by rfl) ?hv110 (by assumption) ?rest110
              case hv110 => first | (intro w hSw; (try dsimp only at hSw); go_simp; done) | (intro w hSw; (try dsimp only at hSw); go_simp; with_reducible rfl)
              (try simp only [Act.put, List.setIfInBounds_toArray, List.set_cons_zero, List.set_cons_succ])
              refine Reg.take (i := 14) (v := ?v111) rfl (by kernel_rfl) (by kernel_rfl) (by kernel_rfl) (by rfl) ?hv111 (by assumption) ?rest111
              case hv111 => first | (intro w hSw; (try dsimp only at hSw); go_simp; done) | (intro w hSw; (try dsimp only at hSw); go_simp; with_reducible rfl)
              (try simp only [Act.put, List.setIfInBounds_toArray, List.set_cons_zero, List.set_cons_succ])
              refine Reg.take (i := 15) (v := ?v112) rfl (by kernel_rfl) (by kernel_rfl) (by kernel_rfl) (by rfl) ?hv112 (by assumption) ?rest112
              case hv112 => first | (intro w hSw; (try dsimp only at hSw); go_simp; done) | (intro w hSw; (try dsimp only at hSw); go_simp; with_reducible rfl)
              (try simp only [Act.put, List.setIfInBounds_toArray, List.set_cons_zero, List.set_cons_succ])
              refine Reg.take (i := 16) (v := ?v113) rfl (by kernel_rfl) (by kernel_rfl) (by kernel_rfl) (by rfl) ?hv113 (by assumption) ?rest113
              case hv113 => first | (intro w hSw; (try dsimp only at hSw); go_simp; done) | (intro w hSw; (try dsimp only at hSw); go_simp; with_reducible rfl)
              (try simp only [Act.put, List.setIfInBounds_toArray, List.set_cons_zero, List.set_cons_succ])
              refine Reg.take (i := 17) (v := ?v114) rfl (by kernel_rfl) (by kernel_rfl) (by kernel_rfl) (by rfl) ?hv114 (by assumption) ?rest114
              case hv114 => first | (intro w hSw; (try dsimp only at hSw); go_simp; done) | (intro w hSw; (try dsimp only at hSw); go_simp; with_reducible rfl)
              (try simp only [Act.put, List.setIfInBounds_toArray, List.set_cons_zero, List.set_cons_succ])
              refine Reg.take (i := 18) (v := ?v115) rfl (by kernel_rfl) (by kernel_rfl) (by kernel_rfl) (by rfl) ?hv115 (by assumption) ?rest115
              case hv115 => first | (intro w hSw; (try dsimp only at hSw); go_simp; done) | (intro w hSw; (try dsimp only at hSw); go_simp; with_reducible rfl)
              (try simp only [Act.put, List.setIfInBounds_toArray, List.set_cons_zero, List.set_cons_succ])
              refine Reg.take (i := 19) (v := ?v116) rfl (by kernel_rfl) (by kernel_rfl) (by kernel_rfl) (by rfl) ?hv116 (by assumption) ?rest116
              case hv116 => first | (intro w hSw; (try dsimp only at hSw); go_simp; done) | (intro w hSw; (try dsimp only at hSw); go_simp; with_reducible rfl)
              (try simp only [Act.put, List.setIfInBounds_toArray, List.set_cons_zero, List.set_cons_succ])
              refine Reg.take (i := 20) (v := ?v117) rfl (by kernel_rfl) (by kernel_rfl) (by kernel_rfl) (by rfl) ?hv117 (by assumption) ?rest117
              case hv117 => first | (intro w hSw; (try dsimp only at hSw); go_simp; done) | (intro w hSw; (try dsimp only at hSw); go_simp; with_reducible rfl)
              (try simp only [Act.put, List.setIfInBounds_toArray, List.set_cons_zero, List.set_cons_succ])
              refine Reg.take (i := 21) (v := ?v118) rfl (by kernel_rfl) (by kernel_rfl) (by kernel_rfl) (by rfl) ?hv118 (by assumption) ?rest118
              case hv118 => first | (intro w hSw; (try dsimp only at hSw); go_simp; done) | (intro w hSw; (try dsimp only at hSw); go_simp; with_reducible rfl)
              (try simp only [Act.put, List.setIfInBounds_toArray, List.set_cons_zero, List.set_cons_succ])
              refine Reg.take (i := 22) (v := ?v119) rfl (by kernel_rfl) (by kernel_rfl) (by kernel_rfl) (by rfl) ?hv119 (by assumption) ?rest119
              case hv119 => first | (intro w hSw; (try dsimp only at hSw); go_simp; done) | (intro w hSw; (try dsimp only at hSw); go_simp; with_reducible rfl)
              (try simp only [Act.put, List.setIfInBounds_toArray, List.set_cons_zero, List.set_cons_succ])
              refine Reg.take (i := 23) (v := ?v120) rfl (by kernel_rfl) (by kernel_rfl) (by kernel_rfl) (by rfl) ?hv120 (by assumption) ?rest120
              case hv120 => first | (intro w hSw; (try dsimp only at hSw); go_simp; done) | (intro w hSw; (try dsimp only at hSw); go_simp; with_reducible rfl)
              (try simp only [Act.put, List.setIfInBounds_toArray, List.set_cons_zero, List.set_cons_succ])
              refine Reg.done (by kernel_rfl) ?_ _
              clear hHeld hI1 hC1
              generalize W5.drew = W6 at *
              have d0 := hC2.cell 0
              have d2 := hC2.cell 2
              have f0 := hI2.tn.box.frozen 5
              have hI3 := hI2.set K (O' := O.set 5 cn) 5 cn rfl
              clear hI2 hC2
              go_wp2
              go_roundw
              case rel => exact ⟨z + 1, O.set 5 cn, by omega, by go_num, HVN.out, hI3⟩
              case measure => simp [intOf]; omega
          · obtain rfl : z = cs.length := by omega
            rw [List.drop_length] at hval
            obtain rfl : O = s2.on := hval
            clear hz hzl
            have HRS2 := Lib.hid (show M.length ≤ 5120 from HKM.out.2)
            go_wp2
            go_loopw [12] (fun i wr2 => ∃ z : Nat, 1 ≤ z ∧ z ≤ 6 ∧ i = .int .i64 (z : Nat) ∧ Ti Rhy w b S l base o (some x) M s2 s2.on g m B3 cs wr2) (fun i _ => 6 - (intOf i).toNat)
            case atStart => exact ⟨1, by omega, by omega, rfl, hI⟩
            case round =>
              clear hI
              obtain ⟨z, hz1, hz6, rfl, hI⟩ := hrel
              by_cases hlt : z < 6
              · have hcs : z = 1 ∨ z = 2 ∨ z = 3 ∨ z = 4 ∨ z = 5 := by omega
                have hFF := HF2.out
                clear hlt hz1 hz6
                by_cases ho1 : s2.on.o1 = true
                · obtain ⟨hd, hall⟩ := hFF
                  obtain ⟨h2, h3, h4, h5⟩ := hall ho1
                  clear hd hall
                  rcases hcs with rfl | rfl | rfl | rfl | rfl
                  · rw [show ((1 : Nat) : Int) = 1 from rfl]
                    go_wp2
                    have hq : (!(true == true)) = false := by simp
                    have hI2 : Ti Rhy w b S l base o (some x) M s2 s2.on g m B3 cs wr.drew := hI.grow K (below_drewN (Below.refl _ wr) 1)
                    have HC := Lib.hid (show ∀ W, Ti Rhy w b S l base o (some x) M s2 s2.on g m B3 cs W → W.cell? ⟨o, 1, none⟩ = some (.bool (true)) ∧ W.cell? ⟨o, 1, none⟩ = some (.bool true) from fun W hW => ⟨by have h7 : W.cell? ⟨o, 1, none⟩ = some (.bool (s2.on.get 1)) := hW.tn.box.cell 1; rw [h7]; rw [show s2.on.get 1 = true from ho1], by have h7 : W.cell? ⟨o, 1, none⟩ = some (.bool s2.on.o1) := hW.tn.box.cell 1; rw [h7]; rw [show s2.on.o1 = true from ho1]⟩)
                    have hon := fun W hW => K.on_any W b S l s2 1 hW
                    rw [show s2.on.get 1 = true from ho1] at hon
                    clear hI
                    refine Reg.begin_ (S := fun W => W.cell? ⟨o, 1, none⟩ = some (.bool (true)) ∧ W.cell? ⟨o, 1, none⟩ = some (.bool true)) (by kernel_rfl) (by exact HC.out _ hI2) (fun hHeld => ?_)
                    generalize wr.drew = W5 at *
                    refine Reg.take (i := 0) (v := ?v121) rfl (by kernel_rfl) (by kernel_rfl) (by kernel_rfl) (by rfl) ?hv121 (by assumption) ?rest121
                    case hv121 => first | (intro w hSw; (try dsimp only at hSw); go_simp; done) | (intro w hSw; (try dsimp only at hSw); go_simp; with_reducible rfl)
                    (try simp only [Act.put, List.setIfInBounds_toArray, List.set_cons_zero, List.set_cons_succ])
                    refine Reg.take (i := 1) (v := ?v122) rfl (by kernel_rfl) (by kernel_rfl) (by kernel_rfl) (by rfl) ?hv122 (by assumption) ?rest122
                    case hv122 => first | (intro w hSw; (try dsimp only at hSw); go_simp; done) | (intro w hSw; (try dsimp only at hSw); go_simp; with_reducible rfl)
                    (try simp only [Act.put, List.setIfInBounds_toArray, List.set_cons_zero, List.set_cons_succ])
                    refine Reg.take (i := 3) (v := ?v123) rfl (by kernel_rfl) (by kernel_rfl) (by kernel_rfl) (by rfl) ?hv123 (by assumption) ?rest123
                    case hv123 => first | (intro w hSw; (try dsimp only at hSw); go_simp; done) | (intro w hSw; (try dsimp only at hSw); go_simp; with_reducible rfl)
                    (try simp only [Act.put, List.setIfInBounds_toArray, List.set_cons_zero, List.set_cons_succ])
                    refine Reg.take (i := 4) (v := ?v124) rfl (by kernel_rfl) (by kernel_rfl) (by kernel_rfl) (by rfl) ?hv124 (by assumption) ?rest124
                    case hv124 => first | (intro w hSw; (try dsimp only at hSw); go_simp; done) | (intro w hSw; (try dsimp only at hSw); go_simp; with_reducible rfl)
                    (try simp only [Act.put, List.setIfInBounds_toArray, List.set_cons_zero, List.set_cons_succ])
                    refine Reg.take (i := 5) (v := ?v125) rfl (by kernel_rfl) (by kernel_rfl) (by kernel_rfl) (by rfl) ?hv125 (by assumption) ?rest125
                    case hv125 => first | (intro w hSw; (try dsimp only at hSw); go_simp; done) | (intro w hSw; (try dsimp only at hSw); go_simp; with_reducible rfl)
                    (try simp only [Act.put, List.setIfInBounds_toArray, List.set_cons_zero, List.set_cons_succ])
                    refine Reg.call (i := 2) rfl (by kernel_rfl) (by rfl) ?_
                    intro K1 hK1
                    go_simp
                    go_at_call 17
                    (refine Calls.mono (by exact hon W5 hI2.tn.mr.rhy) ?_)
                    rintro e W6 ⟨rfl, hB6⟩
                    have hI3 := hI2.grow K hB6
                    clear hHeld hI2
                    refine hK1.out _ _ (by exact (HC.out _ hI3)) (fun hHeld => ?_)
                    clear hK1 K1
                    (try simp only [Act.put, List.setIfInBounds_toArray, List.set_cons_zero, List.set_cons_succ])
                    refine Reg.take (i := 6) (v := ?v126) rfl (by kernel_rfl) (by kernel_rfl) (by kernel_rfl) (by rfl) ?hv126 (by assumption) ?rest126
                    case hv126 => first | (intro w hSw; (try dsimp only at hSw); go_simp; done) | (intro w hSw; (try dsimp only at hSw); go_simp; with_reducible rfl)
                    (try simp only [Act.put, List.setIfInBounds_toArray, List.set_cons_zero, List.set_cons_succ])
                    refine Reg.take (i := 7) (v := ?v127) rfl (by kernel_rfl) (by kernel_rfl) (by kernel_rfl) (by rfl) ?hv127 (by assumption) ?rest127
                    case hv127 => first | (intro w hSw; (try dsimp only at hSw); go_simp; done) | (intro w hSw; (try dsimp only at hSw); go_simp; with_reducible rfl)
                    (try simp only [Act.put, List.setIfInBounds_toArray, List.set_cons_zero, List.set_cons_succ])
                    refine Reg.take (i := 8) (v := ?v128) rfl (by kernel_rfl) (by kernel_rfl) (by kernel_rfl) (by rfl) ?hv128 (by assumption) ?rest128
                    case hv128 => first | (intro w hSw; (try dsimp only at hSw); go_simp; done) | (intro w hSw; (try dsimp only at hSw); go_simp; with_reducible rfl)
                    (try simp only [Act.put, List.setIfInBounds_toArray, List.set_cons_zero, List.set_cons_succ])
                    refine Reg.take (i := 9) (v := ?v129) rfl (by kernel_rfl) (by kernel_rfl) (by kernel_rfl) (by rfl) ?hv129 (by assumption) ?rest129
                    case hv129 => first | (intro w hSw; (try dsimp only at hSw); go_simp; done) | (intro w hSw; (try dsimp only at hSw); go_simp; with_reducible rfl)
                    (try simp only [Act.put, List.setIfInBounds_toArray, List.set_cons_zero, List.set_cons_succ])
                    refine Reg.take (i := 10) (v := ?v130) rfl (by kernel_rfl) (by kernel_rfl) (by kernel_rfl) (by rfl) ?hv130 (by assumption) ?rest130
                    case hv130 => first | (intro w hSw; (try dsimp only at hSw); go_simp; done) | (intro w hSw; (try dsimp only at hSw); go_simp; with_reducible rfl)
                    (try simp only [Act.put, List.setIfInBounds_toArray, List.set_cons_zero, List.set_cons_succ])
                    refine Reg.take (i := 11) (v := ?v131) rfl (by kernel_rfl) (by kernel_rfl) (by kernel_rfl) (by rfl) ?hv131 (by assumption) ?rest131
                    case hv131 => first | (intro w hSw; (try dsimp only at hSw); go_simp; done) | (intro w hSw; (try dsimp only at hSw); go_simp; with_reducible rfl)
                    (try simp only [Act.put, List.setIfInBounds_toArray, List.set_cons_zero, List.set_cons_succ])
                    refine Reg.take (i := 12) (v := ?v132) rfl (by kernel_rfl) (by kernel_rfl) (by kernel_rfl) (by rfl) ?hv132 (by assumption) ?rest132
                    case hv132 => first | (intro w hSw; (try dsimp only at hSw); go_simp; done) | (intro w hSw; (try dsimp only at hSw); go_simp; with_reducible rfl)
                    (try simp only [Act.put, List.setIfInBounds_toArray, List.set_cons_zero, List.set_cons_succ])
                    refine Reg.take (i := 13) (v := ?v133) rfl (by kernel_rfl) (by kernel_rfl) (by kernel_rfl) (by rfl) ?hv133 (by assumption) ?rest133
                    case hv133 => first | (intro w hSw; (try dsimp only at hSw); go_simp; done) | (intro w hSw; (try dsimp only at hSw); go_simp; with_reducible rfl)
                    (try simp only [Act.put, List.setIfInBounds_toArray, List.set_cons_zero, List.set_cons_succ])
                    refine Reg.take (i := 14) (v := ?v134) rfl (by kernel_rfl) (by kernel_rfl) (by kernel_rfl) (by rfl) ?hv134 (by assumption) ?rest134
                    case hv134 => first | (intro w hSw; (try dsimp only at hSw); go_simp; done) | (intro w hSw; (try dsimp only at hSw); go_simp; with_reducible rfl)
                    (try simp only [Act.put, List.setIfInBounds_toArray, List.set_cons_zero, List.set_cons_succ])
                    refine Reg.skip (i := 15) rfl (by kernel_rfl) (by kernel_rfl) (by kernel_rfl) (by rfl) (by assumption) ?_
                    (try simp only [Act.put, List.setIfInBounds_toArray, List.set_cons_zero, List.set_cons_succ])
                    refine Reg.skip (i := 16) rfl (by kernel_rfl) (by kernel_rfl) (by kernel_rfl) (by rfl) (by assumption) ?_
                    (try simp only [Act.put, List.setIfInBounds_toArray, List.set_cons_zero, List.set_cons_succ])
                    refine Reg.skip (i := 17) rfl (by kernel_rfl) (by kernel_rfl) (by kernel_rfl) (by rfl) (by assumption) ?_
                    (try simp only [Act.put, List.setIfInBounds_toArray, List.set_cons_zero, List.set_cons_succ])
                    refine Reg.take (i := 18) (v := ?v135) rfl (by kernel_rfl) (by kernel_rfl) (by kernel_rfl) (by rfl) ?hv135 (by assumption) ?rest135
                    case hv135 => first | (intro w hSw; (try dsimp only at hSw); go_simp; done) | (intro w hSw; (try dsimp only at hSw); go_simp; with_reducible rfl)
                    (try simp only [Act.put, List.setIfInBounds_toArray, List.set_cons_zero, List.set_cons_succ])
                    refine Reg.take (i := 19) (v := ?v136) rfl (by kernel_rfl) (by kernel_rfl) (by kernel_rfl) (by rfl) ?hv136 (by assumption) ?rest136
                    case hv136 => first | (intro w hSw; (try dsimp only at hSw); go_simp; done) | (intro w hSw; (try dsimp only at hSw); go_simp; with_reducible rfl)
                    (try simp only [Act.put, List.setIfInBounds_toArray, List.set_cons_zero, List.set_cons_succ])
                    refine Reg.done (by kernel_rfl) ?_ _
                    clear hHeld HC hon
                    go_wp2
                    go_roundw
                    case rel => exact ⟨2, by omega, by omega, by go_num, hI3⟩
                    case measure => simp [intOf]
                  · rw [show ((2 : Nat) : Int) = 2 from rfl]
                    go_wp2
                    have hq : (!(false == false)) = false := by simp
                    have hI2 : Ti Rhy w b S l base o (some x) M s2 s2.on g m B3 cs wr.drew := hI.grow K (below_drewN (Below.refl _ wr) 1)
                    have HC := Lib.hid (show ∀ W, Ti Rhy w b S l base o (some x) M s2 s2.on g m B3 cs W → W.cell? ⟨o, 2, none⟩ = some (.bool (false)) ∧ W.cell? ⟨o, 1, none⟩ = some (.bool true) from fun W hW => ⟨by have h7 : W.cell? ⟨o, 2, none⟩ = some (.bool (s2.on.get 2)) := hW.tn.box.cell 2; rw [h7]; rw [show s2.on.get 2 = false from h2], by have h7 : W.cell? ⟨o, 1, none⟩ = some (.bool s2.on.o1) := hW.tn.box.cell 1; rw [h7]; rw [show s2.on.o1 = true from ho1]⟩)
                    have hon := fun W hW => K.on_any W b S l s2 2 hW
                    rw [show s2.on.get 2 = false from h2] at hon
                    clear hI
                    refine Reg.begin_ (S := fun W => W.cell? ⟨o, 2, none⟩ = some (.bool (false)) ∧ W.cell? ⟨o, 1, none⟩ = some (.bool true)) (by kernel_rfl) (by exact HC.out _ hI2) (fun hHeld => ?_)
                    generalize wr.drew = W5 at *
                    refine Reg.take (i := 0) (v := ?v137) rfl (by kernel_rfl) (by kernel_rfl) (by kernel_rfl) (by rfl) ?hv137 (by assumption) ?rest137
                    case hv137 => first | (intro w hSw; (try dsimp only at hSw); go_simp; done) | (intro w hSw; (try dsimp only at hSw); go_simp; with_reducible rfl)
                    (try simp only [Act.put, List.setIfInBounds_toArray, List.set_cons_zero, List.set_cons_succ])
                    refine Reg.take (i := 1) (v := ?v138) rfl (by kernel_rfl) (by kernel_rfl) (by kernel_rfl) (by rfl) ?hv138 (by assumption) ?rest138
                    case hv138 => first | (intro w hSw; (try dsimp only at hSw); go_simp; done) | (intro w hSw; (try dsimp only at hSw); go_simp; with_reducible rfl)
                    (try simp only [Act.put, List.setIfInBounds_toArray, List.set_cons_zero, List.set_cons_succ])
                    refine Reg.take (i := 3) (v := ?v139) rfl (by kernel_rfl) (by kernel_rfl) (by kernel_rfl) (by rfl) ?hv139 (by assumption) ?rest139
                    case hv139 => first | (intro w hSw; (try dsimp only at hSw); go_simp; done) | (intro w hSw; (try dsimp only at hSw); go_simp; with_reducible rfl)
                    (try simp only [Act.put, List.setIfInBounds_toArray, List.set_cons_zero, List.set_cons_succ])
                    refine Reg.take (i := 4) (v := ?v140) rfl (by kernel_rfl) (by kernel_rfl) (by kernel_rfl) (by rfl) ?hv140 (by assumption) ?rest140
                    case hv140 => first | (intro w hSw; (try dsimp only at hSw); go_simp; done) | (intro w hSw; (try dsimp only at hSw); go_simp; with_reducible rfl)
                    (try simp only [Act.put, List.setIfInBounds_toArray, List.set_cons_zero, List.set_cons_succ])
                    refine Reg.take (i := 5) (v := ?v141) rfl (by kernel_rfl) (by kernel_rfl) (by kernel_rfl) (by rfl) ?hv141 (by assumption) ?rest141
                    case hv141 => first | (intro w hSw; (try dsimp only at hSw); go_simp; done) | (intro w hSw; (try dsimp only at hSw); go_simp; with_reducible rfl)
                    (try simp only [Act.put, List.setIfInBounds_toArray, List.set_cons_zero, List.set_cons_succ])
                    refine Reg.call (i := 2) rfl (by kernel_rfl) (by rfl) ?_
                    intro K1 hK1
                    go_simp
                    go_at_call 17
                    (refine Calls.mono (by exact hon W5 hI2.tn.mr.rhy) ?_)
                    rintro e W6 ⟨rfl, hB6⟩
                    have hI3 := hI2.grow K hB6
                    clear hHeld hI2
                    refine hK1.out _ _ (by exact (HC.out _ hI3)) (fun hHeld => ?_)
                    clear hK1 K1
                    (try simp only [Act.put, List.setIfInBounds_toArray, List.set_cons_zero, List.set_cons_succ])
                    refine Reg.take (i := 6) (v := ?v142) rfl (by kernel_rfl) (by kernel_rfl) (by kernel_rfl) (by rfl) ?hv142 (by assumption) ?rest142
                    case hv142 => first | (intro w hSw; (try dsimp only at hSw); go_simp; done) | (intro w hSw; (try dsimp only at hSw); go_simp; with_reducible rfl)
                    (try simp only [Act.put, List.setIfInBounds_toArray, List.set_cons_zero, List.set_cons_succ])
                    refine Reg.take (i := 7) (v := ?v143) rfl (by kernel_rfl) (by kernel_rfl) (by kernel_rfl) (by rfl) ?hv143 (by assumption) ?rest143
                    case hv143 => first | (intro w hSw; (try dsimp only at hSw); go_simp; done) | (intro w hSw; (try dsimp only at hSw); go_simp; with_reducible rfl)
                    (try simp only [Act.put, List.setIfInBounds_toArray, List.set_cons_zero, List.set_cons_succ])
                    refine Reg.take (i := 8) (v := ?v144) rfl (by kernel_rfl) (by kernel_rfl) (by kernel_rfl) (by rfl) ?hv144 (by assumption) ?rest144
                    case hv144 => first | (intro w hSw; (try dsimp only at hSw); go_simp; done) | (intro w hSw; (try dsimp only at hSw); go_simp; with_reducible rfl)
                    (try simp only [Act.put, List.setIfInBounds_toArray, List.set_cons_zero, List.set_cons_succ])
                    refine Reg.take (i := 9) (v := ?v145) rfl (by kernel_rfl) (by kernel_rfl) (by kernel_rfl) (by rfl) ?hv145 (by assumption) ?rest145
                    case hv145 => first | (intro w hSw; (try dsimp only at hSw); go_simp; done) | (intro w hSw; (try dsimp only at hSw); go_simp; with_reducible rfl)
                    (try simp only [Act.put, List.setIfInBounds_toArray, List.set_cons_zero, List.set_cons_succ])
                    refine Reg.take (i := 10) (v := ?v146) rfl (by kernel_rfl) (by kernel_rfl) (by kernel_rfl) (by rfl) ?hv146 (by assumption) ?rest146
                    case hv146 => first | (intro w hSw; (try dsimp only at hSw); go_simp; done) | (intro w hSw; (try dsimp only at hSw); go_simp; with_reducible rfl)
                    (try simp only [Act.put, List.setIfInBounds_toArray, List.set_cons_zero, List.set_cons_succ])
                    refine Reg.take (i := 11) (v := ?v147) rfl (by kernel_rfl) (by kernel_rfl) (by kernel_rfl) (by rfl) ?hv147 (by assumption) ?rest147
                    case hv147 => first | (intro w hSw; (try dsimp only at hSw); go_simp; done) | (intro w hSw; (try dsimp only at hSw); go_simp; with_reducible rfl)
                    (try simp only [Act.put, List.setIfInBounds_toArray, List.set_cons_zero, List.set_cons_succ])
                    refine Reg.take (i := 12) (v := ?v148) rfl (by kernel_rfl) (by kernel_rfl) (by kernel_rfl) (by rfl) ?hv148 (by assumption) ?rest148
                    case hv148 => first | (intro w hSw; (try dsimp only at hSw); go_simp; done) | (intro w hSw; (try dsimp only at hSw); go_simp; with_reducible rfl)
                    (try simp only [Act.put, List.setIfInBounds_toArray, List.set_cons_zero, List.set_cons_succ])
                    refine Reg.take (i := 13) (v := ?v149) rfl (by kernel_rfl) (by kernel_rfl) (by kernel_rfl) (by rfl) ?hv149 (by assumption) ?rest149
                    case hv149 => first | (intro w hSw; (try dsimp only at hSw); go_simp; done) | (intro w hSw; (try dsimp only at hSw); go_simp; with_reducible rfl)
                    (try simp only [Act.put, List.setIfInBounds_toArray, List.set_cons_zero, List.set_cons_succ])
                    refine Reg.take (i := 14) (v := ?v150) rfl (by kernel_rfl) (by kernel_rfl) (by kernel_rfl) (by rfl) ?hv150 (by assumption) ?rest150
                    case hv150 => first | (intro w hSw; (try dsimp only at hSw); go_simp; done) | (intro w hSw; (try dsimp only at hSw); go_simp; with_reducible rfl)
                    (try simp only [Act.put, List.setIfInBounds_toArray, List.set_cons_zero, List.set_cons_succ])
                    refine Reg.take (i := 15) (v := ?v151) rfl (by kernel_rfl) (by kernel_rfl) (by kernel_rfl) (by rfl) ?hv151 (by assumption) ?rest151
                    case hv151 => first | (intro w hSw; (try dsimp only at hSw); go_simp; done) | (intro w hSw; (try dsimp only at hSw); go_simp; with_reducible rfl)
                    (try simp only [Act.put, List.setIfInBounds_toArray, List.set_cons_zero, List.set_cons_succ])
                    refine Reg.take (i := 16) (v := ?v152) rfl (by kernel_rfl) (by kernel_rfl) (by kernel_rfl) (by rfl) ?hv152 (by assumption) ?rest152
                    case hv152 => first | (intro w hSw; (try dsimp only at hSw); go_simp; done) | (intro w hSw; (try dsimp only at hSw); go_simp; with_reducible rfl)
                    (try simp only [Act.put, List.setIfInBounds_toArray, List.set_cons_zero, List.set_cons_succ])
                    refine Reg.take (i := 17) (v := ?v153) rfl (by kernel_rfl) (by kernel_rfl) (by kernel_rfl) (by rfl) ?hv153 (by assumption) ?rest153
                    case hv153 => first | (intro w hSw; (try dsimp only at hSw); go_simp; done) | (intro w hSw; (try dsimp only at hSw); go_simp; with_reducible rfl)
                    (try simp only [Act.put, List.setIfInBounds_toArray, List.set_cons_zero, List.set_cons_succ])
                    refine Reg.take (i := 18) (v := ?v154) rfl (by kernel_rfl) (by kernel_rfl) (by kernel_rfl) (by rfl) ?hv154 (by assumption) ?rest154
                    case hv154 => first | (intro w hSw; (try dsimp only at hSw); go_simp; done) | (intro w hSw; (try dsimp only at hSw); go_simp; with_reducible rfl)
                    (try simp only [Act.put, List.setIfInBounds_toArray, List.set_cons_zero, List.set_cons_succ])
                    refine Reg.take (i := 19) (v := ?v155) rfl (by kernel_rfl) (by kernel_rfl) (by kernel_rfl) (by rfl) ?hv155 (by assumption) ?rest155
                    case hv155 => first | (intro w hSw; (try dsimp only at hSw); go_simp; done) | (intro w hSw; (try dsimp only at hSw); go_simp; with_reducible rfl)
                    (try simp only [Act.put, List.setIfInBounds_toArray, List.set_cons_zero, List.set_cons_succ])
                    refine Reg.done (by kernel_rfl) ?_ _
                    clear hHeld HC hon
                    go_wp2
                    go_roundw
                    case rel => exact ⟨3, by omega, by omega, by go_num, hI3⟩
                    case measure => simp [intOf]
                  · rw [show ((3 : Nat) : Int) = 3 from rfl]
                    go_wp2
                    have hq : (!(false == false)) = false := by simp
                    have hI2 : Ti Rhy w b S l base o (some x) M s2 s2.on g m B3 cs wr.drew := hI.grow K (below_drewN (Below.refl _ wr) 1)
                    have HC := Lib.hid (show ∀ W, Ti Rhy w b S l base o (some x) M s2 s2.on g m B3 cs W → W.cell? ⟨o, 3, none⟩ = some (.bool (false)) ∧ W.cell? ⟨o, 1, none⟩ = some (.bool true) from fun W hW => ⟨by have h7 : W.cell? ⟨o, 3, none⟩ = some (.bool (s2.on.get 3)) := hW.tn.box.cell 3; rw [h7]; rw [show s2.on.get 3 = false from h3], by have h7 : W.cell? ⟨o, 1, none⟩ = some (.bool s2.on.o1) := hW.tn.box.cell 1; rw [h7]; rw [show s2.on.o1 = true from ho1]⟩)
                    have hon := fun W hW => K.on_any W b S l s2 3 hW
                    rw [show s2.on.get 3 = false from h3] at hon
                    clear hI
                    refine Reg.begin_ (S := fun W => W.cell? ⟨o, 3, none⟩ = some (.bool (false)) ∧ W.cell? ⟨o, 1, none⟩ = some (.bool true)) (by kernel_rfl) (by exact HC.out _ hI2) (fun hHeld => ?_)
                    generalize wr.drew = W5 at *
                    refine Reg.take (i := 0) (v := ?v156) rfl (by kernel_rfl) (by kernel_rfl) (by kernel_rfl) (by rfl) ?hv156 (by assumption) ?rest156
                    case hv156 => first | (intro w hSw; (try dsimp only at hSw); go_simp; done) | (intro w hSw; (try dsimp only at hSw); go_simp; with_reducible rfl)
                    (try simp only [Act.put, List.setIfInBounds_toArray, List.set_cons_zero, List.set_cons_succ])
                    refine Reg.take (i := 1) (v := ?v157) rfl (by kernel_rfl) (by kernel_rfl) (by kernel_rfl) (by rfl) ?hv157 (by assumption) ?rest157
                    case hv157 => first | (intro w hSw; (try dsimp only at hSw); go_simp; done) | (intro w hSw; (try dsimp only at hSw); go_simp; with_reducible rfl)
                    (try simp only [Act.put, List.setIfInBounds_toArray, List.set_cons_zero, List.set_cons_succ])
                    refine Reg.take (i := 3) (v := ?v158) rfl (by kernel_rfl) (by kernel_rfl) (by kernel_rfl) (by rfl) ?hv158 (by assumption) ?rest158
                    case hv158 => first | (intro w hSw; (try dsimp only at hSw); go_simp; done) | (intro w hSw; (try dsimp only at hSw); go_simp; with_reducible rfl)
                    (try simp only [Act.put, List.setIfInBounds_toArray, List.set_cons_zero, List.set_cons_succ])
                    refine Reg.take (i := 4) (v := ?v159) rfl (by kernel_rfl) (by kernel_rfl) (by kernel_rfl) (by rfl) ?hv159 (by assumption) ?rest159
                    case hv159 => first | (intro w hSw; (try dsimp only at hSw); go_simp; done) | (intro w hSw; (try dsimp only at hSw); go_simp; with_reducible rfl)
                    (try simp only [Act.put, List.setIfInBounds_toArray, List.set_cons_zero, List.set_cons_succ])
                    refine Reg.take (i := 5) (v := ?v160) rfl (by kernel_rfl) (by kernel_rfl) (by kernel_rfl) (by rfl) ?hv160 (by assumption) ?rest160
                    case hv160 => first | (intro w hSw; (try dsimp only at hSw); go_simp; done) | (intro w hSw; (try dsimp only at hSw); go_simp; with_reducible rfl)
                    (try simp only [Act.put, List.setIfInBounds_toArray, List.set_cons_zero, List.set_cons_succ])
                    refine Reg.call (i := 2) rfl (by kernel_rfl) (by rfl) ?_
                    intro K1 hK1
                    go_simp
                    go_at_call 17
                    (refine Calls.mono (by exact hon W5 hI2.tn.mr.rhy) ?_)
                    rintro e W6 ⟨rfl, hB6⟩
                    have hI3 := hI2.grow K hB6
                    clear hHeld hI2
                    refine hK1.out _ _ (by exact (HC.out _ hI3)) (fun hHeld => ?_)
                    clear hK1 K1
                    (try simp only [Act.put, List.setIfInBounds_toArray, List.set_cons_zero, List.set_cons_succ])
                    refine Reg.take (i := 6) (v := ?v161) rfl (by kernel_rfl) (by kernel_rfl) (by kernel_rfl) (by rfl) ?hv161 (by assumption) ?rest161
                    case hv161 => first | (intro w hSw; (try dsimp only at hSw); go_simp; done) | (intro w hSw; (try dsimp only at hSw); go_simp; with_reducible rfl)
                    (try simp only [Act.put, List.setIfInBounds_toArray, List.set_cons_zero, List.set_cons_succ])
                    refine Reg.take (i := 7) (v := ?v162) rfl (by kernel_rfl) (by kernel_rfl) (by kernel_rfl) (by rfl) ?hv162 (by assumption) ?rest162
                    case hv162 => first | (intro w hSw; (try dsimp only at hSw); go_simp; done) | (intro w hSw; (try dsimp only at hSw); go_simp; with_reducible rfl)
                    (try simp only [Act.put, List.setIfInBounds_toArray, List.set_cons_zero, List.set_cons_succ])
                    refine Reg.take (i := 8) (v := ?v163) rfl (by kernel_rfl) (by kernel_rfl) (by kernel_rfl) (by rfl) ?hv163 (by assumption) ?rest163
                    case hv163 => first | (intro w hSw; (try dsimp only at hSw); go_simp; done) | (intro w hSw; (try dsimp only at hSw); go_simp; with_reducible rfl)
                    (try simp only [Act.put, List.setIfInBounds_toArray, List.set_cons_zero, List.set_cons_succ])
                    refine Reg.take (i := 9) (v := ?v164) rfl (by kernel_rfl) (by kernel_rfl) (by kernel_rfl) (by rfl) ?hv164 (by assumption) ?rest164
                    case hv164 => first | (intro w hSw; (try dsimp only at hSw); go_simp; done) | (intro w hSw; (try dsimp only at hSw); go_simp; with_reducible rfl)
                    (try simp only [Act.put, List.setIfInBounds_toArray, List.set_cons_zero, List.set_cons_succ])
                    refine Reg.take (i := 10) (v := ?v165) rfl (by kernel_rfl) (by kernel_rfl) (by kernel_rfl) (by rfl) ?hv165 (by assumption) ?rest165
                    case hv165 => first | (intro w hSw; (try dsimp only at hSw); go_simp; done) | (intro w hSw; (try dsimp only at hSw); go_simp; with_reducible rfl)
                    (try simp only [Act.put, List.setIfInBounds_toArray, List.set_cons_zero, List.set_cons_succ])
                    refine Reg.take (i := 11) (v := ?v166) rfl (by kernel_rfl) (by kernel_rfl) (by kernel_rfl) (by rfl) ?hv166 (by assumption) ?rest166
                    case hv166 => first | (intro w hSw; (try dsimp only at hSw); go_simp; done) | (intro w hSw; (try dsimp only at hSw); go_simp; with_reducible rfl)
                    (try simp only [Act.put, List.setIfInBounds_toArray, List.set_cons_zero, List.set_cons_succ])
                    refine Reg.take (i := 12) (v := ?v167) rfl (by kernel_rfl) (by kernel_rfl) (by kernel_rfl) (by rfl) ?hv167 (by assumption) ?rest167
                    case hv167 => first | (intro w hSw; (try dsimp only at hSw); go_simp; done) | (intro w hSw; (try dsimp only at hSw); go_simp; with_reducible rfl)
                    (try simp only [Act.put, List.setIfInBounds_toArray, List.set_cons_zero, List.set_cons_succ])
                    refine Reg.take (i := 13) (v := ?v168) rfl (by kernel_rfl) (by kernel_rfl) (by kernel_rfl) (by rfl) ?hv168 (by assumption) ?rest168
                    case hv168 => first | (intro w hSw; (try dsimp only at hSw); go_simp; done) | (intro w hSw; (try dsimp only at hSw); go_simp; with_reducible rfl)
                    (try simp only [Act.put, List.setIfInBounds_toArray, List.set_cons_zero, List.set_cons_succ])
                    refine Reg.take (i := 14) (v := ?v169) rfl (by kernel_rfl) (by kernel_rfl) (by kernel_rfl) (by rfl) ?hv169 (by assumption) ?rest169
                    case hv169 => first | (intro w hSw; (try dsimp only at hSw); go_simp; done) | (intro w hSw; (try dsimp only at hSw); go_simp; with_reducible rfl)
                    (try simp only [Act.put, List.setIfInBounds_toArray, List.set_cons_zero, List.set_cons_succ])
                    refine Reg.take (i := 15) (v := ?v170) rfl (by kernel_rfl) (by kernel_rfl) (by kernel_rfl) (by rfl) ?hv170 (by assumption) ?rest170
                    case hv170 => first | (intro w hSw; (try dsimp only at hSw); go_simp; done) | (intro w hSw; (try dsimp only at hSw); go_simp; with_reducible rfl)
                    (try simp only [Act.put, List.setIfInBounds_toArray, List.set_cons_zero, List.set_cons_succ])
                    refine Reg.take (i := 16) (v := ?v171) rfl (by kernel_rfl) (by kernel_rfl) (by kernel_rfl) (by rfl) ?hv171 (by assumption) ?rest171
                    case hv171 => first | (intro w hSw; (try dsimp only at hSw); go_simp; done) | (intro w hSw; (try dsimp only at hSw); go_simp; with_reducible rfl)
                    (try simp only [Act.put, List.setIfInBounds_toArray, List.set_cons_zero, List.set_cons_succ])
                    refine Reg.take (i := 17) (v := ?v172) rfl (by kernel_rfl) (by kernel_rfl) (by kernel_rfl) (by rfl) ?hv172 (by assumption) ?rest172
                    case hv172 => first | (intro w hSw; (try dsimp only at hSw); go_simp; done) | (intro w hSw; (try dsimp only at hSw); go_simp; with_reducible rfl)
                    (try simp only [Act.put, List.setIfInBounds_toArray, List.set_cons_zero, List.set_cons_succ])
                    refine Reg.take (i := 18) (v := ?v173) rfl (by kernel_rfl) (by kernel_rfl) (by kernel_rfl) (by rfl) ?hv173 (by assumption) ?rest173
                    case hv173 => first | (intro w hSw; (try dsimp only at hSw); go_simp; done) | (intro w hSw; (try dsimp only at hSw); go_simp; with_reducible rfl)
                    (try simp only [Act.put, List.setIfInBounds_toArray, List.set_cons_zero, List.set_cons_succ])
                    refine Reg.take (i := 19) (v := ?v174) rfl (by kernel_rfl) (by kernel_rfl) (by kernel_rfl) (by rfl) ?hv174 (by assumption) ?rest174
                    case hv174 => first | (intro w hSw; (try dsimp only at hSw); go_simp; done) | (intro w hSw; (try dsimp only at hSw); go_simp; with_reducible rfl)
                    (try simp only [Act.put, List.setIfInBounds_toArray, List.set_cons_zero, List.set_cons_succ])
                    refine Reg.done (by kernel_rfl) ?_ _
                    clear hHeld HC hon
                    go_wp2
                    go_roundw
                    case rel => exact ⟨4, by omega, by omega, by go_num, hI3⟩
                    case measure => simp [intOf]
                  · rw [show ((4 : Nat) : Int) = 4 from rfl]
                    go_wp2
                    have hq : (!(false == false)) = false := by simp
                    have hI2 : Ti Rhy w b S l base o (some x) M s2 s2.on g m B3 cs wr.drew := hI.grow K (below_drewN (Below.refl _ wr) 1)
                    have HC := Lib.hid (show ∀ W, Ti Rhy w b S l base o (some x) M s2 s2.on g m B3 cs W → W.cell? ⟨o, 4, none⟩ = some (.bool (false)) ∧ W.cell? ⟨o, 1, none⟩ = some (.bool true) from fun W hW => ⟨by have h7 : W.cell? ⟨o, 4, none⟩ = some (.bool (s2.on.get 4)) := hW.tn.box.cell 4; rw [h7]; rw [show s2.on.get 4 = false from h4], by have h7 : W.cell? ⟨o, 1, none⟩ = some (.bool s2.on.o1) := hW.tn.box.cell 1; rw [h7]; rw [show s2.on.o1 = true from ho1]⟩)
                    have hon := fun W hW => K.on_any W b S l s2 4 hW
                    rw [show s2.on.get 4 = false from h4] at hon
                    clear hI
                    refine Reg.begin_ (S := fun W => W.cell? ⟨o, 4, none⟩ = some (.bool (false)) ∧ W.cell? ⟨o, 1, none⟩ = some (.bool true)) (by kernel_rfl) (by exact HC.out _ hI2) (fun hHeld => ?_)
                    generalize wr.drew = W5 at *
                    refine Reg.take (i := 0) (v := ?v175) rfl (by kernel_rfl) (by kernel_rfl) (by kernel_rfl) (by rfl) ?hv175 (by assumption) ?rest175
                    case hv175 => first | (intro w hSw; (try dsimp only at hSw); go_simp; done) | (intro w hSw; (try dsimp only at hSw); go_simp; with_reducible rfl)
                    (try simp only [Act.put, List.setIfInBounds_toArray, List.set_cons_zero, List.set_cons_succ])
                    refine Reg.take (i := 1) (v := ?v176) rfl (by kernel_rfl) (by kernel_rfl) (by kernel_rfl) (by rfl) ?hv176 (by assumption) ?rest176
                    case hv176 => first | (intro w hSw; (try dsimp only at hSw); go_simp; done) | (intro w hSw; (try dsimp only at hSw); go_simp; with_reducible rfl)
                    (try simp only [Act.put, List.setIfInBounds_toArray, List.set_cons_zero, List.set_cons_succ])
                    refine Reg.take (i := 3) (v := ?v177) rfl (by kernel_rfl) (by kernel_rfl) (by kernel_rfl) (by rfl) ?hv177 (by assumption) ?rest177
                    case hv177 => first | (intro w hSw; (try dsimp only at hSw); go_simp; done) | (intro w hSw; (try dsimp only at hSw); go_simp; with_reducible rfl)
                    (try simp only [Act.put, List.setIfInBounds_toArray, List.set_cons_zero, List.set_cons_succ])
                    refine Reg.take (i := 4) (v := ?v178) rfl (by kernel_rfl) (by kernel_rfl) (by kernel_rfl) (by rfl) ?hv178 (by assumption) ?rest178
                    case hv178 => first | (intro w hSw; (try dsimp only at hSw); go_simp; done) | (intro w hSw; (try dsimp only at hSw); go_simp; with_reducible rfl)
                    (try simp only [Act.put, List.setIfInBounds_toArray, List.set_cons_zero, List.set_cons_succ])
                    refine Reg.take (i := 5) (v := ?v179) rfl (by kernel_rfl) (by kernel_rfl) (by kernel_rfl) (by rfl) ?hv179 (by assumption) ?rest179
                    case hv179 => first | (intro w hSw; (try dsimp only at hSw); go_simp; done) | (intro w hSw; (try dsimp only at hSw); go_simp; with_reducible rfl)
                    (try simp only [Act.put, List.setIfInBounds_toArray, List.set_cons_zero, List.set_cons_succ])
                    refine Reg.call (i := 2) rfl (by kernel_rfl) (by rfl) ?_
                    intro K1 hK1
                    go_simp
                    go_at_call 17
                    (refine Calls.mono (by exact hon W5 hI2.tn.mr.rhy) ?_)
                    rintro e W6 ⟨rfl, hB6⟩
                    have hI3 := hI2.grow K hB6
                    clear hHeld hI2
                    refine hK1.out _ _ (by exact (HC.out _ hI3)) (fun hHeld => ?_)
                    clear hK1 K1
                    (try simp only [Act.put, List.setIfInBounds_toArray, List.set_cons_zero, List.set_cons_succ])
                    refine Reg.take (i := 6) (v := ?v180) rfl (by kernel_rfl) (by kernel_rfl) (by kernel_rfl) (by rfl) ?hv180 (by assumption) ?rest180
                    case hv180 => first | (intro w hSw; (try dsimp only at hSw); go_simp; done) | (intro w hSw; (try dsimp only at hSw); go_simp; with_reducible rfl)
                    (try simp only [Act.put, List.setIfInBounds_toArray, List.set_cons_zero, List.set_cons_succ])
                    refine Reg.take (i := 7) (v := ?v181) rfl (by kernel_rfl) (by kernel_rfl) (by kernel_rfl) (by rfl) ?hv181 (by assumption) ?rest181
                    case hv181 => first | (intro w hSw; (try dsimp only at hSw); go_simp; done) | (intro w hSw; (try dsimp only at hSw); go_simp; with_reducible rfl)
                    (try simp only [Act.put, List.setIfInBounds_toArray, List.set_cons_zero, List.set_cons_succ])
                    refine Reg.take (i := 8) (v := ?v182) rfl (by kernel_rfl) (by kernel_rfl) (by kernel_rfl) (by rfl) ?hv182 (by assumption) ?rest182
                    case hv182 => first | (intro w hSw; (try dsimp only at hSw); go_simp; done) | (intro w hSw; (try dsimp only at hSw); go_simp; with_reducible rfl)
                    (try simp only [Act.put, List.setIfInBounds_toArray, List.set_cons_zero, List.set_cons_succ])
                    refine Reg.take (i := 9) (v := ?v183) rfl (by kernel_rfl) (by kernel_rfl) (by kernel_rfl) (by rfl) ?hv183 (by assumption) ?rest183
                    case hv183 => first | (intro w hSw; (try dsimp only at hSw); go_simp; done) | (intro w hSw; (try dsimp only at hSw); go_simp; with_reducible rfl)
                    (try simp only [Act.put, List.setIfInBounds_toArray, List.set_cons_zero, List.set_cons_succ])
                    refine Reg.take (i := 10) (v := ?v184) rfl (by kernel_rfl) (by kernel_rfl) (by kernel_rfl) (by rfl) ?hv184 (by assumption) ?rest184
                    case hv184 => first | (intro w hSw; (try dsimp only at hSw); go_simp; done) | (intro w hSw; (try dsimp only at hSw); go_simp; with_reducible rfl)
                    (try simp only [Act.put, List.setIfInBounds_toArray, List.set_cons_zero, List.set_cons_succ])
                    refine Reg.take (i := 11) (v := ?v185) rfl (by kernel_rfl) (by kernel_rfl) (by kernel_rfl) (by rfl) ?hv185 (by assumption) ?rest185
                    case hv185 => first | (intro w hSw; (try dsimp only at hSw); go_simp; done) | (intro w hSw; (try dsimp only at hSw); go_simp; with_reducible rfl)
                    (try simp only [Act.put, List.setIfInBounds_toArray, List.set_cons_zero, List.set_cons_succ])
                    refine Reg.take (i := 12) (v := ?v186) rfl (by kernel_rfl) (by kernel_rfl) (by kernel_rfl) (by rfl) ?hv186 (by assumption) ?rest186
                    case hv186 => first | (intro w hSw; (try dsimp only at hSw); go_simp; done) | (intro w hSw; (try dsimp only at hSw); go_simp; with_reducible rfl)
                    (try simp only [Act.put, List.setIfInBounds_toArray, List.set_cons_zero, List.set_cons_succ])
                    refine Reg.take (i := 13) (v := ?v187) rfl (by kernel_rfl) (by kernel_rfl) (by kernel_rfl) (by rfl) ?hv187 (by assumption) ?rest187
                    case hv187 => first | (intro w hSw; (try dsimp only at hSw); go_simp; done) | (intro w hSw; (try dsimp only at hSw); go_simp; with_reducible rfl)
                    (try simp only [Act.put, List.setIfInBounds_toArray, List.set_cons_zero, List.set_cons_succ])
                    refine Reg.take (i := 14) (v := ?v188) rfl (by kernel_rfl) (by kernel_rfl) (by kernel_rfl) (by rfl) ?hv188 (by assumption) ?rest188
                    case hv188 => first | (intro w hSw; (try dsimp only at hSw); go_simp; done) | (intro w hSw; (try dsimp only at hSw); go_simp; with_reducible rfl)
                    (try simp only [Act.put, List.setIfInBounds_toArray, List.set_cons_zero, List.set_cons_succ])
                    refine Reg.take (i := 15) (v := ?v189) rfl (by kernel_rfl) (by kernel_rfl) (by kernel_rfl) (by rfl) ?hv189 (by assumption) ?rest189
                    case hv189 => first | (intro w hSw; (try dsimp only at hSw); go_simp; done) | (intro w hSw; (try dsimp only at hSw); go_simp; with_reducible rfl)
                    (try simp only [Act.put, List.setIfInBounds_toArray, List.set_cons_zero, List.set_cons_succ])
                    refine Reg.take (i := 16) (v := ?v190) rfl (by kernel_rfl) (by kernel_rfl) (by kernel_rfl) (by rfl) ?hv190 (by assumption) ?rest190
                    case hv190 => first | (intro w hSw; (try dsimp only at hSw); go_simp; done) | (intro w hSw; (try dsimp only at hSw); go_simp; with_reducible rfl)
                    (try simp only [Act.put, List.setIfInBounds_toArray, List.set_cons_zero, List.set_cons_succ])
                    refine Reg.take (i := 17) (v := ?v191) rfl (by kernel_rfl) (by kernel_rfl) (by kernel_rfl) (by rfl) ?hv191 (by assumption) ?rest191
                    case hv191 => first | (intro w hSw; (try dsimp only at hSw); go_simp; done) | (intro w hSw; (try dsimp only at hSw); go_simp; with_reducible rfl)
                    (try simp only [Act.put, List.setIfInBounds_toArray, List.set_cons_zero, List.set_cons_succ])
                    refine Reg.take (i := 18) (v := ?v192) rfl (by kernel_rfl) (by kernel_rfl) (by kernel_rfl) (by rfl) ?hv192 (by assumption) ?rest192
                    case hv192 => first | (intro w hSw; (try dsimp only at hSw); go_simp; done) | (intro w hSw; (try dsimp only at hSw); go_simp; with_reducible rfl)
                    (try simp only [Act.put, List.setIfInBounds_toArray, List.set_cons_zero, List.set_cons_succ])
                    refine Reg.take (i := 19) (v := ?v193) rfl (by kernel_rfl) (by kernel_rfl) (by kernel_rfl) (by rfl) ?hv193 (by assumption) ?rest193
                    case hv193 => first | (intro w hSw; (try dsimp only at hSw); go_simp; done) | (intro w hSw; (try dsimp only at hSw); go_simp; with_reducible rfl)
                    (try simp only [Act.put, List.setIfInBounds_toArray, List.set_cons_zero, List.set_cons_succ])
                    refine Reg.done (by kernel_rfl) ?_ _
                    clear hHeld HC hon
                    go_wp2
                    go_roundw
                    case rel => exact ⟨5, by omega, by omega, by go_num, hI3⟩
                    case measure => simp [intOf]
                  · rw [show ((5 : Nat) : Int) = 5 from rfl]
                    go_wp2
                    have hq : (!(false == false)) = false := by simp
                    have hI2 : Ti Rhy w b S l base o (some x) M s2 s2.on g m B3 cs wr.drew := hI.grow K (below_drewN (Below.refl _ wr) 1)
                    have HC := Lib.hid (show ∀ W, Ti Rhy w b S l base o (some x) M s2 s2.on g m B3 cs W → W.cell? ⟨o, 5, none⟩ = some (.bool (false)) ∧ W.cell? ⟨o, 1, none⟩ = some (.bool true) from fun W hW => ⟨by have h7 : W.cell? ⟨o, 5, none⟩ = some (.bool (s2.on.get 5)) := hW.tn.box.cell 5; rw [h7]; rw [show s2.on.get 5 = false from h5], by have h7 : W.cell? ⟨o, 1, none⟩ = some (.bool s2.on.o1) := hW.tn.box.cell 1; rw [h7]; rw [show s2.on.o1 = true from ho1]⟩)
                    have hon := fun W hW => K.on_any W b S l s2 5 hW
                    rw [show s2.on.get 5 = false from h5] at hon
                    clear hI
                    refine Reg.begin_ (S := fun W => W.cell? ⟨o, 5, none⟩ = some (.bool (false)) ∧ W.cell? ⟨o, 1, none⟩ = some (.bool true)) (by kernel_rfl) (by exact HC.out _ hI2) (fun hHeld => ?_)
                    generalize wr.drew = W5 at *
                    refine Reg.take (i := 0) (v := ?v194) rfl (by kernel_rfl) (by kernel_rfl) (by kernel_rfl) (by rfl) ?hv194 (by assumption) ?rest194
                    case hv194 => first | (intro w hSw; (try dsimp only at hSw); go_simp; done) | (intro w hSw; (try dsimp only at hSw); go_simp; with_reducible rfl)
                    (try simp only [Act.put, List.setIfInBounds_toArray, List.set_cons_zero, List.set_cons_succ])
                    refine Reg.take (i := 1) (v := ?v195) rfl (by kernel_rfl) (by kernel_rfl) (by kernel_rfl) (by rfl) ?hv195 (by assumption) ?rest195
                    case hv195 => first | (intro w hSw; (try dsimp only at hSw); go_simp; done) | (intro w hSw; (try dsimp only at hSw); go_simp; with_reducible rfl)
                    (try simp only [Act.put, List.setIfInBounds_toArray, List.set_cons_zero, List.set_cons_succ])
                    refine Reg.take (i := 3) (v := ?v196) rfl (by kernel_rfl) (by kernel_rfl) (by kernel_rfl) (by rfl) ?hv196 (by assumption) ?rest196
                    case hv196 => first | (intro w hSw; (try dsimp only at hSw); go_simp; done) | (intro w hSw; (try dsimp only at hSw); go_simp; with_reducible rfl)
                    (try simp only [Act.put, List.setIfInBounds_toArray, List.set_cons_zero, List.set_cons_succ])
                    refine Reg.take (i := 4) (v := ?v197) rfl (by kernel_rfl) (by kernel_rfl) (by kernel_rfl) (by rfl) ?hv197 (by assumption) ?rest197
                    case hv197 => first | (intro w hSw; (try dsimp only at hSw); go_simp; done) | (intro w hSw; (try dsimp only at hSw); go_simp; with_reducible rfl)
                    (try simp only [Act.put, List.setIfInBounds_toArray, List.set_cons_zero, List.set_cons_succ])
                    refine Reg.take (i := 5) (v := ?v198) rfl (by kernel_rfl) (by kernel_rfl) (by kernel_rfl) (by rfl) ?hv198 (by assumption) ?rest198
                    case hv198 => first | (intro w hSw; (try dsimp only at hSw); go_simp; done) | (intro w hSw; (try dsimp only at hSw); go_simp; with_reducible rfl)
                    (try simp only [Act.put, List.setIfInBounds_toArray, List.set_cons_zero, List.set_cons_succ])
                    refine Reg.call (i := 2) rfl (by kernel_rfl) (by rfl) ?_
                    intro K1 hK1
                    go_simp
                    go_at_call 17
                    (refine Calls.mono (by exact hon W5 hI2.tn.mr.rhy) ?_)
                    rintro e W6 ⟨rfl, hB6⟩
                    have hI3 := hI2.grow K hB6
                    clear hHeld hI2
                    refine hK1.out _ _ (by exact (HC.out _ hI3)) (fun hHeld => ?_)
                    clear hK1 K1
                    (try simp only [Act.put, List.setIfInBounds_toArray, List.set_cons_zero, List.set_cons_succ])
                    refine Reg.take (i := 6) (v := ?v199) rfl (by kernel_rfl) (by kernel_rfl) (by kernel_rfl) (by rfl) ?hv199 (by assumption) ?rest199
                    case hv199 => first | (intro w hSw; (try dsimp only at hSw); go_simp; done) | (intro w hSw; (try dsimp only at hSw); go_simp; with_reducible rfl)
                    (try simp only [Act.put, List.setIfInBounds_toArray, List.set_cons_zero, List.set_cons_succ])
                    refine Reg.take (i := 7) (v := ?v200) rfl (by kernel_rfl) (by kernel_rfl) (by kernel_rfl) (by rfl) ?hv200 (by assumption) ?rest200
                    case hv200 => first | (intro w hSw; (try dsimp only at hSw); go_simp; done) | (intro w hSw; (try dsimp only at hSw); go_simp; with_reducible rfl)
                    (try simp only [Act.put, List.setIfInBounds_toArray, List.set_cons_zero, List.set_cons_succ])
                    refine Reg.take (i := 8) (v := ?v201) rfl (by kernel_rfl) (by kernel_rfl) (by kernel_rfl) (by rfl) ?hv201 (by assumption) ?rest201
                    case hv201 => first | (intro w hSw; (try dsimp only at hSw); go_simp; done) | (intro w hSw; (try dsimp only at hSw); go_simp; with_reducible rfl)
                    (try simp only [Act.put, List.setIfInBounds_toArray, List.set_cons_zero, List.set_cons_succ])
                    refine Reg.take (i := 9) (v := ?v202) rfl (by kernel_rfl) (by kernel_rfl) (by kernel_rfl) (by rfl) ?hv202 (by assumption) ?rest202
                    case hv202 => first | (intro w hSw; (try dsimp only at hSw); go_simp; done) | (intro w hSw; (try dsimp only at hSw); go_simp; with_reducible rfl)
                    (try simp only [Act.put, List.setIfInBounds_toArray, List.set_cons_zero, List.set_cons_succ])
                    refine Reg.take (i := 10) (v := ?v203) rfl (by kernel_rfl) (by kernel_rfl) (by kernel_rfl) (by rfl) ?hv203 (by assumption) ?rest203
                    case hv203 => first | (intro w hSw; (try dsimp only at hSw); go_simp; done) | (intro w hSw; (try dsimp only at hSw); go_simp; with_reducible rfl)
                    (try simp only [Act.put, List.setIfInBounds_toArray, List.set_cons_zero, List.set_cons_succ])
                    refine Reg.take (i := 11) (v := ?v204) rfl (by kernel_rfl) (by kernel_rfl) (by kernel_rfl) (by rfl) ?hv204 (by assumption) ?rest204
                    case hv204 => first | (intro w hSw; (try dsimp only at hSw); go_simp; done) | (intro w hSw; (try dsimp only at hSw); go_simp; with_reducible rfl)
                    (try simp only [Act.put, List.setIfInBounds_toArray, List.set_cons_zero, List.set_cons_succ])
                    refine Reg.take (i := 12) (v := ?v205) rfl (by kernel_rfl) (by kernel_rfl) (by kernel_rfl) (by rfl) ?hv205 (by assumption) ?rest205
                    case hv205 => first | (intro w hSw; (try dsimp only at hSw); go_simp; done) | (intro w hSw; (try dsimp only at hSw); go_simp; with_reducible rfl)
                    (try simp only [Act.put, List.setIfInBounds_toArray, List.set_cons_zero, List.set_cons_succ])
                    refine Reg.take (i := 13) (v := ?v206) rfl (by kernel_rfl) (by kernel_rfl) (by kernel_rfl) (by rfl) ?hv206 (by assumption) ?rest206
                    case hv206 => first | (intro w hSw; (try dsimp only at hSw); go_simp; done) | (intro w hSw; (try dsimp only at hSw); go_simp; with_reducible rfl)
                    (try simp only [Act.put, List.setIfInBounds_toArray, List.set_cons_zero, List.set_cons_succ])
                    refine Reg.take (i := 14) (v := ?v207) rfl (by kernel_rfl) (by kernel_rfl) (by kernel_rfl) (by rfl) ?hv207 (by assumption) ?rest207
                    case hv207 => first | (intro w hSw; (try dsimp only at hSw); go_simp; done) | (intro w hSw; (try dsimp only at hSw); go_simp; with_reducible rfl)
                    (try simp only [Act.put, List.setIfInBounds_toArray, List.set_cons_zero, List.set_cons_succ])
                    refine Reg.take (i := 15) (v := ?v208) rfl (by kernel_rfl) (by kernel_rfl) (by kernel_rfl) (by rfl) ?hv208 (by assumption) ?rest208
                    case hv208 => first | (intro w hSw; (try dsimp only at hSw); go_simp; done) | (intro w hSw; (try dsimp only at hSw); go_simp; with_reducible rfl)
                    (try simp only [Act.put, List.setIfInBounds_toArray, List.set_cons_zero, List.set_cons_succ])
                    refine Reg.take (i := 16) (v := ?v209) rfl (by kernel_rfl) (by kernel_rfl) (by kernel_rfl) (by rfl) ?hv209 (by assumption) ?rest209
                    case hv209 => first | (intro w hSw; (try dsimp only at hSw); go_simp; done) | (intro w hSw; (try dsimp only at hSw); go_simp; with_reducible rfl)
                    (try simp only [Act.put, List.setIfInBounds_toArray, List.set_cons_zero, List.set_cons_succ])
                    refine Reg.take (i := 17) (v := ?v210) rfl (by kernel_rfl) (by kernel_rfl) (by kernel_rfl) (by rfl) ?hv210 (by assumption) ?rest210
                    case hv210 => first | (intro w hSw; (try dsimp only at hSw); go_simp; done) | (intro w hSw; (try dsimp only at hSw); go_simp; with_reducible rfl)
                    (try simp only [Act.put, List.setIfInBounds_toArray, List.set_cons_zero, List.set_cons_succ])
                    refine Reg.take (i := 18) (v := ?v211) rfl (by kernel_rfl) (by kernel_rfl) (by kernel_rfl) (by rfl) ?hv211 (by assumption) ?rest211
                    case hv211 => first | (intro w hSw; (try dsimp only at hSw); go_simp; done) | (intro w hSw; (try dsimp only at hSw); go_simp; with_reducible rfl)
                    (try simp only [Act.put, List.setIfInBounds_toArray, List.set_cons_zero, List.set_cons_succ])
                    refine Reg.take (i := 19) (v := ?v212) rfl (by kernel_rfl) (by kernel_rfl) (by kernel_rfl) (by rfl) ?hv212 (by assumption) ?rest212
                    case hv212 => first | (intro w hSw; (try dsimp only at hSw); go_simp; done) | (intro w hSw; (try dsimp only at hSw); go_simp; with_reducible rfl)
                    (try simp only [Act.put, List.setIfInBounds_toArray, List.set_cons_zero, List.set_cons_succ])
                    refine Reg.done (by kernel_rfl) ?_ _
                    clear hHeld HC hon
                    go_wp2
                    go_roundw
                    case rel => exact ⟨6, by omega, by omega, by go_num, hI3⟩
                    case measure => simp [intOf]
                · rw [Bool.not_eq_true] at ho1
                  clear hFF
                  rcases hcs with rfl | rfl | rfl | rfl | rfl
                  · rw [show ((1 : Nat) : Int) = 1 from rfl]
                    go_wp2
                    have hq : (!(false == false)) = false := by simp
                    have hI2 : Ti Rhy w b S l base o (some x) M s2 s2.on g m B3 cs wr.drew := hI.grow K (below_drewN (Below.refl _ wr) 1)
                    have HC := Lib.hid (show ∀ W, Ti Rhy w b S l base o (some x) M s2 s2.on g m B3 cs W → W.cell? ⟨o, 1, none⟩ = some (.bool (false)) ∧ W.cell? ⟨o, 1, none⟩ = some (.bool false) from fun W hW => ⟨by have h7 : W.cell? ⟨o, 1, none⟩ = some (.bool (s2.on.get 1)) := hW.tn.box.cell 1; rw [h7]; rw [show s2.on.get 1 = false from ho1], by have h7 : W.cell? ⟨o, 1, none⟩ = some (.bool s2.on.o1) := hW.tn.box.cell 1; rw [h7]; rw [show s2.on.o1 = false from ho1]⟩)
                    have hon := fun W hW => K.on_any W b S l s2 1 hW
                    rw [show s2.on.get 1 = false from ho1] at hon
                    clear hI
                    refine Reg.begin_ (S := fun W => W.cell? ⟨o, 1, none⟩ = some (.bool (false)) ∧ W.cell? ⟨o, 1, none⟩ = some (.bool false)) (by kernel_rfl) (by exact HC.out _ hI2) (fun hHeld => ?_)
                    generalize wr.drew = W5 at *
                    refine Reg.take (i := 0) (v := ?v213) rfl (by kernel_rfl) (by kernel_rfl) (by kernel_rfl) (by rfl) ?hv213 (by assumption) ?rest213
                    case hv213 => first | (intro w hSw; (try dsimp only at hSw); go_simp; done) | (intro w hSw; (try dsimp only at hSw); go_simp; with_reducible rfl)
                    (try simp only [Act.put, List.setIfInBounds_toArray, List.set_cons_zero, List.set_cons_succ])
                    refine Reg.take (i := 1) (v := ?v214) rfl (by kernel_rfl) (by kernel_rfl) (by kernel_rfl) (by rfl) ?hv214 (by assumption) ?rest214
                    case hv214 => first | (intro w hSw; (try dsimp only at hSw); go_simp; done) | (intro w hSw; (try dsimp only at hSw); go_simp; with_reducible rfl)
                    (try simp only [Act.put, List.setIfInBounds_toArray, List.set_cons_zero, List.set_cons_succ])
                    refine Reg.take (i := 3) (v := ?v215) rfl (by kernel_rfl) (by kernel_rfl) (by kernel_rfl) (by rfl) ?hv215 (by assumption) ?rest215
                    case hv215 => first | (intro w hSw; (try dsimp only at hSw); go_simp; done) | (intro w hSw; (try dsimp only at hSw); go_simp; with_reducible rfl)
                    (try simp only [Act.put, List.setIfInBounds_toArray, List.set_cons_zero, List.set_cons_succ])
                    refine Reg.take (i := 4) (v := ?v216) rfl (by kernel_rfl) (by kernel_rfl) (by kernel_rfl) (by rfl) ?hv216 (by assumption) ?rest216
                    case hv216 => first | (intro w hSw; (try dsimp only at hSw); go_simp; done) | (intro w hSw; (try dsimp only at hSw); go_simp; with_reducible rfl)
                    (try simp only [Act.put, List.setIfInBounds_toArray, List.set_cons_zero, List.set_cons_succ])
                    refine Reg.take (i := 5) (v := ?v217) rfl (by kernel_rfl) (by kernel_rfl) (by kernel_rfl) (by rfl) ?hv217 (by assumption) ?rest217
                    case hv217 => first | (intro w hSw; (try dsimp only at hSw); go_simp; done) | (intro w hSw; (try dsimp only at hSw); go_simp; with_reducible rfl)
                    (try simp only [Act.put, List.setIfInBounds_toArray, List.set_cons_zero, List.set_cons_succ])
                    refine Reg.call (i := 2) rfl (by kernel_rfl) (by rfl) ?_
                    intro K1 hK1
                    go_simp
                    go_at_call 17
                    (refine Calls.mono (by exact hon W5 hI2.tn.mr.rhy) ?_)
                    rintro e W6 ⟨rfl, hB6⟩
                    have hI3 := hI2.grow K hB6
                    clear hHeld hI2
                    refine hK1.out _ _ (by exact (HC.out _ hI3)) (fun hHeld => ?_)
                    clear hK1 K1
                    (try simp only [Act.put, List.setIfInBounds_toArray, List.set_cons_zero, List.set_cons_succ])
                    refine Reg.take (i := 6) (v := ?v218) rfl (by kernel_rfl) (by kernel_rfl) (by kernel_rfl) (by rfl) ?hv218 (by assumption) ?rest218
                    case hv218 => first | (intro w hSw; (try dsimp only at hSw); go_simp; done) | (intro w hSw; (try dsimp only at hSw); go_simp; with_reducible rfl)
                    (try simp only [Act.put, List.setIfInBounds_toArray, List.set_cons_zero, List.set_cons_succ])
                    refine Reg.take (i := 7) (v := ?v219) rfl (by kernel_rfl) (by kernel_rfl) (by kernel_rfl) (by rfl) ?hv219 (by assumption) ?rest219
                    case hv219 => first | (intro w hSw; (try dsimp only at hSw); go_simp; done) | (intro w hSw; (try dsimp only at hSw); go_simp; with_reducible rfl)
                    (try simp only [Act.put, List.setIfInBounds_toArray, List.set_cons_zero, List.set_cons_succ])
                    refine Reg.take (i := 8) (v := ?v220) rfl (by kernel_rfl) (by kernel_rfl) (by kernel_rfl) (by rfl) ?hv220 (by assumption) ?rest220
                    case hv220 => first | (intro w hSw; (try dsimp only at hSw); go_simp; done) | (intro w hSw; (try dsimp only at hSw); go_simp; with_reducible rfl)
                    (try simp only [Act.put, List.setIfInBounds_toArray, List.set_cons_zero, List.set_cons_succ])
                    refine Reg.take (i := 9) (v := ?v221) rfl (by kernel_rfl) (by kernel_rfl) (by kernel_rfl) (by rfl) ?hv221 (by assumption) ?rest221
                    case hv221 => first | (intro w hSw; (try dsimp only at hSw); go_simp; done) | (intro w hSw; (try dsimp only at hSw); go_simp; with_reducible rfl)
                    (try simp only [Act.put, List.setIfInBounds_toArray, List.set_cons_zero, List.set_cons_succ])
                    refine Reg.take (i := 10) (v := ?v222) rfl (by kernel_rfl) (by kernel_rfl) (by kernel_rfl) (by rfl) ?hv222 (by assumption) ?rest222
                    case hv222 => first | (intro w hSw; (try dsimp only at hSw); go_simp; done) | (intro w hSw; (try dsimp only at hSw); go_simp; with_reducible rfl)
                    (try simp only [Act.put, List.setIfInBounds_toArray, List.set_cons_zero, List.set_cons_succ])
                    refine Reg.skip (i := 11) rfl (by kernel_rfl) (by kernel_rfl) (by kernel_rfl) (by rfl) (by assumption) ?_
                    (try simp only [Act.put, List.setIfInBounds_toArray, List.set_cons_zero, List.set_cons_succ])
                    refine Reg.skip (i := 12) rfl (by kernel_rfl) (by kernel_rfl) (by kernel_rfl) (by rfl) (by assumption) ?_
                    (try simp only [Act.put, List.setIfInBounds_toArray, List.set_cons_zero, List.set_cons_succ])
                    refine Reg.take (i := 13) (v := ?v223) rfl (by kernel_rfl) (by kernel_rfl) (by kernel_rfl) (by rfl) ?hv223 (by assumption) ?rest223
                    case hv223 => first | (intro w hSw; (try dsimp only at hSw); go_simp; done) | (intro w hSw; (try dsimp only at hSw); go_simp; with_reducible rfl)
                    (try simp only [Act.put, List.setIfInBounds_toArray, List.set_cons_zero, List.set_cons_succ])
                    refine Reg.take (i := 14) (v := ?v224) rfl (by kernel_rfl) (by kernel_rfl) (by kernel_rfl) (by rfl) ?hv224 (by assumption) ?rest224
                    case hv224 => first | (intro w hSw; (try dsimp only at hSw); go_simp; done) | (intro w hSw; (try dsimp only at hSw); go_simp; with_reducible rfl)
                    (try simp only [Act.put, List.setIfInBounds_toArray, List.set_cons_zero, List.set_cons_succ])
                    refine Reg.skip (i := 15) rfl (by kernel_rfl) (by kernel_rfl) (by kernel_rfl) (by rfl) (by assumption) ?_
                    (try simp only [Act.put, List.setIfInBounds_toArray, List.set_cons_zero, List.set_cons_succ])
                    refine Reg.skip (i := 16) rfl (by kernel_rfl) (by kernel_rfl) (by kernel_rfl) (by rfl) (by assumption) ?_
                    (try simp only [Act.put, List.setIfInBounds_toArray, List.set_cons_zero, List.set_cons_succ])
                    refine Reg.skip (i := 17) rfl (by kernel_rfl) (by kernel_rfl) (by kernel_rfl) (by rfl) (by assumption) ?_
                    (try simp only [Act.put, List.setIfInBounds_toArray, List.set_cons_zero, List.set_cons_succ])
                    refine Reg.take (i := 18) (v := ?v225) rfl (by kernel_rfl) (by kernel_rfl) (by kernel_rfl) (by rfl) ?hv225 (by assumption) ?rest225
                    case hv225 => first | (intro w hSw; (try dsimp only at hSw); go_simp; done) | (intro w hSw; (try dsimp only at hSw); go_simp; with_reducible rfl)
                    (try simp only [Act.put, List.setIfInBounds_toArray, List.set_cons_zero, List.set_cons_succ])
                    refine Reg.take (i := 19) (v := ?v226) rfl (by kernel_rfl) (by kernel_rfl) (by kernel_rfl) (by rfl) ?hv226 (by assumption) ?rest226
                    case hv226 => first | (intro w hSw; (try dsimp only at hSw); go_simp; done) | (intro w hSw; (try dsimp only at hSw); go_simp; with_reducible rfl)
                    (try simp only [Act.put, List.setIfInBounds_toArray, List.set_cons_zero, List.set_cons_succ])
                    refine Reg.done (by kernel_rfl) ?_ _
                    clear hHeld HC hon
                    go_wp2
                    go_roundw
                    case rel => exact ⟨2, by omega, by omega, by go_num, hI3⟩
                    case measure => simp [intOf]
                  · rw [show ((2 : Nat) : Int) = 2 from rfl]
                    go_wp2
                    have hq : (!(s2.on.o2 == s2.on.o2)) = false := by simp
                    have hI2 : Ti Rhy w b S l base o (some x) M s2 s2.on g m B3 cs wr.drew := hI.grow K (below_drewN (Below.refl _ wr) 1)
                    have HC := Lib.hid (show ∀ W, Ti Rhy w b S l base o (some x) M s2 s2.on g m B3 cs W → W.cell? ⟨o, 2, none⟩ = some (.bool (s2.on.o2)) ∧ W.cell? ⟨o, 1, none⟩ = some (.bool false) from fun W hW => ⟨by have h7 : W.cell? ⟨o, 2, none⟩ = some (.bool (s2.on.get 2)) := hW.tn.box.cell 2; rw [h7]; rw [show s2.on.get 2 = s2.on.o2 from rfl], by have h7 : W.cell? ⟨o, 1, none⟩ = some (.bool s2.on.o1) := hW.tn.box.cell 1; rw [h7]; rw [show s2.on.o1 = false from ho1]⟩)
                    have hon := fun W hW => K.on_any W b S l s2 2 hW
                    rw [show s2.on.get 2 = s2.on.o2 from rfl] at hon
                    clear hI
                    refine Reg.begin_ (S := fun W => W.cell? ⟨o, 2, none⟩ = some (.bool (s2.on.o2)) ∧ W.cell? ⟨o, 1, none⟩ = some (.bool false)) (by kernel_rfl) (by exact HC.out _ hI2) (fun hHeld => ?_)
                    generalize wr.drew = W5 at *
                    refine Reg.take (i := 0) (v := ?v227) rfl (by kernel_rfl) (by kernel_rfl) (by kernel_rfl) (by rfl) ?hv227 (by assumption) ?rest227
                    case hv227 => first | (intro w hSw; (try dsimp only at hSw); go_simp; done) | (intro w hSw; (try dsimp only at hSw); go_simp; with_reducible rfl)
                    (try simp only [Act.put, List.setIfInBounds_toArray, List.set_cons_zero, List.set_cons_succ])
                    refine Reg.take (i := 1) (v := ?v228) rfl (by kernel_rfl) (by kernel_rfl) (by kernel_rfl) (by rfl) ?hv228 (by assumption) ?rest228
                    case hv228 => first | (intro w hSw; (try dsimp only at hSw); go_simp; done) | (intro w hSw; (try dsimp only at hSw); go_simp; with_reducible rfl)
                    (try simp only [Act.put, List.setIfInBounds_toArray, List.set_cons_zero, List.set_cons_succ])
                    refine Reg.take (i := 3) (v := ?v229) rfl (by kernel_rfl) (by kernel_rfl) (by kernel_rfl) (by rfl) ?hv229 (by assumption) ?rest229
                    case hv229 => first | (intro w hSw; (try dsimp only at hSw); go_simp; done) | (intro w hSw; (try dsimp only at hSw); go_simp; with_reducible rfl)
                    (try simp only [Act.put, List.setIfInBounds_toArray, List.set_cons_zero, List.set_cons_succ])
                    refine Reg.take (i := 4) (v := ?v230) rfl (by kernel_rfl) (by kernel_rfl) (by kernel_rfl) (by rfl) ?hv230 (by assumption) ?rest230
                    case hv230 => first | (intro w hSw; (try dsimp only at hSw); go_simp; done) | (intro w hSw; (try dsimp only at hSw); go_simp; with_reducible rfl)
                    (try simp only [Act.put, List.setIfInBounds_toArray, List.set_cons_zero, List.set_cons_succ])
                    refine Reg.take (i := 5) (v := ?v231) rfl (by kernel_rfl) (by kernel_rfl) (by kernel_rfl) (by rfl) ?hv231 (by assumption) ?rest231
                    case hv231 => first | (intro w hSw; (try dsimp only at hSw); go_simp; done) | (intro w hSw; (try dsimp only at hSw); go_simp; with_reducible rfl)
                    (try simp only [Act.put, List.setIfInBounds_toArray, List.set_cons_zero, List.set_cons_succ])
                    refine Reg.call (i := 2) rfl (by kernel_rfl) (by rfl) ?_
                    intro K1 hK1
                    go_simp
                    go_at_call 17
                    (refine Calls.mono (by exact hon W5 hI2.tn.mr.rhy) ?_)
                    rintro e W6 ⟨rfl, hB6⟩
                    have hI3 := hI2.grow K hB6
                    clear hHeld hI2
                    refine hK1.out _ _ (by exact (HC.out _ hI3)) (fun hHeld => ?_)
                    clear hK1 K1
                    (try simp only [Act.put, List.setIfInBounds_toArray, List.set_cons_zero, List.set_cons_succ])
                    refine Reg.take (i := 6) (v := ?v232) rfl (by kernel_rfl) (by kernel_rfl) (by kernel_rfl) (by rfl) ?hv232 (by assumption) ?rest232
                    case hv232 => first | (intro w hSw; (try dsimp only at hSw); go_simp; done) | (intro w hSw; (try dsimp only at hSw); go_simp; with_reducible rfl)
                    (try simp only [Act.put, List.setIfInBounds_toArray, List.set_cons_zero, List.set_cons_succ])
                    refine Reg.take (i := 7) (v := ?v233) rfl (by kernel_rfl) (by kernel_rfl) (by kernel_rfl) (by rfl) ?hv233 (by assumption) ?rest233
                    case hv233 => first | (intro w hSw; (try dsimp only at hSw); go_simp; done) | (intro w hSw; (try dsimp only at hSw); go_simp; with_reducible rfl)
                    (try simp only [Act.put, List.setIfInBounds_toArray, List.set_cons_zero, List.set_cons_succ])
                    refine Reg.take (i := 8) (v := ?v234) rfl (by kernel_rfl) (by kernel_rfl) (by kernel_rfl) (by rfl) ?hv234 (by assumption) ?rest234
                    case hv234 => first | (intro w hSw; (try dsimp only at hSw); go_simp; done) | (intro w hSw; (try dsimp only at hSw); go_simp; with_reducible rfl)
                    (try simp only [Act.put, List.setIfInBounds_toArray, List.set_cons_zero, List.set_cons_succ])
                    refine Reg.take (i := 9) (v := ?v235) rfl (by kernel_rfl) (by kernel_rfl) (by kernel_rfl) (by rfl) ?hv235 (by assumption) ?rest235
                    case hv235 => first | (intro w hSw; (try dsimp only at hSw); go_simp; done) | (intro w hSw; (try dsimp only at hSw); go_simp; with_reducible rfl)
                    (try simp only [Act.put, List.setIfInBounds_toArray, List.set_cons_zero, List.set_cons_succ])
                    refine Reg.take (i := 10) (v := ?v236) rfl (by kernel_rfl) (by kernel_rfl) (by kernel_rfl) (by rfl) ?hv236 (by assumption) ?rest236
                    case hv236 => first | (intro w hSw; (try dsimp only at hSw); go_simp; done) | (intro w hSw; (try dsimp only at hSw); go_simp; with_reducible rfl)
                    (try simp only [Act.put, List.setIfInBounds_toArray, List.set_cons_zero, List.set_cons_succ])
                    refine Reg.skip (i := 11) rfl (by kernel_rfl) (by kernel_rfl) (by kernel_rfl) (by rfl) (by assumption) ?_
                    (try simp only [Act.put, List.setIfInBounds_toArray, List.set_cons_zero, List.set_cons_succ])
                    refine Reg.skip (i := 12) rfl (by kernel_rfl) (by kernel_rfl) (by kernel_rfl) (by rfl) (by assumption) ?_
                    (try simp only [Act.put, List.setIfInBounds_toArray, List.set_cons_zero, List.set_cons_succ])
                    refine Reg.take (i := 13) (v := ?v237) rfl (by kernel_rfl) (by kernel_rfl) (by kernel_rfl) (by rfl) ?hv237 (by assumption) ?rest237
                    case hv237 => first | (intro w hSw; (try dsimp only at hSw); go_simp; done) | (intro w hSw; (try dsimp only at hSw); go_simp; with_reducible rfl)
                    (try simp only [Act.put, List.setIfInBounds_toArray, List.set_cons_zero, List.set_cons_succ])
                    refine Reg.take (i := 14) (v := ?v238) rfl (by kernel_rfl) (by kernel_rfl) (by kernel_rfl) (by rfl) ?hv238 (by assumption) ?rest238
                    case hv238 => first | (intro w hSw; (try dsimp only at hSw); go_simp; done) | (intro w hSw; (try dsimp only at hSw); go_simp; with_reducible rfl)
                    (try simp only [Act.put, List.setIfInBounds_toArray, List.set_cons_zero, List.set_cons_succ])
                    refine Reg.skip (i := 15) rfl (by kernel_rfl) (by kernel_rfl) (by kernel_rfl) (by rfl) (by assumption) ?_
                    (try simp only [Act.put, List.setIfInBounds_toArray, List.set_cons_zero, List.set_cons_succ])
                    refine Reg.skip (i := 16) rfl (by kernel_rfl) (by kernel_rfl) (by kernel_rfl) (by rfl) (by assumption) ?_
                    (try simp only [Act.put, List.setIfInBounds_toArray, List.set_cons_zero, List.set_cons_succ])
                    refine Reg.skip (i := 17) rfl (by kernel_rfl) (by kernel_rfl) (by kernel_rfl) (by rfl) (by assumption) ?_
                    (try simp only [Act.put, List.setIfInBounds_toArray, List.set_cons_zero, List.set_cons_succ])
                    refine Reg.take (i := 18) (v := ?v239) rfl (by kernel_rfl) (by kernel_rfl) (by kernel_rfl) (by rfl) ?hv239 (by assumption) ?rest239
                    case hv239 => first | (intro w hSw; (try dsimp only at hSw); go_simp; done) | (intro w hSw; (try dsimp only at hSw); go_simp; with_reducible rfl)
                    (try simp only [Act.put, List.setIfInBounds_toArray, List.set_cons_zero, List.set_cons_succ])
                    refine Reg.take (i := 19) (v := ?v240) rfl (by kernel_rfl) (by kernel_rfl) (by kernel_rfl) (by rfl) ?hv240 (by assumption) ?rest240
                    case hv240 => first | (intro w hSw; (try dsimp only at hSw); go_simp; done) | (intro w hSw; (try dsimp only at hSw); go_simp; with_reducible rfl)
                    (try simp only [Act.put, List.setIfInBounds_toArray, List.set_cons_zero, List.set_cons_succ])
                    refine Reg.done (by kernel_rfl) ?_ _
                    clear hHeld HC hon
                    go_wp2
                    go_roundw
                    case rel => exact ⟨3, by omega, by omega, by go_num, hI3⟩
                    case measure => simp [intOf]
                  · rw [show ((3 : Nat) : Int) = 3 from rfl]
                    go_wp2
                    have hq : (!(s2.on.o3 == s2.on.o3)) = false := by simp
                    have hI2 : Ti Rhy w b S l base o (some x) M s2 s2.on g m B3 cs wr.drew := hI.grow K (below_drewN (Below.refl _ wr) 1)
                    have HC := Lib.hid (show ∀ W, Ti Rhy w b S l base o (some x) M s2 s2.on g m B3 cs W → W.cell? ⟨o, 3, none⟩ = some (.bool (s2.on.o3)) ∧ W.cell? ⟨o, 1, none⟩ = some (.bool false) from fun W hW => ⟨by have h7 : W.cell? ⟨o, 3, none⟩ = some (.bool (s2.on.get 3)) := hW.tn.box.cell 3; rw [h7]; rw [show s2.on.get 3 = s2.on.o3 from rfl], by have h7 : W.cell? ⟨o, 1, none⟩ = some (.bool s2.on.o1) := hW.tn.box.cell 1; rw [h7]; rw [show s2.on.o1 = false from ho1]⟩)
                    have hon := fun W hW => K.on_any W b S l s2 3 hW
                    rw [show s2.on.get 3 = s2.on.o3 from rfl] at hon
                    clear hI
                    refine Reg.begin_ (S := fun W => W.cell? ⟨o, 3, none⟩ = some (.bool (s2.on.o3)) ∧ W.cell? ⟨o, 1, none⟩ = some (.bool false)) (by kernel_rfl) (by exact HC.out _ hI2) (fun hHeld => ?_)
                    generalize wr.drew = W5 at *
                    refine Reg.take (i := 0) (v := ?v241) rfl (by kernel_rfl) (by kernel_rfl) (by kernel_rfl) (by rfl) ?hv241 (by assumption) ?rest241
                    case hv241 => first | (intro w hSw; (try dsimp only at hSw); go_simp; done) | (intro w hSw; (try dsimp only at hSw); go_simp; with_reducible rfl)
                    (try simp only [Act.put, List.setIfInBounds_toArray, List.set_cons_zero, List.set_cons_succ])
                    refine Reg.take (i := 1) (v := ?v242) rfl (by kernel_rfl) (by kernel_rfl) (by kernel_rfl) (by rfl) ?hv242 (by assumption) ?rest242
                    case hv242 => first | (intro w hSw; (try dsimp only at hSw); go_simp; done) | (intro w hSw; (try dsimp only at hSw); go_simp; with_reducible rfl)
                    (try simp only [Act.put, List.setIfInBounds_toArray, List.set_cons_zero, List.set_cons_succ])
                    refine Reg.take (i := 3) (v := ?v243) rfl (by kernel_rfl) (by kernel_rfl) (by kernel_rfl) (by rfl) ?hv243 (by assumption) ?rest243
                    case hv243 => first | (intro w hSw; (try dsimp only at hSw); go_simp; done) | (intro w hSw; (try dsimp only at hSw); go_simp; with_reducible rfl)
                    (try simp only [Act.put, List.setIfInBounds_toArray, List.set_cons_zero, List.set_cons_succ])
                    refine Reg.take (i := 4) (v := ?v244) rfl (by kernel_rfl) (by kernel_rfl) (by kernel_rfl) (by rfl) ?hv244 (by assumption) ?rest244
                    case hv244 => first | (intro w hSw; (try dsimp only at hSw); go_simp; done) | (intro w hSw; (try dsimp only at hSw); go_simp; with_reducible rfl)
                    (try simp only [Act.put, List.setIfInBounds_toArray, List.set_cons_zero, List.set_cons_succ])
                    refine Reg.take (i := 5) (v := ?v245) rfl (by kernel_rfl) (by kernel_rfl) (by kernel_rfl) (by rfl) ?hv245 (by assumption) ?rest245
                    case hv245 => first | (intro w hSw; (try dsimp only at hSw); go_simp; done) | (intro w hSw; (try dsimp only at hSw); go_simp; with_reducible rfl)
                    (try simp only [Act.put, List.setIfInBounds_toArray, List.set_cons_zero, List.set_cons_succ])
                    refine Reg.call (i := 2) rfl (by kernel_rfl) (by rfl) ?_
                    intro K1 hK1
                    go_simp
                    go_at_call 17
                    (refine Calls.mono (by exact hon W5 hI2.tn.mr.rhy) ?_)
                    rintro e W6 ⟨rfl, hB6⟩
                    have hI3 := hI2.grow K hB6
                    clear hHeld hI2
                    refine hK1.out _ _ (by exact (HC.out _ hI3)) (fun hHeld => ?_)
                    clear hK1 K1
                    (try simp only [Act.put, List.setIfInBounds_toArray, List.set_cons_zero, List.set_cons_succ])
                    refine Reg.take (i := 6) (v := ?v246) rfl (by kernel_rfl) (by kernel_rfl) (by kernel_rfl) (by rfl) ?hv246 (by assumption) ?rest246
                    case hv246 => first | (intro w hSw; (try dsimp only at hSw); go_simp; done) | (intro w hSw; (try dsimp only at hSw); go_simp; with_reducible rfl)
                    (try simp only [Act.put, List.setIfInBounds_toArray, List.set_cons_zero, List.set_cons_succ])
                    refine Reg.take (i := 7) (v := ?v247) rfl (by kernel_rfl) (by kernel_rfl) (by kernel_rfl) (by rfl) ?hv247 (by assumption) ?rest247
                    case hv247 => first | (intro w hSw; (try dsimp only at hSw); go_simp; done) | (intro w hSw; (try dsimp only at hSw); go_simp; with_reducible rfl)
                    (try simp only [Act.put, List.setIfInBounds_toArray, List.set_cons_zero, List.set_cons_succ])
                    refine Reg.take (i := 8) (v := ?v248) rfl (by kernel_rfl) (by kernel_rfl) (by kernel_rfl) (by rfl) ?hv248 (by assumption) ?rest248
                    case hv248 => first | (intro w hSw; (try dsimp only at hSw); go_simp; done) | (intro w hSw; (try dsimp only at hSw); go_simp; with_reducible rfl)
                    (try simp only [Act.put, List.setIfInBounds_toArray, List.set_cons_zero, List.set_cons_succ])
                    refine Reg.take (i := 9) (v := ?v249) rfl (by kernel_rfl) (by kernel_rfl) (by kernel_rfl) (by rfl) ?hv249 (by assumption) ?rest249
                    case hv249 => first | (intro w hSw; (try dsimp only at hSw); go_simp; done) | (intro w hSw; (try dsimp only at hSw); go_simp; with_reducible rfl)
                    (try simp only [Act.put, List.setIfInBounds_toArray, List.set_cons_zero, List.set_cons_succ])
                    refine Reg.take (i := 10) (v := ?v250) rfl (by kernel_rfl) (by kernel_rfl) (by kernel_rfl) (by rfl) ?hv250 (by assumption) ?rest250
                    case hv250 => first | (intro w hSw; (try dsimp only at hSw); go_simp; done) | (intro w hSw; (try dsimp only at hSw); go_simp; with_reducible rfl)
                    (try simp only [Act.put, List.setIfInBounds_toArray, List.set_cons_zero, List.set_cons_succ])
                    refine Reg.skip (i := 11) rfl (by kernel_rfl) (by kernel_rfl) (by kernel_rfl) (by rfl) (by assumption) ?_
                    (try simp only [Act.put, List.setIfInBounds_toArray, List.set_cons_zero, List.set_cons_succ])
                    refine Reg.skip (i := 12) rfl (by kernel_rfl) (by kernel_rfl) (by kernel_rfl) (by rfl) (by assumption) ?_
                    (try simp only [Act.put, List.setIfInBounds_toArray, List.set_cons_zero, List.set_cons_succ])
                    refine Reg.take (i := 13) (v := ?v251) rfl (by kernel_rfl) (by kernel_rfl) (by kernel_rfl) (by rfl) ?hv251 (by assumption) ?rest251
                    case hv251 => first | (intro w hSw; (try dsimp only at hSw); go_simp; done) | (intro w hSw; (try dsimp only at hSw); go_simp; with_reducible rfl)
                    (try simp only [Act.put, List.setIfInBounds_toArray, List.set_cons_zero, List.set_cons_succ])
                    refine Reg.take (i := 14) (v := ?v252) rfl (by kernel_rfl) (by kernel_rfl) (by kernel_rfl) (by rfl) ?hv252 (by assumption) ?rest252
                    case hv252 => first | (intro w hSw; (try dsimp only at hSw); go_simp; done) | (intro w hSw; (try dsimp only at hSw); go_simp; with_reducible rfl)
                    (try simp only [Act.put, List.setIfInBounds_toArray, List.set_cons_zero, List.set_cons_succ])
                    refine Reg.skip (i := 15) rfl (by kernel_rfl) (by kernel_rfl) (by kernel_rfl) (by rfl) (by assumption) ?_
                    (try simp only [Act.put, List.setIfInBounds_toArray, List.set_cons_zero, List.set_cons_succ])
                    refine Reg.skip (i := 16) rfl (by kernel_rfl) (by kernel_rfl) (by kernel_rfl) (by rfl) (by assumption) ?_
                    (try simp only [Act.put, List.setIfInBounds_toArray, List.set_cons_zero, List.set_cons_succ])
                    refine Reg.skip (i := 17) rfl (by kernel_rfl) (by kernel_rfl) (by kernel_rfl) (by rfl) (by assumption) ?_
                    (try simp only [Act.put, List.setIfInBounds_toArray, List.set_cons_zero, List.set_cons_succ])
                    refine Reg.take (i := 18) (v := ?v253) rfl (by kernel_rfl) (by kernel_rfl) (by kernel_rfl) (by rfl) ?hv253 (by assumption) ?rest253
                    case hv253 => first | (intro w hSw; (try dsimp only at hSw); go_simp; done) | (intro w hSw; (try dsimp only at hSw); go_simp; with_reducible rfl)
                    (try simp only [Act.put, List.setIfInBounds_toArray, List.set_cons_zero, List.set_cons_succ])
                    refine Reg.take (i := 19) (v := ?v254) rfl (by kernel_rfl) (by kernel_rfl) (by kernel_rfl) (by rfl) ?hv254 (by assumption) ?rest254
                    case hv254 => first | (intro w hSw; (try dsimp only at hSw); go_simp; done) | (intro w hSw; (try dsimp only at hSw); go_simp; with_reducible rfl)
                    (try simp only [Act.put, List.setIfInBounds_toArray, List.set_cons_zero, List.set_cons_succ])
                    refine Reg.done (by kernel_rfl) ?_ _
                    clear hHeld HC hon
                    go_wp2
                    go_roundw
                    case rel => exact ⟨4, by omega, by omega, by go_num, hI3⟩
                    case measure => simp [intOf]
                  · rw [show ((4 : Nat) : Int) = 4 from rfl]
                    go_wp2
                    have hq : (!(s2.on.o4 == s2.on.o4)) = false := by simp
                    have hI2 : Ti Rhy w b S l base o (some x) M s2 s2.on g m B3 cs wr.drew := hI.grow K (below_drewN (Below.refl _ wr) 1)
                    have HC := Lib.hid (show ∀ W, Ti Rhy w b S l base o (some x) M s2 s2.on g m B3 cs W → W.cell? ⟨o, 4, none⟩ = some (.bool (s2.on.o4)) ∧ W.cell? ⟨o, 1, none⟩ = some (.bool false) from fun W hW => ⟨by have h7 : W.cell? ⟨o, 4, none⟩ = some (.bool (s2.on.get 4)) := hW.tn.box.cell 4; rw [h7]; rw [show s2.on.get 4 = s2.on.o4 from rfl], by have h7 : W.cell? ⟨o, 1, none⟩ = some (.bool s2.on.o1) := hW.tn.box.cell 1; rw [h7]; rw [show s2.on.o1 = false from ho1]⟩)
                    have hon := fun W hW => K.on_any W b S l s2 4 hW
                    rw [show s2.on.get 4 = s2.on.o4 from rfl] at hon
                    clear hI
                    refine Reg.begin_ (S := fun W => W.cell? ⟨o, 4, none⟩ = some (.bool (s2.on.o4)) ∧ W.cell? ⟨o, 1, none⟩ = some (.bool false)) (by kernel_rfl) (by exact HC.out _ hI2) (fun hHeld => ?_)
                    generalize wr.drew = W5 at *
                    refine Reg.take (i := 0) (v := ?v255) rfl (by kernel_rfl) (by kernel_rfl) (by kernel_rfl) (by rfl) ?hv255 (by assumption) ?rest255
                    case hv255 => first | (intro w hSw; (try dsimp only at hSw); go_simp; done) | (intro w hSw; (try dsimp only at hSw); go_simp; with_reducible rfl)
                    (try simp only [Act.put, List.setIfInBounds_toArray, List.set_cons_zero, List.set_cons_succ])
                    refine Reg.take (i := 1) (v := ?v256) rfl (by kernel_rfl) (by kernel_rfl) (by kernel_rfl) (by rfl) ?hv256 (by assumption) ?rest256
                    case hv256 => first | (intro w hSw; (try dsimp only at hSw); go_simp; done) | (intro w hSw; (try dsimp only at hSw); go_simp; with_reducible rfl)
                    (try simp only [Act.put, List.setIfInBounds_toArray, List.set_cons_zero, List.set_cons_succ])
                    refine Reg.take (i := 3) (v := ?v257) rfl (by kernel_rfl) (by kernel_rfl) (by kernel_rfl) (by rfl) ?hv257 (by assumption) ?rest257
                    case hv257 => first | (intro w hSw; (try dsimp only at hSw); go_simp; done) | (intro w hSw; (try dsimp only at hSw); go_simp; with_reducible rfl)
                    (try simp only [Act.put, List.setIfInBounds_toArray, List.set_cons_zero, List.set_cons_succ])
                    refine Reg.take (i := 4) (v := ?v258) rfl (by kernel_rfl) (by kernel_rfl) (by kernel_rfl) (by rfl) ?hv258 (by assumption) ?rest258
                    case hv258 => first | (intro w hSw; (try dsimp only at hSw); go_simp; done) | (intro w hSw; (try dsimp only at hSw); go_simp; with_reducible rfl)
                    (try simp only [Act.put, List.setIfInBounds_toArray, List.set_cons_zero, List.set_cons_succ])
                    refine Reg.take (i := 5) (v := ?v259) rfl (by kernel_rfl) (by kernel_rfl) (by kernel_rfl) (by rfl) ?hv259 (by assumption) ?rest259
                    case hv259 => first | (intro w hSw; (try dsimp only at hSw); go_simp; done) | (intro w hSw; (try dsimp only at hSw); go_simp; with_reducible rfl)
                    (try simp only [Act.put, List.setIfInBounds_toArray, List.set_cons_zero, List.set_cons_succ])
                    refine Reg.call (i := 2) rfl (by kernel_rfl) (by rfl) ?_
                    intro K1 hK1
                    go_simp
                    go_at_call 17
                    (refine Calls.mono (by exact hon W5 hI2.tn.mr.rhy) ?_)
                    rintro e W6 ⟨rfl, hB6⟩
                    have hI3 := hI2.grow K hB6
                    clear hHeld hI2
                    refine hK1.out _ _ (by exact (HC.out _ hI3)) (fun hHeld => ?_)
                    clear hK1 K1
                    (try simp only [Act.put, List.setIfInBounds_toArray, List.set_cons_zero, List.set_cons_succ])
                    refine Reg.take (i := 6) (v := ?v260) rfl (by kernel_rfl) (by kernel_rfl) (by kernel_rfl) (by rfl) ?hv260 (by assumption) ?rest260
                    case hv260 => first | (intro w hSw; (try dsimp only at hSw); go_simp; done) | (intro w hSw; (try dsimp only at hSw); go_simp; with_reducible rfl)
                    (try simp only [Act.put, List.setIfInBounds_toArray, List.set_cons_zero, List.set_cons_succ])
                    refine Reg.take (i := 7) (v := ?v261) rfl (by kernel_rfl) (by kernel_rfl) (by kernel_rfl) (by rfl) ?hv261 (by assumption) ?rest261
                    case hv261 => first | (intro w hSw; (try dsimp only at hSw); go_simp; done) | (intro w hSw; (try dsimp only at hSw); go_simp; with_reducible rfl)
                    (try simp only [Act.put, List.setIfInBounds_toArray, List.set_cons_zero, List.set_cons_succ])
                    refine Reg.take (i := 8) (v := ?v262) rfl (by kernel_rfl) (by kernel_rfl) (by kernel_rfl) (by rfl) ?hv262 (by assumption) ?rest262
                    case hv262 => first | (intro w hSw; (try dsimp only at hSw); go_simp; done) | (intro w hSw; (try dsimp only at hSw); go_simp; with_reducible rfl)
                    (try simp only [Act.put, List.setIfInBounds_toArray, List.set_cons_zero, List.set_cons_succ])
                    refine Reg.take (i := 9) (v := ?v263) rfl (by kernel_rfl) (by kernel_rfl) (by kernel_rfl) (by rfl) ?hv263 (by assumption) ?rest263
                    case hv263 => first | (intro w hSw; (try dsimp only at hSw); go_simp; done) | (intro w hSw; (try dsimp only at hSw); go_simp; with_reducible rfl)
                    (try simp only [Act.put, List.setIfInBounds_toArray, List.set_cons_zero, List.set_cons_succ])
                    refine Reg.take (i := 10) (v := ?v264) rfl (by kernel_rfl) (by kernel_rfl) (by kernel_rfl) (by rfl) ?hv264 (by assumption) ?rest264
                    case hv264 => first | (intro w hSw; (try dsimp only at hSw); go_simp; done) | (intro w hSw; (try dsimp only at hSw); go_simp; with_reducible rfl)
                    (try simp only [Act.put, List.setIfInBounds_toArray, List.set_cons_zero, List.set_cons_succ])
                    refine Reg.skip (i := 11) rfl (by kernel_rfl) (by kernel_rfl) (by kernel_rfl) (by rfl) (by assumption) ?_
                    (try simp only [Act.put, List.setIfInBounds_toArray, List.set_cons_zero, List.set_cons_succ])
                    refine Reg.skip (i := 12) rfl (by kernel_rfl) (by kernel_rfl) (by kernel_rfl) (by rfl) (by assumption) ?_
                    (try simp only [Act.put, List.setIfInBounds_toArray, List.set_cons_zero, List.set_cons_succ])
                    refine Reg.take (i := 13) (v := ?v265) rfl (by kernel_rfl) (by kernel_rfl) (by kernel_rfl) (by rfl) ?hv265 (by assumption) ?rest265
                    case hv265 => first | (intro w hSw; (try dsimp only at hSw); go_simp; done) | (intro w hSw; (try dsimp only at hSw); go_simp; with_reducible rfl)
                    (try simp only [Act.put, List.setIfInBounds_toArray, List.set_cons_zero, List.set_cons_succ])
                    refine Reg.take (i := 14) (v := ?v266) rfl (by kernel_rfl) (by kernel_rfl) (by kernel_rfl) (by rfl) ?hv266 (by assumption) ?rest266
                    case hv266 => first | (intro w hSw; (try dsimp only at hSw); go_simp; done) | (intro w hSw; (try dsimp only at hSw); go_simp; with_reducible rfl)
                    (try simp only [Act.put, List.setIfInBounds_toArray, List.set_cons_zero, List.set_cons_succ])
                    refine Reg.skip (i := 15) rfl (by kernel_rfl) (by kernel_rfl) (by kernel_rfl) (by rfl) (by assumption) ?_
                    (try simp only [Act.put, List.setIfInBounds_toArray, List.set_cons_zero, List.set_cons_succ])
                    refine Reg.skip (i := 16) rfl (by kernel_rfl) (by kernel_rfl) (by kernel_rfl) (by rfl) (by assumption) ?_
                    (try simp only [Act.put, List.setIfInBounds_toArray, List.set_cons_zero, List.set_cons_succ])
                    refine Reg.skip (i := 17) rfl (by kernel_rfl) (by kernel_rfl) (by kernel_rfl) (by rfl) (by assumption) ?_
                    (try simp only [Act.put, List.setIfInBounds_toArray, List.set_cons_zero, List.set_cons_succ])
                    refine Reg.take (i := 18) (v := ?v267) rfl (by kernel_rfl) (by kernel_rfl) (by kernel_rfl) (by rfl) ?hv267 (by assumption) ?rest267
                    case hv267 => first | (intro w hSw; (try dsimp only at hSw); go_simp; done) | (intro w hSw; (try dsimp only at hSw); go_simp; with_reducible rfl)
                    (try simp only [Act.put, List.setIfInBounds_toArray, List.set_cons_zero, List.set_cons_succ])
                    refine Reg.take (i := 19) (v := ?v268) rfl (by kernel_rfl) (by kernel_rfl) (by kernel_rfl) (by rfl) ?hv268 (by assumption) ?rest268
                    case hv268 => first | (intro w hSw; (try dsimp only at hSw); go_simp; done) | (intro w hSw; (try dsimp only at hSw); go_simp; with_reducible rfl)
                    (try simp only [Act.put, List.setIfInBounds_toArray, List.set_cons_zero, List.set_cons_succ])
                    refine Reg.done (by kernel_rfl) ?_ _
                    clear hHeld HC hon
                    go_wp2
                    go_roundw
                    case rel => exact ⟨5, by omega, by omega, by go_num, hI3⟩
                    case measure => simp [intOf]
                  · rw [show ((5 : Nat) : Int) = 5 from rfl]
                    go_wp2
                    have hq : (!(s2.on.o5 == s2.on.o5)) = false := by simp
                    have hI2 : Ti Rhy w b S l base o (some x) M s2 s2.on g m B3 cs wr.drew := hI.grow K (below_drewN (Below.refl _ wr) 1)
                    have HC := Lib.hid (show ∀ W, Ti Rhy w b S l base o (some x) M s2 s2.on g m B3 cs W → W.cell? ⟨o, 5, none⟩ = some (.bool (s2.on.o5)) ∧ W.cell? ⟨o, 1, none⟩ = some (.bool false) from fun W hW => ⟨by have h7 : W.cell? ⟨o, 5, none⟩ = some (.bool (s2.on.get 5)) := hW.tn.box.cell 5; rw [h7]; rw [show s2.on.get 5 = s2.on.o5 from rfl], by have h7 : W.cell? ⟨o, 1, none⟩ = some (.bool s2.on.o1) := hW.tn.box.cell 1; rw [h7]; rw [show s2.on.o1 = false from ho1]⟩)
                    have hon := fun W hW => K.on_any W b S l s2 5 hW
                    rw [show s2.on.get 5 = s2.on.o5 from rfl] at hon
                    clear hI
                    refine Reg.begin_ (S := fun W => W.cell? ⟨o, 5, none⟩ = some (.bool (s2.on.o5)) ∧ W.cell? ⟨o, 1, none⟩ = some (.bool false)) (by kernel_rfl) (by exact HC.out _ hI2) (fun hHeld => ?_)
                    generalize wr.drew = W5 at *
                    refine Reg.take (i := 0) (v := ?v269) rfl (by kernel_rfl) (by kernel_rfl) (by kernel_rfl) (by rfl) ?hv269 (by assumption) ?rest269
                    case hv269 => first | (intro w hSw; (try dsimp only at hSw); go_simp; done) | (intro w hSw; (try dsimp only at hSw); go_simp; with_reducible rfl)
                    (try simp only [Act.put, List.setIfInBounds_toArray, List.set_cons_zero, List.set_cons_succ])
                    refine Reg.take (i := 1) (v := ?v270) rfl (by kernel_rfl) (by kernel_rfl) (by kernel_rfl) (by rfl) ?hv270 (by assumption) ?rest270
                    case hv270 => first | (intro w hSw; (try dsimp only at hSw); go_simp; done) | (intro w hSw; (try dsimp only at hSw); go_simp; with_reducible rfl)
                    (try simp only [Act.put, List.setIfInBounds_toArray, List.set_cons_zero, List.set_cons_succ])
                    refine Reg.take (i := 3) (v := ?v271) rfl (by kernel_rfl) (by kernel_rfl) (by kernel_rfl) (by rfl) ?hv271 (by assumption) ?rest271
                    case hv271 => first | (intro w hSw; (try dsimp only at hSw); go_simp; done) | (intro w hSw; (try dsimp only at hSw); go_simp; with_reducible rfl)
                    (try simp only [Act.put, List.setIfInBounds_toArray, List.set_cons_zero, List.set_cons_succ])
                    refine Reg.take (i := 4) (v := ?v272) rfl (by kernel_rfl) (by kernel_rfl) (by kernel_rfl) (by rfl) ?hv272 (by assumption) ?rest272
                    case hv272 => first | (intro w hSw; (try dsimp only at hSw); go_simp; done) | (intro w hSw; (try dsimp only at hSw); go_simp; with_reducible rfl)
                    (try simp only [Act.put, List.setIfInBounds_toArray, List.set_cons_zero, List.set_cons_succ])
                    refine Reg.take (i := 5) (v := ?v273) rfl (by kernel_rfl) (by kernel_rfl) (by kernel_rfl) (by rfl) ?hv273 (by assumption) ?rest273
                    case hv273 => first | (intro w hSw; (try dsimp only at hSw); go_simp; done) | (intro w hSw; (try dsimp only at hSw); go_simp; with_reducible rfl)
                    (try simp only [Act.put, List.setIfInBounds_toArray, List.set_cons_zero, List.set_cons_succ])
                    refine Reg.call (i := 2) rfl (by kernel_rfl) (by rfl) ?_
                    intro K1 hK1
                    go_simp
                    go_at_call 17
                    (refine Calls.mono (by exact hon W5 hI2.tn.mr.rhy) ?_)
                    rintro e W6 ⟨rfl, hB6⟩
                    have hI3 := hI2.grow K hB6
                    clear hHeld hI2
                    refine hK1.out _ _ (by exact (HC.out _ hI3)) (fun hHeld => ?_)
                    clear hK1 K1
                    (try simp only [Act.put, List.setIfInBounds_toArray, List.set_cons_zero, List.set_cons_succ])
                    refine Reg.take (i := 6) (v := ?v274) rfl (by kernel_rfl) (by kernel_rfl) (by kernel_rfl) (by rfl) ?hv274 (by assumption) ?rest274
                    case hv274 => first | (intro w hSw; (try dsimp only at hSw); go_simp; done) | (intro w hSw; (try dsimp only at hSw); go_simp; with_reducible rfl)
                    (try simp only [Act.put, List.setIfInBounds_toArray, List.set_cons_zero, List.set_cons_succ])
                    refine Reg.take (i := 7) (v := ?v275) rfl (by kernel_rfl) (by kernel_rfl) (by kernel_rfl) (by rfl) ?hv275 (by assumption) ?rest275
                    case hv275 => first | (intro w hSw; (try dsimp only at hSw); go_simp; done) | (intro w hSw; (try dsimp only at hSw); go_simp; with_reducible rfl)
                    (try simp only [Act.put, List.setIfInBounds_toArray, List.set_cons_zero, List.set_cons_succ])
                    refine Reg.take (i := 8) (v := ?v276) rfl (by kernel_rfl) (by kernel_rfl) (by kernel_rfl) (by rfl) ?hv276 (by assumption) ?rest276
                    case hv276 => first | (intro w hSw; (try dsimp only at hSw); go_simp; done) | (intro w hSw; (try dsimp only at hSw); go_simp; with_reducible rfl)
                    (try simp only [Act.put, List.setIfInBounds_toArray, List.set_cons_zero, List.set_cons_succ])
                    refine Reg.take (i := 9) (v := ?v277) rfl (by kernel_rfl) (by kernel_rfl) (by kernel_rfl) (by rfl) ?hv277 (by assumption) ?rest277
                    case hv277 => first | (intro w hSw; (try dsimp only at hSw); go_simp; done) | (intro w hSw; (try dsimp only at hSw); go_simp; with_reducible rfl)
                    (try simp only [Act.put, List.setIfInBounds_toArray, List.set_cons_zero, List.set_cons_succ])
                    refine Reg.take (i := 10) (v := ?v278) rfl (by kernel_rfl) (by kernel_rfl) (by kernel_rfl) (by rfl) ?hv278 (by assumption) ?rest278
                    case hv278 => first | (intro w hSw; (try dsimp only at hSw); go_simp; done) | (intro w hSw; (try dsimp only at hSw); go_simp; with_reducible rfl)
                    (try simp only [Act.put, List.setIfInBounds_toArray, List.set_cons_zero, List.set_cons_succ])
                    refine Reg.skip (i := 11) rfl (by kernel_rfl) (by kernel_rfl) (by kernel_rfl) (by rfl) (by assumption) ?_
                    (try simp only [Act.put, List.setIfInBounds_toArray, List.set_cons_zero, List.set_cons_succ])
                    refine Reg.skip (i := 12) rfl (by kernel_rfl) (by kernel_rfl) (by kernel_rfl) (by rfl) (by assumption) ?_
                    (try simp only [Act.put, List.setIfInBounds_toArray, List.set_cons_zero, List.set_cons_succ])
                    refine Reg.take (i := 13) (v := ?v279) rfl (by kernel_rfl) (by kernel_rfl) (by kernel_rfl) (by rfl) ?hv279 (by assumption) ?rest279
                    case hv279 => first | (intro w hSw; (try dsimp only at hSw); go_simp; done) | (intro w hSw; (try dsimp only at hSw); go_simp; with_reducible rfl)
                    (try simp only [Act.put, List.setIfInBounds_toArray, List.set_cons_zero, List.set_cons_succ])
                    refine Reg.take (i := 14) (v := ?v280) rfl (by kernel_rfl) (by kernel_rfl) (by kernel_rfl) (by rfl) ?hv280 (by assumption) ?rest280
                    case hv280 => first | (intro w hSw; (try dsimp only at hSw); go_simp; done) | (intro w hSw; (try dsimp only at hSw); go_simp; with_reducible rfl)
                    (try simp only [Act.put, List.setIfInBounds_toArray, List.set_cons_zero, List.set_cons_succ])
                    refine Reg.skip (i := 15) rfl (by kernel_rfl) (by kernel_rfl) (by kernel_rfl) (by rfl) (by assumption) ?_
                    (try simp only [Act.put, List.setIfInBounds_toArray, List.set_cons_zero, List.set_cons_succ])
                    refine Reg.skip (i := 16) rfl (by kernel_rfl) (by kernel_rfl) (by kernel_rfl) (by rfl) (by assumption) ?_
                    (try simp only [Act.put, List.setIfInBounds_toArray, List.set_cons_zero, List.set_cons_succ])
                    refine Reg.skip (i := 17) rfl (by kernel_rfl) (by kernel_rfl) (by kernel_rfl) (by rfl) (by assumption) ?_
                    (try simp only [Act.put, List.setIfInBounds_toArray, List.set_cons_zero, List.set_cons_succ])
                    refine Reg.take (i := 18) (v := ?v281) rfl (by kernel_rfl) (by kernel_rfl) (by kernel_rfl) (by rfl) ?hv281 (by assumption) ?rest281
                    case hv281 => first | (intro w hSw; (try dsimp only at hSw); go_simp; done) | (intro w hSw; (try dsimp only at hSw); go_simp; with_reducible rfl)
                    (try simp only [Act.put, List.setIfInBounds_toArray, List.set_cons_zero, List.set_cons_succ])
                    refine Reg.take (i := 19) (v := ?v282) rfl (by kernel_rfl) (by kernel_rfl) (by kernel_rfl) (by rfl) ?hv282 (by assumption) ?rest282
                    case hv282 => first | (intro w hSw; (try dsimp only at hSw); go_simp; done) | (intro w hSw; (try dsimp only at hSw); go_simp; with_reducible rfl)
                    (try simp only [Act.put, List.setIfInBounds_toArray, List.set_cons_zero, List.set_cons_succ])
                    refine Reg.done (by kernel_rfl) ?_ _
                    clear hHeld HC hon
                    go_wp2
                    go_roundw
                    case rel => exact ⟨6, by omega, by omega, by go_num, hI3⟩
                    case measure => simp [intOf]
              · obtain rfl : z = 6 := by omega
                clear hlt hz1 hz6
                go_wp2
                have hq : (!(s2.on.o1 == s2.on.o1)) = false := by simp
                have hI2 : Ti Rhy w b S l base o (some x) M s2 s2.on g m B3 cs wr.drew := hI.grow K (below_drewN (Below.refl _ wr) 1)
                have hdk := HF2.out.1
                clear hI
                refine Reg.begin_ (S := fun W => W.cell? ⟨o, 1, none⟩ = some (.bool s2.on.o1)) (by kernel_rfl) (by exact hI2.tn.box.cell 1) (fun hHeld => ?_)
                generalize wr.drew = W5 at *
                refine Reg.take (i := 0) (v := ?v283) rfl (by kernel_rfl) (by kernel_rfl) (by kernel_rfl) (by rfl) ?hv283 (by assumption) ?rest283
                case hv283 => first | (intro w hSw; (try dsimp only at hSw); go_simp; done) | (intro w hSw; (try dsimp only at hSw); go_simp; with_reducible rfl)
                (try simp only [Act.put, List.setIfInBounds_toArray, List.set_cons_zero, List.set_cons_succ])
                refine Reg.take (i := 2) (v := ?v284) rfl (by kernel_rfl) (by kernel_rfl) (by kernel_rfl) (by rfl) ?hv284 (by assumption) ?rest284
                case hv284 => first | (intro w hSw; (try dsimp only at hSw); go_simp; done) | (intro w hSw; (try dsimp only at hSw); go_simp; with_reducible rfl)
                (try simp only [Act.put, List.setIfInBounds_toArray, List.set_cons_zero, List.set_cons_succ])
                refine Reg.take (i := 3) (v := ?v285) rfl (by kernel_rfl) (by kernel_rfl) (by kernel_rfl) (by rfl) ?hv285 (by assumption) ?rest285
                case hv285 => first | (intro w hSw; (try dsimp only at hSw); go_simp; done) | (intro w hSw; (try dsimp only at hSw); go_simp; with_reducible rfl)
                (try simp only [Act.put, List.setIfInBounds_toArray, List.set_cons_zero, List.set_cons_succ])
                refine Reg.call (i := 1) rfl (by kernel_rfl) (by rfl) ?_
                intro K1 hK1
                go_simp
                go_at_call 16
                (refine Calls.mono (by exact K.off_any W5 b S _ _ hI2.tn.mr.rhy) ?_)
                rintro e W6 ⟨rfl, hB6⟩
                have hI3 := hI2.grow K hB6
                rw [← hdk]
                clear hHeld hI2
                refine hK1.out _ _ (by exact (hI3.tn.box.cell 1)) (fun hHeld => ?_)
                clear hK1 K1
                (try simp only [Act.put, List.setIfInBounds_toArray, List.set_cons_zero, List.set_cons_succ])
                refine Reg.take (i := 4) (v := ?v286) rfl (by kernel_rfl) (by kernel_rfl) (by kernel_rfl) (by rfl) ?hv286 (by assumption) ?rest286
                case hv286 => first | (intro w hSw; (try dsimp only at hSw); go_simp; done) | (intro w hSw; (try dsimp only at hSw); go_simp; with_reducible rfl)
                (try simp only [Act.put, List.setIfInBounds_toArray, List.set_cons_zero, List.set_cons_succ])
                refine Reg.done (by kernel_rfl) ?_ _
                clear hHeld hdk
                go_wp2
                go_roundw
                case rel => exact ⟨k + 1, s2, by have := HKM.out.1; omega, by go_num, HF2.out, HRS.out, hI3.tn⟩
                case measure => have := HKM.out.1; simp [intOf]; omega
      · obtain rfl : k = M.length := by omega
        clear HF
        go_wp2_with (go_at_call 11; ((with_reducible refine (hli _).mono ?_); rintro e W5 ⟨rfl, hB5⟩; have hR5 := hT.grow K hB5))
        go_ret
        exact ⟨rfl, hR5.mr.below⟩
end Go.Proofs.Ytpmjgomfjfhfkaa.Rhythm
