/- What the proofs stand on, part 2. -/
import Derived.Test.YtfimgkomfnfjkaaPack1
import Derived.RangeFuncNested
import Derived.RangeFuncBound
import Derived.RangeFuncCalls
import Derived.RangeFuncLeaves
import Derived.RangeFuncBox
import Derived.Shelf.Abstract
import Derived.Shelf.RegionOpen
import Derived.WalkKit
import Derived.OwnWalkIn
import Derived.TacticsInMore
import Derived.LoopNIn
import Derived.LoopIn
import Derived.Lib.Hide
import Derived.Deep.QuietTactic
import Derived.BigQuiet
import Derived.Deep.RegionWith
import Derived.Deep.RegionHeld3
import Derived.Lib.SliceRun
import Derived.Laws.StructEq
section
/- A ring of uint8: taking things out. -/
set_option linter.unusedSimpArgs false
set_option linter.unusedVariables false
namespace Go.Proofs.Ytfimgkomfnfjkaa.RU8
open Go.RowKit

theorem take_no (b c : Nat) (i : Int) (w : World) (h2 : w.cell? ⟨b, 2, none⟩ = some (.int .i64 c)) (hi : i < 1 ∨ c = 0) :
    Calls Try.prog 18 #[.pointer (some ⟨b, 0, none⟩), .int .i64 i] w fun e w' => e = .returned (.slice none 0 0) ∧ w = w' := by
  have hlen := len_any b c w h2
  rcases hi with hi | rfl
  · have h0 : i ≤ (c : Int) := by omega
    go_enter Try.func18, Try.ntmps18
    go_wp2_with (go_at_call 19; ((with_reducible refine hlen.mono ?_); rintro e w' ⟨rfl, rfl⟩))
    go_ret
    exact ⟨rfl, rfl⟩
  · by_cases h0 : i ≤ 0
    all_goals
      go_enter Try.func18, Try.ntmps18
      go_wp2_with (go_at_call 19; ((with_reducible refine hlen.mono ?_); rintro e w' ⟨rfl, rfl⟩))
      go_ret
      exact ⟨rfl, rfl⟩

def Taking (w : World) (b g n q f : Nat) (cs xs : List Nat) (m : Nat) (i : Value) (wr : World) : Prop :=
  ∃ k, k ≤ m ∧ i = .int .i64 (k : Nat) ∧ Turned b g w wr ∧ Core wr b g n q f xs.length cs ∧ Has wr w.heap.size 5 ((xs.take k ++ List.replicate (m - k) 0).map fun (v : Nat) => Value.int .u8 v).toArray
def Took (w : World) (b g n q f : Nat) (xs : List Nat) (m : Nat) (w' : World) : Prop :=
  Became w b g n q ((f + m) % n) (xs.drop m) w' ∧ Has w' w.heap.size 5 ((xs.take m).map fun (v : Nat) => Value.int .u8 v).toArray
set_option maxHeartbeats 1000000 in
theorem take_yes (b g n q f : Nat) (cs xs : List Nat) (i : Int) (m : Nat) (w : World) (h : Ring w b g n q f cs xs) (hm : 1 ≤ m) (two : ((m : Int) = i ∧ m ≤ xs.length) ∨ ((xs.length : Int) < i ∧ m = xs.length)) :
    Calls Try.prog 18 #[.pointer (some ⟨b, 0, none⟩), .int .i64 i] w fun e w' => e = .returned (.slice (some ⟨w.heap.size, 0, none⟩) m m) ∧ Took w b g n q f xs m w' := by
  have hn := h.core.le
  have hq := h.core.cap
  have hr := h.core.room
  have hmx : m ≤ xs.length := by omega
  have hmk := fun W => make_run m (by omega) W
  have hT := (Turned.refl b g w).alloc (.cells (Array.replicate m (Value.int .u8 0)) 5)
  have hH : Has (w.alloc (.cells (Array.replicate m (Value.int .u8 0)) 5)) w.heap.size 5 ((xs.take 0 ++ List.replicate (m - 0) 0).map fun (v : Nat) => Value.int .u8 v).toArray := by
    have e9 : ((xs.take 0 ++ List.replicate (m - 0) 0).map fun (v : Nat) => Value.int .u8 v).toArray = Array.replicate m (Value.int .u8 0) := by
      rw [rep_cells, List.take_zero, List.nil_append, Nat.sub_zero]
    rw [e9]
    exact Has.new w _ _
  have hD := h.core.alloc (.cells (Array.replicate m (Value.int .u8 0)) 5)
  have hbl : b < w.heap.size := h.core.lt_.1
  have hgl : g < w.heap.size := h.core.lt_.2
  have hat := h.at_
  have hlen := len_any b xs.length w h.core.cells.2.2
  rcases two with ⟨rfl, hle⟩ | ⟨hle, hmc⟩
  all_goals
    try (rw [← hmc] at hlen hle; clear hmc)
    have HAT := Lib.hid hat
    clear hat
    go_enter Try.func18, Try.ntmps18
    go_wp2_with (go_at_call 19; ((with_reducible refine hlen.mono ?_); rintro e w' ⟨rfl, rfl⟩))
    generalize hwa : w.alloc (.cells (Array.replicate m (Value.int .u8 0)) 5) = wa at *
    clear hwa hmk
    generalize hob : w.heap.size = ob at *
    go_loopw [17] (fun i wr => Taking w b g n q f cs xs m i wr) (fun i _ => m - (intOf i).toNat)
    case atStart => exact ⟨0, by omega, rfl, hT, hD, by rw [hob]; exact hH⟩
    case round =>
      clear hT hH hD
      obtain ⟨k, hk, rfl, hTr, hC, hL⟩ := hrel
      rw [hob] at hL
      obtain ⟨c0, c1, c2⟩ := hC.cells
      have hf := hC.first
      by_cases hlt : k < m
      · have hj : (f + k) % n < n := Nat.mod_lt _ (by omega)
        have hcell := hC.slot_ _ hj
        rw [HAT.out k (by omega)] at hcell
        have hmine : wr.cell? ⟨ob, k, none⟩ = some (.int .u8 0) := by
          rw [hL.cell k, List.getElem?_toArray, List.getElem?_map, fill_at xs 0 m k hlt hmx]
          rfl
        have hmz := hL.frozen k
        have hs := fun W (hW : Core W b g n q f xs.length cs) => slot_any b g n q f _ cs k W hW (by omega)
        have hst := Lib.hid (fill_step xs 0 m k hlt hmx)
        generalize xs.getD k 0 = new at *
        generalize (f + k) % n = p at *
        go_wp2
        go_region_with (go_at_call 29; ((with_reducible refine (hs _ (by exact hC.same rfl)).mono ?_); rintro e W2 ⟨rfl, kk, rfl⟩))
        all_goals
          go_wp2
          go_roundw
          case rel =>
            refine ⟨k + 1, by omega, by go_num, (hTr.setCell (p := ⟨ob, k, none⟩) (.inr (.inr (by simp; omega))) (.int .u8 new)).like rfl rfl rfl rfl, (hC.far (p := ⟨ob, k, none⟩) (by simp; omega) (by simp; omega) (.int .u8 new)).same rfl, ?_⟩
            have h9 := hL.set_ k (.int .u8 new)
            rw [List.setIfInBounds_toArray, ← List.map_set, hst.out] at h9
            rw [hob]
            exact h9
          case measure => simp [intOf]; omega
      · have hk' : k = m := by omega
        subst hk'
        have hR : Ring wr b g n q f cs xs := ⟨hC, HAT.out⟩
        have hdr := drop_any b g n q f cs xs k wr hR hmx
        rw [Nat.sub_self, List.replicate_zero, List.append_nil] at hL
        have hbg : b ≠ ob ∧ g ≠ ob := by omega
        clear hR
        go_wp2_with (go_at_call 30; ((with_reducible refine hdr.mono ?_); rintro e w' ⟨rfl, hB⟩))
        go_ret
        obtain ⟨cs2, hR2, hT2⟩ := hB
        exact ⟨by rw [hob]; rfl, ⟨cs2, hR2, hTr.trans hT2⟩, by rw [hob]; exact hT2.has hL (by omega) (by omega)⟩
end Go.Proofs.Ytfimgkomfnfjkaa.RU8
end
section
/- A round of a range over a function, under the widest fence: regions that draw their order go by the plain walk's laws; what the rounds leave as it was. -/
set_option linter.unusedVariables false
namespace Go.Proofs.Ytfimgkomfnfjkaa.Reg
open Go.RowKit
section
variable {P : Program} {md : Region.Mode} {ops : Array Oper} {Q : Exit → Act → World → Prop} {S : World → Prop} {n : Nat}
/-- The widest fence, in a round or not. -/
def Wide (F : Fence) : Prop := F.plain = Fence.wide
theorem wide_plain : Wide Fence.wide := rfl
theorem wide_round (r : Nat) : Wide (Fence.wide.inRound r) := rfl
variable {F : Fence}
theorem Wide.fn (h : Wide F) (f : FuncId) : F.fn f := by
  have : F.plain.fn f := by rw [show F.plain = Fence.wide from h]; exact trivial
  exact this
theorem Wide.depth (h : Wide F) : F.depth = none := by
  have : F.plain.depth = none := by rw [show F.plain = Fence.wide from h]; rfl
  exact this
theorem Wide.calls (h : Wide F) {f : FuncId} {args : Array Value} {w : World} {R : Ending → World → Prop} (hc : Calls P f args w R) : CallsIn F n P f args w R := by
  have : CallsIn F.plain n P f args w R := by rw [show F.plain = Fence.wide from h]; exact callsIn_wide.2 hc
  exact this
theorem Wide.rows (h : Wide F) {row : String} {args : Array Value} {w : World} {R : Value → World → Prop} (hc : Rows P row args w R) : RowsIn F n P row args w R := by
  have : RowsIn F.plain n P row args w R := by rw [show F.plain = Fence.wide from h]; exact fun c cs _ => let ⟨v, w', h1, h2⟩ := hc c cs; ⟨v, w', h1, stepsIn_wide.2 h2⟩
  exact this
/-- An operation that is no defer statement: what the plain walk shows of it holds under that fence. -/
theorem oper_wide (hF : Wide F) {o : Oper} {a : Act} {w : World} {K : Act → World → Prop} (hd : ∀ c, o.op ≠ .defer c) (h : o.wp P a w K Q) : o.wpIn F n P a w K Q := by
  refine ⟨fun f _ => hF.fn f, ?_⟩
  rw [Oper.semAt_plain F _ _ hd]
  unfold Oper.wp at h
  generalize (execOp a.eval o).run P w = x at *
  have hn : F.depth.isSome = true → 1 ≤ n := fun h => by rw [hF.depth] at h; cases h
  cases x with
  | ok x w' =>
    cases x <;> simp only [Oper.upon, Oper.uponIn] at h ⊢ <;>
      first
        | exact h
        | exact ⟨hn, hF.calls (h.mono fun e w'' he => by cases e <;> exact he)⟩
        | exact ⟨hn, hF.rows h⟩
  | halt x w' => cases x <;> simp only [Oper.upon, Oper.uponIn] at h ⊢ <;> exact h
theorem any_wide (hF : Wide F) (hd : ∀ (i : Nat) (o : Oper), ops[i]? = some o → ∀ c, o.op ≠ .defer c) (hq : ¬ LetsOut Q) : ∀ (fuel : Nat) (listed : Array Bool) (a : Act) (w : World),
    wpAny P md ops Q fuel listed a w → wpAnyIn F n P md ops Q fuel listed a w
  | 0, _, _, _, H => H
  | fuel + 1, listed, a, w, H => by
    refine ⟨H.1, fun i hi => ?_⟩
    have h := H.2 i hi
    unfold wpOp at h
    unfold wpOpIn
    cases ho : ops[i]? with
    | none => simp only [ho] at h ⊢; exact any_wide hF hd hq fuel _ _ _ h
    | some o =>
      simp only [ho] at h ⊢
      split
      · rename_i hw
        rw [if_pos hw] at h
        rcases h with h | h
        · exact oper_wide hF (hd i o ho) (Oper.wp_mono (fun a' w' => any_wide hF hd hq fuel _ a' w') h)
        · exact absurd h.2 hq
      · rename_i hw
        rw [if_neg hw] at h
        exact ⟨fun f _ => hF.fn f, any_wide hF hd hq fuel _ _ _ h⟩
def noDefer (l : List Oper) : Bool := l.all fun o => match o.op with | .defer _ => false | _ => true
theorem noDefer_spec {l : List Oper} (h : noDefer l = true) : ∀ (i : Nat) (o : Oper), l.toArray[i]? = some o → ∀ c, o.op ≠ .defer c := by
  intro i o hi c hc
  rw [List.getElem?_toArray] at hi
  have := List.all_eq_true.1 h o (List.mem_of_getElem? hi)
  rw [hc] at this
  cases this
/-- Q, but 'False' where the machine has no room. -/
def NoOut (Q : Exit → Act → World → Prop) : Exit → Act → World → Prop
  | .outgrown, _, _ => False
  | e, a, w => Q e a w
theorem NoOut.imp : ∀ (e : Exit) (a : Act) (w : World), NoPanic (NoOut Q) e a w → Q e a w := fun e a w h => by
  cases e <;> first | exact h | exact (h : False).elim
theorem not_out : ¬ LetsOut (NoPanic (NoOut Q)) := fun ⟨_, _, h⟩ => h
/-- The beginning, under that fence. -/
theorem beginW (hF : Wide F) {l : List Oper} {id : Nat} {a : Act} {w : World} (hm : P.follows .mixedOrders = true) (hd : noDefer l = true) (hS : S w.drew)
    (h : S w.drew → wpAnyH P .any l.toArray (NoPanic (NoOut Q)) S l.toArray.size (Array.replicate l.toArray.size false) a w.drew) : (Code.region id l.toArray true).wpIn F n P Q a w :=
  wpIn_mono (wpIn_region_any hm (any_wide hF (noDefer_spec hd) not_out _ _ _ _ (wpAny_of_held _ _ _ _ (h hS)))) NoOut.imp
theorem doneW {l : List Oper} {listed : Array Bool} {a : Act} {w : World} (hr : Region.ready md l.toArray listed = []) (h : Q .normal a w) (fuel : Nat) : wpAnyH P md l.toArray (NoPanic (NoOut Q)) S fuel listed a w := done (Q := NoOut Q) hr h fuel
end
end Go.Proofs.Ytfimgkomfnfjkaa.Reg
namespace Go.Proofs.Ytfimgkomfnfjkaa
open Go.RowKit
/-- What lies below B is as it was, but for the blocks of S. -/
structure KeptTo (B : Nat) (S : List Nat) (w w' : World) : Prop where
  os : w'.os = w.os
  tape : w'.tape = w.tape
  output : w'.output = w.output
  size : w.heap.size ≤ w'.heap.size
  block : ∀ k, k < B → k ∉ S → w'.heap[k]? = w.heap[k]?
theorem KeptTo.refl (B : Nat) (S : List Nat) (w : World) : KeptTo B S w w := ⟨rfl, rfl, rfl, Nat.le_refl _, fun _ _ _ => rfl⟩
theorem KeptTo.trans {B : Nat} {S : List Nat} {a b c : World} (h : KeptTo B S a b) (k : KeptTo B S b c) : KeptTo B S a c :=
  ⟨k.os.trans h.os, k.tape.trans h.tape, k.output.trans h.output, Nat.le_trans h.size k.size, fun i hi h1 => (k.block i hi h1).trans (h.block i hi h1)⟩
theorem KeptTo.of_kept {B : Nat} {S T : List Nat} {a b : World} (h : Kept T a b) (hB : B ≤ a.heap.size) (hs : ∀ k ∈ T, k < B → k ∈ S) : KeptTo B S a b :=
  ⟨h.os, h.tape, h.output, h.size, fun k hk h1 => h.block k (by omega) fun h2 => h1 (hs k h2 hk)⟩
theorem KeptTo.of_below {B B' : Nat} {S : List Nat} {a b : World} (h : Below B' a b) (hB : B ≤ B') : KeptTo B S a b := ⟨h.os, h.tape, h.output, h.size, fun k hk _ => h.block k (by omega)⟩
theorem KeptTo.cell {B : Nat} {S : List Nat} {a b : World} (h : KeptTo B S a b) {p : Addr} (hp : p.block < B) (h1 : p.block ∉ S) : b.cell? p = a.cell? p := World.cell?_of_block (w := a) (h.block p.block hp h1)
theorem KeptTo.drew_ {B : Nat} {S : List Nat} {a b : World} (h : KeptTo B S a.drew b) : KeptTo B S a b := ⟨h.os, h.tape, h.output, h.size, h.block⟩
theorem keptTo_b {B : Nat} {S : List Nat} {w : World} (hn : B ≤ w.heap.size) (W : World) (l : Nat) (o o' : Obj) (hl : w.heap.size ≤ l) (_ : W.heap[l]? = some o) (_ : o.isCells = false) (_ : o.isWalk = false) : KeptTo B S W (W.putObj l o') :=
  ⟨rfl, rfl, rfl, by simp, fun k hk _ => World.putObj_heap_other (by omega)⟩
theorem KeepsOthers.of_below {B : Nat} {a b : World} (h : Below B a b) (hk : ∀ (k : Nat) (o : Obj), a.heap[k]? = some o → o.isCells = false → k < B) : KeepsOthers a b :=
  ⟨h.size, fun k o h1 h2 => (h.block k (hk k o h1 h2)).trans h1⟩
end Go.Proofs.Ytfimgkomfnfjkaa
end
section
/- The reference: may samples stand in a frame? -/
set_option linter.unusedSimpArgs false
set_option linter.unusedVariables false
namespace Go.Proofs.Ytfimgkomfnfjkaa.Frm
open Go.RowKit
theorem refmay_any (A : Option Addr) (n c : Nat) (ys : List Samp) (w : World) (hv : Row.Vals sampS w A n ys) (hs : Small ys) (hn : n ≤ 9223372036854775807) :
    Calls Try.prog 43 #[.slice A n c] w fun e w' => e = .returned (.bool (mayT ys)) ∧ w = w' := by
  have hlen := hv.len_
  have hend : (∀ s ∈ ys, Fits s) → mayT ys = (decide (1 ≤ (n : Int)) && decide ((n : Int) ≤ 32)) := fun h => by
    unfold mayT
    rw [Bool.eq_iff_iff, Bool.and_eq_true, decide_eq_true_iff, decide_eq_true_iff, decide_eq_true_iff, hlen]
    exact ⟨fun h1 => by omega, fun h1 => ⟨by omega, by omega, h⟩⟩
  have hbad : ∀ j, j < n → ¬ Fits (ys.getD j (0, false)) → mayT ys = false := fun j hj h => by
    unfold mayT
    refine decide_eq_false fun h1 => h (h1.2.2 _ ?_)
    rw [List.getD_eq_getElem?_getD, List.getElem?_eq_getElem (by omega)]
    exact List.getElem_mem _
  have HEnd := Lib.hid hend
  have HBad := Lib.hid hbad
  clear hend hbad
  go_enter Try.func43, Try.ntmps43
  go_wp2
  go_loop [3] (fun i => ∃ j : Nat, j ≤ n ∧ i = .int .i64 (j : Nat) ∧ ∀ k, k < j → Fits (ys.getD k (0, false))) (fun i => n - (intOf i).toNat)
  case atStart => exact ⟨0, by omega, rfl, fun k hk => absurd hk (by omega)⟩
  case round =>
    obtain ⟨j, hj, rfl, hall⟩ := hrel
    have HA := Lib.hid hall
    clear hall
    by_cases hjn : j < n
    · obtain ⟨x, rfl, _⟩ := hv.cells (by omega)
      obtain ⟨hc0, hc1⟩ := samp_cells hv j hjn
      have hsj := hs.at_ j
      obtain ⟨v, hvj⟩ : ∃ v, (ys.getD j (0, false)).1 = v := ⟨_, rfl⟩
      rw [hvj] at hc0 hsj
      have HV := Lib.hid hvj
      clear hvj hc1
      by_cases hlo : v < -32768
      · have hres := Lib.hid (HBad.out j hjn (by unfold Fits; rw [HV.out]; omega))
        go_wp2
        go_ret
        exact ⟨by rw [hres.out]; rfl, rfl⟩
      · by_cases hhi : 32767 < v
        · have hres := Lib.hid (HBad.out j hjn (by unfold Fits; rw [HV.out]; omega))
          go_wp2
          go_ret
          exact ⟨by rw [hres.out]; rfl, rfl⟩
        · have hf := Lib.hid (show Fits (ys.getD j (0, false)) by unfold Fits; rw [HV.out]; omega)
          go_wp2
          go_round
          case rel => exact ⟨j + 1, by omega, by go_num, fun k hk => by
            rcases (by omega : k < j ∨ k = j) with h1 | h1
            · exact HA.out k h1
            · rw [h1]; exact hf.out⟩
          case measure => simp [intOf]; omega
    · have hjn2 : j = n := by omega
      have hres := Lib.hid (HEnd.out fun s hs' => by
        obtain ⟨i, hi, rfl⟩ := List.getElem_of_mem hs'
        have := HA.out i (by omega)
        rwa [List.getD_eq_getElem?_getD, List.getElem?_eq_getElem hi] at this)
      subst hjn2
      rcases (by omega : j = 0 ∨ (1 ≤ j ∧ j ≤ 32) ∨ 32 < j) with h1 | h1 | h1
      · have e : mayT ys = false := by rw [hres.out, decide_eq_false (by omega), Bool.false_and]
        have HE := Lib.hid e
        clear e
        have h2 : ¬ 1 ≤ (j : Int) := by omega
        go_wp2
        go_ret
        exact ⟨by rw [HE.out]; rfl, rfl⟩
      · have e : mayT ys = true := by rw [hres.out, decide_eq_true (by omega), decide_eq_true (by omega)]; rfl
        have HE := Lib.hid e
        clear e
        have h2 : 1 ≤ (j : Int) ∧ (j : Int) ≤ 32 := by omega
        go_wp2
        go_ret
        exact ⟨by rw [HE.out]; rfl, rfl⟩
      · have e : mayT ys = false := by rw [hres.out, decide_eq_false (p := (j : Int) ≤ 32) (by omega), Bool.and_false]
        have HE := Lib.hid e
        clear e
        have h2 : 1 ≤ (j : Int) ∧ ¬ (j : Int) ≤ 32 := by omega
        go_wp2
        go_ret
        exact ⟨by rw [HE.out]; rfl, rfl⟩
end Go.Proofs.Ytfimgkomfnfjkaa.Frm
end
section
/- A ring of uint8: a copy of it. -/
set_option linter.unusedSimpArgs false
set_option linter.unusedVariables false
namespace Go.Proofs.Ytfimgkomfnfjkaa.RU8
open Go.RowKit

def SCloned (w : World) (n : Nat) (cs : List Nat) (e : Ending) (w' : World) : Prop :=
  ∃ g' q', e = .returned (.slice (some ⟨g', 0, none⟩) n q') ∧ w.heap.size ≤ g' ∧ n ≤ q' ∧ q' ≤ 9223372036854775807 ∧ (∃ tl, Has w' g' 5 (vals cs ++ tl).toArray) ∧ Below w.heap.size w w'
theorem sclone_any (g n q : Nat) (cs : List Nat) (w : World) (hv : Vals w (some ⟨g, 0, none⟩) n cs) (hn : 0 < n) (hm : n ≤ 65536) :
    Calls Try.prog 42 #[.slice (some ⟨g, 0, none⟩) n q] w (SCloned w n cs) := by
  have hO := own_empty w 5
  have hV := hv.below ((Below.refl w.heap.size w).alloc (Nat.le_refl _) (.cells #[] 5))
  have hInfo : (Try.prog.info? 5).map (fun i => (i.zero, i.size, i.bytes)) = some (some (.int .u8 0), 1, 1) := by kernel_rfl
  have HInfo := Lib.hid hInfo
  clear hInfo
  have heq : ∀ W : World, (binOp .eql 25 (.slice (some ⟨g, 0, none⟩) n q) (.slice none 0 0)).run Try.prog W = .ok (.bool false) W := fun W => Lib.run_eql_slice_nil W _ 5 (some ⟨g, 0, none⟩) n q 0 0 Try.underlying25
  go_enter Try.func42, Try.ntmps42
  go_wp2_with (at_builtin; refine wpList_append_vals rfl (.tmp 5) (.tmp 6) _ rfl w.heap.size 5 1 (by omega) Try.underlying25 HInfo.out _ 0 [] rfl hO (some ⟨g, 0, none⟩) n q cs rfl hV (by omega) (by simp) ?_; intro v1 w1 hO1 hg1 hat1)
  go_ret
  simp only [Nat.zero_add, List.nil_append] at hO1
  have hB := ((Below.refl w.heap.size w).alloc (Nat.le_refl _) (.cells #[] 5)).grown hg1 (by simp) (fun k hk => by cases hk; exact Nat.le_refl _)
  rcases hO1.2 with ⟨_, h0⟩ | ⟨g', cap, cur, rfl, hb, hh, h1, h2, h3, h4⟩
  · omega
  · unfold maxLen at h2
    refine ⟨g', cap, rfl, hb, h1, by omega, ⟨cur.toList.drop n, ?_⟩, hB⟩
    rw [← h4, Nat.mul_one, List.take_append_drop]
    exact hh

def Cloned (w : World) (n f : Nat) (cs xs : List Nat) (e : Ending) (w' : World) : Prop :=
  ∃ b' g' q', e = .returned (.pointer (some ⟨b', 0, none⟩)) ∧ Ring w' b' g' n q' f cs xs ∧ w.heap.size ≤ b' ∧ w.heap.size ≤ g' ∧ Below w.heap.size w w'
set_option maxHeartbeats 4000000 in
theorem clone_any (b g n q f : Nat) (cs xs : List Nat) (w : World) (h : Ring w b g n q f cs xs) :
    Calls Try.prog 27 #[.pointer (some ⟨b, 0, none⟩)] w (Cloned w n f cs xs) := by
  obtain ⟨c0, c1, c2⟩ := h.core.cells
  have hn := h.core.le
  have hf := h.core.first
  have hbl := h.core.lt_.1
  have hV : Vals w (some ⟨g, 0, none⟩) n cs := by
    obtain ⟨tl, h4⟩ := h.core.slots
    have := Vals.has (ys := cs) h4
    rwa [h.core.size] at this
  have hsc := fun W (hW : Vals W (some ⟨g, 0, none⟩) n cs) => sclone_any g n q cs W hW (by omega) hn
  have hH := Lib.hid h
  clear h
  go_enter Try.func27, Try.ntmps27
  go_wp2
  go_region_held3 (fun W' => W'.cell? ⟨b, 0, none⟩ = some (.slice (some ⟨g, 0, none⟩) n q) ∧ W'.cell? ⟨b, 1, none⟩ = some (.int .i64 f) ∧ W'.cell? ⟨b, 2, none⟩ = some (.int .i64 xs.length)) (first | exact ⟨k0, k1, k2⟩ | go_keep)
    (first | (go_at_call 42; ((with_reducible refine (hsc _ (by exact hV.same rfl)).mono ?_); rintro e W2 ⟨g', q', rfl, hg, hq1, hq2, hsl, hB⟩; have hBw : Below w.heap.size w W2 := ⟨hB.os, hB.tape, hB.output, hB.size, hB.block⟩; have k0 := (hBw.cell (p := ⟨b, 0, none⟩) hbl).trans c0; have k1 := (hBw.cell (p := ⟨b, 1, none⟩) hbl).trans c1; have k2 := (hBw.cell (p := ⟨b, 2, none⟩) hbl).trans c2)))
  all_goals
    go_wp2
    go_ret
    obtain ⟨tl, hsl⟩ := hsl
    have hO := hH.out
    exact ⟨W2.heap.size, g', q', rfl, ⟨⟨Has.new W2 _ _, ⟨tl, hsl.alloc _⟩, hO.core.size, hO.core.first, hO.core.room, hO.core.pow, hq1, hq2⟩, hO.at_⟩, hBw.size, hg, hBw.alloc hBw.size _⟩
end Go.Proofs.Ytfimgkomfnfjkaa.RU8
end
section
/- The reference's frames as bytes. -/
set_option linter.unusedSimpArgs false
set_option linter.unusedVariables false
namespace Go.Proofs.Ytfimgkomfnfjkaa.Frm
open Go.RowKit RU8

/-- A frame's bytes. -/
def frameT (seq : Nat) (l : List Samp) : List Nat := [165, 90] ++ Crc.sealZ (bodyT seq l)
theorem bodyT_bytes {seq : Nat} {l : List Samp} (h : seq < 256) (hl : l.length < 256) : Bytes (bodyT seq l) := by
  intro y hy
  unfold bodyT at hy
  rcases List.mem_cons.1 hy with rfl | hy
  · exact h
  · rcases List.mem_cons.1 hy with rfl | hy
    · exact hl
    · exact sampsT_bytes l y hy
theorem bodyT_length (seq : Nat) (l : List Samp) : (bodyT seq l).length = 2 + 3 * l.length := by unfold bodyT; rw [List.length_cons, List.length_cons, sampsT_length]; omega
theorem frameT_length (seq : Nat) (l : List Samp) : (frameT seq l).length = 6 + 3 * l.length := by
  unfold frameT Crc.sealZ Crc.checkZ
  rw [List.length_append, List.length_append, bodyT_length]
  simp
  omega
def makeB (seq : Nat) (l : List Samp) : List Nat := if mayT l then frameT seq l else []
def makeE (l : List Samp) : Int := if mayT l then 0 else 1
/-- What a Make answers: new bytes, and the error's number. -/
def MakeIs (w : World) (seq : Nat) (l : List Samp) (e : Ending) (w' : World) : Prop :=
  ∃ v A c, v = .slice A (makeB seq l).length c ∧ e = .returned (.tuple #[v, .int .i64 (makeE l)]) ∧ (makeB seq l).length ≤ c ∧ c ≤ 9223372036854775807 ∧ w'.ownsRow w.heap.size 5 1 v (makeB seq l).length (vals (makeB seq l)) ∧ Below w.heap.size w w'
set_option maxHeartbeats 1000000 in
theorem refmake_any (seq : Nat) (hq : seq < 256) (A : Option Addr) (n c : Nat) (ys : List Samp) (w : World) (hv : Row.Vals sampS w A n ys) (hs : Small ys) (hn : n ≤ 9223372036854775807) :
    Calls Try.prog 28 #[.int .u8 seq, .slice A n c] w (MakeIs w seq ys) := by
  have hlen := hv.len_
  have hmay := refmay_any A n c ys w hv hs hn
  have hInfo : (Try.prog.info? 5).map (fun i => (i.zero, i.size, i.bytes)) = some (some (.int .u8 0), 1, 1) := by kernel_rfl
  have HInfo := Lib.hid hInfo
  clear hInfo
  cases hm : mayT ys with
  | false =>
    rw [hm] at hmay
    have h1 : makeB seq ys = [] := by unfold makeB; rw [hm]; rfl
    have h2 : makeE ys = 1 := by unfold makeE; rw [hm]; rfl
    have H1 := Lib.hid h1
    have H2 := Lib.hid h2
    clear h1 h2 hm hv
    go_enter Try.func28, Try.ntmps28
    go_wp2_with (go_at_call 43; ((with_reducible refine hmay.mono ?_); rintro e w' ⟨rfl, rfl⟩))
    go_ret2
    exact ⟨.slice none 0 0, none, 0, by rw [H1.out]; rfl, by rw [H2.out]; rfl, by rw [H1.out]; exact Nat.le_refl _, by omega, by rw [H1.out]; exact own_none _ _ _, Below.refl _ _⟩
  | true =>
    rw [hm] at hmay
    have h1 : makeB seq ys = frameT seq ys := by unfold makeB; rw [hm]; rfl
    have h2 : makeE ys = 0 := by unfold makeE; rw [hm]; rfl
    have H1 := Lib.hid h1
    have H2 := Lib.hid h2
    have hmm := hm
    unfold mayT at hmm
    have h3 := of_decide_eq_true hmm
    rw [hlen] at h3
    have hn1 := h3.1
    have hn32 := h3.2.1
    have hfit : ∀ j, j < n → Fits (ys.getD j (0, false)) := fun j hj => h3.2.2 _ (by rw [List.getD_eq_getElem?_getD, List.getElem?_eq_getElem (by omega)]; exact List.getElem_mem _)
    have HF := Lib.hid hfit
    clear h1 h2 hm hmm h3 hfit
    have hn8 : IntKind.u8.wrap (n : Int) = (n : Int) := by rw [IntKind.wrap_u8]; omega
    have hH0 := Has.new w 5 #[.int .u8 seq, .int .u8 n]
    have hO0 : World.ownsRow (w.alloc (.cells #[.int .u8 seq, .int .u8 n] 5)) w.heap.size 5 1 (.slice (some ⟨w.heap.size, 0, none⟩) 2 2) 2 (vals [seq, n]) :=
      ⟨rfl, .inr ⟨_, 2, _, rfl, Nat.le_refl _, hH0, Nat.le_refl _, by unfold maxLen; omega, rfl, rfl⟩⟩
    have hB0 := (Below.refl w.heap.size w).alloc (Nat.le_refl _) (.cells #[.int .u8 seq, .int .u8 n] 5)
    go_enter Try.func28, Try.ntmps28
    go_wp2_with (go_at_call 43; ((with_reducible refine hmay.mono ?_); rintro e w' ⟨rfl, rfl⟩))
    go_loopw [6, 7] (fun v i wr => ∃ (j m : Nat), j ≤ n ∧ i = .int .i64 (j : Nat) ∧ m = 2 + 3 * j ∧ wr.ownsRow w.heap.size 5 1 v m (vals ([seq, n] ++ sampsT (ys.take j))) ∧ Below w.heap.size w wr) (fun _ i _ => n - (intOf i).toNat)
    case atStart => exact ⟨0, 2, by omega, rfl, rfl, hO0, hB0⟩
    case round =>
      clear hH0 hO0 hB0
      obtain ⟨j, m, hj, rfl, hmj, hO, hB⟩ := hrel
      have HM := Lib.hid hmj
      have hm98 : m ≤ 98 := by omega
      clear hmj
      by_cases hjn : j < n
      · have hvr := hv.below hB
        obtain ⟨x, rfl, _⟩ := hv.cells (by omega)
        obtain ⟨hc0, hc1⟩ := samp_cells hvr j hjn
        have hf := HF.out j hjn
        have hst := sampsT_take ys j (by omega)
        generalize ys.getD j (0, false) = s at *
        obtain ⟨v, off⟩ := s
        unfold Fits at hf
        have hst2 : sampsT (ys.take (j + 1)) = sampsT (ys.take j) ++ [if off then 1 else 0, modT v % 256, modT v / 256] := hst
        have hmv : (modT v : Int) = (v + 65536) % 65536 := by unfold modT; omega
        obtain ⟨M, hM⟩ : ∃ M, modT v = M := ⟨_, rfl⟩
        rw [hM] at hmv hst2
        have hvm : (v + 65536) % 65536 = (M : Int) := hmv.symm
        have hM6 : M < 65536 := by rw [← hM]; exact modT_lt v
        obtain ⟨lo, hlo⟩ : ∃ lo, M % 256 = lo := ⟨_, rfl⟩
        obtain ⟨hi, hhi⟩ : ∃ hi, M / 256 = hi := ⟨_, rfl⟩
        rw [hlo, hhi] at hst2
        have hloz : (M : Int) % 256 = (lo : Int) := by omega
        have hhiz : (M : Int) / 256 = (hi : Int) := by omega
        have hlo8 : lo < 256 := by omega
        have hhi8 : hi < 256 := by omega
        have HST := Lib.hid hst2
        clear hst hst2 hM hlo hhi hmv hv
        cases off
        · skip
          have hOa := own_kept hO ((Kept.refl [] wr).alloc (.cells #[.int .u8 0, .int .u8 lo, .int .u8 hi] 5)) (by simp)
          have hBa := hB.alloc hB.size (.cells #[.int .u8 0, .int .u8 lo, .int .u8 hi] 5)
          have hVn : Vals (wr.alloc (.cells #[.int .u8 0, .int .u8 lo, .int .u8 hi] 5)) (some ⟨wr.heap.size, 0, none⟩) 3 [0, lo, hi] := Vals.has (ys := [0, lo, hi]) (tl := []) (Has.new wr _ _)
          have hjm : m + 3 ≤ 1048576 := by omega
          go_wp2_with (at_builtin; refine wpList_append_vals rfl (.tmp 36) (.tmp 44) _ rfl w.heap.size 5 1 (by omega) Try.underlying25 HInfo.out u6 m ([seq, n] ++ sampsT (ys.take j)) rfl (by exact hOa) _ 3 3 [0, lo, hi] rfl (by exact hVn) (by exact hjm) (by exact hBa.size) ?_; intro v1 W1 hO1 hg1 hat1; have hK1 := Kept.of_grown hg1; have hB1 := below_kept hBa hK1 hBa.size (own_in hOa))
          go_roundw
          case rel => exact ⟨j + 1, m + 3, by omega, by go_num, by have := HM.out; omega, by rw [HST.out, ← List.append_assoc]; exact hO1, hB1⟩
          case measure => simp [intOf]; omega
        · skip
          have hOa := own_kept hO ((Kept.refl [] wr).alloc (.cells #[.int .u8 1, .int .u8 lo, .int .u8 hi] 5)) (by simp)
          have hBa := hB.alloc hB.size (.cells #[.int .u8 1, .int .u8 lo, .int .u8 hi] 5)
          have hVn : Vals (wr.alloc (.cells #[.int .u8 1, .int .u8 lo, .int .u8 hi] 5)) (some ⟨wr.heap.size, 0, none⟩) 3 [1, lo, hi] := Vals.has (ys := [1, lo, hi]) (tl := []) (Has.new wr _ _)
          have hjm : m + 3 ≤ 1048576 := by omega
          go_wp2_with (at_builtin; refine wpList_append_vals rfl (.tmp 36) (.tmp 44) _ rfl w.heap.size 5 1 (by omega) Try.underlying25 HInfo.out u6 m ([seq, n] ++ sampsT (ys.take j)) rfl (by exact hOa) _ 3 3 [1, lo, hi] rfl (by exact hVn) (by exact hjm) (by exact hBa.size) ?_; intro v1 W1 hO1 hg1 hat1; have hK1 := Kept.of_grown hg1; have hB1 := below_kept hBa hK1 hBa.size (own_in hOa))
          go_roundw
          case rel => exact ⟨j + 1, m + 3, by omega, by go_num, by have := HM.out; omega, by rw [HST.out, ← List.append_assoc]; exact hO1, hB1⟩
          case measure => simp [intOf]; omega
      · have hjn2 : j = n := by omega
        subst hjn2
        have hbody : [seq, j] ++ sampsT (ys.take j) = bodyT seq ys := by rw [List.take_of_length_le (by omega)]; unfold bodyT; rw [hlen]; rfl
        rw [hbody] at hO
        obtain ⟨A9, c9, rfl, e1, e2, hV9, _⟩ := Vals.own hO
        have hbb := bodyT_bytes (seq := seq) (l := ys) hq (by omega)
        have hfin := Lib.hid (show [165, 90] ++ Crc.sealZ (bodyT seq ys) = frameT seq ys from rfl)
        have hfl := frameT_length seq ys
        have hseal := Crc.refseal_any A9 m c9 (bodyT seq ys) (wr.alloc (.cells #[.int .u8 165, .int .u8 90] 5)) (hV9.alloc _) hbb (by omega)
        have hHx := Has.new wr 5 #[.int .u8 165, .int .u8 90]
        have hBa := hB.alloc hB.size (.cells #[.int .u8 165, .int .u8 90] 5)
        have hsz : (wr.alloc (.cells #[.int .u8 165, .int .u8 90] 5)).heap.size = wr.heap.size + 1 := by simp
        have hml : 2 + (m + 2) = (frameT seq ys).length := by rw [hfl, hlen]; have := HM.out; omega
        unfold Crc.Sealed at hseal
        generalize Crc.sealZ (bodyT seq ys) = Z at *
        clear hbody hbb hfl hO hv
        go_wp2_with (first
          | (go_at_call 44; ((with_reducible refine hseal.mono ?_); rintro e W2 ⟨v2, rfl, hO2, hB2⟩; have hBb := hBa.trans (hB2.mono hBa.size); have hHy := hHx.below hB2 (by rw [hsz]; omega); obtain ⟨A8, c8, rfl, e3, e4, hV8, _⟩ := Vals.own hO2; have hO165 : World.ownsRow W2 w.heap.size 5 1 (.slice (some ⟨wr.heap.size, 0, none⟩) 2 2) 2 (vals [165, 90]) := ⟨rfl, .inr ⟨_, 2, _, rfl, hB.size, hHy, Nat.le_refl _, by unfold maxLen; omega, rfl, rfl⟩⟩))
          | (at_builtin; refine wpList_append_vals rfl (.tmp 46) (.tmp 48) _ rfl w.heap.size 5 1 (by omega) Try.underlying25 HInfo.out (.slice (some ⟨wr.heap.size, 0, none⟩) 2 2) 2 [165, 90] rfl (by exact hO165) A8 (m + 2) c8 Z rfl (by exact hV8) (by omega) (by exact hBb.size) ?_; intro v3 W3 hO3 hg3 hat3; have hK3 := Kept.of_grown hg3; have hB3 := below_kept hBb hK3 hBb.size (own_in hO165); rw [hfin.out, hml] at hO3; obtain ⟨A7, c7, rfl, e5, e6, hV7, _⟩ := Vals.own hO3))
        go_ret2
        exact ⟨_, A7, c7, by rw [H1.out], by rw [H2.out]; rfl, by rw [H1.out]; exact e5, e6, by rw [H1.out]; exact hO3, hB3⟩
end Go.Proofs.Ytfimgkomfnfjkaa.Frm
end
section
/- All that a ring has, taken out as a row of one's own. -/
set_option linter.unusedSimpArgs false
set_option linter.unusedVariables false
namespace Go.Proofs.Ytfimgkomfnfjkaa.RU8
open Go.RowKit
theorem take_all (r g n q f : Nat) (cs xs : List Nat) (c : Nat) (w : World) (h : Ring w r g n q f cs xs) (hc : xs.length = c) :
    Calls Try.prog 18 #[.pointer (some ⟨r, 0, none⟩), .int .i64 (c : Nat)] w fun e w' => ∃ v f' cs', e = .returned v ∧ w'.ownsRow w.heap.size 5 1 v c (vals xs) ∧ Ring w' r g n q f' cs' [] ∧ Turned r g w w' := by
  rcases Nat.eq_zero_or_pos c with h0 | h0
  · have hx : xs = [] := List.eq_nil_of_length_eq_zero (by omega)
    subst hx h0
    refine (take_no r 0 _ w h.core.cells.2.2 (.inr rfl)).mono ?_
    rintro e w' ⟨rfl, rfl⟩
    exact ⟨_, f, cs, rfl, own_none _ _ _, h, Turned.refl _ _ _⟩
  · have hn := h.core.le
    have hr := h.core.room
    refine (take_yes r g n q f cs xs (c : Int) c w h h0 (.inl ⟨rfl, by omega⟩)).mono ?_
    rintro e w' ⟨rfl, ⟨cs', hR, hT⟩, hH⟩
    rw [List.drop_eq_nil_of_le (by omega)] at hR
    rw [List.take_of_length_le (by omega)] at hH
    exact ⟨_, _, cs', rfl, ⟨by simp [vals, hc], .inr ⟨_, c, _, rfl, Nat.le_refl _, hH, Nat.le_refl _, by unfold maxLen; omega, by simp [hc], by rw [← hc]; exact List.take_of_length_le (by simp)⟩⟩, hR, hT⟩
end Go.Proofs.Ytfimgkomfnfjkaa.RU8
end
section
/- Frames there and back, reckoned. Nothing here speaks of a program. -/
set_option linter.unusedSimpArgs false
set_option linter.unusedVariables false
namespace Go.Proofs.Ytfimgkomfnfjkaa.Frm
open Go.RowKit RU8

theorem seal_sealed (ys : List Nat) : Crc.sealedB (Crc.sealZ ys) = true := by
  have hl : (Crc.sealZ ys).length = ys.length + 2 := by simp [Crc.sealZ, Crc.checkZ]
  unfold Crc.sealedB
  rw [hl, decide_eq_true (by omega), Bool.true_and, Nat.add_sub_cancel]
  have e : (Crc.sealZ ys).take ys.length = ys := by unfold Crc.sealZ; rw [List.take_append_of_le_length (Nat.le_refl _), List.take_length]
  rw [e]
  simp
theorem sealed_is {ys : List Nat} (h : Crc.sealedB ys = true) : 2 ≤ ys.length ∧ Crc.sealZ (ys.take (ys.length - 2)) = ys := by
  unfold Crc.sealedB at h
  rw [Bool.and_eq_true, decide_eq_true_iff, decide_eq_true_iff] at h
  exact h
/-- Sample k's bytes among all of them. -/
theorem samps_get (l : List Samp) (k m : Nat) (hk : k < l.length) (hm : m < 3) : (sampsT l)[3 * k + m]? = (sampT (l.getD k (0, false)))[m]? := by
  induction l generalizing k with
  | nil => simp at hk
  | cons s l ih =>
    rw [show sampsT (s :: l) = sampT s ++ sampsT l from rfl]
    have h3 : (sampT s).length = 3 := rfl
    cases k with
    | zero => rw [Nat.mul_zero, Nat.zero_add, List.getElem?_append_left (by omega)]; rfl
    | succ k =>
      rw [List.getElem?_append_right (by omega), h3, show 3 * (k + 1) + m - 3 = 3 * k + m by omega, ih k (by simpa using hk)]
      rfl
theorem frame_drop (seq : Nat) (l : List Samp) (r : List Nat) : ((frameT seq l ++ r).take (6 + 3 * l.length)).drop 2 = Crc.sealZ (bodyT seq l) := by
  rw [← frameT_length seq l, List.take_left']
  · rfl
  · rfl
/-- What stands where in a frame. -/
theorem frame_head (seq : Nat) (l : List Samp) (r : List Nat) : (frameT seq l ++ r).getD 0 0 = 165 ∧ (frameT seq l ++ r).getD 1 0 = 90 ∧ (frameT seq l ++ r).getD 2 0 = seq ∧ (frameT seq l ++ r).getD 3 0 = l.length := ⟨rfl, rfl, rfl, rfl⟩
theorem frame_samp (seq : Nat) (l : List Samp) (r : List Nat) (k m : Nat) (hk : k < l.length) (hm : m < 3) : (frameT seq l ++ r).getD (4 + 3 * k + m) 0 = (sampT (l.getD k (0, false))).getD m 0 := by
  have hs := sampsT_length l
  rw [List.getD_eq_getElem?_getD, List.getD_eq_getElem?_getD, ← samps_get l k m hk hm, show frameT seq l ++ r = [165, 90, seq, l.length] ++ (sampsT l ++ (Crc.checkZ (bodyT seq l) ++ r)) by
    unfold frameT Crc.sealZ bodyT
    simp]
  rw [List.getElem?_append_right (by simp; omega), show 4 + 3 * k + m - [165, 90, seq, l.length].length = 3 * k + m by simp; omega, List.getElem?_append_left (by omega)]
theorem val_back {v : Int} (h : -32768 ≤ v ∧ v ≤ 32767) : valT2 (modT v % 256) (modT v / 256) = v := by
  unfold valT2 modT
  split <;> omega
theorem val_there {lo hi : Nat} (h1 : lo < 256) (h2 : hi < 256) : modT (valT2 lo hi) = lo + 256 * hi ∧ -32768 ≤ valT2 lo hi ∧ valT2 lo hi ≤ 32767 := by
  unfold valT2 modT
  split <;> omega
/-- Bytes that are a frame's as far as byte i have nothing wrong at byte i. -/
theorem err_zero {b : List Nat} {seq : Nat} {l : List Samp} (hm : mayT l = true) {i : Nat} (hi : i < b.length) (hg : ∀ j, j ≤ i → j < 6 + 3 * l.length → b.getD j 0 = (frameT seq l).getD j 0)
    (hs : i + 1 = 6 + 3 * l.length → (b.take (6 + 3 * l.length)).drop 2 = Crc.sealZ (bodyT seq l)) : errAt b i = 0 := by
  unfold mayT at hm
  have hl := of_decide_eq_true hm
  have hf := frame_head seq l []
  rw [List.append_nil] at hf
  unfold errAt
  by_cases h4 : 4 ≤ i
  · have hz : sizeT b = 6 + 3 * l.length := by unfold sizeT; rw [hg 3 (by omega) (by omega), hf.2.2.2]
    rw [hz]
    by_cases hin : 6 + 3 * l.length ≤ i
    · rw [if_pos ⟨h4, hin⟩]
    · rw [if_neg (by omega), if_neg (by omega), if_neg (by omega), if_neg (by omega), if_neg (by omega), if_neg, if_neg]
      · rintro ⟨h1, h2⟩
        rw [hs h1, seal_sealed] at h2
        cases h2
      · rintro ⟨h1, h2, h3⟩
        obtain ⟨k, rfl⟩ : ∃ k, i = 4 + 3 * k + 0 := ⟨(i - 4) / 3, by omega⟩
        have := frame_samp seq l [] k 0 (by omega) (by omega)
        rw [List.append_nil] at this
        rw [hg _ (Nat.le_refl _) (by omega), this] at h3
        have e : (sampT (l.getD k (0, false))).getD 0 0 = if (l.getD k (0, false)).2 then 1 else 0 := rfl
        rw [e] at h3
        split at h3 <;> omega
  · rw [if_neg (by omega), if_neg (by omega)]
    rcases (by omega : i = 0 ∨ i = 1 ∨ i = 2 ∨ i = 3) with rfl | rfl | rfl | rfl
    · rw [hg 0 (by omega) (by omega), hf.1, if_neg (by omega), if_neg (by omega), if_pos (by omega)]
    · rw [hg 1 (by omega) (by omega), hf.2.1, if_neg (by omega), if_neg (by omega), if_pos (by omega)]
    · rw [if_neg (by omega), if_neg (by omega), if_pos (by omega)]
    · rw [hg 3 (by omega) (by omega), hf.2.2.2, if_neg (by omega), if_neg (by omega), if_pos (by omega)]
theorem first_zero {b : List Nat} {k : Nat} (h : ∀ i, i < k → errAt b i = 0) : firstErr b k = 0 := by
  induction k with
  | zero => rfl
  | succ k ih => exact firstErr_step (ih fun i hi => h i (by omega)) (h k (by omega))
/-- What was made is found, whatever stands behind (P6.3). -/
theorem look_frame {seq : Nat} {l : List Samp} (hm : mayT l = true) (r : List Nat) : lookE (frameT seq l ++ r) = 0 ∧ lookSeq (frameT seq l ++ r) = seq ∧ lookL (frameT seq l ++ r) = l ∧ lookN (frameT seq l ++ r) = 6 + 3 * l.length := by
  have hm2 := hm
  unfold mayT at hm2
  have hl := of_decide_eq_true hm2
  have hlen : (frameT seq l ++ r).length = 6 + 3 * l.length + r.length := by rw [List.length_append, frameT_length]
  have hz : sizeT (frameT seq l ++ r) = 6 + 3 * l.length := by unfold sizeT; rw [(frame_head seq l r).2.2.2]
  have hE : lookE (frameT seq l ++ r) = 0 := by
    refine lookE_ok (i := 6 + 3 * l.length) (first_zero fun i hi => err_zero hm (by omega) (fun j _ hj => ?_) fun _ => frame_drop seq l r) (by omega) (by omega)
    rw [List.getD_eq_getElem?_getD, List.getD_eq_getElem?_getD, List.getElem?_append_left (by rw [frameT_length]; exact hj)]
  obtain ⟨h1, h2, h3⟩ := look_ok hE
  refine ⟨hE, h1.trans (frame_head seq l r).2.2.1, ?_, h3.trans hz⟩
  rw [h2, (frame_head seq l r).2.2.2]
  refine List.ext_getElem (by rw [unsampsT_length]) fun k h4 h5 => ?_
  have e : (unsampsT (frameT seq l ++ r) l.length)[k] = sampAt (frameT seq l ++ r) k := by simp [unsampsT]
  have eg : l.getD k (0, false) = l[k] := by rw [List.getD_eq_getElem?_getD, List.getElem?_eq_getElem h5]; rfl
  have hfit := hl.2.2 _ (List.getElem_mem h5)
  have g0 := frame_samp seq l r k 0 h5 (by omega)
  have g1 := frame_samp seq l r k 1 h5 (by omega)
  have g2 := frame_samp seq l r k 2 h5 (by omega)
  rw [eg] at g0 g1 g2
  rw [e]
  unfold sampAt
  rw [show 5 + 3 * k = 4 + 3 * k + 1 by omega, show 6 + 3 * k = 4 + 3 * k + 2 by omega, show 4 + 3 * k = 4 + 3 * k + 0 by omega, g0, g1, g2]
  generalize l[k] = s at *
  obtain ⟨v, o⟩ := s
  refine Prod.ext (val_back hfit) ?_
  cases o <;> rfl
/-- Cut off anywhere it is too short (P6.3). -/
theorem look_cut {seq : Nat} {l : List Samp} (hm : mayT l = true) (k : Nat) (hk : k < 6 + 3 * l.length) : lookE ((frameT seq l).take k) = 6 := by
  have hm2 := hm
  unfold mayT at hm2
  have hl := of_decide_eq_true hm2
  have hlen : ((frameT seq l).take k).length = k := by rw [List.length_take, frameT_length]; omega
  have hget : ∀ j, j < k → ((frameT seq l).take k).getD j 0 = (frameT seq l).getD j 0 := fun j hj => by rw [List.getD_eq_getElem?_getD, List.getD_eq_getElem?_getD, List.getElem?_take_of_lt hj]
  have h0 : firstErr ((frameT seq l).take k) k = 0 := first_zero fun i hi => err_zero hm (by omega) (fun j hj _ => hget j (by omega)) (fun h => by omega)
  have he : errAt ((frameT seq l).take k) k = 6 := by
    unfold errAt
    rw [if_neg, if_pos (by omega)]
    rintro ⟨h1, h2⟩
    unfold sizeT at h2
    have := frame_head seq l []
    rw [List.append_nil] at this
    rw [hget 3 (by omega), this.2.2.2] at h2
    omega
  rw [lookE_bad h0 (by omega) (by rw [he]; decide), he]
theorem err_all {b : List Nat} (h : lookE b = 0) (i : Nat) (hi : i < 102) : errAt b i = 0 := by
  have key : ∀ k, k ≤ 102 → firstErr b k = 0 := fun k hk => by
    by_cases h1 : firstErr b k = 0
    · exact h1
    · have := firstErr_stay h1 102 hk
      unfold lookE at h
      rw [h] at this
      exact this.symm
  have h1 := key (i + 1) (by omega)
  rw [firstErr, if_neg (by rw [key i (by omega)]; simp)] at h1
  exact h1
theorem drop_three (b : List Nat) (k : Nat) (h : 4 + 3 * k + 3 ≤ b.length) : (b.drop 4).take (3 * (k + 1)) = (b.drop 4).take (3 * k) ++ [b.getD (4 + 3 * k) 0, b.getD (5 + 3 * k) 0, b.getD (6 + 3 * k) 0] := by
  have hd : (b.drop 4).length = b.length - 4 := List.length_drop
  have hg : ∀ j, j < b.length - 4 → ∀ hj : j < (b.drop 4).length, (b.drop 4)[j] = b.getD (4 + j) 0 := fun j h1 hj => by
    rw [List.getElem_drop, List.getD_eq_getElem?_getD, List.getElem?_eq_getElem (by omega)]
    rfl
  rw [show 3 * (k + 1) = 3 * k + 1 + 1 + 1 by omega, List.take_succ_eq_append_getElem (by omega), List.take_succ_eq_append_getElem (by omega), List.take_succ_eq_append_getElem (by omega),
    hg _ (by omega), hg _ (by omega), hg _ (by omega), show 4 + (3 * k + 1) = 5 + 3 * k by omega, show 4 + (3 * k + 1 + 1) = 6 + 3 * k by omega]
  simp
theorem take_four (b : List Nat) (h : 3 < b.length) : b.take 4 = [b.getD 0 0, b.getD 1 0, b.getD 2 0, b.getD 3 0] := by
  match b, h with
  | x0 :: x1 :: x2 :: x3 :: r, _ => rfl
/-- What is found was made so (P6.4). -/
theorem look_made {b : List Nat} (hb : Bytes b) (h : lookE b = 0) : mayT (lookL b) = true ∧ frameT (lookSeq b) (lookL b) = b.take (lookN b) ∧ lookN b ≤ b.length ∧ lookSeq b < 256 := by
  obtain ⟨e1, e2, e3⟩ := look_ok h
  rw [e1, e2, e3]
  have hall := err_all h
  have a0 := hall 0 (by omega)
  have a1 := hall 1 (by omega)
  have a3 := hall 3 (by omega)
  have hl3 : 3 < b.length := by
    unfold errAt at a3
    rw [if_neg (by omega)] at a3
    split at a3
    · cases a3
    · omega
  rw [err_at0 (by omega)] at a0
  rw [err_at1 (by omega)] at a1
  rw [err_at3 (by omega)] at a3
  have h0 : b.getD 0 0 = 165 := by
    by_cases h1 : b.getD 0 0 = 165
    · exact h1
    · rw [if_pos h1] at a0; cases a0
  have h1 : b.getD 1 0 = 90 := by
    by_cases h1 : b.getD 1 0 = 90
    · exact h1
    · rw [if_pos h1] at a1; cases a1
  have h3 : 1 ≤ b.getD 3 0 ∧ b.getD 3 0 ≤ 32 := by
    by_cases h1 : b.getD 3 0 < 1 ∨ 32 < b.getD 3 0
    · rw [if_pos h1] at a3; cases a3
    · omega
  obtain ⟨n, hn⟩ : ∃ n, b.getD 3 0 = n := ⟨_, rfl⟩
  have hz : sizeT b = 6 + 3 * n := by unfold sizeT; rw [hn]
  rw [hn] at h3 ⊢
  rw [hz]
  have hlong : 6 + 3 * n ≤ b.length := by
    have a := hall (5 + 3 * n) (by omega)
    unfold errAt at a
    rw [if_neg (by omega)] at a
    split at a
    · cases a
    · omega
  have hall4 : ∀ i, 4 ≤ i → i < 6 + 3 * n → (¬ (i + 2 < 6 + 3 * n ∧ i % 3 = 1 ∧ 1 < b.getD i 0)) ∧ ¬ (i + 1 = 6 + 3 * n ∧ Crc.sealedB ((b.take (6 + 3 * n)).drop 2) = false) := fun i h4 hi => by
    have a := hall i (by omega)
    unfold errAt at a
    rw [hz, if_neg (by omega), if_neg (by omega), if_neg (by omega), if_neg (by omega), if_neg (by omega)] at a
    split at a
    · cases a
    · split at a
      · cases a
      · exact ⟨by assumption, by assumption⟩
  have hseal : Crc.sealedB ((b.take (6 + 3 * n)).drop 2) = true := by
    have := (hall4 (5 + 3 * n) (by omega) (by omega)).2
    cases hc : Crc.sealedB ((b.take (6 + 3 * n)).drop 2)
    · exact absurd ⟨by omega, hc⟩ this
    · rfl
  have hsamps : ∀ k, k ≤ n → sampsT (unsampsT b k) = (b.drop 4).take (3 * k) := fun k hk => by
    induction k with
    | zero => rfl
    | succ k ih =>
      have hfl : b.getD (4 + 3 * k) 0 ≤ 1 := by
        have := (hall4 (4 + 3 * k) (by omega) (by omega)).1
        omega
      have hv := val_there (hb.at_ (5 + 3 * k)) (hb.at_ (6 + 3 * k))
      have hlo := hb.at_ (5 + 3 * k)
      have hhi := hb.at_ (6 + 3 * k)
      rw [unsampsT_step, show sampsT (unsampsT b k ++ [sampAt b k]) = sampsT (unsampsT b k) ++ sampT (sampAt b k) by unfold sampsT; rw [List.flatMap_append]; simp, ih (by omega), drop_three b k (by omega)]
      refine congrArg (fun z : List Nat => (b.drop 4).take (3 * k) ++ z) ?_
      unfold sampT sampAt
      simp only []
      rw [hv.1, show (b.getD (5 + 3 * k) 0 + 256 * b.getD (6 + 3 * k) 0) % 256 = b.getD (5 + 3 * k) 0 by omega, show (b.getD (5 + 3 * k) 0 + 256 * b.getD (6 + 3 * k) 0) / 256 = b.getD (6 + 3 * k) 0 by omega]
      rcases (by omega : b.getD (4 + 3 * k) 0 = 0 ∨ b.getD (4 + 3 * k) 0 = 1) with h9 | h9 <;> rw [h9] <;> rfl
  have hfour : b.take 4 = [165, 90, b.getD 2 0, n] := by
    rw [take_four b hl3, h0, h1, hn]
  have hbody : bodyT (b.getD 2 0) (unsampsT b n) = (b.take (4 + 3 * n)).drop 2 := by
    have e : b.take (4 + 3 * n) = b.take 4 ++ (b.drop 4).take (3 * n) := by rw [← List.take_add]
    rw [e, hfour]
    unfold bodyT
    rw [unsampsT_length, hsamps n (Nat.le_refl _)]
    rfl
  refine ⟨?_, ?_, hlong, hb.at_ 2⟩
  · unfold mayT
    refine decide_eq_true ⟨by rw [unsampsT_length]; omega, by rw [unsampsT_length]; omega, fun s hs => ?_⟩
    unfold unsampsT at hs
    obtain ⟨k, hk, rfl⟩ := List.mem_map.1 hs
    exact (val_there (hb.at_ (5 + 3 * k)) (hb.at_ (6 + 3 * k))).2
  · obtain ⟨q1, q2⟩ := sealed_is hseal
    have hlX : ((b.take (6 + 3 * n)).drop 2).length = 4 + 3 * n := by rw [List.length_drop, List.length_take]; omega
    rw [hlX, show 4 + 3 * n - 2 = 2 + 3 * n by omega, List.take_drop, List.take_take, show min (2 + (2 + 3 * n)) (6 + 3 * n) = 4 + 3 * n by omega, ← hbody] at q2
    unfold frameT
    rw [q2]
    have e : b.take (6 + 3 * n) = b.take 4 ++ (b.drop 4).take (2 + 3 * n) := by rw [show 6 + 3 * n = 4 + (2 + 3 * n) by omega, List.take_add]
    rw [e, hfour]
    rfl
end Go.Proofs.Ytfimgkomfnfjkaa.Frm
end
section
/- The walk over bytes, and its events, reckoned. Nothing here speaks of a program. -/
set_option linter.unusedSimpArgs false
set_option linter.unusedVariables false
namespace Go.Proofs.Ytfimgkomfnfjkaa.Par
open Go.RowKit RU8 Frm

theorem look_nil : lookE [] = 6 := lookE_bad (i := 0) rfl (by decide) (by decide)
theorem err_before {b : List Nat} {k : Nat} (h : firstErr b k = 0) (j : Nat) (hj : j < k) : errAt b j = 0 := by
  induction k with
  | zero => omega
  | succ k ih =>
    have h1 : firstErr b k = 0 := Classical.byContradiction fun h2 => by
      have := firstErr_stay h2 (k + 1) (by omega)
      rw [h] at this
      exact h2 this.symm
    rw [firstErr, if_neg (by rw [h1]; simp)] at h
    rcases (by omega : j = k ∨ j < k) with rfl | h2
    · exact h
    · exact ih h1 h2
theorem getD_more (c r : List Nat) (i : Nat) (h : i < c.length) : (c ++ r).getD i 0 = c.getD i 0 := by
  rw [List.getD_eq_getElem?_getD, List.getElem?_append_left h, ← List.getD_eq_getElem?_getD]
theorem err_more {c : List Nat} (r : List Nat) {k : Nat} (h0 : firstErr c k = 0) (h6 : errAt c k ≠ 6) : errAt (c ++ r) k = errAt c k := by
  have hlen : 4 ≤ k → 3 < c.length := fun h => by
    have := err_before h0 3 (by omega)
    rcases Nat.lt_or_ge 3 c.length with h1 | h1
    · exact h1
    · unfold errAt at this
      rw [if_neg (by omega), if_pos h1] at this
      exact absurd this (by decide)
  have hs : 3 < c.length → sizeT (c ++ r) = sizeT c := fun h => by unfold sizeT; rw [getD_more c r 3 h]
  by_cases hz : 4 ≤ k ∧ sizeT c ≤ k
  · unfold errAt
    rw [if_pos hz, if_pos (by rw [hs (hlen hz.1)]; exact hz)]
  · have hk : k < c.length := by
      rcases Nat.lt_or_ge k c.length with h1 | h1
      · exact h1
      · unfold errAt at h6
        rw [if_neg hz, if_pos h1] at h6
        exact absurd rfl h6
    have hkr : ¬ (c ++ r).length ≤ k := by rw [List.length_append]; omega
    have g0 := getD_more c r 0 (by omega)
    have gk := getD_more c r k hk
    by_cases h4 : 4 ≤ k
    · have g1 := getD_more c r 1 (by omega)
      have g3 := getD_more c r 3 (by omega)
      have e := hs (by omega)
      have ht : k + 1 = sizeT c → (c ++ r).take (sizeT c) = c.take (sizeT c) := fun h => by rw [List.take_append_of_le_length (by omega)]
      unfold errAt
      rw [e, if_neg hz, if_neg hz, if_neg hkr, if_neg (by omega : ¬ c.length ≤ k), g0, g1, g3, gk]
      by_cases h1 : k + 1 = sizeT c
      · rw [ht h1]
      · simp only [h1, false_and]
    · unfold errAt
      rw [if_neg (show ¬ (4 ≤ k ∧ sizeT (c ++ r) ≤ k) by omega), if_neg hkr, if_neg (show ¬ (4 ≤ k ∧ sizeT c ≤ k) by omega), if_neg (show ¬ c.length ≤ k by omega)]
      rcases (by omega : k = 0 ∨ k = 1 ∨ k = 2 ∨ k = 3) with rfl | rfl | rfl | rfl
      · rw [g0]; simp
      · rw [gk]; simp
      · simp
      · rw [gk]; simp
theorem first_more {c : List Nat} (r : List Nat) (k : Nat) (h : firstErr c k ≠ 6) : firstErr (c ++ r) k = firstErr c k := by
  induction k with
  | zero => rfl
  | succ k ih =>
    by_cases h0 : firstErr c k = 0
    · have e := ih (by rw [h0]; decide)
      rw [firstErr, if_neg (by rw [h0]; simp)] at h
      rw [firstErr, if_neg (by rw [e, h0]; simp), firstErr, if_neg (by rw [h0]; simp)]
      exact err_more r h0 h
    · rw [firstErr, if_pos h0] at h
      have e := ih h
      rw [firstErr, if_pos (by rw [e]; exact h0), firstErr, if_pos h0, e]
/-- What isn't cut off reads the same, whatever stands behind. -/
theorem look_more {c : List Nat} (hc : Bytes c) (r : List Nat) (h : lookE c ≠ 6) : lookE (c ++ r) = lookE c ∧ lookSeq (c ++ r) = lookSeq c ∧ lookL (c ++ r) = lookL c ∧ lookN (c ++ r) = lookN c := by
  have e : lookE (c ++ r) = lookE c := first_more r 102 h
  by_cases h0 : lookE c = 0
  · obtain ⟨h1, h2, h3, _⟩ := look_made hc h0
    have hf := look_frame h1 (c.drop (lookN c) ++ r) (seq := lookSeq c)
    rw [h2, ← List.append_assoc, List.take_append_drop] at hf
    have hn : lookN c = 6 + 3 * (lookL c).length := by
      have := congrArg List.length h2
      rw [frameT_length, List.length_take] at this
      omega
    exact ⟨hf.1.trans h0.symm, hf.2.1, hf.2.2.1, hf.2.2.2.trans hn.symm⟩
  · have h1 := look_bad h0
    have h2 := look_bad (b := c ++ r) (by rw [e]; exact h0)
    exact ⟨e, by rw [h1.1, h2.1], by rw [h1.2.1, h2.2.1], by rw [h1.2.2, h2.2.2]⟩
theorem look_size {b : List Nat} (hb : Bytes b) (h : lookE b = 0) : lookN b = 6 + 3 * (lookL b).length ∧ lookN b ≤ b.length ∧ 1 ≤ (lookL b).length ∧ (lookL b).length ≤ 32 ∧ lookSeq b < 256 := by
  obtain ⟨h1, h2, h3, h4⟩ := look_made hb h
  have := congrArg List.length h2
  rw [frameT_length, List.length_take] at this
  have hm := of_decide_eq_true (by simpa only [mayT] using h1)
  exact ⟨by omega, h3, hm.1, hm.2.1, h4⟩
theorem lookN_pos {b : List Nat} (h : lookE b = 0) : 6 ≤ lookN b := by rw [(look_ok h).2.2]; unfold sizeT; omega

/-- A frame of the walk: where it begins, its number, its samples. -/
structure Place where
  at_ : Nat
  seq : Nat
  l : List Samp
def Place.end_ (p : Place) : Nat := p.at_ + (6 + 3 * p.l.length)
def walkP (o : Nat) (b : List Nat) : List Place :=
  if h6 : lookE b = 6 then [] else if h0 : lookE b ≠ 0 then walkP (o + 1) (b.drop 1) else ⟨o, lookSeq b, lookL b⟩ :: walkP (o + lookN b) (b.drop (lookN b))
termination_by b.length
decreasing_by
  · cases b with
    | nil => exact absurd look_nil h6
    | cons => simp
  · cases b with
    | nil => exact absurd look_nil h6
    | cons =>
      have := lookN_pos (Classical.byContradiction h0)
      rw [List.length_drop]
      simp
      omega
def endP (o : Nat) (b : List Nat) : Nat :=
  if h6 : lookE b = 6 then o else if h0 : lookE b ≠ 0 then endP (o + 1) (b.drop 1) else endP (o + lookN b) (b.drop (lookN b))
termination_by b.length
decreasing_by
  · cases b with
    | nil => exact absurd look_nil h6
    | cons => simp
  · cases b with
    | nil => exact absurd look_nil h6
    | cons =>
      have := lookN_pos (Classical.byContradiction h0)
      rw [List.length_drop]
      simp
      omega
theorem walk_end {b : List Nat} (o : Nat) (h : lookE b = 6) : walkP o b = [] ∧ endP o b = o := by
  constructor
  · unfold walkP; exact dif_pos h
  · unfold endP; exact dif_pos h
theorem walk_bad {b : List Nat} (o : Nat) (h6 : lookE b ≠ 6) (h0 : lookE b ≠ 0) : walkP o b = walkP (o + 1) (b.drop 1) ∧ endP o b = endP (o + 1) (b.drop 1) := by
  constructor
  · conv => lhs; unfold walkP
    exact (dif_neg h6).trans (dif_pos h0)
  · conv => lhs; unfold endP
    exact (dif_neg h6).trans (dif_pos h0)
theorem walk_good {b : List Nat} (o : Nat) (h0 : lookE b = 0) : walkP o b = ⟨o, lookSeq b, lookL b⟩ :: walkP (o + lookN b) (b.drop (lookN b)) ∧ endP o b = endP (o + lookN b) (b.drop (lookN b)) := by
  have h6 : ¬ lookE b = 6 := by rw [h0]; decide
  have h1 : ¬ lookE b ≠ 0 := fun h => h h0
  constructor
  · conv => lhs; unfold walkP
    exact (dif_neg h6).trans (dif_neg h1)
  · conv => lhs; unfold endP
    exact (dif_neg h6).trans (dif_neg h1)
theorem ne_nil {b : List Nat} (h6 : lookE b ≠ 6) : 1 ≤ b.length := by
  cases b with
  | nil => exact absurd look_nil h6
  | cons => simp
theorem bytes_drop {b : List Nat} (h : Bytes b) (k : Nat) : Bytes (b.drop k) := fun y hy => h y (List.mem_of_mem_drop hy)
theorem bytes_take {b : List Nat} (h : Bytes b) (k : Nat) : Bytes (b.take k) := fun y hy => h y (List.mem_of_mem_take hy)
/-- An induction over the walk. -/
theorem walk_ind {motive : Nat → List Nat → Prop} (hend : ∀ o b, lookE b = 6 → motive o b) (hbad : ∀ o b, lookE b ≠ 6 → lookE b ≠ 0 → motive (o + 1) (b.drop 1) → motive o b)
    (hgood : ∀ o b, lookE b = 0 → motive (o + lookN b) (b.drop (lookN b)) → motive o b) (o : Nat) (b : List Nat) : motive o b := by
  obtain ⟨n, hn⟩ : ∃ n, b.length = n := ⟨_, rfl⟩
  induction n using Nat.strongRecOn generalizing o b with
  | ind n ih =>
    by_cases h6 : lookE b = 6
    · exact hend o b h6
    · have h1 := ne_nil h6
      by_cases h0 : lookE b = 0
      · have := lookN_pos h0
        exact hgood o b h0 (ih (b.drop (lookN b)).length (by rw [List.length_drop]; omega) _ _ rfl)
      · exact hbad o b h6 h0 (ih (b.drop 1).length (by rw [List.length_drop]; omega) _ _ rfl)
theorem end_ge (o : Nat) (b : List Nat) : o ≤ endP o b := by
  induction o, b using walk_ind with
  | hend o b h => rw [(walk_end o h).2]; omega
  | hbad o b h6 h0 ih => rw [(walk_bad o h6 h0).2]; omega
  | hgood o b h0 ih => rw [(walk_good o h0).2]; omega
theorem end_le (o : Nat) (b : List Nat) (hb : Bytes b) : endP o b ≤ o + b.length := by
  induction o, b using walk_ind with
  | hend o b h => rw [(walk_end o h).2]; omega
  | hbad o b h6 h0 ih =>
    rw [(walk_bad o h6 h0).2]
    have := ih (bytes_drop hb 1)
    have := ne_nil h6
    rw [List.length_drop] at *
    omega
  | hgood o b h0 ih =>
    rw [(walk_good o h0).2]
    have := ih (bytes_drop hb _)
    have := (look_size hb h0).2.1
    rw [List.length_drop] at *
    omega
def Place.shift (s : Nat) (p : Place) : Place := { p with at_ := p.at_ + s }
theorem walk_shift (o : Nat) (b : List Nat) (s : Nat) : walkP (o + s) b = (walkP o b).map (Place.shift s) ∧ endP (o + s) b = endP o b + s := by
  induction o, b using walk_ind with
  | hend o b h => rw [(walk_end _ h).1, (walk_end _ h).1, (walk_end _ h).2, (walk_end _ h).2]; exact ⟨rfl, rfl⟩
  | hbad o b h6 h0 ih =>
    rw [(walk_bad (o + s) h6 h0).1, (walk_bad o h6 h0).1, (walk_bad (o + s) h6 h0).2, (walk_bad o h6 h0).2, show o + s + 1 = o + 1 + s by omega]
    exact ih
  | hgood o b h0 ih =>
    rw [(walk_good (o + s) h0).1, (walk_good o h0).1, (walk_good (o + s) h0).2, (walk_good o h0).2, show o + s + lookN b = o + lookN b + s by omega, List.map_cons, ih.1]
    generalize lookSeq b = q
    generalize lookL b = l
    generalize (walkP (o + lookN b) (b.drop (lookN b))).map (Place.shift s) = r
    exact ⟨rfl, ih.2⟩
/-- Of what is cut, the walk is the beginning of the walk of all; the rest is walked as by itself. -/
theorem walk_cut (o : Nat) (c : List Nat) (hc : Bytes c) (r : List Nat) :
    walkP o (c ++ r) = walkP o c ++ walkP (endP o c) ((c ++ r).drop (endP o c - o)) ∧ endP o (c ++ r) = endP (endP o c) ((c ++ r).drop (endP o c - o)) := by
  induction o, c using walk_ind with
  | hend o c h =>
    rw [(walk_end o h).1, (walk_end o h).2, Nat.sub_self, List.nil_append, List.drop_zero]
    exact ⟨rfl, rfl⟩
  | hbad o c h6 h0 ih =>
    have e := (look_more hc r h6).1
    have h6' : lookE (c ++ r) ≠ 6 := by rw [e]; exact h6
    have h0' : lookE (c ++ r) ≠ 0 := by rw [e]; exact h0
    have hl := ne_nil h6
    obtain ⟨i1, i2⟩ := ih (bytes_drop hc 1)
    have hge := end_ge (o + 1) (c.drop 1)
    have hd : c.drop 1 ++ r = (c ++ r).drop 1 := by rw [List.drop_append_of_le_length hl]
    rw [(walk_bad o h6' h0').1, (walk_bad o h6' h0').2, (walk_bad o h6 h0).1, (walk_bad o h6 h0).2, ← hd, i1, i2, hd, List.drop_drop, show 1 + (endP (o + 1) (c.drop 1) - (o + 1)) = endP (o + 1) (c.drop 1) - o by omega]
    exact ⟨rfl, rfl⟩
  | hgood o c h0 ih =>
    obtain ⟨e, e1, e2, e3⟩ := look_more hc r (by rw [h0]; decide)
    have hl := (look_size hc h0).2.1
    obtain ⟨i1, i2⟩ := ih (bytes_drop hc _)
    have hge := end_ge (o + lookN c) (c.drop (lookN c))
    have hd : c.drop (lookN c) ++ r = (c ++ r).drop (lookN c) := by rw [List.drop_append_of_le_length hl]
    rw [(walk_good o (e.trans h0)).1, (walk_good o (e.trans h0)).2, (walk_good o h0).1, (walk_good o h0).2, e1, e2, e3, ← hd, i1, i2, hd, List.drop_drop, show lookN c + (endP (o + lookN c) (c.drop (lookN c)) - (o + lookN c)) = endP (o + lookN c) (c.drop (lookN c)) - o by omega]
    exact ⟨rfl, rfl⟩

/-! ### Events -/
/-- An event: its kind, its At, its sample. -/
abbrev Ev := Nat × Nat × Samp
def evS (s : Nat) : List Samp → List Ev
  | [] => []
  | x :: l => (2, s, x) :: evS (s + 1) l
theorem evS_length (s : Nat) (l : List Samp) : (evS s l).length = l.length := by
  induction l generalizing s with
  | nil => rfl
  | cons x l ih => simp [evS, ih]
theorem evS_append (s : Nat) (l m : List Samp) : evS s (l ++ m) = evS s l ++ evS (s + l.length) m := by
  induction l generalizing s with
  | nil => rfl
  | cons x l ih => simp only [List.cons_append, evS, ih, List.length_cons, show s + 1 + l.length = s + (l.length + 1) by omega]
/-- Where the events stand: where the last frame ended, its number, how many samples there were, and whether there is a gap. -/
structure St where
  pend : Nat
  prev : Option Nat
  s : Nat
  gap : Bool
def inOrder (prev : Option Nat) (q : Nat) : Bool := match prev with
  | none => true
  | some p => decide (q = (p + 1) % 256)
def St.next (st : St) (p : Place) : St := if inOrder st.prev p.seq then ⟨p.end_, some p.seq, st.s + p.l.length, false⟩ else ⟨p.end_, some p.seq, st.s, true⟩
def St.evs (st : St) (p : Place) : List Ev := if inOrder st.prev p.seq then (if st.gap || decide (p.at_ ≠ st.pend) then [(1, st.s, (0, false))] else []) ++ evS st.s p.l else []
def eventsL (st : St) : List Place → List Ev
  | [] => []
  | p :: ps => st.evs p ++ eventsL (st.next p) ps
def afterL (st : St) : List Place → St
  | [] => st
  | p :: ps => afterL (st.next p) ps
theorem events_append (st : St) (ps qs : List Place) : eventsL st (ps ++ qs) = eventsL st ps ++ eventsL (afterL st ps) qs := by
  induction ps generalizing st with
  | nil => rfl
  | cons p ps ih => simp only [List.cons_append, eventsL, afterL, ih, List.append_assoc]
theorem after_append (st : St) (ps qs : List Place) : afterL st (ps ++ qs) = afterL (afterL st ps) qs := by
  induction ps generalizing st with
  | nil => rfl
  | cons p ps ih => simp only [List.cons_append, afterL, ih]
def start : St := ⟨0, none, 0, false⟩
def eventsT (b : List Nat) : List Ev := eventsL start (walkP 0 b)
def endT (b : List Nat) : Nat := endP 0 b
/-- P7.3. -/
theorem events_cut (b : List Nat) (hb : Bytes b) (k : Nat) (hk : k ≤ b.length) :
    (∃ r, eventsT b = eventsT (b.take k) ++ r) ∧ endT (b.take k) ≤ k ∧ endT (b.take k) ≤ endT b ∧ endT (b.drop (endT (b.take k))) = endT b - endT (b.take k) ∧
      (walkP 0 (b.drop (endT (b.take k)))).length + (walkP 0 (b.take k)).length = (walkP 0 b).length := by
  obtain ⟨h1, h2⟩ := walk_cut 0 (b.take k) (bytes_take hb k) (b.drop k)
  rw [List.take_append_drop] at h1 h2
  have hle := end_le 0 (b.take k) (bytes_take hb k)
  rw [List.length_take] at hle
  have hge := end_ge (endP 0 (b.take k)) (b.drop (endP 0 (b.take k)))
  have hs := walk_shift 0 (b.drop (endP 0 (b.take k))) (endP 0 (b.take k))
  rw [Nat.zero_add] at hs
  rw [Nat.sub_zero] at h1 h2
  unfold eventsT endT
  refine ⟨⟨_, by rw [h1, events_append]⟩, by omega, by rw [h2]; exact hge, by rw [h2, hs.2]; omega, ?_⟩
  rw [h1, hs.1, List.length_append, List.length_map]
  omega
end Go.Proofs.Ytfimgkomfnfjkaa.Par
end
section
/- Frames in memory: rows of structs whose samples lie in rows of their own; and where the events stand behind so many of them. -/
set_option linter.unusedSimpArgs false
set_option linter.unusedVariables false
namespace Go.Proofs.Ytfimgkomfnfjkaa.Par
open Go.RowKit RU8 Frm

/-- A slice that a struct holds. -/
structure Ptr where
  A : Option Addr
  n : Nat
  c : Nat
def Ptr.none_ : Ptr := ⟨none, 0, 0⟩
/-- These slices read as these lists of samples, and lie apart from block g. -/
structure Held (w : World) (base : Nat) (g : Option Nat) (qs : List Ptr) (ls : List (List Samp)) : Prop where
  len : qs.length = ls.length
  read : ∀ i, i < ls.length → Row.Vals sampS w (qs.getD i Ptr.none_).A (qs.getD i Ptr.none_).n (ls.getD i [])
  cap : ∀ q ∈ qs, q.n ≤ q.c ∧ q.c ≤ 9223372036854775807 ∧ q.n ≤ 32
  far : ∀ q ∈ qs, ∀ x, q.A = some x → base ≤ x.block ∧ x.block < w.heap.size ∧ some x.block ≠ g
theorem getD_mem {α : Type} (l : List α) (d : α) (i : Nat) (h : i < l.length) : l.getD i d ∈ l := by
  rw [List.getD_eq_getElem?_getD, List.getElem?_eq_getElem h]; exact List.getElem_mem h
theorem Held.none_ (w : World) (base : Nat) (g : Option Nat) : Held w base g [] [] := ⟨rfl, (fun i h => by simp at h), (fun q h => by cases h), (fun q h => by cases h)⟩
theorem Held.kept {w w' : World} {base : Nat} {g : Option Nat} {qs : List Ptr} {ls : List (List Samp)} {S : List Nat} (h : Held w base g qs ls) (hk : Kept S w w') (hS : ∀ k ∈ S, some k = g ∨ k < base) : Held w' base g qs ls :=
  ⟨h.len, fun i hi => (h.read i hi).kept hk fun _ x hx hm => by
      obtain ⟨h1, h2, h3⟩ := h.far _ (getD_mem _ _ i (by rw [h.len]; exact hi)) x hx
      rcases hS _ hm with e | e
      · exact h3 e
      · omega,
    h.cap, fun q hq x hx => by
      obtain ⟨h1, h2, h3⟩ := h.far q hq x hx
      exact ⟨h1, Nat.lt_of_lt_of_le h2 hk.size, h3⟩⟩
theorem Held.below {w w' : World} {base : Nat} {g : Option Nat} {qs : List Ptr} {ls : List (List Samp)} (h : Held w base g qs ls) (hB : Below w.heap.size w w') : Held w' base g qs ls :=
  h.kept (Kept.of_below (S := []) hB) (fun k hk => by cases hk)
theorem Held.alloc {w : World} {base : Nat} {g : Option Nat} {qs : List Ptr} {ls : List (List Samp)} (h : Held w base g qs ls) (o : Obj) : Held (w.alloc o) base g qs ls :=
  h.kept ((Kept.refl [] w).alloc o) (fun k hk => by cases hk)
/-- The row that holds the structs has grown. -/
theorem Held.grown {w w' : World} {base : Nat} {v v' : Value} {qs : List Ptr} {ls : List (List Samp)} (h : Held w base v.ownBlock qs ls) (hg : w.grownBy w' v.ownBlock) (ho : v'.ownBlock = v.ownBlock ∨ v'.ownBlock = some w.heap.size) : Held w' base v'.ownBlock qs ls := by
  have h1 := h.kept (Kept.of_grown hg) (fun k hk => .inl (by cases e : v.ownBlock with
    | none => rw [e] at hk; cases hk
    | some g => rw [e] at hk; simp at hk; rw [hk]))
  refine ⟨h1.len, h1.read, h1.cap, fun q hq x hx => ?_⟩
  obtain ⟨a1, a2, a3⟩ := h.far q hq x hx
  obtain ⟨b1, b2, b3⟩ := h1.far q hq x hx
  refine ⟨b1, b2, ?_⟩
  rcases ho with e | e
  · rw [e]; exact b3
  · rw [e]; intro e2; injection e2 with e2; omega
theorem Held.snoc {w : World} {base : Nat} {g : Option Nat} {qs : List Ptr} {ls : List (List Samp)} (h : Held w base g qs ls) {q : Ptr} {l : List Samp} (hv : Row.Vals sampS w q.A q.n l) (h1 : q.n ≤ q.c ∧ q.c ≤ 9223372036854775807 ∧ q.n ≤ 32)
    (h2 : ∀ x, q.A = some x → base ≤ x.block ∧ x.block < w.heap.size ∧ some x.block ≠ g) : Held w base g (qs ++ [q]) (ls ++ [l]) := by
  refine ⟨by simp [h.len], fun i hi => ?_, fun r hr => ?_, fun r hr => ?_⟩
  · rw [List.length_append, List.length_singleton] at hi
    rcases Nat.lt_or_ge i ls.length with h3 | h3
    · have := h.read i h3
      rwa [List.getD_eq_getElem?_getD, List.getD_eq_getElem?_getD, List.getElem?_append_left (by rw [h.len]; exact h3), List.getElem?_append_left h3, ← List.getD_eq_getElem?_getD, ← List.getD_eq_getElem?_getD]
    · obtain rfl : i = ls.length := by omega
      rw [show (qs ++ [q]).getD ls.length Ptr.none_ = q by rw [← h.len]; simp, show (ls ++ [l]).getD ls.length [] = l by simp]
      exact hv
  · rcases List.mem_append.1 hr with h3 | h3
    · exact h.cap r h3
    · rw [List.mem_singleton.1 h3]; exact h1
  · rcases List.mem_append.1 hr with h3 | h3
    · exact h.far r h3
    · rw [List.mem_singleton.1 h3]; exact h2
theorem Held.wide {w : World} {base base' : Nat} {g : Option Nat} {qs : List Ptr} {ls : List (List Samp)} (h : Held w base g qs ls) (hb : base' ≤ base) : Held w base' g qs ls :=
  ⟨h.len, h.read, h.cap, fun q hq x hx => by obtain ⟨h1, h2, h3⟩ := h.far q hq x hx; exact ⟨by omega, h2, h3⟩⟩

/-- A place as it lies: where it begins, whether there is garbage ahead, its number, its samples' slice. -/
structure PV where
  at_ : Nat
  dirty : Bool
  seq : Nat
  q : Ptr
def placeS : Row.Shape PV := ⟨4, fun p => [.int .i64 (p.at_ : Nat), .bool p.dirty, .int .u8 (p.seq : Nat), .slice p.q.A p.q.n p.q.c], fun _ => rfl, by decide, fun p u hu => by
  simp at hu
  rcases hu with rfl | rfl | rfl | rfl <;> rfl⟩
/-- A frame as it lies. -/
def frameS : Row.Shape (Nat × Ptr) := ⟨2, fun p => [.int .u8 (p.1 : Nat), .slice p.2.A p.2.n p.2.c], fun _ => rfl, by decide, fun p u hu => by
  simp at hu
  rcases hu with rfl | rfl <;> rfl⟩
/-- An event as it lies. -/
def evSh : Row.Shape Ev := ⟨4, fun e => [.int .i64 (e.1 : Nat), .int .i64 (e.2.1 : Nat), .int .i32 e.2.2.1, .bool e.2.2.2], fun _ => rfl, by decide, fun p u hu => by
  simp at hu
  rcases hu with rfl | rfl | rfl | rfl <;> rfl⟩
def lastEnd (pend : Nat) (ps : List Place) : Nat := ps.foldl (fun _ p => p.end_) pend
theorem lastEnd_snoc (pend : Nat) (ps : List Place) (p : Place) : lastEnd pend (ps ++ [p]) = p.end_ := by simp [lastEnd, List.foldl_append]
def pvs (pend : Nat) : List Place → List Ptr → List PV
  | p :: ps, q :: qs => ⟨p.at_, decide (p.at_ ≠ pend), p.seq, q⟩ :: pvs p.end_ ps qs
  | _, _ => []
theorem pvs_length (pend : Nat) (ps : List Place) (qs : List Ptr) (h : qs.length = ps.length) : (pvs pend ps qs).length = ps.length := by
  induction ps generalizing pend qs with
  | nil => cases qs <;> rfl
  | cons p ps ih =>
    cases qs with
    | nil => simp at h
    | cons q qs => simp only [pvs, List.length_cons, ih p.end_ qs (by simpa using h)]
theorem pvs_snoc (pend : Nat) (ps : List Place) (qs : List Ptr) (h : qs.length = ps.length) (p : Place) (q : Ptr) : pvs pend (ps ++ [p]) (qs ++ [q]) = pvs pend ps qs ++ [⟨p.at_, decide (p.at_ ≠ lastEnd pend ps), p.seq, q⟩] := by
  induction ps generalizing pend qs with
  | nil =>
    cases qs with
    | nil => rfl
    | cons => simp at h
  | cons a ps ih =>
    cases qs with
    | nil => simp at h
    | cons b qs =>
      simp only [List.cons_append, pvs, ih a.end_ qs (by simpa using h)]
      rfl
def noPlace : Place := ⟨0, 0, []⟩
theorem pvs_get (pend : Nat) (ps : List Place) (qs : List Ptr) (h : qs.length = ps.length) (i : Nat) (hi : i < ps.length) (hi2 : i < (pvs pend ps qs).length) :
    (pvs pend ps qs)[i] = ⟨(ps.getD i noPlace).at_, decide ((ps.getD i noPlace).at_ ≠ lastEnd pend (ps.take i)), (ps.getD i noPlace).seq, qs.getD i Ptr.none_⟩ := by
  induction ps generalizing pend qs i with
  | nil => simp at hi
  | cons a ps ih =>
    cases qs with
    | nil => simp at h
    | cons b qs =>
      cases i with
      | zero => rfl
      | succ i =>
        have := ih a.end_ qs (by simpa using h) i (by simpa using hi) (by simpa [pvs] using hi2)
        simp only [pvs, List.getElem_cons_succ, this]
        rfl
/-! ### Where the events stand behind so many places -/
def stAt (ps : List Place) (i : Nat) : St := afterL start (ps.take i)
theorem take_step {α : Type} (l : List α) (d : α) (i : Nat) (h : i < l.length) : l.take (i + 1) = l.take i ++ [l.getD i d] := by
  rw [List.take_succ_eq_append_getElem h, List.getD_eq_getElem?_getD, List.getElem?_eq_getElem h]; rfl
theorem st_step (ps : List Place) (i : Nat) (h : i < ps.length) : stAt ps (i + 1) = (stAt ps i).next (ps.getD i noPlace) := by
  unfold stAt
  rw [take_step ps noPlace i h, after_append]; rfl
theorem ev_step (ps : List Place) (i : Nat) (h : i < ps.length) : eventsL start (ps.take (i + 1)) = eventsL start (ps.take i) ++ (stAt ps i).evs (ps.getD i noPlace) := by
  rw [take_step ps noPlace i h, events_append]
  simp only [eventsL, List.append_nil]
  rfl
theorem next_pend (st : St) (p : Place) : (st.next p).pend = p.end_ ∧ (st.next p).prev = some p.seq := by unfold St.next; split <;> exact ⟨rfl, rfl⟩
theorem st_pend (ps : List Place) (i : Nat) (h : i ≤ ps.length) : (stAt ps i).pend = lastEnd 0 (ps.take i) := by
  cases i with
  | zero => rfl
  | succ i => rw [st_step ps i (by omega), (next_pend _ _).1, take_step ps noPlace i (by omega), lastEnd_snoc]
theorem st_prev (ps : List Place) (i : Nat) (h : i ≤ ps.length) : (stAt ps i).prev = if i = 0 then none else some (ps.getD (i - 1) noPlace).seq := by
  cases i with
  | zero => rfl
  | succ i => rw [st_step ps i (by omega), (next_pend _ _).2]; simp
end Go.Proofs.Ytfimgkomfnfjkaa.Par
end
section
/- Events piece by piece, what waits and what is counted, reckoned. Nothing here speaks of a program. -/
set_option linter.unusedSimpArgs false
set_option linter.unusedVariables false
namespace Go.Proofs.Ytfimgkomfnfjkaa.Par
open Go.RowKit RU8 Frm
/-- The events that come when bytes come behind others. -/
def behindT (a b : List Nat) : List Ev := (eventsT (a ++ b)).drop (eventsT a).length
theorem events_pre (a b : List Nat) (h : Bytes (a ++ b)) : ∃ r, eventsT (a ++ b) = eventsT a ++ r := by
  have := (events_cut (a ++ b) h a.length (by rw [List.length_append]; omega)).1
  rwa [List.take_left' rfl] at this
theorem behind_all (a b : List Nat) (h : Bytes (a ++ b)) : eventsT a ++ behindT a b = eventsT (a ++ b) := by
  obtain ⟨r, hr⟩ := events_pre a b h
  unfold behindT
  rw [hr, List.drop_left' rfl]
theorem behind_len (a b : List Nat) (h : Bytes (a ++ b)) : (eventsT a).length + (behindT a b).length = (eventsT (a ++ b)).length := by rw [← behind_all a b h, List.length_append]
theorem behind_nil (a : List Nat) : behindT a [] = [] := by unfold behindT; rw [List.append_nil]; simp
theorem events_nil : eventsT [] = [] := by unfold eventsT; rw [(walk_end 0 look_nil).1]; rfl
theorem end_nil : endT [] = 0 := by unfold endT; rw [(walk_end 0 look_nil).2]
theorem behind_first (b : List Nat) : behindT [] b = eventsT b := by unfold behindT; rw [events_nil]; rfl
/-- How many bytes wait. -/
def waitT (b : List Nat) : Nat := b.length - endT b
theorem end_len (b : List Nat) (h : Bytes b) : endT b ≤ b.length := by have := end_le 0 b h; unfold endT; omega
/-- What is too short has fewer bytes than the longest frame. -/
theorem short_few {b : List Nat} (h : lookE b = 6) : b.length < 102 := by
  rcases Nat.lt_or_ge b.length 102 with h1 | h1
  · exact h1
  · have key : ∀ k, k ≤ 102 → firstErr b k ≠ 6 := fun k => by
      induction k with
      | zero => intro _; rw [firstErr]; decide
      | succ k ih =>
        intro hk
        rw [firstErr]
        split
        · exact ih (by omega)
        · unfold errAt
          split
          · decide
          · rw [if_neg (by omega)]
            repeat' split
            all_goals decide
    exact absurd h (key 102 (Nat.le_refl _))
theorem end_short (o : Nat) (b : List Nat) : lookE (b.drop (endP o b - o)) = 6 := by
  induction o, b using walk_ind with
  | hend o b h => rw [(walk_end o h).2, Nat.sub_self]; exact h
  | hbad o b h6 h0 ih =>
    rw [(walk_bad o h6 h0).2]
    have hge := end_ge (o + 1) (b.drop 1)
    rw [List.drop_drop, show 1 + (endP (o + 1) (b.drop 1) - (o + 1)) = endP (o + 1) (b.drop 1) - o by omega] at ih
    exact ih
  | hgood o b h0 ih =>
    rw [(walk_good o h0).2]
    have hge := end_ge (o + lookN b) (b.drop (lookN b))
    rw [List.drop_drop, show lookN b + (endP (o + lookN b) (b.drop (lookN b)) - (o + lookN b)) = endP (o + lookN b) (b.drop (lookN b)) - o by omega] at ih
    exact ih
/-- P8.4. -/
theorem wait_few (b : List Nat) : waitT b < 102 := by
  have h := short_few (end_short 0 b)
  rw [List.length_drop, Nat.sub_zero] at h
  exact h
/-- How many events of a kind there are. -/
def countL (k : Nat) (l : List Ev) : Nat := (l.filter fun e => decide (e.1 = k)).length
theorem countL_snoc (k : Nat) (l : List Ev) (e : Ev) : countL k (l ++ [e]) = countL k l + if e.1 = k then 1 else 0 := by
  unfold countL
  rw [List.filter_append, List.length_append]
  by_cases h : e.1 = k <;> simp [h]
theorem countL_le (k : Nat) (l : List Ev) : countL k l ≤ l.length := List.length_filter_le _ _
def countT (k : Nat) (b : List Nat) : Nat := countL k (eventsT b)
/-! ### Byte by byte -/
theorem frame_events {seq : Nat} {l : List Samp} (hs : seq < 256) (hl : mayT l = true) : eventsT (frameT seq l) = evS 0 l ∧ endT (frameT seq l) = (frameT seq l).length := by
  have h := look_frame (seq := seq) hl []
  rw [List.append_nil] at h
  have hn : lookN (frameT seq l) = (frameT seq l).length := by rw [h.2.2.2, frameT_length]
  have h1 := walk_good (b := frameT seq l) 0 h.1
  have hd : (frameT seq l).drop (lookN (frameT seq l)) = [] := by rw [hn]; exact List.drop_length
  rw [hd, (walk_end _ look_nil).1, (walk_end _ look_nil).2, h.2.1, h.2.2.1] at h1
  unfold eventsT endT
  rw [h1.1, h1.2, hn]
  refine ⟨?_, by omega⟩
  simp only [eventsL, List.append_nil]
  unfold St.evs
  simp [start, inOrder]
theorem cut_events {seq : Nat} {l : List Samp} (hs : seq < 256) (hl : mayT l = true) (k : Nat) (hk : k < (frameT seq l).length) : eventsT ((frameT seq l).take k) = [] := by
  have h := look_cut (seq := seq) hl k (by rw [frameT_length] at hk; omega)
  unfold eventsT
  rw [(walk_end 0 h).1]
  rfl
end Go.Proofs.Ytfimgkomfnfjkaa.Par
end
section
/- The reference's Look: the frame with which bytes begin. -/
set_option linter.unusedSimpArgs false
set_option linter.unusedVariables false
namespace Go.Proofs.Ytfimgkomfnfjkaa.Frm
open Go.RowKit RU8
end Go.Proofs.Ytfimgkomfnfjkaa.Frm
namespace Go.Proofs.Ytfimgkomfnfjkaa.Reg
open Go.RowKit
/-- Two operations may come up: each is walked. -/
theorem call2 {P : Program} {md : Region.Mode} {l : List Oper} {Q : Exit → Act → World → Prop} {S : World → Prop} {i j : Nat} {oi oj : Oper} {fuel : Nat} {listed : Array Bool} {a : Act} {w : World} (hi : l[i]? = some oi) (hj : l[j]? = some oj) (hr : Region.ready md l.toArray listed = [i, j]) (hwi : Region.wanted oi (yielded l.toArray a.tmps) = true) (hwj : Region.wanted oj (yielded l.toArray a.tmps) = true)
    (h : ∀ K : Act → World → Prop, Shut (∀ a w, S w → (S w → wpAnyH P md l.toArray Q S fuel (listed.setIfInBounds i true) a w) → K a w) → Oper.wp P oi a w K Q)
    (h' : ∀ K : Act → World → Prop, Shut (∀ a w, S w → (S w → wpAnyH P md l.toArray Q S fuel (listed.setIfInBounds j true) a w) → K a w) → Oper.wp P oj a w K Q) : wpAnyH P md l.toArray Q S (fuel + 1) listed a w :=
  wpAnyH_ready hr (by simp) (AllReadyH.cons (o := oi) (by rw [List.getElem?_toArray]; exact hi) (fun K hK => by rw [if_pos hwi]; exact h K hK) (AllReadyH.cons (o := oj) (by rw [List.getElem?_toArray]; exact hj) (fun K hK => by rw [if_pos hwj]; exact h' K hK) AllReadyH.nil))
end Go.Proofs.Ytfimgkomfnfjkaa.Reg
namespace Go.Proofs.Ytfimgkomfnfjkaa.Frm
open Go.RowKit RU8
/-- What a Look answers. -/
def LookIs (w : World) (b : List Nat) (e : Ending) (w' : World) : Prop :=
  ∃ A m c, e = .returned (.tuple #[.agg #[.int .u8 (lookSeq b), .slice A m c], .int .i64 (lookN b), .int .i64 (lookE b)]) ∧ m ≤ c ∧ c ≤ 9223372036854775807 ∧ Row.Vals sampS w' A m (lookL b) ∧ m ≤ 32 ∧ (∀ x, A = some x → w.heap.size ≤ x.block) ∧ Below w.heap.size w w'
set_option maxRecDepth 100000 in
set_option maxHeartbeats 2000000 in
theorem reflook_any (A : Option Addr) (n c : Nat) (b : List Nat) (w : World) (hv : Vals w A n b) (hb : Bytes b) (hn : n ≤ 100000) (hc : n ≤ c) (hc2 : c ≤ 9223372036854775807) :
    Calls Try.prog 47 #[.slice A n c] w (LookIs w b) := by
  have hlen := hv.len_
  have hBW := ((Below.refl w.heap.size w).alloc (Nat.le_refl _) (.cells #[.int .u8 0, .slice none 0 0] 52)).alloc (by simp) (.cells #[.int .u8 0, .slice none 0 0] 52)
  have HVO := Lib.hid hv
  have hInfo : (Try.prog.info? 44).map (fun i => (i.zero, i.size, i.bytes)) = some (some (.agg #[.int .i32 0, .bool false]), 2, 8) := by kernel_rfl
  have HInfo := Lib.hid hInfo
  clear hInfo
  replace hv := hv.below hBW
  have hs0 : Sound b 0 := ⟨rfl, fun h => absurd h (by omega)⟩
  have HS0 := Lib.hid hs0
  clear hs0
  go_enter Try.func47, Try.ntmps47
  go_wp2
  go_loop [6] (fun i => ∃ j : Nat, j ≤ 102 ∧ i = .int .i64 (j : Nat) ∧ Sound b j) (fun i => 102 - (intOf i).toNat)
  case atStart => exact ⟨0, by omega, rfl, HS0.out⟩
  case round =>
    obtain ⟨j, hj, rfl, hS⟩ := hrel
    have HS := Lib.hid hS
    clear hS HS0
    by_cases hj102 : j < 102
    · by_cases hjn : j < n
      · obtain ⟨x, rfl, hx⟩ := hv.cells (by omega)
        rcases (by omega : j = 0 ∨ j = 1 ∨ j = 2 ∨ j = 3 ∨ 4 ≤ j) with rfl | rfl | rfl | rfl | hj4
        · have hc0 := hx 0 hjn
          rw [show x.add 0 = x by simp [Addr.add]] at hc0
          have he := err_at0 (b := b) (by omega)
          obtain ⟨b0, hb0⟩ : ∃ v, b.getD 0 0 = v := ⟨_, rfl⟩
          rw [hb0] at hc0 he
          clear hx hb0 hv
          by_cases h1 : b0 = 165
          · rw [if_neg (fun h => h h1)] at he
            have hne := Lib.hid (sound_next HS.out he (fun h => absurd h (by omega)))
            subst h1
            clear he
            go_wp2
            go_round
            case rel => exact ⟨_, by omega, by first | rfl | go_num, hne.out⟩
            case measure => first | (simp [intOf]; done) | (simp [intOf]; omega)
          · rw [if_pos h1] at he
            have hres := sound_bad HS.out (by omega) he (by decide)
            have hz : ¬ (b0 : Int) = 165 := by omega
            clear he h1
            have HRES := Lib.hid hres
            clear hres
            go_wp2
            refine bodyPost_ret (v := .tuple #[.agg #[.int .u8 0, .slice none 0 0], .int .i64 0, .int .i64 60]) (by simp [results, Try.results47, go_sem]) rfl ⟨none, 0, 0, by rw [HRES.out.1, HRES.out.2.1, HRES.out.2.2.2]; rfl, by omega, by omega, by rw [HRES.out.2.2.1]; exact Row.Vals.none_ _, by omega, (fun x hx => by cases hx), hBW⟩
        · have hc0 := hx 1 hjn
          rw [show x.add 1 = ⟨x.block, x.off + 1, none⟩ by simp [Addr.add]] at hc0
          have he := err_at1 (b := b) (by omega)
          obtain ⟨b0, hb0⟩ : ∃ v, b.getD 1 0 = v := ⟨_, rfl⟩
          rw [hb0] at hc0 he
          clear hx hb0 hv
          by_cases h1 : b0 = 90
          · rw [if_neg (fun h => h h1)] at he
            have hne := Lib.hid (sound_next HS.out he (fun h => absurd h (by omega)))
            subst h1
            clear he
            go_wp2
            go_round
            case rel => exact ⟨_, by omega, by first | rfl | go_num, hne.out⟩
            case measure => first | (simp [intOf]; done) | (simp [intOf]; omega)
          · rw [if_pos h1] at he
            have hres := sound_bad HS.out (by omega) he (by decide)
            have hz : ¬ (b0 : Int) = 90 := by omega
            clear he h1
            have HRES := Lib.hid hres
            clear hres
            go_wp2
            refine bodyPost_ret (v := .tuple #[.agg #[.int .u8 0, .slice none 0 0], .int .i64 0, .int .i64 60]) (by simp [results, Try.results47, go_sem]) rfl ⟨none, 0, 0, by rw [HRES.out.1, HRES.out.2.1, HRES.out.2.2.2]; rfl, by omega, by omega, by rw [HRES.out.2.2.1]; exact Row.Vals.none_ _, by omega, (fun x hx => by cases hx), hBW⟩
        · have hne := Lib.hid (sound_next HS.out (err_at2 (by omega)) (fun h => absurd h (by omega)))
          clear hx hv
          go_wp2
          go_round
          case rel => exact ⟨_, by omega, by first | rfl | go_num, hne.out⟩
          case measure => first | (simp [intOf]; done) | (simp [intOf]; omega)
        · have hc0 := hx 3 hjn
          rw [show x.add 3 = ⟨x.block, x.off + 3, none⟩ by simp [Addr.add]] at hc0
          have he := err_at3 (b := b) (by omega)
          obtain ⟨b3, hb3⟩ : ∃ v, b.getD 3 0 = v := ⟨_, rfl⟩
          rw [hb3] at hc0 he
          have hz4 : sizeT b = 6 + 3 * b3 := by unfold sizeT; rw [hb3]
          clear hx hb3 hv
          rcases (by omega : b3 < 1 ∨ 32 < b3 ∨ (1 ≤ b3 ∧ b3 ≤ 32)) with h1 | h1 | h1
          · rw [if_pos (.inl h1)] at he
            have hres := sound_bad HS.out (by omega) he (by decide)
            have hz : (b3 : Int) < 1 := by omega
            clear he hz4
            have HRES := Lib.hid hres
            clear hres
            go_wp2
            refine bodyPost_ret (v := .tuple #[.agg #[.int .u8 0, .slice none 0 0], .int .i64 0, .int .i64 61]) (by simp [results, Try.results47, go_sem]) rfl ⟨none, 0, 0, by rw [HRES.out.1, HRES.out.2.1, HRES.out.2.2.2]; rfl, by omega, by omega, by rw [HRES.out.2.2.1]; exact Row.Vals.none_ _, by omega, (fun x hx => by cases hx), hBW⟩
          · rw [if_pos (.inr h1)] at he
            have hres := sound_bad HS.out (by omega) he (by decide)
            have hz : ¬ (b3 : Int) < 1 ∧ (32 : Int) < (b3 : Int) := by omega
            clear he hz4
            have HRES := Lib.hid hres
            clear hres
            go_wp2
            refine bodyPost_ret (v := .tuple #[.agg #[.int .u8 0, .slice none 0 0], .int .i64 0, .int .i64 61]) (by simp [results, Try.results47, go_sem]) rfl ⟨none, 0, 0, by rw [HRES.out.1, HRES.out.2.1, HRES.out.2.2.2]; rfl, by omega, by omega, by rw [HRES.out.2.2.1]; exact Row.Vals.none_ _, by omega, (fun x hx => by cases hx), hBW⟩
          · rw [if_neg (by omega)] at he
            have hne := Lib.hid (sound_next HS.out he (fun h => by omega))
            have hz : ¬ (b3 : Int) < 1 ∧ ¬ (32 : Int) < (b3 : Int) := by omega
            clear he hz4
            go_wp2
            go_round
            case rel => exact ⟨_, by omega, by first | rfl | go_num, hne.out⟩
            case measure => first | (simp [intOf]; done) | (simp [intOf]; omega)
        · have hc3 := hx 3 (by omega)
          rw [show x.add 3 = ⟨x.block, x.off + 3, none⟩ by simp [Addr.add]] at hc3
          have hcj := hx j hjn
          have he := err_at4 HS.out hj4 (by omega)
          have hzb := size_bound HS.out.1 hj4
          have hjz := HS.out.2 hj4
          obtain ⟨Z, hZ⟩ : ∃ Z, sizeT b = Z := ⟨_, rfl⟩
          rw [hZ] at he hzb hjz
          have hZ2 : sizeT b = 6 + 3 * b.getD 3 0 := rfl
          rw [hZ] at hZ2
          have HZ := Lib.hid hZ
          obtain ⟨b3, hb3⟩ : ∃ v, b.getD 3 0 = v := ⟨_, rfl⟩
          rw [hb3] at hc3 hZ2
          have HB3 := Lib.hid hb3
          have hZz : 6 + 3 * (b3 : Int) = (Z : Int) := by omega
          have hb38 : b3 ≤ 32 := by omega
          have hZm2 : (Z : Int) - 2 = ((Z - 2 : Nat) : Int) := by omega
          obtain ⟨Y, hY⟩ : ∃ Y, Z - 2 = Y := ⟨_, rfl⟩
          rw [hY] at hZm2
          obtain ⟨bj, hbj⟩ : ∃ v, b.getD j 0 = v := ⟨_, rfl⟩
          rw [hbj] at hcj he
          have hj0z : ((j : Int) == 0) = false := by simp; omega
          have hj1z : ((j : Int) == 1) = false := by simp; omega
          have hj3z : ((j : Int) == 3) = false := by simp; omega
          have hj4z : ¬ (j : Int) < 4 := by omega
          have hnx : errAt b j = 0 → j + 1 ≠ Z → Sound b (j + 1) := fun h1 h2 => sound_next HS.out h1 (fun _ => by rw [HZ.out]; omega)
          have HNX := Lib.hid hnx
          clear hZ hZ2 hb3 hbj hnx
          by_cases hlt : j + 2 < Z
          · have hltz : (j : Int) < (Y : Int) := by omega
            have hm1 : ¬ ((j : Int) = (Z : Int) - 1) := by omega
            by_cases hmod : j % 3 = 1
            · have hmz : (j : Int) % 3 = 1 := by omega
              by_cases hbig : 1 < bj
              · rw [if_pos ⟨hlt, hmod, hbig⟩] at he
                have hres := sound_bad HS.out hj102 he (by decide)
                clear he hx hv hY hlt hmod
                have HRES := Lib.hid hres
                clear hres
                go_wp2
                refine bodyPost_ret (v := .tuple #[.agg #[.int .u8 0, .slice none 0 0], .int .i64 0, .int .i64 62]) (by simp [results, Try.results47, go_sem]) rfl ⟨none, 0, 0, by rw [HRES.out.1, HRES.out.2.1, HRES.out.2.2.2]; rfl, by omega, by omega, by rw [HRES.out.2.2.1]; exact Row.Vals.none_ _, by omega, (fun x hx => by cases hx), hBW⟩
              · rw [if_neg (fun h => hbig h.2.2), if_neg (fun h => by omega)] at he
                have hne := Lib.hid (HNX.out he (by omega))
                have hbz : ¬ (1 : Int) < (bj : Int) := by omega
                clear he hx hv hY hlt hmod hbig
                go_wp2
                go_round
                case rel => exact ⟨_, by omega, by first | rfl | go_num, hne.out⟩
                case measure => first | (simp [intOf]; done) | (simp [intOf]; omega)
            · rw [if_neg (fun h => hmod h.2.1), if_neg (fun h => by omega)] at he
              have hne := Lib.hid (HNX.out he (by omega))
              have hmz : ((j : Int) % 3 == 1) = false := by simp; omega
              clear he hx hv hY hlt hmod
              go_wp2
              go_round
              case rel => exact ⟨_, by omega, by first | rfl | go_num, hne.out⟩
              case measure => first | (simp [intOf]; done) | (simp [intOf]; omega)
          · have hltz : ¬ (j : Int) < (Y : Int) := by omega
            by_cases hlast : j + 1 = Z
            · have hjz1 : (j : Int) = (Z : Int) - 1 := by omega
              have hv2 := (hv.take Z (by omega)).drop 2 (by omega)
              rw [hY] at hv2
              have e2 : (some x).map (·.add 2) = some (⟨x.block, x.off + 2, none⟩ : Addr) := by simp [Addr.add]
              rw [e2] at hv2
              have hbs : Bytes ((b.take Z).drop 2) := fun y hy => hb y (List.mem_of_mem_take (List.mem_of_mem_drop hy))
              have hse := Crc.refsealed_any _ Y (c - 2) _ _ hv2 hbs (by omega) (by omega) (by omega)
              have hc2n : ¬ c = 2 := by omega
              have hZc : (Z : Int) ≤ (c : Int) ∧ (2 : Int) ≤ (Z : Int) ∧ Z ≤ c ∧ 2 ≤ Z := by omega
              obtain ⟨sb, hsb⟩ : ∃ s, Crc.sealedB ((b.take Z).drop 2) = s := ⟨_, rfl⟩
              rw [if_neg (fun h => hlt h.1)] at he
              rw [hsb] at he hse
              have hc2b := hx 2 (by omega)
              rw [show x.add 2 = ⟨x.block, x.off + 2, none⟩ by simp [Addr.add]] at hc2b
              have hH0 := (Has.new w 52 #[.int .u8 0, .slice none 0 0]).alloc (.cells #[.int .u8 0, .slice none 0 0] 52)
              have hH1 := Has.new (w.alloc (.cells #[.int .u8 0, .slice none 0 0] 52)) 52 #[.int .u8 0, .slice none 0 0]
              rw [show (w.alloc (.cells #[.int .u8 0, .slice none 0 0] 52)).heap.size = w.heap.size + 1 by simp] at hH1
              clear hv2 hbs hsb hx
              cases sb
              · rw [if_pos ⟨hlast, rfl⟩] at he
                have hres := sound_bad HS.out hj102 he (by decide)
                clear he hv hlast hlt
                have HRES := Lib.hid hres
                clear hres
                go_wp2_with (go_at_call 51; ((with_reducible refine hse.mono ?_); rintro e W1 ⟨rfl, hB1⟩; have hBX := hBW.trans (hB1.mono hBW.size); have hR0 := hH0.below hB1 (by simp; omega); obtain ⟨c0, c1, f0, f1⟩ := hR0.two))
                obtain ⟨p0, p1, _, _⟩ := (hR0.put2 (.int .u8 0) (.slice none 0 0)).two
                refine bodyPost_ret (v := .tuple #[.agg #[.int .u8 0, .slice none 0 0], .int .i64 0, .int .i64 63]) (by simp [results, Try.results47, go_sem, p0, p1]) rfl ⟨none, 0, 0, by rw [HRES.out.1, HRES.out.2.1, HRES.out.2.2.2]; rfl, by omega, by omega, by rw [HRES.out.2.2.1]; exact Row.Vals.none_ _, by omega, (fun x hx => by cases hx), below_put2 hBX (Nat.le_refl _) _ _⟩
              · rw [if_neg (fun h => by cases h.2)] at he
                have hok : lookE b = 0 := lookE_ok (i := Z) (by rw [← hlast]; exact firstErr_step HS.out.1 he) (by omega) (by rw [HZ.out]; exact Nat.le_refl _)
                have hres := Lib.hid (look_ok hok)
                have HOK := Lib.hid hok
                have hvw := hv
                obtain ⟨sq, hsq⟩ : ∃ v, b.getD 2 0 = v := ⟨_, rfl⟩
                rw [hsq] at hc2b
                have HSQ := Lib.hid hsq
                clear he hv hlast hlt hok hsq hcj
                go_wp2_with (go_at_call 51; ((with_reducible refine hse.mono ?_); rintro e W1 ⟨rfl, hB1⟩; have hBX := hBW.trans (hB1.mono hBW.size); have hR0 := hH0.below hB1 (by simp; omega); have hF0 := hH1.below hB1 (by simp); obtain ⟨c0, c1, f0, f1⟩ := hF0.two; have hc2c := (hB1.cell (World.block_lt_of_cell? _ _ hc2b)).trans hc2b))
                have hF1 : Has (W1.setCell ⟨w.heap.size + 1, 0, none⟩ (.int .u8 sq)) (w.heap.size + 1) 52 #[.int .u8 sq, .slice none 0 0] := by
                  have := hF0.set_ 0 (.int .u8 sq)
                  simpa using this
                have hR1 := hR0.far (p := ⟨w.heap.size + 1, 0, none⟩) (by simp) (.int .u8 sq)
                have hB2 := hBX.setCell (p := ⟨w.heap.size + 1, 0, none⟩) (by simp) (.int .u8 sq)
                go_loopw [8] (fun i wr => ∃ k : Nat, k ≤ b3 ∧ i = .int .i64 ((4 + 3 * k : Nat) : Int) ∧ ∃ A' c', Has wr (w.heap.size + 1) 52 #[.int .u8 sq, .slice A' k c'] ∧ Has wr w.heap.size 52 #[.int .u8 0, .slice none 0 0] ∧
                  wr.ownsRow (w.heap.size + 2) 44 2 (.slice A' k c') k (Row.flat sampS (unsampsT b k)) ∧ Below w.heap.size w wr) (fun i _ => 102 - (intOf i).toNat)
                case atStart => exact ⟨0, Nat.zero_le _, rfl, none, 0, by exact hF1, by exact hR1, by exact Row.own_none (S := sampS) _ _ _, by exact hB2⟩
                case round =>
                  obtain ⟨k, hk, rfl, A', c', hF, hR, hO, hB⟩ := hrel
                  clear hF1 hR1 hB2 hF0 hR0 hBX c0 c1 f0 f1 hc2c hB1 hH0 hH1 hc2b hvw hc3 hse hj0z hj1z hj3z hj4z hltz
                  obtain ⟨c0, c1, f0, f1⟩ := hF.two
                  by_cases hkb : k < b3
                  · obtain ⟨i, hi⟩ : ∃ i, 4 + 3 * k = i := ⟨_, rfl⟩
                    rw [hi]
                    obtain ⟨p, hp⟩ : ∃ p, i + 1 = p := ⟨_, rfl⟩
                    obtain ⟨q, hq⟩ : ∃ q, i + 2 = q := ⟨_, rfl⟩
                    have hiz : (i : Int) < (Y : Int) := by omega
                    have hpz : (i : Int) + 1 = (p : Int) := by omega
                    have hqz : (i : Int) + 2 = (q : Int) := by omega
                    have hin : i < n := by omega
                    have hpn : p < n := by omega
                    have hqn : q < n := by omega
                    obtain ⟨y, hy, hcs⟩ := HVO.out.cells (by omega)
                    injection hy with hy
                    subst hy
                    have hci0 := hcs i hin
                    have hcp0 := hcs p hpn
                    have hcq0 := hcs q hqn
                    have hst := unsampsT_step b k
                    rw [show sampAt b k = (valT2 (b.getD p 0) (b.getD q 0), ((b.getD i 0 : Int) == 1)) by
                      unfold sampAt
                      rw [show 5 + 3 * k = p by omega, show 6 + 3 * k = q by omega, hi]
                      refine Prod.ext rfl ?_
                      show decide (b.getD i 0 = 1) = ((b.getD i 0 : Int) == 1)
                      rw [Bool.eq_iff_iff, decide_eq_true_iff, beq_iff_eq]
                      omega] at hst
                    have hf8 := hb.at_ i
                    have hl8 := hb.at_ p
                    have hh8 := hb.at_ q
                    generalize b.getD i 0 = f at *
                    generalize b.getD p 0 = lo at *
                    generalize b.getD q 0 = hi8 at *
                    have hxl := World.block_lt_of_cell? _ _ hci0
                    have hci := (hB.cell hxl).trans hci0
                    have hcp := (hB.cell (World.block_lt_of_cell? _ _ hcp0)).trans hcp0
                    have hcq := (hB.cell (World.block_lt_of_cell? _ _ hcq0)).trans hcq0
                    obtain ⟨m, hm⟩ : ∃ m, lo + 256 * hi8 = m := ⟨_, rfl⟩
                    have hmz : (lo : Int) + 256 * (hi8 : Int) = (m : Int) := by omega
                    have hm6 : m < 65536 := by omega
                    unfold valT2 at hst
                    rw [hm, hmz] at hst
                    have HY := Lib.hid (show 3 * k + 6 ≤ Y + 2 ∧ k < b3 ∧ i + 3 = 4 + 3 * (k + 1) from ⟨by omega, hkb, by omega⟩)
                    have HJ := Lib.hid hjz1
                    clear hcs hcp0 hcq0 hp hq hi hm hjz1
                    by_cases hbig : 32767 < m
                    · rw [if_pos hbig] at hst
                      obtain ⟨V, hV⟩ : ∃ V, (m : Int) - 65536 = V := ⟨_, rfl⟩
                      rw [hV] at hst
                      have hbz : (32767 : Int) < (m : Int) := by omega
                      have HST := Lib.hid hst
                      clear hst hbig
                      go_wp2
                      go_quiet (fail)
                      go_wp2
                      refine Reg.begin_ (S := fun W => W.cell? (x.add i) = some (.int .u8 f)) (by kernel_rfl) (by exact hci) (fun hHeld => ?_)
                      have hFd : Has (wr.drewN nq).drew (w.heap.size + 1) 52 #[.int .u8 sq, .slice A' k c'] := hF
                      have hRd : Has (wr.drewN nq).drew w.heap.size 52 #[.int .u8 0, .slice none 0 0] := hR
                      have hOd : World.ownsRow (wr.drewN nq).drew (w.heap.size + 2) 44 2 (.slice A' k c') k (Row.flat sampS (unsampsT b k)) := hO
                      have hBd : Below w.heap.size w (wr.drewN nq).drew := below_drewN (below_drewN hB nq) 1
                      generalize (wr.drewN nq).drew = wd at *
                      clear hF hR hO hB hci c0 c1 f0 f1
                      have hinz : (0 : Int) ≤ (i : Int) ∧ (i : Int) < (n : Int) := by omega
                      refine Reg.take (i := 0) (v := ?v1) rfl (by kernel_rfl) (by kernel_rfl) (by kernel_rfl) (by rfl) ?hv1 (by assumption) ?rest1
                      case hv1 => first | (intro w hSw; (try dsimp only at hSw); go_simp; done) | (intro w hSw; (try dsimp only at hSw); go_simp; with_reducible rfl)
                      (try simp only [Act.put, List.setIfInBounds_toArray, List.set_cons_zero, List.set_cons_succ])
                      refine Reg.take (i := 2) (v := ?v2) rfl (by kernel_rfl) (by kernel_rfl) (by kernel_rfl) (by rfl) ?hv2 (by assumption) ?rest2
                      case hv2 => first | (intro w hSw; (try dsimp only at hSw); go_simp; done) | (intro w hSw; (try dsimp only at hSw); go_simp; with_reducible rfl)
                      (try simp only [Act.put, List.setIfInBounds_toArray, List.set_cons_zero, List.set_cons_succ])
                      refine Reg.take (i := 3) (v := ?v3) rfl (by kernel_rfl) (by kernel_rfl) (by kernel_rfl) (by rfl) ?hv3 (by assumption) ?rest3
                      case hv3 => first | (intro w hSw; (try dsimp only at hSw); go_simp; done) | (intro w hSw; (try dsimp only at hSw); go_simp; with_reducible rfl)
                      (try simp only [Act.put, List.setIfInBounds_toArray, List.set_cons_zero, List.set_cons_succ])
                      refine Reg.take (i := 4) (v := ?v4) rfl (by kernel_rfl) (by kernel_rfl) (by kernel_rfl) (by rfl) ?hv4 (by assumption) ?rest4
                      case hv4 => first | (intro w hSw; (try dsimp only at hSw); go_simp; done) | (intro w hSw; (try dsimp only at hSw); go_simp; with_reducible rfl)
                      (try simp only [Act.put, List.setIfInBounds_toArray, List.set_cons_zero, List.set_cons_succ])
                      refine Reg.take (i := 5) (v := ?v5) rfl (by kernel_rfl) (by kernel_rfl) (by kernel_rfl) (by rfl) ?hv5 (by assumption) ?rest5
                      case hv5 => first | (intro w hSw; (try dsimp only at hSw); go_simp; done) | (intro w hSw; (try dsimp only at hSw); go_simp; with_reducible rfl)
                      (try simp only [Act.put, List.setIfInBounds_toArray, List.set_cons_zero, List.set_cons_succ])
                      refine Reg.take (i := 6) (v := ?v6) rfl (by kernel_rfl) (by kernel_rfl) (by kernel_rfl) (by rfl) ?hv6 (by assumption) ?rest6
                      case hv6 => first | (intro w hSw; (try dsimp only at hSw); go_simp; done) | (intro w hSw; (try dsimp only at hSw); go_simp; with_reducible rfl)
                      (try simp only [Act.put, List.setIfInBounds_toArray, List.set_cons_zero, List.set_cons_succ])
                      refine Reg.take (i := 7) (v := ?v7) rfl (by kernel_rfl) (by kernel_rfl) (by kernel_rfl) (by rfl) ?hv7 (by assumption) ?rest7
                      case hv7 => first | (intro w hSw; (try dsimp only at hSw); go_simp; done) | (intro w hSw; (try dsimp only at hSw); go_simp; with_reducible rfl)
                      (try simp only [Act.put, List.setIfInBounds_toArray, List.set_cons_zero, List.set_cons_succ])
                      refine Reg.take (i := 8) (v := ?v8) rfl (by kernel_rfl) (by kernel_rfl) (by kernel_rfl) (by rfl) ?hv8 (by assumption) ?rest8
                      case hv8 => first | (intro w hSw; (try dsimp only at hSw); go_simp; done) | (intro w hSw; (try dsimp only at hSw); go_simp; with_reducible rfl)
                      (try simp only [Act.put, List.setIfInBounds_toArray, List.set_cons_zero, List.set_cons_succ])
                      have hcia := (((hBd.alloc hBd.size (.cells #[.int .i32 (V : Int), .bool ((f : Int) == 1)] 44))).cell hxl).trans hci0
                      have hKA := (Kept.refl [] wd).alloc (.cells #[.int .i32 (V : Int), .bool ((f : Int) == 1)] 44)
                      have hOa := own_kept hOd hKA (by simp)
                      have hBa := hBd.alloc hBd.size (.cells #[.int .i32 (V : Int), .bool ((f : Int) == 1)] 44)
                      have hFa := hFd.alloc (.cells #[.int .i32 (V : Int), .bool ((f : Int) == 1)] 44)
                      have hRa := hRd.alloc (.cells #[.int .i32 (V : Int), .bool ((f : Int) == 1)] 44)
                      have hVn : Row.Vals sampS (wd.alloc (.cells #[.int .i32 (V : Int), .bool ((f : Int) == 1)] 44)) (some ⟨wd.heap.size, 0, none⟩) 1 [((V : Int), ((f : Int) == 1))] := Row.Vals.has (ys := [((V : Int), ((f : Int) == 1))]) (tl := []) (Has.new wd _ _)
                      have hBase : w.heap.size + 2 ≤ (wd.alloc (.cells #[.int .i32 (V : Int), .bool ((f : Int) == 1)] 44)).heap.size := by have := hFd.lt; simp; omega
                      obtain ⟨_, l1, _, _⟩ := hFd.two
                      obtain ⟨_, l2, _, _⟩ := hFa.two
                      refine Reg.call2 (i := 1) (j := 9) rfl rfl (by kernel_rfl) (by rfl) (by rfl) ?_ ?_
                      · intro K hK
                        go_simp
                        refine hK.out _ _ (by assumption) (fun hHeld2 => ?_)
                        clear hK K
                        (try simp only [Act.put, List.setIfInBounds_toArray, List.set_cons_zero, List.set_cons_succ])
                        refine Reg.call (i := 9) rfl (by kernel_rfl) (by rfl) ?_
                        intro K hK
                        go_simp
                        refine hK.out _ _ hcia (fun hHeld3 => ?_)
                        clear hK K
                        (try simp only [Act.put, List.setIfInBounds_toArray, List.set_cons_zero, List.set_cons_succ])
                        refine Reg.call (i := 10) rfl (by kernel_rfl) (by rfl) ?_
                        intro K hK
                        refine Row.wp_append (S := sampS) (.tmp 118) (.tmp 126) _ rfl (w.heap.size + 2) 44 _ 8 (by omega) Try.underlying50 HInfo.out (by kernel_rfl) (.slice A' k c') k (unsampsT b k) rfl hOa (some ⟨wd.heap.size, 0, none⟩) 1 1 [((V : Int), ((f : Int) == 1))] rfl hVn (by omega) hBase ?_
                        intro v1 W3 hO1 hg1 hat1
                        have hK1 := Kept.of_grown hg1
                        have hF3 := hK1.has hFa (own_apart hOa (by omega))
                        have hR3 := hK1.has hRa (own_apart hOa (by omega))
                        have hB3 := below_kept hBa hK1 hBa.size (fun y hy => by have := own_in hOa y hy; omega)
                        have hci3 := (hB3.cell hxl).trans hci0
                        rw [← HST.out] at hO1
                        obtain ⟨A1, d1, rfl, e1, e2, hV1, _⟩ := Row.Vals.own hO1
                        refine hK.out _ _ hci3 (fun hHeld4 => ?_)
                        clear hK K
                        (try simp only [Act.put, List.setIfInBounds_toArray, List.set_cons_zero, List.set_cons_succ])
                        refine Reg.take (i := 11) (v := ?v9) rfl (by kernel_rfl) (by kernel_rfl) (by kernel_rfl) (by rfl) ?hv9 (by assumption) ?rest9
                        case hv9 => first | (intro w hSw; (try dsimp only at hSw); go_simp; done) | (intro w hSw; (try dsimp only at hSw); go_simp; with_reducible rfl)
                        (try simp only [Act.put, List.setIfInBounds_toArray, List.set_cons_zero, List.set_cons_succ])
                        have hF4 : Has (W3.setCell ⟨w.heap.size + 1, 1, none⟩ (.slice A1 (k + 1) d1)) (w.heap.size + 1) 52 #[.int .u8 sq, .slice A1 (k + 1) d1] := by
                          have := hF3.set_ 1 (.slice A1 (k + 1) d1)
                          simpa using this
                        have hR4 := hR3.far (p := ⟨w.heap.size + 1, 1, none⟩) (by simp) (.slice A1 (k + 1) d1)
                        have hO4 := own_kept hO1 ((Kept.refl [w.heap.size + 1] W3).setCell (p := ⟨w.heap.size + 1, 1, none⟩) (.inl (by simp)) (.slice A1 (k + 1) d1)) (fun y hy => by simp at hy; omega)
                        have hB4 := hB3.setCell (p := ⟨w.heap.size + 1, 1, none⟩) (by simp) (.slice A1 (k + 1) d1)
                        have hci4 := (hB4.cell hxl).trans hci0
                        refine Reg.call (i := 12) rfl (by kernel_rfl) (by rfl) ?_
                        intro K hK
                        obtain ⟨_, t1, _, g1⟩ := hF3.two
                        go_simp
                        refine hK.out _ _ hci4 (fun hHeld5 => ?_)
                        clear hK K
                        (try simp only [Act.put, List.setIfInBounds_toArray, List.set_cons_zero, List.set_cons_succ])
                        refine Reg.done (by kernel_rfl) ?_ _
                        go_wp2
                        go_roundw
                        case rel => exact ⟨k + 1, by have := HY.out; omega, by have := HY.out.2.2; congr 1; omega, A1, d1, hF4, hR4, hO4, hB4⟩
                        case measure => simp [intOf]; have := HJ.out; omega
                      · intro K hK
                        go_simp
                        refine hK.out _ _ hcia (fun hHeld2 => ?_)
                        clear hK K
                        (try simp only [Act.put, List.setIfInBounds_toArray, List.set_cons_zero, List.set_cons_succ])
                        refine Reg.call (i := 1) rfl (by kernel_rfl) (by rfl) ?_
                        intro K hK
                        go_simp
                        refine hK.out _ _ hcia (fun hHeld3 => ?_)
                        clear hK K
                        (try simp only [Act.put, List.setIfInBounds_toArray, List.set_cons_zero, List.set_cons_succ])
                        refine Reg.call (i := 10) rfl (by kernel_rfl) (by rfl) ?_
                        intro K hK
                        refine Row.wp_append (S := sampS) (.tmp 118) (.tmp 126) _ rfl (w.heap.size + 2) 44 _ 8 (by omega) Try.underlying50 HInfo.out (by kernel_rfl) (.slice A' k c') k (unsampsT b k) rfl hOa (some ⟨wd.heap.size, 0, none⟩) 1 1 [((V : Int), ((f : Int) == 1))] rfl hVn (by omega) hBase ?_
                        intro v1 W3 hO1 hg1 hat1
                        have hK1 := Kept.of_grown hg1
                        have hF3 := hK1.has hFa (own_apart hOa (by omega))
                        have hR3 := hK1.has hRa (own_apart hOa (by omega))
                        have hB3 := below_kept hBa hK1 hBa.size (fun y hy => by have := own_in hOa y hy; omega)
                        have hci3 := (hB3.cell hxl).trans hci0
                        rw [← HST.out] at hO1
                        obtain ⟨A1, d1, rfl, e1, e2, hV1, _⟩ := Row.Vals.own hO1
                        refine hK.out _ _ hci3 (fun hHeld4 => ?_)
                        clear hK K
                        (try simp only [Act.put, List.setIfInBounds_toArray, List.set_cons_zero, List.set_cons_succ])
                        refine Reg.take (i := 11) (v := ?v10) rfl (by kernel_rfl) (by kernel_rfl) (by kernel_rfl) (by rfl) ?hv10 (by assumption) ?rest10
                        case hv10 => first | (intro w hSw; (try dsimp only at hSw); go_simp; done) | (intro w hSw; (try dsimp only at hSw); go_simp; with_reducible rfl)
                        (try simp only [Act.put, List.setIfInBounds_toArray, List.set_cons_zero, List.set_cons_succ])
                        have hF4 : Has (W3.setCell ⟨w.heap.size + 1, 1, none⟩ (.slice A1 (k + 1) d1)) (w.heap.size + 1) 52 #[.int .u8 sq, .slice A1 (k + 1) d1] := by
                          have := hF3.set_ 1 (.slice A1 (k + 1) d1)
                          simpa using this
                        have hR4 := hR3.far (p := ⟨w.heap.size + 1, 1, none⟩) (by simp) (.slice A1 (k + 1) d1)
                        have hO4 := own_kept hO1 ((Kept.refl [w.heap.size + 1] W3).setCell (p := ⟨w.heap.size + 1, 1, none⟩) (.inl (by simp)) (.slice A1 (k + 1) d1)) (fun y hy => by simp at hy; omega)
                        have hB4 := hB3.setCell (p := ⟨w.heap.size + 1, 1, none⟩) (by simp) (.slice A1 (k + 1) d1)
                        have hci4 := (hB4.cell hxl).trans hci0
                        refine Reg.call (i := 12) rfl (by kernel_rfl) (by rfl) ?_
                        intro K hK
                        obtain ⟨_, t1, _, g1⟩ := hF3.two
                        go_simp
                        refine hK.out _ _ hci4 (fun hHeld5 => ?_)
                        clear hK K
                        (try simp only [Act.put, List.setIfInBounds_toArray, List.set_cons_zero, List.set_cons_succ])
                        refine Reg.done (by kernel_rfl) ?_ _
                        go_wp2
                        go_roundw
                        case rel => exact ⟨k + 1, by have := HY.out; omega, by have := HY.out.2.2; congr 1; omega, A1, d1, hF4, hR4, hO4, hB4⟩
                        case measure => simp [intOf]; have := HJ.out; omega
                    · rw [if_neg hbig] at hst
                      have hbz : ¬ (32767 : Int) < (m : Int) := by omega
                      have HST := Lib.hid hst
                      clear hst hbig
                      go_wp2
                      go_quiet (fail)
                      go_wp2
                      refine Reg.begin_ (S := fun W => W.cell? (x.add i) = some (.int .u8 f)) (by kernel_rfl) (by exact hci) (fun hHeld => ?_)
                      have hFd : Has (wr.drewN nq).drew (w.heap.size + 1) 52 #[.int .u8 sq, .slice A' k c'] := hF
                      have hRd : Has (wr.drewN nq).drew w.heap.size 52 #[.int .u8 0, .slice none 0 0] := hR
                      have hOd : World.ownsRow (wr.drewN nq).drew (w.heap.size + 2) 44 2 (.slice A' k c') k (Row.flat sampS (unsampsT b k)) := hO
                      have hBd : Below w.heap.size w (wr.drewN nq).drew := below_drewN (below_drewN hB nq) 1
                      generalize (wr.drewN nq).drew = wd at *
                      clear hF hR hO hB hci c0 c1 f0 f1
                      have hinz : (0 : Int) ≤ (i : Int) ∧ (i : Int) < (n : Int) := by omega
                      refine Reg.take (i := 0) (v := ?v11) rfl (by kernel_rfl) (by kernel_rfl) (by kernel_rfl) (by rfl) ?hv11 (by assumption) ?rest11
                      case hv11 => first | (intro w hSw; (try dsimp only at hSw); go_simp; done) | (intro w hSw; (try dsimp only at hSw); go_simp; with_reducible rfl)
                      (try simp only [Act.put, List.setIfInBounds_toArray, List.set_cons_zero, List.set_cons_succ])
                      refine Reg.take (i := 2) (v := ?v12) rfl (by kernel_rfl) (by kernel_rfl) (by kernel_rfl) (by rfl) ?hv12 (by assumption) ?rest12
                      case hv12 => first | (intro w hSw; (try dsimp only at hSw); go_simp; done) | (intro w hSw; (try dsimp only at hSw); go_simp; with_reducible rfl)
                      (try simp only [Act.put, List.setIfInBounds_toArray, List.set_cons_zero, List.set_cons_succ])
                      refine Reg.take (i := 3) (v := ?v13) rfl (by kernel_rfl) (by kernel_rfl) (by kernel_rfl) (by rfl) ?hv13 (by assumption) ?rest13
                      case hv13 => first | (intro w hSw; (try dsimp only at hSw); go_simp; done) | (intro w hSw; (try dsimp only at hSw); go_simp; with_reducible rfl)
                      (try simp only [Act.put, List.setIfInBounds_toArray, List.set_cons_zero, List.set_cons_succ])
                      refine Reg.take (i := 4) (v := ?v14) rfl (by kernel_rfl) (by kernel_rfl) (by kernel_rfl) (by rfl) ?hv14 (by assumption) ?rest14
                      case hv14 => first | (intro w hSw; (try dsimp only at hSw); go_simp; done) | (intro w hSw; (try dsimp only at hSw); go_simp; with_reducible rfl)
                      (try simp only [Act.put, List.setIfInBounds_toArray, List.set_cons_zero, List.set_cons_succ])
                      refine Reg.take (i := 5) (v := ?v15) rfl (by kernel_rfl) (by kernel_rfl) (by kernel_rfl) (by rfl) ?hv15 (by assumption) ?rest15
                      case hv15 => first | (intro w hSw; (try dsimp only at hSw); go_simp; done) | (intro w hSw; (try dsimp only at hSw); go_simp; with_reducible rfl)
                      (try simp only [Act.put, List.setIfInBounds_toArray, List.set_cons_zero, List.set_cons_succ])
                      refine Reg.take (i := 6) (v := ?v16) rfl (by kernel_rfl) (by kernel_rfl) (by kernel_rfl) (by rfl) ?hv16 (by assumption) ?rest16
                      case hv16 => first | (intro w hSw; (try dsimp only at hSw); go_simp; done) | (intro w hSw; (try dsimp only at hSw); go_simp; with_reducible rfl)
                      (try simp only [Act.put, List.setIfInBounds_toArray, List.set_cons_zero, List.set_cons_succ])
                      refine Reg.take (i := 7) (v := ?v17) rfl (by kernel_rfl) (by kernel_rfl) (by kernel_rfl) (by rfl) ?hv17 (by assumption) ?rest17
                      case hv17 => first | (intro w hSw; (try dsimp only at hSw); go_simp; done) | (intro w hSw; (try dsimp only at hSw); go_simp; with_reducible rfl)
                      (try simp only [Act.put, List.setIfInBounds_toArray, List.set_cons_zero, List.set_cons_succ])
                      refine Reg.take (i := 8) (v := ?v18) rfl (by kernel_rfl) (by kernel_rfl) (by kernel_rfl) (by rfl) ?hv18 (by assumption) ?rest18
                      case hv18 => first | (intro w hSw; (try dsimp only at hSw); go_simp; done) | (intro w hSw; (try dsimp only at hSw); go_simp; with_reducible rfl)
                      (try simp only [Act.put, List.setIfInBounds_toArray, List.set_cons_zero, List.set_cons_succ])
                      have hcia := (((hBd.alloc hBd.size (.cells #[.int .i32 (m : Int), .bool ((f : Int) == 1)] 44))).cell hxl).trans hci0
                      have hKA := (Kept.refl [] wd).alloc (.cells #[.int .i32 (m : Int), .bool ((f : Int) == 1)] 44)
                      have hOa := own_kept hOd hKA (by simp)
                      have hBa := hBd.alloc hBd.size (.cells #[.int .i32 (m : Int), .bool ((f : Int) == 1)] 44)
                      have hFa := hFd.alloc (.cells #[.int .i32 (m : Int), .bool ((f : Int) == 1)] 44)
                      have hRa := hRd.alloc (.cells #[.int .i32 (m : Int), .bool ((f : Int) == 1)] 44)
                      have hVn : Row.Vals sampS (wd.alloc (.cells #[.int .i32 (m : Int), .bool ((f : Int) == 1)] 44)) (some ⟨wd.heap.size, 0, none⟩) 1 [((m : Int), ((f : Int) == 1))] := Row.Vals.has (ys := [((m : Int), ((f : Int) == 1))]) (tl := []) (Has.new wd _ _)
                      have hBase : w.heap.size + 2 ≤ (wd.alloc (.cells #[.int .i32 (m : Int), .bool ((f : Int) == 1)] 44)).heap.size := by have := hFd.lt; simp; omega
                      obtain ⟨_, l1, _, _⟩ := hFd.two
                      obtain ⟨_, l2, _, _⟩ := hFa.two
                      refine Reg.call2 (i := 1) (j := 9) rfl rfl (by kernel_rfl) (by rfl) (by rfl) ?_ ?_
                      · intro K hK
                        go_simp
                        refine hK.out _ _ (by assumption) (fun hHeld2 => ?_)
                        clear hK K
                        (try simp only [Act.put, List.setIfInBounds_toArray, List.set_cons_zero, List.set_cons_succ])
                        refine Reg.call (i := 9) rfl (by kernel_rfl) (by rfl) ?_
                        intro K hK
                        go_simp
                        refine hK.out _ _ hcia (fun hHeld3 => ?_)
                        clear hK K
                        (try simp only [Act.put, List.setIfInBounds_toArray, List.set_cons_zero, List.set_cons_succ])
                        refine Reg.call (i := 10) rfl (by kernel_rfl) (by rfl) ?_
                        intro K hK
                        refine Row.wp_append (S := sampS) (.tmp 118) (.tmp 126) _ rfl (w.heap.size + 2) 44 _ 8 (by omega) Try.underlying50 HInfo.out (by kernel_rfl) (.slice A' k c') k (unsampsT b k) rfl hOa (some ⟨wd.heap.size, 0, none⟩) 1 1 [((m : Int), ((f : Int) == 1))] rfl hVn (by omega) hBase ?_
                        intro v1 W3 hO1 hg1 hat1
                        have hK1 := Kept.of_grown hg1
                        have hF3 := hK1.has hFa (own_apart hOa (by omega))
                        have hR3 := hK1.has hRa (own_apart hOa (by omega))
                        have hB3 := below_kept hBa hK1 hBa.size (fun y hy => by have := own_in hOa y hy; omega)
                        have hci3 := (hB3.cell hxl).trans hci0
                        rw [← HST.out] at hO1
                        obtain ⟨A1, d1, rfl, e1, e2, hV1, _⟩ := Row.Vals.own hO1
                        refine hK.out _ _ hci3 (fun hHeld4 => ?_)
                        clear hK K
                        (try simp only [Act.put, List.setIfInBounds_toArray, List.set_cons_zero, List.set_cons_succ])
                        refine Reg.take (i := 11) (v := ?v19) rfl (by kernel_rfl) (by kernel_rfl) (by kernel_rfl) (by rfl) ?hv19 (by assumption) ?rest19
                        case hv19 => first | (intro w hSw; (try dsimp only at hSw); go_simp; done) | (intro w hSw; (try dsimp only at hSw); go_simp; with_reducible rfl)
                        (try simp only [Act.put, List.setIfInBounds_toArray, List.set_cons_zero, List.set_cons_succ])
                        have hF4 : Has (W3.setCell ⟨w.heap.size + 1, 1, none⟩ (.slice A1 (k + 1) d1)) (w.heap.size + 1) 52 #[.int .u8 sq, .slice A1 (k + 1) d1] := by
                          have := hF3.set_ 1 (.slice A1 (k + 1) d1)
                          simpa using this
                        have hR4 := hR3.far (p := ⟨w.heap.size + 1, 1, none⟩) (by simp) (.slice A1 (k + 1) d1)
                        have hO4 := own_kept hO1 ((Kept.refl [w.heap.size + 1] W3).setCell (p := ⟨w.heap.size + 1, 1, none⟩) (.inl (by simp)) (.slice A1 (k + 1) d1)) (fun y hy => by simp at hy; omega)
                        have hB4 := hB3.setCell (p := ⟨w.heap.size + 1, 1, none⟩) (by simp) (.slice A1 (k + 1) d1)
                        have hci4 := (hB4.cell hxl).trans hci0
                        refine Reg.call (i := 12) rfl (by kernel_rfl) (by rfl) ?_
                        intro K hK
                        obtain ⟨_, t1, _, g1⟩ := hF3.two
                        go_simp
                        refine hK.out _ _ hci4 (fun hHeld5 => ?_)
                        clear hK K
                        (try simp only [Act.put, List.setIfInBounds_toArray, List.set_cons_zero, List.set_cons_succ])
                        refine Reg.done (by kernel_rfl) ?_ _
                        go_wp2
                        go_roundw
                        case rel => exact ⟨k + 1, by have := HY.out; omega, by have := HY.out.2.2; congr 1; omega, A1, d1, hF4, hR4, hO4, hB4⟩
                        case measure => simp [intOf]; have := HJ.out; omega
                      · intro K hK
                        go_simp
                        refine hK.out _ _ hcia (fun hHeld2 => ?_)
                        clear hK K
                        (try simp only [Act.put, List.setIfInBounds_toArray, List.set_cons_zero, List.set_cons_succ])
                        refine Reg.call (i := 1) rfl (by kernel_rfl) (by rfl) ?_
                        intro K hK
                        go_simp
                        refine hK.out _ _ hcia (fun hHeld3 => ?_)
                        clear hK K
                        (try simp only [Act.put, List.setIfInBounds_toArray, List.set_cons_zero, List.set_cons_succ])
                        refine Reg.call (i := 10) rfl (by kernel_rfl) (by rfl) ?_
                        intro K hK
                        refine Row.wp_append (S := sampS) (.tmp 118) (.tmp 126) _ rfl (w.heap.size + 2) 44 _ 8 (by omega) Try.underlying50 HInfo.out (by kernel_rfl) (.slice A' k c') k (unsampsT b k) rfl hOa (some ⟨wd.heap.size, 0, none⟩) 1 1 [((m : Int), ((f : Int) == 1))] rfl hVn (by omega) hBase ?_
                        intro v1 W3 hO1 hg1 hat1
                        have hK1 := Kept.of_grown hg1
                        have hF3 := hK1.has hFa (own_apart hOa (by omega))
                        have hR3 := hK1.has hRa (own_apart hOa (by omega))
                        have hB3 := below_kept hBa hK1 hBa.size (fun y hy => by have := own_in hOa y hy; omega)
                        have hci3 := (hB3.cell hxl).trans hci0
                        rw [← HST.out] at hO1
                        obtain ⟨A1, d1, rfl, e1, e2, hV1, _⟩ := Row.Vals.own hO1
                        refine hK.out _ _ hci3 (fun hHeld4 => ?_)
                        clear hK K
                        (try simp only [Act.put, List.setIfInBounds_toArray, List.set_cons_zero, List.set_cons_succ])
                        refine Reg.take (i := 11) (v := ?v20) rfl (by kernel_rfl) (by kernel_rfl) (by kernel_rfl) (by rfl) ?hv20 (by assumption) ?rest20
                        case hv20 => first | (intro w hSw; (try dsimp only at hSw); go_simp; done) | (intro w hSw; (try dsimp only at hSw); go_simp; with_reducible rfl)
                        (try simp only [Act.put, List.setIfInBounds_toArray, List.set_cons_zero, List.set_cons_succ])
                        have hF4 : Has (W3.setCell ⟨w.heap.size + 1, 1, none⟩ (.slice A1 (k + 1) d1)) (w.heap.size + 1) 52 #[.int .u8 sq, .slice A1 (k + 1) d1] := by
                          have := hF3.set_ 1 (.slice A1 (k + 1) d1)
                          simpa using this
                        have hR4 := hR3.far (p := ⟨w.heap.size + 1, 1, none⟩) (by simp) (.slice A1 (k + 1) d1)
                        have hO4 := own_kept hO1 ((Kept.refl [w.heap.size + 1] W3).setCell (p := ⟨w.heap.size + 1, 1, none⟩) (.inl (by simp)) (.slice A1 (k + 1) d1)) (fun y hy => by simp at hy; omega)
                        have hB4 := hB3.setCell (p := ⟨w.heap.size + 1, 1, none⟩) (by simp) (.slice A1 (k + 1) d1)
                        have hci4 := (hB4.cell hxl).trans hci0
                        refine Reg.call (i := 12) rfl (by kernel_rfl) (by rfl) ?_
                        intro K hK
                        obtain ⟨_, t1, _, g1⟩ := hF3.two
                        go_simp
                        refine hK.out _ _ hci4 (fun hHeld5 => ?_)
                        clear hK K
                        (try simp only [Act.put, List.setIfInBounds_toArray, List.set_cons_zero, List.set_cons_succ])
                        refine Reg.done (by kernel_rfl) ?_ _
                        go_wp2
                        go_roundw
                        case rel => exact ⟨k + 1, by have := HY.out; omega, by have := HY.out.2.2; congr 1; omega, A1, d1, hF4, hR4, hO4, hB4⟩
                        case measure => simp [intOf]; have := HJ.out; omega
                  · have hkb2 : k = b3 := by omega
                    obtain ⟨i, hi⟩ : ∃ i, 4 + 3 * k = i := ⟨_, rfl⟩
                    rw [hi]
                    have hiz : ¬ (i : Int) < (Y : Int) := by omega
                    obtain ⟨A9, c9, e9, e1, e2, hV9, hblk, _⟩ := Row.Vals.own hO
                    injection e9 with e91 e92 e93
                    subst e91
                    subst e93
                    have hK9 := ((Kept.refl [w.heap.size] wr).setCell (p := ⟨w.heap.size, 0, none⟩) (.inl (by simp)) (.int .u8 sq)).setCell (p := ⟨w.heap.size, 1, none⟩) (.inl (by simp)) (.slice A' k c')
                    have hVw := hV9.kept hK9 (fun _ y hy => by have := (hblk y hy).1; simp; omega)
                    have hl := hres.out.2.1
                    rw [HB3.out, ← hkb2] at hl
                    have HL := Lib.hid hl
                    have hk32 : k ≤ 32 := by omega
                    obtain ⟨r0, r1, rf0, rf1⟩ := hR.two
                    clear hi hl hkb2
                    go_wp2
                    obtain ⟨p0, p1, _, _⟩ := (hR.put2 (.int .u8 sq) (.slice A' k c')).two
                    refine bodyPost_ret (v := .tuple #[.agg #[.int .u8 sq, .slice A' k c'], .int .i64 Z, .int .i64 0]) (by simp [results, Try.results47, go_sem, p0, p1]) rfl ⟨A', k, c', by rw [hres.out.1, HSQ.out, hres.out.2.2, HZ.out, HOK.out], e1, e2, by rw [HL.out]; exact hVw, hk32, (fun y hy => by have := (hblk y hy).1; omega), below_put2 hB (Nat.le_refl _) _ _⟩
            · rw [if_neg (fun h => hlt h.1), if_neg (fun h => hlast h.1)] at he
              have hne := Lib.hid (HNX.out he hlast)
              have hm1 : ¬ ((j : Int) = (Z : Int) - 1) := by omega
              clear he hx hv hY hlt hlast
              go_wp2
              go_round
              case rel => exact ⟨_, by omega, by first | rfl | go_num, hne.out⟩
              case measure => first | (simp [intOf]; done) | (simp [intOf]; omega)
      · have hres := sound_bad HS.out hj102 (err_short HS.out (by omega)) (by decide)
        clear hv
        have HRES := Lib.hid hres
        clear hres
        go_wp2
        refine bodyPost_ret (v := .tuple #[.agg #[.int .u8 0, .slice none 0 0], .int .i64 0, .int .i64 6]) (by simp [results, Try.results47, go_sem]) rfl ⟨none, 0, 0, by rw [HRES.out.1, HRES.out.2.1, HRES.out.2.2.2]; rfl, by omega, by omega, by rw [HRES.out.2.2.1]; exact Row.Vals.none_ _, by omega, (fun x hx => by cases hx), hBW⟩
    · exfalso
      have h1 : j = 102 := by omega
      have h2 := size_bound HS.out.1 (by omega)
      have h3 := HS.out.2 (by omega)
      omega
end Go.Proofs.Ytfimgkomfnfjkaa.Frm
end
section
/- The reference's walk over bytes. -/
set_option linter.unusedSimpArgs false
set_option linter.unusedVariables false
namespace Go.Proofs.Ytfimgkomfnfjkaa.Par
open Go.RowKit RU8 Frm
/-- What a walk answers. -/
def WalkIs (w : World) (b : List Nat) (e : Ending) (w' : World) : Prop :=
  ∃ A n c qs, e = .returned (.tuple #[.slice A n c, .int .i64 (endT b : Nat)]) ∧ n ≤ c ∧ c ≤ 9223372036854775807 ∧ n ≤ b.length ∧ Row.Vals placeS w' A n (pvs 0 (walkP 0 b) qs) ∧ Held w' w.heap.size none qs ((walkP 0 b).map (·.l)) ∧ (∀ x, A = some x → w.heap.size ≤ x.block) ∧ Below w.heap.size w w'
theorem vals_block {α : Type} {S : Row.Shape α} {w : World} {x : Addr} {n : Nat} {ys : List α} (h : Row.Vals S w (some x) n ys) (h0 : 0 < n) : x.block < w.heap.size := by
  obtain ⟨y, hy, hc⟩ := h.cells h0
  injection hy with hy
  subst hy
  have hl : 0 < (Row.flat S ys).length := by rw [Row.flat_length, h.len_]; exact Nat.mul_pos h0 S.pos
  have := World.block_lt_of_cell? _ _ (hc 0 _ (List.getElem?_eq_getElem hl))
  simpa [Addr.add] using this
theorem Held.free {w : World} {base : Nat} {g : Option Nat} {qs : List Ptr} {ls : List (List Samp)} (h : Held w base g qs ls) : Held w base none qs ls :=
  ⟨h.len, h.read, h.cap, fun q hq x hx => by obtain ⟨h1, h2, _⟩ := h.far q hq x hx; exact ⟨h1, h2, by simp⟩⟩
theorem two_new (W : World) (o : Obj) (t : TypeId) (p : PV) : Row.Vals placeS ((W.alloc o).alloc (.cells (placeS.enc p).toArray t)) (some ⟨W.heap.size + 1, 0, none⟩) 1 [p] := by
  have h := Row.Vals.has (S := placeS) (ys := [p]) (tl := []) (g := (W.alloc o).heap.size) (t := t) (w := (W.alloc o).alloc (.cells (placeS.enc p).toArray t)) (by
    rw [List.append_nil, show Row.flat placeS [p] = placeS.enc p by simp [Row.flat]]
    exact Has.new _ _ _)
  rwa [show (W.alloc o).heap.size = W.heap.size + 1 by simp] at h
/-- How far the walk has come: the places so far, and where it goes on. -/
structure Walking (b : List Nat) (k : Nat) (d : Bool) (ps : List Place) : Prop where
  le : k ≤ b.length
  walk : walkP 0 b = ps ++ walkP k (b.drop k)
  stop : endP 0 b = endP k (b.drop k)
  pend : lastEnd 0 ps ≤ k
  dirty : d = decide (k ≠ lastEnd 0 ps)
  few : 6 * ps.length ≤ k
theorem walking_start (b : List Nat) : Walking b 0 false [] := ⟨Nat.zero_le _, by simp, by simp, Nat.le_refl _, rfl, by simp⟩
theorem walking_end {b : List Nat} {k : Nat} {d : Bool} {ps : List Place} (h : Walking b k d ps) (h6 : lookE (b.drop k) = 6) : walkP 0 b = ps ∧ endP 0 b = k := by
  obtain ⟨h1, h2⟩ := walk_end k h6
  exact ⟨by rw [h.walk, h1, List.append_nil], by rw [h.stop, h2]⟩
theorem walking_bad {b : List Nat} {k : Nat} {d : Bool} {ps : List Place} (h : Walking b k d ps) (h6 : lookE (b.drop k) ≠ 6) (h0 : lookE (b.drop k) ≠ 0) : Walking b (k + 1) true ps := by
  obtain ⟨h1, h2⟩ := walk_bad k h6 h0
  have hl := ne_nil h6
  rw [List.length_drop] at hl
  rw [List.drop_drop] at h1 h2
  have := h.pend
  exact ⟨by omega, by rw [h.walk, h1], by rw [h.stop, h2], by omega, (decide_eq_true (by omega)).symm, by have := h.few; omega⟩
theorem walking_good {b : List Nat} (hb : Bytes b) {k : Nat} {d : Bool} {ps : List Place} (h : Walking b k d ps) (h0 : lookE (b.drop k) = 0) :
    Walking b (k + lookN (b.drop k)) false (ps ++ [⟨k, lookSeq (b.drop k), lookL (b.drop k)⟩]) ∧ lookN (b.drop k) ≤ b.length := by
  obtain ⟨h1, h2⟩ := walk_good k h0
  obtain ⟨s1, s2, s3, s4, s5⟩ := look_size (bytes_drop hb k) h0
  rw [List.length_drop] at s2
  rw [List.drop_drop] at h1 h2
  have hle := h.le
  have he : lastEnd 0 (ps ++ [⟨k, lookSeq (b.drop k), lookL (b.drop k)⟩]) = k + lookN (b.drop k) := by rw [lastEnd_snoc]; unfold Place.end_; rw [s1]
  refine ⟨⟨by omega, by rw [h.walk, h1, List.append_assoc]; rfl, by rw [h.stop, h2], by rw [he]; exact Nat.le_refl _, by rw [he]; simp, ?_⟩, by omega⟩
  have := h.few
  rw [List.length_append, List.length_singleton]
  omega
set_option maxRecDepth 100000 in
set_option maxHeartbeats 1000000 in
theorem refwalk_any (A : Option Addr) (n c : Nat) (b : List Nat) (w : World) (hv : Vals w A n b) (hb : Bytes b) (hn : n ≤ 2000) (hc : n ≤ c) (hc2 : c ≤ 9223372036854775807) :
    Calls Try.prog 41 #[.slice A n c] w (WalkIs w b) := by
  have hlen := hv.len_
  have hInfo : (Try.prog.info? 79).map (fun i => (i.zero, i.size, i.bytes)) = some (some (.agg #[.int .i64 0, .bool false, .int .u8 0, .slice none 0 0]), 4, 48) := by kernel_rfl
  have HInfo := Lib.hid hInfo
  have HS := Lib.hid (walking_start b)
  clear hInfo
  go_enter Try.func41, Try.ntmps41
  go_wp2
  go_loopw [4, 5, 6] (fun v d i wr => ∃ (k : Nat) (dd : Bool) (ps : List Place) (qs : List Ptr), i = .int .i64 (k : Nat) ∧ d = .bool dd ∧ Walking b k dd ps ∧ wr.ownsRow w.heap.size 79 4 v ps.length (Row.flat placeS (pvs 0 ps qs)) ∧ Held wr w.heap.size v.ownBlock qs (ps.map (·.l)) ∧ Below w.heap.size w wr) (fun _ _ i _ => n - (intOf i).toNat)
  case atStart => exact ⟨0, false, [], [], rfl, rfl, HS.out, Row.own_none (S := placeS) _ _ _, Held.none_ _ _ _, Below.refl _ _⟩
  case round =>
    obtain ⟨k, dd, ps, qs, rfl, rfl, hW, hO, hH, hB⟩ := hrel
    have hk := hW.le
    rw [hlen] at hk
    have HW := Lib.hid hW
    clear hW
    have hkz : (k : Int) ≤ (n : Int) ∧ (k : Int) ≤ (c : Int) ∧ k ≤ n ∧ k ≤ c := by omega
    rcases A with _ | x
    · have hn0 : n = 0 := by
        rcases Nat.eq_zero_or_pos n with h | h
        · exact h
        · obtain ⟨x, hx, _⟩ := hv.cells h; cases hx
      have hk0 : k = 0 := by omega
      subst hn0 hk0
      have hlk := reflook_any none 0 c (b.drop 0) wr (hv.below (hB.mono (Nat.le_refl _))) hb (by omega) hc hc2
      have h6 : lookE (b.drop 0) = 6 := by rw [List.eq_nil_of_length_eq_zero hlen]; exact look_nil
      unfold LookIs at hlk
      obtain ⟨hz1, hz2⟩ := walking_end HW.out h6
      have hfew := HW.out.few
      rw [h6] at hlk
      generalize lookSeq (b.drop 0) = q at hlk
      generalize lookL (b.drop 0) = ls at hlk
      generalize lookN (b.drop 0) = N at hlk
      clear h6
      obtain ⟨A0, c0, rfl, e1, e2, hV0, hfar0, hob⟩ := Row.Vals.own hO
      go_wp2_with (go_at_call 47; ((with_reducible refine hlk.mono ?_); rintro e W1 ⟨A9, m9, c9, rfl, g1, g2, g3, g4, g5, hB1⟩; have hB2 := hB1.alloc hB1.size (.cells #[.int .u8 (q : Nat), .slice A9 m9 c9] 52)))
      go_ret2
      exact ⟨A0, ps.length, c0, qs, by rw [show endT b = 0 from hz2]; rfl, e1, e2, by omega, by rw [hz1]; exact hV0.below hB2, by rw [hz1]; exact ((hH.below hB2).kept (Kept.refl [] _) (fun z hz => by cases hz)).free, (fun x hx => (hfar0 x hx).1), hB.trans (hB2.mono hB.size)⟩
    · by_cases hck : c = k
      · have hckz : (c : Int) - (k : Int) = 0 := by omega
        have hlk := reflook_any (some x) (n - k) 0 (b.drop k) wr ⟨by rw [List.length_drop, hlen], fun h => absurd h (by omega)⟩ (bytes_drop hb k) (by omega) (by omega) (by omega)
        have hnil : b.drop k = [] := List.eq_nil_of_length_eq_zero (by rw [List.length_drop, hlen]; omega)
        have h6 : lookE (b.drop k) = 6 := by rw [hnil]; exact look_nil
        unfold LookIs at hlk
        obtain ⟨hz1, hz2⟩ := walking_end HW.out h6
        have hfew := HW.out.few
        rw [h6] at hlk
        generalize lookSeq (b.drop k) = q at hlk
        generalize lookL (b.drop k) = ls at hlk
        generalize lookN (b.drop k) = N at hlk
        clear h6
        obtain ⟨A0, c0, rfl, e1, e2, hV0, hfar0, hob⟩ := Row.Vals.own hO
        go_wp2_with (go_at_call 47; ((with_reducible refine hlk.mono ?_); rintro e W1 ⟨A9, m9, c9, rfl, g1, g2, g3, g4, g5, hB1⟩; have hB2 := hB1.alloc hB1.size (.cells #[.int .u8 (q : Nat), .slice A9 m9 c9] 52)))
        go_ret2
        exact ⟨A0, ps.length, c0, qs, by rw [show endT b = k from hz2]; rfl, e1, e2, by omega, by rw [hz1]; exact hV0.below hB2, by rw [hz1]; exact ((hH.below hB2).kept (Kept.refl [] _) (fun z hz => by cases hz)).free, (fun x hx => (hfar0 x hx).1), hB.trans (hB2.mono hB.size)⟩
      · have hckz : ¬ (c : Int) - (k : Int) = 0 := by omega
        have hlk := reflook_any (some (x.add k)) (n - k) (c - k) (b.drop k) wr ((hv.below hB).drop k (by omega)) (bytes_drop hb k) (by omega) (by omega) (by omega)
        unfold LookIs at hlk
        have HB' := Lib.hid (bytes_drop hb k)
        by_cases h6 : lookE (b.drop k) = 6
        · obtain ⟨hz1, hz2⟩ := walking_end HW.out h6
          have hfew := HW.out.few
          rw [h6] at hlk
          generalize lookSeq (b.drop k) = q at hlk
          generalize lookL (b.drop k) = ls at hlk
          generalize lookN (b.drop k) = N at hlk
          clear h6
          obtain ⟨A0, c0, rfl, e1, e2, hV0, hfar0, hob⟩ := Row.Vals.own hO
          go_wp2_with (go_at_call 47; ((with_reducible refine hlk.mono ?_); rintro e W1 ⟨A9, m9, c9, rfl, g1, g2, g3, g4, g5, hB1⟩; have hB2 := hB1.alloc hB1.size (.cells #[.int .u8 (q : Nat), .slice A9 m9 c9] 52)))
          go_ret2
          exact ⟨A0, ps.length, c0, qs, by rw [show endT b = k from hz2]; rfl, e1, e2, by omega, by rw [hz1]; exact hV0.below hB2, by rw [hz1]; exact ((hH.below hB2).kept (Kept.refl [] _) (fun z hz => by cases hz)).free, (fun x hx => (hfar0 x hx).1), hB.trans (hB2.mono hB.size)⟩
        · by_cases h0 : lookE (b.drop k) = 0
          · obtain ⟨hW2, hNb⟩ := walking_good hb HW.out h0
            obtain ⟨s1, s2, s3, s4, s5⟩ := look_size HB'.out h0
            rw [List.length_drop, hlen] at s2
            have S1 := Lib.hid s1
            have S3 := Lib.hid s3
            have hN9 : 6 ≤ lookN (b.drop k) := by omega
            clear s1 s3 s4
            rw [h0] at hlk
            have hfew := HW.out.few
            have hpl : (pvs 0 ps qs).length = ps.length := pvs_length 0 ps qs (by rw [hH.len, List.length_map])
            have hsn := pvs_snoc 0 ps qs (by rw [hH.len, List.length_map]) ⟨k, lookSeq (b.drop k), lookL (b.drop k)⟩
            have hdd := HW.out.dirty
            have HW2 := Lib.hid hW2
            have HSN := Lib.hid hsn
            have HDD := Lib.hid hdd
            clear hW2 hsn hdd h0 h6
            generalize lookSeq (b.drop k) = q at *
            generalize lookL (b.drop k) = ls at *
            generalize lookN (b.drop k) = N at *
            obtain ⟨kn, hkn⟩ : ∃ m, k + N = m := ⟨_, rfl⟩
            have hknz : (k : Int) + (N : Int) = (kn : Int) := by omega
            have HKN := Lib.hid hkn
            have hown := own_block hO
            obtain ⟨A0, c0, rfl, e1, e2, hV0, hfar0, hob⟩ := Row.Vals.own hO
            have hsz48 : ps.length + 1 ≤ 1048576 := by omega
            clear hkn e1 e2 hV0
            go_wp2_with (first
              | (go_at_call 47; ((with_reducible refine hlk.mono ?_); rintro e W1 ⟨A9, m9, c9, rfl, g1, g2, g3, g4, g5, hB1⟩; have hB2 := hB1.alloc hB1.size (.cells #[.int .u8 (q : Nat), .slice A9 m9 c9] 52); have hBa := hB2.alloc hB2.size (.cells #[.int .i64 (k : Nat), .bool dd, .int .u8 (q : Nat), .slice A9 m9 c9] 79); have hOa := own_kept hO (Kept.of_below (S := []) hBa) (by simp); have hVn : Row.Vals placeS ((W1.alloc (.cells #[.int .u8 (q : Nat), .slice A9 m9 c9] 52)).alloc (.cells #[.int .i64 (k : Nat), .bool dd, .int .u8 (q : Nat), .slice A9 m9 c9] 79)) (some ⟨W1.heap.size + 1, 0, none⟩) 1 [⟨k, dd, q, ⟨A9, m9, c9⟩⟩] := two_new W1 (.cells #[.int .u8 (q : Nat), .slice A9 m9 c9] 52) 79 ⟨k, dd, q, ⟨A9, m9, c9⟩⟩))
              | (at_builtin; refine Row.wpList_append (S := placeS) rfl (.tmp 26) (.tmp 31) _ rfl w.heap.size 79 _ 48 (by omega) Try.underlying75 HInfo.out (by kernel_rfl) (.slice A0 ps.length c0) ps.length (pvs 0 ps qs) rfl (by exact hOa) _ 1 1 [⟨k, dd, q, ⟨A9, m9, c9⟩⟩] rfl (by exact hVn) (by exact hsz48) (by exact Nat.le_trans hB.size hBa.size) ?_; intro v1 W2 hO1 hg1 hat1))
            have hm9 : 0 < m9 := by have := g3.len_; have := S3.out; omega
            have hH1 := (hH.below hBa).snoc (q := ⟨A9, m9, c9⟩) (l := ls) ((g3.alloc _).alloc _) ⟨g1, g2, g4⟩ (fun x hx => by
              have hx' : A9 = some x := hx
              have h1 := g5 x hx'
              subst hx'
              refine ⟨Nat.le_trans hB.size h1, vals_block ((g3.alloc _).alloc _) hm9, fun e => ?_⟩
              have := hown x.block e.symm
              omega)
            have hH2 := hH1.grown hg1 hat1
            have hK1 := Kept.of_grown hg1
            have hB3 := below_kept (hB.trans (hBa.mono hB.size)) hK1 (Nat.le_trans hB.size hBa.size) (own_in hOa)
            go_roundw
            case rel => exact ⟨kn, false, ps ++ [⟨k, q, ls⟩], qs ++ [⟨A9, m9, c9⟩], rfl, rfl, by rw [← HKN.out]; exact HW2.out, by rw [HSN.out, ← HDD.out, List.length_append, List.length_singleton]; exact hO1, by rw [List.map_append]; exact hH2, hB3⟩
            case measure => simp [intOf]; have := HKN.out; omega
          · have hW2 := walking_bad HW.out h6 h0
            have hl1 := ne_nil h6
            rw [List.length_drop, hlen] at hl1
            have HL1 := Lib.hid hl1
            clear hl1
            have HW2 := Lib.hid hW2
            clear hW2
            generalize lookSeq (b.drop k) = q at hlk
            generalize lookL (b.drop k) = ls at hlk
            generalize lookN (b.drop k) = N at hlk
            generalize lookE (b.drop k) = E at *
            have h6z : (E == 6) = false := by simp; exact h6
            have h0z : (E == 0) = false := by simp; exact h0
            have H6 := Lib.hid h6
            have H0 := Lib.hid h0
            clear h6 h0
            go_wp2_with (go_at_call 47; ((with_reducible refine hlk.mono ?_); rintro e W1 ⟨A9, m9, c9, rfl, g1, g2, g3, g4, g5, hB1⟩; have hB2 := hB1.alloc hB1.size (.cells #[.int .u8 (q : Nat), .slice A9 m9 c9] 52)))
            go_roundw
            case rel => exact ⟨k + 1, true, ps, qs, by go_num, rfl, HW2.out, own_kept hO (Kept.of_below (S := []) hB2) (by simp), hH.below hB2, hB.trans (hB2.mono hB.size)⟩
            case measure => have := HL1.out; simp [intOf]; omega
end Go.Proofs.Ytfimgkomfnfjkaa.Par
end
section
/- The reference: are two lists of events the same? -/
set_option linter.unusedSimpArgs false
set_option linter.unusedVariables false
namespace Go.Proofs.Ytfimgkomfnfjkaa.Par
open Go.RowKit Frm
def noEv : Ev := (0, 0, (0, false))
theorem ev_cells {w : World} {x : Addr} {len : Nat} {ys : List Ev} (h : Row.Vals evSh w (some x) len ys) (i : Nat) (hi : i < len) :
    w.cell? (x.add (i * 4)) = some (.int .i64 ((ys.getD i noEv).1 : Nat)) ∧ w.cell? ⟨(x.add (i * 4)).block, (x.add (i * 4)).off + 1, none⟩ = some (.int .i64 ((ys.getD i noEv).2.1 : Nat)) ∧
    w.cell? ⟨(x.add (i * 4)).block, (x.add (i * 4)).off + 2, none⟩ = some (.int .i32 (ys.getD i noEv).2.2.1) ∧ w.cell? ⟨(x.add (i * 4)).block, (x.add (i * 4)).off + 3, none⟩ = some (.bool (ys.getD i noEv).2.2.2) := by
  have hl := h.len_
  have e : ys.getD i noEv = ys[i]'(by omega) := by rw [List.getD_eq_getElem?_getD, List.getElem?_eq_getElem (by omega)]; rfl
  have key : ∀ m u, (evSh.enc (ys[i]'(by omega)))[m]? = some u → m < 4 → w.cell? (if m = 0 then x.add (i * 4) else ⟨(x.add (i * 4)).block, (x.add (i * 4)).off + m, none⟩) = some u := fun m u hu hm => by
    have h1 := h.at_ i m (by omega) u hu
    rw [show evSh.k = 4 from rfl] at h1
    by_cases h0 : m = 0
    · subst h0; simpa using h1
    · rw [if_neg h0]
      rw [show x.add (i * 4 + m) = ⟨(x.add (i * 4)).block, (x.add (i * 4)).off + m, none⟩ by
        unfold Addr.add
        by_cases h2 : i * 4 = 0 <;> simp [h2, h0, Nat.add_assoc]] at h1
      exact h1
  rw [e]
  exact ⟨key 0 _ rfl (by omega), key 1 _ rfl (by omega), key 2 _ rfl (by omega), key 3 _ rfl (by omega)⟩
theorem neq_ev (W : World) (k a k' a' : Nat) (v v' : Int) (o o' : Bool) : (binOp .neq 46 (.agg #[.int .i64 k, .int .i64 a, .int .i32 v, .bool o]) (.agg #[.int .i64 k', .int .i64 a', .int .i32 v', .bool o'])).run Try.prog W = .ok (.bool (!decide (k = k' ∧ a = a' ∧ v = v' ∧ o = o'))) W := by
  have ht : Try.prog.underlying 46 = some (.struct (Try.prog.fieldsOf 46)) := by kernel_rfl
  have hst : Try.prog.stoodInHeld 46 = false := by kernel_rfl
  rw [run_neq_struct, run_equalIn_agg W 9999 46 _ _ ht hst]
  simp only [Program.fieldsOf, Try.underlying46]
  simp [go_sem, Op.eqFields]
  by_cases h1 : k = k' <;> by_cases h2 : a = a' <;> by_cases h3 : v = v' <;> by_cases h4 : o = o' <;> simp [h1, h2, h3, h4, Int.natCast_inj]
theorem guard_ev (W : World) (x y : Operand) (k a k' a' : Nat) (v v' : Int) (o o' : Bool) : (eqGuard .neq 46 x y (.agg #[.int .i64 k, .int .i64 a, .int .i32 v, .bool o]) (.agg #[.int .i64 k', .int .i64 a', .int .i32 v', .bool o'])).run Try.prog W = .ok () W := run_eqGuard_agg W _ _ _ _ _ _ (by kernel_rfl)
theorem ev_eq (x y : Ev) : x = y ↔ x.1 = y.1 ∧ x.2.1 = y.2.1 ∧ x.2.2.1 = y.2.2.1 ∧ x.2.2.2 = y.2.2.2 := by
  obtain ⟨a, b, c, d⟩ := x
  obtain ⟨a', b', c', d'⟩ := y
  simp
set_option maxHeartbeats 1000000 in
theorem refsame_any (A : Option Addr) (n c : Nat) (xs : List Ev) (B : Option Addr) (m d : Nat) (ys : List Ev) (w : World) (hv : Row.Vals evSh w A n xs) (hu : Row.Vals evSh w B m ys) (hn : n ≤ 1000000) (hm : m ≤ 1000000) :
    Calls Try.prog 6 #[.slice A n c, .slice B m d] w fun e w' => e = .returned (.bool (decide (xs = ys))) ∧ ∃ z, w' = w.drewN z := by
  have hlx := hv.len_
  have hly := hu.len_
  by_cases hnm : n = m
  · subst hnm
    go_enter Try.func6, Try.ntmps6
    go_wp2
    go_loopw [5] (fun i wr => (∃ k : Nat, k ≤ n ∧ i = .int .i64 (k : Nat) ∧ ∀ j, j < k → xs.getD j noEv = ys.getD j noEv) ∧ ∃ z, wr = w.drewN z) (fun i _ => n - (intOf i).toNat)
    case atStart => exact ⟨⟨0, by omega, rfl, fun j hj => absurd hj (by omega)⟩, 0, rfl⟩
    case round =>
      obtain ⟨⟨k, hk, rfl, hall⟩, z, rfl⟩ := hrel
      have HA := Lib.hid hall
      clear hall
      by_cases hlt : k < n
      · obtain ⟨x, rfl, _⟩ := hv.cells (by omega)
        obtain ⟨y, rfl, _⟩ := hu.cells (by omega)
        obtain ⟨x0, x1, x2, x3⟩ := ev_cells hv k hlt
        obtain ⟨y0, y1, y2, y3⟩ := ev_cells hu k hlt
        have HS := Lib.hid (ev_eq (xs.getD k noEv) (ys.getD k noEv))
        generalize (xs.getD k noEv).1 = a at *
        generalize (xs.getD k noEv).2.1 = b at *
        generalize (xs.getD k noEv).2.2.1 = v at *
        generalize (xs.getD k noEv).2.2.2 = o at *
        generalize (ys.getD k noEv).1 = a' at *
        generalize (ys.getD k noEv).2.1 = b' at *
        generalize (ys.getD k noEv).2.2.1 = v' at *
        generalize (ys.getD k noEv).2.2.2 = o' at *
        have hg := fun (W : World) (x y : Operand) => guard_ev W x y a b a' b' v v' o o'
        by_cases hso : a = a' ∧ b = b' ∧ v = v' ∧ o = o'
        · obtain ⟨rfl, rfl, rfl, rfl⟩ := hso
          have hc : ∀ W : World, (binOp .neq 46 (.agg #[.int .i64 a, .int .i64 b, .int .i32 v, .bool o]) (.agg #[.int .i64 a, .int .i64 b, .int .i32 v, .bool o])).run Try.prog W = .ok (.bool false) W := fun W => by rw [neq_ev]; simp
          have hgo := HS.out.2 ⟨rfl, rfl, rfl, rfl⟩
          have HGO := Lib.hid hgo
          clear hu hv HS hgo
          go_wp2
          go_quiet (fail)
          go_wp2
          go_roundw
          case rel => exact ⟨⟨k + 1, by omega, by go_num, fun j hj => by
            rcases (by omega : j < k ∨ j = k) with h1 | h1
            · exact HA.out j h1
            · rw [h1]; exact HGO.out⟩, _, rfl⟩
          case measure => simp [intOf]; omega
        · have hc : ∀ W : World, (binOp .neq 46 (.agg #[.int .i64 a, .int .i64 b, .int .i32 v, .bool o]) (.agg #[.int .i64 a', .int .i64 b', .int .i32 v', .bool o'])).run Try.prog W = .ok (.bool true) W := fun W => by rw [neq_ev, decide_eq_false hso]; rfl
          have hne : decide (xs = ys) = false := decide_eq_false (fun h => hso (HS.out.1 (by rw [h])))
          have HNE := Lib.hid hne
          clear hne hu hv hso HS
          go_wp2
          go_quiet (fail)
          go_wp2
          go_ret
          exact ⟨by rw [HNE.out]; rfl, _, World.drewN_drewN _ _ _⟩
      · have hkn : k = n := by omega
        subst hkn
        have he : xs = ys := by
          refine List.ext_getElem (by omega) fun i h1 h2 => ?_
          have := HA.out i (by omega)
          rwa [List.getD_eq_getElem?_getD, List.getD_eq_getElem?_getD, List.getElem?_eq_getElem h1, List.getElem?_eq_getElem h2] at this
        have HE := Lib.hid (decide_eq_true he)
        clear he
        go_wp2
        go_ret
        exact ⟨by rw [HE.out]; rfl, z, rfl⟩
  · rw [decide_eq_false (by rintro rfl; omega)]
    have hz : ((n : Int) == (m : Int)) = false := by simp; omega
    have HN := Lib.hid hnm
    clear hv hu hlx hly hnm
    go_enter Try.func6, Try.ntmps6
    go_wp2
    go_ret
    exact ⟨rfl, 0, rfl⟩
end Go.Proofs.Ytfimgkomfnfjkaa.Par
end
