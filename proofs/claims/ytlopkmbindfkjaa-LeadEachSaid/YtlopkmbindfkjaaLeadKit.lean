/- What a lead's calls answer, as the laws of layer 9 (and the layers above) use it: the code's own text gives one of these. -/
import Derived.Test.YtlopkmbindfkjaaLeadItems
set_option linter.unusedSimpArgs false
set_option linter.unusedVariables false
namespace Go.Proofs.Ytlopkmbindfkjaa.Lead
open Go.RowKit
/-- What a Push answers of a lead that lies in the blocks S: the items that come, in memory of their own; it lies in S and new blocks. -/
def PushIs (Led : World → Nat → List Nat → List Ev → Prop) (w : World) (b : Nat) (S : List Nat) (all ys : List Ev) (e : Ending) (w' : World) : Prop :=
  ∃ B m d S', e = .returned (.slice B m d) ∧ m ≤ d ∧ d ≤ 9223372036854775807 ∧ Row.Vals itS w' B m (behindT all ys) ∧ (∀ x, B = some x → w.heap.size ≤ x.block ∧ x.block ∉ S') ∧ Led w' b S' (all ++ ys) ∧ (∀ k ∈ S', k ∈ S ∨ w.heap.size ≤ k) ∧ Kept S w w'
structure LeadKit where
  /-- The lead in block b lies in the blocks S, and these are the events so far. -/
  Led : World → Nat → List Nat → List Ev → Prop
  lt : ∀ {w : World} {b : Nat} {S : List Nat} {all : List Ev}, Led w b S all → ∀ k ∈ S, k < w.heap.size
  kept : ∀ {w w' : World} {b : Nat} {S T : List Nat} {all : List Ev}, Led w b S all → Kept T w w' → (∀ k ∈ S, k ∉ T) → Led w' b S all
  new_any : ∀ w : World, Calls Try.prog 7 #[] w fun e w' => ∃ b S, e = .returned (.pointer (some ⟨b, 0, none⟩)) ∧ Led w' b S [] ∧ (∀ k ∈ S, w.heap.size ≤ k) ∧ Below w.heap.size w w'
  push_any : ∀ (b : Nat) (S : List Nat) (all : List Ev) (A : Option Addr) (n c : Nat) (ys : List Ev) (w : World), Led w b S all → all.length ≤ 4000 → Row.Vals evS w A n ys → n ≤ 2000 → n ≤ c → c ≤ 9223372036854775807 → (0 < n → ∀ x, A = some x → x.block ∉ S) →
    Calls Try.prog 10 #[.pointer (some ⟨b, 0, none⟩), .slice A n c] w (PushIs Led w b S all ys)
  on_any : ∀ (b : Nat) (S : List Nat) (all : List Ev) (w : World), Led w b S all → all.length ≤ 4000 → Calls Try.prog 11 #[.pointer (some ⟨b, 0, none⟩)] w fun e w' => e = .returned (.bool (onT all)) ∧ Below w.heap.size w w'
  clone_any : ∀ (b : Nat) (S : List Nat) (all : List Ev) (w : World), Led w b S all → all.length ≤ 4000 → Calls Try.prog 12 #[.pointer (some ⟨b, 0, none⟩)] w fun e w' => ∃ b' S', e = .returned (.pointer (some ⟨b', 0, none⟩)) ∧ Led w' b' S' all ∧ (∀ k ∈ S', w.heap.size ≤ k) ∧ Below w.heap.size w w'
  items_any : ∀ (A : Option Addr) (n c : Nat) (ys : List Ev) (w : World), Row.Vals evS w A n ys → n ≤ 2000 → n ≤ c → c ≤ 9223372036854775807 →
    Calls Try.prog 14 #[.slice A n c] w fun e w' => ∃ B m d, e = .returned (.slice B m d) ∧ m ≤ d ∧ d ≤ 9223372036854775807 ∧ Row.Vals itS w' B m (itemsT ys) ∧ (∀ x, B = some x → w.heap.size ≤ x.block) ∧ Below w.heap.size w w'
  no_push : ∀ (A : Option Addr) (n c : Nat) (ys : List Ev) (w : World), Row.Vals evS w A n ys → n ≤ 2000 → n ≤ c → c ≤ 9223372036854775807 →
    Calls Try.prog 10 #[.pointer none, .slice A n c] w fun e w' => ∃ B d, e = .returned (.slice B 0 d) ∧ Below w.heap.size w w'
  no_on : ∀ w : World, Calls Try.prog 11 #[.pointer none] w fun e w' => e = .returned (.bool false) ∧ Below w.heap.size w w'
  no_clone : ∀ w : World, Calls Try.prog 12 #[.pointer none] w fun e w' => e = .returned (.pointer none) ∧ Below w.heap.size w w'
theorem LeadKit.below (K : LeadKit) {w w' : World} {b : Nat} {S : List Nat} {all : List Ev} (h : K.Led w b S all) (hB : Below w.heap.size w w') : K.Led w' b S all := K.kept h (Kept.of_below (S := []) hB) (fun _ _ h => by cases h)
/-- So many samples from t on. -/
def samplesT (n : Nat) (t : Int) (off : Bool) : List Ev := (List.range n).map (fun i : Nat => ((2 : Int), t + (i : Int), (3 : Int), off))
theorem samplesT_length (n : Nat) (t : Int) (off : Bool) : (samplesT n t off).length = n := by simp [samplesT]
theorem samplesT_succ (n : Nat) (t : Int) (off : Bool) : samplesT (n + 1) t off = samplesT n t off ++ [(2, t + n, 3, off)] := by simp [samplesT, List.range_succ]
theorem ev_new (W : World) (t : TypeId) (k a v : Int) (o : Bool) : Row.Vals evS (W.alloc (.cells #[.int .i64 k, .int .i64 a, .int .i32 v, .bool o] t)) (some ⟨W.heap.size, 0, none⟩) 1 [(k, a, v, o)] :=
  Row.Vals.has (S := evS) (ys := [(k, a, v, o)]) (tl := []) (Has.new _ _ _)
theorem ev_ready {w W : World} {v : Value} {E : List Ev} (t : TypeId) (k a x : Int) (o : Bool) (hO : W.ownsRow w.heap.size t 4 v E.length (Row.flat evS E)) (hB : Below w.heap.size w W) :
    (W.alloc (.cells #[.int .i64 k, .int .i64 a, .int .i32 x, .bool o] t)).ownsRow w.heap.size t 4 v E.length (Row.flat evS E) ∧ Below w.heap.size w (W.alloc (.cells #[.int .i64 k, .int .i64 a, .int .i32 x, .bool o] t)) ∧
    Row.Vals evS (W.alloc (.cells #[.int .i64 k, .int .i64 a, .int .i32 x, .bool o] t)) (some ⟨W.heap.size, 0, none⟩) 1 [(k, a, x, o)] :=
  ⟨own_kept hO ((Kept.refl [] _).alloc _) (by simp), hB.alloc hB.size _, ev_new W t k a x o⟩
set_option maxHeartbeats 1000000 in
theorem samples_any (n t : Nat) (off : Bool) (w : World) (hn : n ≤ 2000) (ht : t ≤ 100000) :
    Calls Try.prog 13 #[.int .i64 (n : Nat), .int .i64 (t : Nat), .bool off] w fun e w' => ∃ A c, e = .returned (.slice A n c) ∧ n ≤ c ∧ c ≤ 9223372036854775807 ∧ Row.Vals evS w' A n (samplesT n t off) ∧ (∀ x, A = some x → w.heap.size ≤ x.block) ∧ Below w.heap.size w w' := by
  have hInfo : (Try.prog.info? 37).map (fun i => (i.zero, i.size, i.bytes)) = some (some (.agg #[.int .i64 0, .int .i64 0, .int .i32 0, .bool false]), 4, 24) := by kernel_rfl
  have HInfo := Lib.hid hInfo
  clear hInfo
  go_enter Try.func13, Try.ntmps13
  go_wp2
  go_loopw [7, 10] (fun v i wr => ∃ j : Nat, j ≤ n ∧ i = .int .i64 (j : Nat) ∧ wr.ownsRow w.heap.size 37 4 v (samplesT j t off).length (Row.flat evS (samplesT j t off)) ∧ Below w.heap.size w wr) (fun _ i _ => n - (intOf i).toNat)
  case atStart => exact ⟨0, by omega, rfl, Row.own_none (S := evS) _ _ _, Below.refl _ _⟩
  case round =>
    obtain ⟨j, hj, rfl, hO, hB⟩ := hrel
    by_cases hjn : j < n
    · have hwr : IntKind.i64.wrap ((t : Int) + (j : Int)) = (t : Int) + (j : Int) := IntWalk.i64_in _ (by omega)
      have hs := samplesT_succ j t off
      have hl := samplesT_length j t off
      have hP := ev_ready 37 2 ((t : Int) + (j : Int)) 3 off hO hB
      generalize hE2 : samplesT (j + 1) t off = E2 at *
      generalize hE : samplesT j t off = E at *
      have HS := Lib.hid hs
      have hE1 : E.length + 1 ≤ 1048576 := by omega
      clear hs
      go_wp2_with (at_builtin; refine Row.wpList_append (S := evS) rfl (.tmp 13) (.tmp 20) _ rfl w.heap.size 37 _ 24 (by omega) Try.underlying25 HInfo.out (by kernel_rfl) u7 E.length E rfl hP.1 _ 1 1 _ rfl hP.2.2 (by exact hE1) hP.2.1.size ?_; intro v3 W3 hO3 hg3 hat3; have hB3 := below_kept hP.2.1 (Kept.of_grown hg3) hP.2.1.size (own_in hP.1))
      go_roundw
      case rel => exact ⟨j + 1, by omega, by go_num, by rw [hE2, HS.out, List.length_append]; exact hO3, hB3⟩
      case measure => simp [intOf]; omega
    · obtain rfl : j = n := by omega
      rw [samplesT_length] at hO
      obtain ⟨A1, c1, rfl, e1, e2, hV1, hfar1, _⟩ := Row.Vals.own hO
      go_wp2
      go_ret
      exact ⟨A1, c1, rfl, e1, e2, hV1, (fun x hx => (hfar1 x hx).1), hB⟩
end Go.Proofs.Ytlopkmbindfkjaa.Lead
