/- The landed window of squares's Block: over whatever its Push answers. -/
import Derived.Test.YtlbppllfmephdaaFilterKit
import Derived.Test.YtlbppllfmephdaaFilterMade
import Derived.Test.YtlbppllfmephdaaOwn
import Derived.Lib.Hide
set_option linter.unusedSimpArgs false
set_option linter.unusedVariables false
namespace Go.Proofs.Ytlbppllfmephdaa.Win
open Go.RowKit RI64
set_option maxRecDepth 100000 in
set_option maxHeartbeats 1000000 in
theorem block_of (F : List Int → Int) (Fil : World → Nat → List Nat → List Int → Prop)
    (lt : ∀ {w : World} {b : Nat} {S : List Nat} {h : List Int}, Fil w b S h → ∀ k ∈ S, k < w.heap.size)
    (kept : ∀ {w w' : World} {b : Nat} {S T : List Nat} {h : List Int}, Fil w b S h → Kept T w w' → (∀ k ∈ S, k ∉ T) → Fil w' b S h)
    (push : ∀ (b : Nat) (S : List Nat) (h : List Int) (v : Int) (w : World), Fil w b S h → Calls Try.prog 12 #[.pointer (some ⟨b, 0, none⟩), .int .i64 v] w fun e w' => e = .returned (.int .i64 (F (v :: h))) ∧ Fil w' b S (v :: h) ∧ Kept S w w')
    (b : Nat) (S : List Nat) (h : List Int) (A : Option Addr) (n c : Nat) (ys : List Int) (w : World) (hF : Fil w b S h) (hv : Vals w A n ys) (hn : n ≤ 100000) (hc : n ≤ c) (hc2 : c ≤ 9223372036854775807) (hfar : 0 < n → ∀ x, A = some x → x.block ∉ S) :
    Calls Try.prog 9 #[.pointer (some ⟨b, 0, none⟩), .slice A n c] w (BlockIs Fil F w b S h ys) := by
  have hlen := hv.len_
  have hInfo : (Try.prog.info? 2).map (fun i => (i.zero, i.size, i.bytes)) = some (some (.int .i64 0), 1, 8) := by kernel_rfl
  have HInfo := Lib.hid hInfo
  have hmk := fun W => made64 n hn W
  have hlt := lt hF
  have hO0 := own_made w 2 n hn
  have hF0 : Fil (w.alloc (.cells (vals (List.replicate n 0)).toArray 2)) b S h := kept hF ((Kept.refl [] w).alloc _) (fun _ _ h => by cases h)
  have hK0 : Kept S w (w.alloc (.cells (vals (List.replicate n 0)).toArray 2)) := (Kept.refl S w).alloc _
  unfold BlockIs
  rw [hlen]
  have HLEN := Lib.hid hlen
  clear hInfo hlen hF
  go_enter Try.func9, Try.ntmps9
  go_wp2
  go_loopw [5, 15] (fun v i wr => ∃ j : Nat, j ≤ n ∧ i = .int .i64 (j : Nat) ∧ wr.ownsRow w.heap.size 2 1 v j (vals (outsT F h (ys.take j))) ∧ Fil wr b S ((ys.take j).reverse ++ h) ∧ Kept S w wr) (fun _ i _ => n - (intOf i).toNat)
  case atStart => exact ⟨0, by omega, rfl, hO0, hF0, hK0⟩
  case round =>
    clear hO0 hF0 hK0 hmk
    obtain ⟨j, hj, rfl, hO, hFj, hK⟩ := hrel
    by_cases hjn : j < n
    · obtain ⟨x, rfl, hcx⟩ := (hv.kept hK hfar).cells (by omega)
      have hcell := hcx j hjn
      have hpu := push b S ((ys.take j).reverse ++ h) (ys.getD j 0) wr hFj
      have hst := outs_step F h ys j (by have := HLEN.out; omega)
      have hcm := came_step h ys j (by have := HLEN.out; omega)
      rw [hcm] at hst hpu
      generalize F ((ys.take (j + 1)).reverse ++ h) = r at *
      generalize ys.getD j 0 = y at *
      have HS := Lib.hid hst
      clear hst hcm hcx hv hfar
      have hready : ∀ W1, Fil W1 b S ((ys.take (j + 1)).reverse ++ h) → Kept S wr W1 → (W1.alloc (.cells #[.int .i64 r] 2)).ownsRow w.heap.size 2 1 u5 j (vals (outsT F h (ys.take j))) ∧ Vals (W1.alloc (.cells #[.int .i64 r] 2)) (some ⟨W1.heap.size, 0, none⟩) 1 [r] ∧ w.heap.size ≤ (W1.alloc (.cells #[.int .i64 r] 2)).heap.size ∧ Fil (W1.alloc (.cells #[.int .i64 r] 2)) b S ((ys.take (j + 1)).reverse ++ h) ∧ Kept S w (W1.alloc (.cells #[.int .i64 r] 2)) := fun W1 h1 h2 =>
        ⟨own_kept (own_kept hO h2 hlt) ((Kept.refl [] _).alloc _) (by simp), Vals.has (ys := [r]) (tl := []) (Has.new W1 _ _), ((hK.trans h2).alloc _).size, kept h1 ((Kept.refl [] _).alloc _) (fun _ _ h => by cases h), (hK.trans h2).alloc _⟩
      have HR := Lib.hid hready
      clear hready hFj
      go_wp2_with (first
        | (go_at_call 12; ((with_reducible refine hpu.mono ?_); rintro e W1 ⟨rfl, hF1, hK1⟩; obtain ⟨hO2, hV2, hz2, hF2, hK2⟩ := HR.out W1 hF1 hK1))
        | (at_builtin; refine wpList_append_vals rfl (.tmp 19) (.tmp 23) _ rfl w.heap.size 2 8 (by omega) Try.underlying22 HInfo.out u5 j (outsT F h (ys.take j)) rfl (by exact hO2) _ 1 1 [r] rfl (by exact hV2) (by omega) (by exact hz2) ?_; intro v3 W3 hO3 hg3 hat3; have hK3 := Kept.of_grown hg3; have hF3 := kept hF2 hK3 (fun k hk => own_apart hO2 (hlt k hk)); have hK4 := hK2.grown hg3 (fun k hk => .inr (own_block hO2 k hk).1); rw [← HS.out] at hO3))
      go_roundw
      case rel => exact ⟨j + 1, by omega, by go_num, hO3, hF3, hK4⟩
      case measure => simp [intOf]; omega
    · obtain rfl : j = n := by omega
      have HT := Lib.hid (show ys.take j = ys from List.take_of_length_le (by have := HLEN.out; omega))
      rw [HT.out] at hO hFj
      obtain ⟨A1, c1, rfl, e1, e2, hV1, hfar1, _⟩ := Vals.own hO
      clear hv hfar
      go_wp2
      go_ret
      exact ⟨A1, c1, rfl, e1, e2, hV1, (fun x hx => (hfar1 x hx).1), hFj, hK⟩
end Go.Proofs.Ytlbppllfmephdaa.Win
