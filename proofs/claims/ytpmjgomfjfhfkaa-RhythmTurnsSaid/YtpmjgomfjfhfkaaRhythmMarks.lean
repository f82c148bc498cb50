/- The marks of runs: samples one behind the other, and then a mark. -/
import Derived.Test.YtpmjgomfjfhfkaaRhythmLive
import Derived.Test.YtpmjgomfjfhfkaaFlat
import Derived.Test.YtpmjgomfjfhfkaaEventIn
import Derived.OpenShut
set_option linter.unusedSimpArgs false
set_option linter.unusedVariables false
namespace Go.Proofs.Ytpmjgomfjfhfkaa.Rhythm
open Go.RowKit
/-- A run: how many samples, how high, the mark's kind and distance. -/
abbrev Rn := Nat × Int × Int × Int
def noRn : Rn := (0, 0, 0, 0)
def rnS : Row.Shape Rn := ⟨4, fun v => [.int .u8 (v.1 : Nat), .int .i32 v.2.1, .int .i64 v.2.2.1, .int .i64 v.2.2.2], fun _ => rfl, by decide, fun p u hu => by
  simp at hu
  rcases hu with rfl | rfl | rfl | rfl <;> rfl⟩
def RnOk (r : Rn) : Prop := r.1 ≤ 255 ∧ -2147483648 ≤ r.2.1 ∧ r.2.1 ≤ 2147483647
theorem rn_dec (vs : List Value) (h : Row.Oks [.int .u8, .int .i32, .int .i64, .int .i64] vs) : ∃ z : Rn, rnS.enc z = vs ∧ RnOk z := by
  obtain ⟨v1, r1, rfl, ⟨n, rfl, hn⟩, h1⟩ := Row.oks_cons h
  obtain ⟨v2, r2, rfl, ⟨a, rfl, ha⟩, h2⟩ := Row.oks_cons h1
  obtain ⟨v3, r3, rfl, ⟨m, rfl, _⟩, h3⟩ := Row.oks_cons h2
  obtain ⟨v4, r4, rfl, ⟨q, rfl, _⟩, h4⟩ := Row.oks_cons h3
  obtain rfl := Row.oks_nil h4
  have hb := bounds_u8 hn
  have hc := bounds_i32 ha
  obtain ⟨k, rfl⟩ : ∃ k : Nat, n = (k : Int) := ⟨n.toNat, by omega⟩
  exact ⟨(k, a, m, q), rfl, by show k ≤ 255; omega, hc⟩
theorem rn_cells {w : World} {x : Addr} {len : Nat} {ys : List Rn} (h : Row.Vals rnS w (some x) len ys) (i : Nat) (hi : i < len) :
    w.cell? (x.add (i * 4)) = some (.int .u8 ((ys.getD i noRn).1 : Nat)) ∧ w.cell? ⟨(x.add (i * 4)).block, (x.add (i * 4)).off + 1, none⟩ = some (.int .i32 (ys.getD i noRn).2.1) ∧
    w.cell? ⟨(x.add (i * 4)).block, (x.add (i * 4)).off + 2, none⟩ = some (.int .i64 (ys.getD i noRn).2.2.1) ∧ w.cell? ⟨(x.add (i * 4)).block, (x.add (i * 4)).off + 3, none⟩ = some (.int .i64 (ys.getD i noRn).2.2.2) := by
  have hl := h.len_
  have e : ys.getD i noRn = ys[i]'(by omega) := by rw [List.getD_eq_getElem?_getD, List.getElem?_eq_getElem (by omega)]; rfl
  rw [e]
  exact ⟨by simpa [rnS] using h.at_ i 0 (by omega) _ rfl, part_at h i 1 (by omega) _ rfl (by omega), part_at h i 2 (by omega) _ rfl (by omega), part_at h i 3 (by omega) _ rfl (by omega)⟩
/-- Sample i of a run that begins at a. -/
def smp (a : Int) (h : Int) (i : Nat) : Mk := ⟨4, a + (i : Int), if i % 5 = 4 then h else 0, 0, 0, 0, false⟩
def smps (a h : Int) : Nat → List Mk
  | 0 => []
  | i + 1 => smps a h i ++ [smp a h i]
def endM (a : Int) (r : Rn) : Mk := ⟨r.2.2.1, a + (r.1 : Int), 0, 0, 0, r.2.2.2, false⟩
def runM (a : Int) (r : Rn) : List Mk := smps a r.2.1 r.1 ++ [endM a r]
/-- Of the first k runs. -/
def atK (a : Int) (rs : List Rn) : Nat → Int
  | 0 => a
  | k + 1 => atK a rs k + ((rs.getD k noRn).1 : Int)
def marksK (a : Int) (rs : List Rn) : Nat → List Mk
  | 0 => []
  | k + 1 => marksK a rs k ++ runM (atK a rs k) (rs.getD k noRn)
theorem smps_len (a h : Int) : ∀ n, (smps a h n).length = n
  | 0 => rfl
  | n + 1 => by show (smps a h n ++ [_]).length = n + 1; rw [List.length_append, smps_len a h n]; rfl
theorem getD_ok {rs : List Rn} (hr : ∀ r ∈ rs, RnOk r) (k : Nat) : RnOk (rs.getD k noRn) := by
  rw [List.getD_eq_getElem?_getD]
  rcases Nat.lt_or_ge k rs.length with h | h
  · rw [List.getElem?_eq_getElem h]; exact hr _ (by simp)
  · rw [List.getElem?_eq_none (by omega)]; exact ⟨by decide, by decide, by decide⟩
theorem marks_len {rs : List Rn} (hr : ∀ r ∈ rs, RnOk r) (a : Int) : ∀ k, (marksK a rs k).length ≤ 256 * k
  | 0 => by simp [marksK]
  | k + 1 => by
    have h1 := marks_len hr a k
    have h2 := (getD_ok hr k).1
    show (marksK a rs k ++ runM (atK a rs k) (rs.getD k noRn)).length ≤ 256 * (k + 1)
    generalize rs.getD k noRn = q at *
    unfold runM
    rw [List.length_append, List.length_append, smps_len]
    show _ + (q.1 + 1) ≤ _
    omega
theorem at_bd {rs : List Rn} (hr : ∀ r ∈ rs, RnOk r) (a : Int) : ∀ k : Nat, a ≤ atK a rs k ∧ atK a rs k ≤ a + 255 * (k : Int)
  | 0 => by simp [atK]
  | k + 1 => by
    have h1 := at_bd hr a k
    have h2 := (getD_ok hr k).1
    show a ≤ atK a rs k + ((rs.getD k noRn).1 : Int) ∧ atK a rs k + ((rs.getD k noRn).1 : Int) ≤ a + 255 * ((k + 1 : Nat) : Int)
    generalize (rs.getD k noRn).1 = q at *
    omega
/-- The row that grows, a run's box beside it. -/
structure Mw (w : World) (V : Value) (E : List Mk) (g : Nat) (r : Rn) (W : World) : Prop where
  own : W.ownsRow w.heap.size 45 7 V E.length (Row.flat mkS E)
  below : Below w.heap.size w W
  box : Has W g 69 #[.int .u8 (r.1 : Nat), .int .i32 r.2.1, .int .i64 r.2.2.1, .int .i64 r.2.2.2]
  far : g ∉ V.ownBlock.toList
theorem Mw.grown {w W W' : World} {V V' : Value} {E : List Mk} {g : Nat} {r : Rn} {o : Obj} {m : Mk} (h : Mw w V E g r W) (ho : W'.ownsRow w.heap.size 45 7 V' (E.length + 1) (Row.flat mkS (E ++ [m]))) (hg : (W.alloc o).grownBy W' V.ownBlock) (hb : V'.ownBlock = V.ownBlock ∨ V'.ownBlock = some (W.alloc o).heap.size) : Mw w V' (E ++ [m]) g r W' := by
  have hK : Kept V.ownBlock.toList W W' := ((Kept.refl V.ownBlock.toList W).alloc o).trans (Kept.of_grown hg)
  have hx := h.box.lt
  refine ⟨by rw [List.length_append]; exact ho, below_kept h.below hK h.below.size (own_in h.own), hK.has h.box h.far, ?_⟩
  rcases hb with hb | hb
  · rw [hb]; exact h.far
  · rw [hb]
    simp
    omega
set_option maxRecDepth 100000 in
set_option maxHeartbeats 2000000 in
theorem marks_any (a : Int) (A : Option Addr) (n c : Nat) (rs : List Rn) (w : World) (ha : 0 ≤ a ∧ a ≤ 65535) (hv : Row.Vals rnS w A n rs) (hok : ∀ r ∈ rs, RnOk r) (hnc : n ≤ c) (hc : c ≤ 9223372036854775807) :
    Calls Try.prog 12 #[.int .i64 a, .slice A n c] w fun e w' => ∃ V, e = .returned V ∧ w'.ownsRow w.heap.size 45 7 V (marksK a rs (min n 20)).length (Row.flat mkS (marksK a rs (min n 20))) ∧ Below w.heap.size w w' := by
  have hInfo : (Try.prog.info? 45).map (fun i => (i.zero, i.size, i.bytes)) = some (some (.agg #[.int .i64 0, .int .i64 0, .int .i64 0, .int .i64 0, .int .i64 0, .int .i64 0, .bool false]), 7, 56) := by kernel_rfl
  have HInfo := Lib.hid hInfo
  clear hInfo
  obtain ⟨p, hp⟩ : ∃ p, min n 20 = p := ⟨_, rfl⟩
  have hp1 : p ≤ n := by omega
  have hp2 : p ≤ 20 := by omega
  have hminA : (if (20 : Int) < (n : Int) then (20 : Int) else (n : Int)) = (p : Int) := by split <;> omega
  rw [hp]
  have hpc : p ≤ c := by omega
  clear hp
  go_enter Try.func12, Try.ntmps12
  go_wp2
  go_loopw [0, 5, 16] (fun q v i wr => ∃ k : Nat, k ≤ p ∧ i = .int .i64 (k : Nat) ∧ q = .int .i64 (atK a rs k) ∧ wr.ownsRow w.heap.size 45 7 v (marksK a rs k).length (Row.flat mkS (marksK a rs k)) ∧ Below w.heap.size w wr) (fun _ _ i _ => p - (intOf i).toNat)
  case atStart => exact ⟨0, by omega, rfl, rfl, Row.own_none (S := mkS) _ _ _, Below.refl _ _⟩
  case round =>
    obtain ⟨k, hk, rfl, rfl, hO, hB⟩ := hrel
    by_cases hkp : k < p
    · have hkz : (k : Int) < (p : Int) := by omega
      obtain ⟨x, rfl, _⟩ := hv.cells (by omega)
      obtain ⟨x0, x1, x2, x3⟩ := rn_cells (hv.below hB) k (by omega)
      have hab := at_bd hok a k
      have hro := getD_ok hok k
      have hL := marks_len hok a k
      obtain ⟨E, hE⟩ : ∃ E, marksK a rs k = E := ⟨_, rfl⟩
      obtain ⟨t, ht⟩ : ∃ t, atK a rs k = t := ⟨_, rfl⟩
      obtain ⟨r, hr⟩ : ∃ r, rs.getD k noRn = r := ⟨_, rfl⟩
      have HN := Lib.hid (show atK a rs (k + 1) = t + (r.1 : Int) ∧ marksK a rs (k + 1) = E ++ runM t r from by rw [← hE, ← ht, ← hr]; exact ⟨rfl, rfl⟩)
      rw [hE] at hO hL
      rw [ht] at hab ⊢
      rw [hr] at hro x0 x1 x2 x3
      clear hE ht hr
      obtain ⟨m, h, mk, rr⟩ := r
      unfold RnOk at hro
      dsimp only at hro x0 x1 x2 x3
      have hmb := hro.1
      have htb : 0 ≤ t ∧ t ≤ 100000 := by omega
      have hM0 : Mw w u5 (E ++ smps t h 0) wr.heap.size (m, h, mk, rr) (wr.alloc (.cells #[.int .u8 (m : Nat), .int .i32 h, .int .i64 mk, .int .i64 rr] 69)) :=
        ⟨by rw [show E ++ smps t h 0 = E from List.append_nil E]; exact own_kept hO ((Kept.refl [] wr).alloc _) (by simp), hB.alloc hB.size _, Has.new wr _ _, fun hk => by have := (own_block hO _ (by simpa using hk)).2; omega⟩
      have HL0 := Lib.hid (show E.length ≤ 5120 by omega)
      clear hO hB hL hab
      go_wp2
      generalize wr.alloc (.cells #[.int .u8 (m : Nat), .int .i32 h, .int .i64 mk, .int .i64 rr] 69) = W1 at *
      generalize wr.heap.size = g at *
      go_loopw [0, 5, 23] (fun q v i wr2 => ∃ z : Nat, z ≤ m ∧ i = .int .i64 (z : Nat) ∧ q = .int .i64 (t + (z : Int)) ∧ Mw w v (E ++ smps t h z) g (m, h, mk, rr) wr2) (fun _ _ i _ => m - (intOf i).toNat)
      case atStart => exact ⟨0, by omega, rfl, by simp, hM0⟩
      case round =>
        clear hM0
        obtain ⟨z, hz, rfl, rfl, hM⟩ := hrel
        have hzb : (z : Int) ≤ 255 := by omega
        have HL := Lib.hid (show (E ++ smps t h z).length ≤ 5400 by have := HL0.out; rw [List.length_append, smps_len]; omega)
        by_cases hzm : z < m
        · have hzz : (z : Int) < (m : Int) := by omega
          have y1 : wr.cell? ⟨g, 1, none⟩ = some (.int .i32 h) := hM.box.cell 1
          by_cases h5 : z % 5 = 4
          · have n5 : ((z : Int) % 5 == 4) = true := by simp; omega
            have hsm := Lib.hid (show (E ++ smps t h z) ++ [(⟨4, t + (z : Int), h, 0, 0, 0, false⟩ : Mk)] = E ++ smps t h (z + 1) from by
              rw [List.append_assoc]
              simp [smps, smp, h5])
            clear h5
            go_wp2_with
              (at_builtin; refine Row.wpList_append (S := mkS) rfl (.tmp 32) (.tmp 36) _ rfl w.heap.size 45 _ 56 (by omega) Try.underlying26 HInfo.out (by kernel_rfl) _ _ _ rfl (own_kept hM.own ((Kept.refl [] _).alloc _) (by simp)) _ 1 1 [(⟨4, t + (z : Int), h, 0, 0, 0, false⟩ : Mk)] rfl (by exact mk_new _ _ ((⟨4, t + (z : Int), h, 0, 0, 0, false⟩ : Mk))) (by have := HL.out; omega) (hM.below.alloc hM.below.size _).size ?_; intro V3 W3 hO3 hg3 hat3; have hM3 := hM.grown hO3 hg3 hat3; clear hO3 hg3 hat3)
            go_roundw
            case rel => exact ⟨z + 1, by omega, by go_num, by go_num, by rw [← hsm.out]; exact hM3⟩
            case measure => simp [intOf]; omega
          · have n5 : ((z : Int) % 5 == 4) = false := by simp; omega
            have hsm := Lib.hid (show (E ++ smps t h z) ++ [(⟨4, t + (z : Int), 0, 0, 0, 0, false⟩ : Mk)] = E ++ smps t h (z + 1) from by
              rw [List.append_assoc]
              simp [smps, smp, h5])
            clear h5
            go_wp2_with
              (at_builtin; refine Row.wpList_append (S := mkS) rfl (.tmp 32) (.tmp 36) _ rfl w.heap.size 45 _ 56 (by omega) Try.underlying26 HInfo.out (by kernel_rfl) _ _ _ rfl (own_kept hM.own ((Kept.refl [] _).alloc _) (by simp)) _ 1 1 [(⟨4, t + (z : Int), 0, 0, 0, 0, false⟩ : Mk)] rfl (by exact mk_new _ _ ((⟨4, t + (z : Int), 0, 0, 0, 0, false⟩ : Mk))) (by have := HL.out; omega) (hM.below.alloc hM.below.size _).size ?_; intro V3 W3 hO3 hg3 hat3; have hM3 := hM.grown hO3 hg3 hat3; clear hO3 hg3 hat3)
            go_roundw
            case rel => exact ⟨z + 1, by omega, by go_num, by go_num, by rw [← hsm.out]; exact hM3⟩
            case measure => simp [intOf]; omega
        · obtain rfl : z = m := by omega
          have y2 : wr.cell? ⟨g, 2, none⟩ = some (.int .i64 mk) := hM.box.cell 2
          have y3 : wr.cell? ⟨g, 3, none⟩ = some (.int .i64 rr) := hM.box.cell 3
          go_wp2_with
            (at_builtin; refine Row.wpList_append (S := mkS) rfl (.tmp 41) (.tmp 49) _ rfl w.heap.size 45 _ 56 (by omega) Try.underlying26 HInfo.out (by kernel_rfl) _ _ _ rfl (own_kept hM.own ((Kept.refl [] _).alloc _) (by simp)) _ 1 1 [(⟨mk, t + (z : Int), 0, 0, 0, rr, false⟩ : Mk)] rfl (by exact mk_new _ _ ((⟨mk, t + (z : Int), 0, 0, 0, rr, false⟩ : Mk))) (by have := HL.out; omega) (hM.below.alloc hM.below.size _).size ?_; intro V3 W3 hO3 hg3 hat3; have hM3 := hM.grown hO3 hg3 hat3; clear hO3 hg3 hat3)
          go_roundw
          case rel => exact ⟨k + 1, by omega, by go_num, by rw [HN.out.1], by rw [HN.out.2, show E ++ runM t (z, h, mk, rr) = (E ++ smps t h z) ++ [(⟨mk, t + (z : Int), 0, 0, 0, rr, false⟩ : Mk)] from by rw [List.append_assoc]; rfl]; exact hM3.own, hM3.below⟩
          case measure => simp [intOf]; omega
    · obtain rfl : k = p := by omega
      go_wp2
      go_ret
      exact ⟨_, rfl, hO, hB⟩
end Go.Proofs.Ytpmjgomfjfhfkaa.Rhythm
