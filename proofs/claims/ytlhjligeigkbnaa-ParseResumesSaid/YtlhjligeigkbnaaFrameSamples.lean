/- frame's samples: whole samples' bytes, as samples. -/
import Derived.Test.YtlhjligeigkbnaaFrameFlags
import Derived.Test.YtlhjligeigkbnaaFrameRefLook
import Derived.Laws.BitsLemmas
set_option linter.unusedSimpArgs false
set_option linter.unusedVariables false
namespace Go.Proofs.Ytlhjligeigkbnaa.Frm
open Go.RowKit Go.Shelf RU8 Chunk

attribute [local go_sem] Oper.semAt_some

theorem wrap_u16_ (n : Int) : IntKind.u16.wrap n = n % 65536 := by simp [IntKind.wrap, IntKind.bits, IntKind.signed]
theorem wrap_i16_ (n : Int) : IntKind.i16.wrap n = (n + 32768) % 65536 - 32768 := by
  simp [IntKind.wrap, IntKind.bits, IntKind.signed]
  omega
theorem val_join {v1 v2 : Nat} (h1 : v1 < 256) (h2 : v2 < 256) : IntKind.i16.wrap (bits .or .u16 (IntKind.u16.wrap (v1 : Int)) (IntKind.u16.wrap (IntKind.u16.wrap (v2 : Int) * 256))) = valT2 v1 v2 := by
  have e1 : IntKind.u16.wrap (v1 : Int) = (v1 : Int) := by rw [wrap_u16_]; omega
  have e2 : IntKind.u16.wrap (IntKind.u16.wrap (v2 : Int) * 256) = (v2 : Int) * 256 := by rw [wrap_u16_, wrap_u16_]; omega
  rw [e1, e2, show bits .or .u16 (v1 : Int) ((v2 : Int) * 256) = bits .or .u16 ((v2 : Int) * 256) (v1 : Int) by simp only [bits, BitVec.or_comm],
    bits_join .u16 16 (by decide) (fun n h0 h1 => by rw [wrap_u16_]; omega) 8 ((v2 : Int) * 256) (v1 : Int) (by omega) (by omega) (by omega) (by omega) (by omega) (by omega), wrap_i16_]
  unfold valT2
  split <;> omega
theorem valT2_range {v1 v2 : Nat} (h1 : v1 < 256) (h2 : v2 < 256) : -32768 ≤ valT2 v1 v2 ∧ valT2 v1 v2 ≤ 32767 := by
  unfold valT2
  split <;> omega
/-- The sample of the chunk with this number. -/
def smp (ys : List Nat) (k : Nat) : Samp := (valT2 (ys.getD (3 * k + 1) 0) (ys.getD (3 * k + 2) 0), decide (ys.getD (3 * k) 0 = 1))
theorem ownFrom_size {β : Type} (B n : Nat) : OwnFrom B (fun (_ : β) W => n ≤ W.heap.size) := fun _ _ _ _ hs hg _ => Nat.le_trans hs hg.size
theorem row_cells {w : World} {base : Nat} {e : TypeId} {size n : Nat} {v : Value} {xs : List Value} (h : w.ownsRow base e size v n xs) : ∀ (j : Nat) (o : Obj), v.ownBlock = some j → w.heap[j]? = some o → o.isCells = true := by
  intro j o hj ho
  rcases h.2 with ⟨rfl, _⟩ | ⟨k, cap, cur, rfl, _, hh, _⟩
  · cases hj
  · injection hj with hj
    have : k = j := hj
    subst this
    rw [hh] at ho
    injection ho with ho
    rw [← ho]
    rfl
set_option maxRecDepth 100000 in
set_option maxHeartbeats 2000000 in
theorem samples_any (A : Option Addr) (m cap : Nat) (ys : List Nat) (w : World) (hv : Vals w A (3 * m) ys) (hb : Bytes ys) (hlc : 3 * m ≤ cap) (hbig : cap ≤ 9223372036854775807) (hl : m ≤ 100) :
    Calls Try.prog 35 #[.slice A (3 * m : Nat) cap] w fun e w' => ∃ v, e = .returned v ∧ w'.ownsRow (w.heap.size + 3) 49 2 v m (Row.flat sampS ((List.range m).map (smp ys))) ∧ Below w.heap.size w w' := by
  have hlen := hv.len_
  obtain ⟨len, hln⟩ : ∃ len, 3 * m = len := ⟨_, rfl⟩
  rw [hln] at hv hlc hlen ⊢
  have hA : 0 < len → ∃ x, A = some x := fun h => by obtain ⟨x, hx, _⟩ := hv.cells h; exact ⟨x, hx⟩
  have hck : chunks len = m := by unfold chunks; omega
  have HLN := Lib.hid hln
  have HCK := Lib.hid hck
  clear hln hck
  refine (callsIn_wide (n := 3)).1 ?_
  refine callsIn_of_wp_marks Try.func35 rfl trivial ?_ rfl
  simp only [Try.ntmps35, List.size_toArray, List.length_cons, List.length_nil, Nat.reduceAdd, Nat.reduceSub, Array.replicate_succ, Array.replicate_zero, List.push_toArray, List.append_toArray, List.nil_append, List.cons_append]
  gi_wp2_with (refine ⟨trivial, ?_⟩; gi_at_call 37; refine (Chunk.chunk_in _ _ _ _ _).mono ?_; rintro e w' ⟨rfl, rfl⟩)
  have bR := Boxed.new w 32 (.slice none 0 0)
  have bS := Boxed.new (w.alloc (.cells #[.slice none 0 0] 32)) 22 (.slice A len cap)
  have bN := Boxed.new ((w.alloc (.cells #[.slice none 0 0] 32)).alloc (.cells #[.slice A len cap] 22)) 3 (.int .i64 3)
  simp only [World.size_alloc] at bS bN
  have hB0 : Below w.heap.size w (((w.alloc (.cells #[.slice none 0 0] 32)).alloc (.cells #[.slice A len cap] 22)).alloc (.cells #[.int .i64 3] 3)) := (((Below.refl _ w).alloc (Nat.le_refl _) _).alloc (by simp) _).alloc (by simp; omega) _
  have h12 : 1 ≤ 3 := by decide
  refine wpIn_rangeFunc_ownG (α := Fin (chunks len)) (n := 3) rfl h12 (gf := 40) (lb := #[.pointer (some ⟨w.heap.size + 1, 0, none⟩), .pointer (some ⟨w.heap.size + 1 + 1, 0, none⟩)]) rfl trivial (enters_of Try.func40 (by kernel_rfl) rfl)
    (Chunk.chunk_stops 2 (by decide) (w.heap.size + 1) (w.heap.size + 1 + 1) (w.heap.size + 3) [w.heap.size] A len cap hA hlc hbig (by have := HLN.out; omega) _ (by omega) (by simp) (by omega) (by simp; omega) (by simp) (by simp) ((bS.alloc _).cell) bN.cell) KeptTo.trans (keptTo_b (by simp)) (Below.refl _ _) (fun _ => rfl)
    (fun (pre : List (Fin (chunks len))) W => (∃ v, Boxed W w.heap.size 32 v ∧ W.ownsRow (w.heap.size + 3) 49 2 v pre.length (Row.flat sampS (pre.map fun k => smp ys k.1)) ∧ True) ∧ Below w.heap.size w W ∧ w.heap.size + 3 ≤ W.heap.size)
    (fun _ (_ : List (Fin (chunks len))) _ => False)
    (OwnFrom.and (Own.from (holdsRow_own (w.heap.size + 3) w.heap.size 32 49 2 (fun pre : List (Fin (chunks len)) => pre.length) (fun pre => Row.flat sampS (pre.map fun k => smp ys k.1)) (fun _ _ => True)) _) (OwnFrom.and (ownFrom_below (Nat.le_refl _) (by simp; omega)) (ownFrom_size _ _)))
    (fun _ _ _ _ _ hs _ _ => hs)
    ⟨⟨_, (bR.alloc _).alloc _, Row.own_none _ _ _, trivial⟩, hB0, by simp⟩
    (fun (k : Fin (chunks len)) => { tmps := #[.slice A len cap, undef, .slice none 0 0, .pointer (some ⟨w.heap.size, 0, none⟩), chunk A len k.1, undef, .slice A len cap, .func (.func 40) #[] #[.pointer (some ⟨w.heap.size + 1, 0, none⟩), .pointer (some ⟨w.heap.size + 1 + 1, 0, none⟩)], chunk A len k.1, undef, undef, undef, undef, undef, undef, undef, undef, undef, undef, undef, undef, undef, undef, undef, undef, undef, undef, undef, undef, undef, undef], defers := [] }) ?assign ?body ?done ?stop
  case assign =>
    intro l x W K hK
    gi_wp2
    exact hK
  case body =>
    rintro l pre k W ⟨⟨v, hbx, hrow, _⟩, hB, hWs⟩ hpre
    obtain ⟨hk1, hk2, hk3⟩ := chunk_pos k
    obtain ⟨x, rfl⟩ := hA (by omega)
    obtain ⟨y, hy, hcs⟩ := (hv.below hB).cells (by omega)
    injection hy with hy
    subst hy
    have hsz : size len k.1 = 3 := by unfold size; have := HLN.out; omega
    have hk3m : 3 * k.1 + 2 < len := by have := HLN.out; omega
    have hc0 := hcs (3 * k.1) hk1
    have hc1 := hcs (3 * k.1 + 1) (by omega)
    have hc2 := hcs (3 * k.1 + 2) (by omega)
    rw [← addr_add] at hc1 hc2
    obtain ⟨x3, hx3⟩ : ∃ x3, x.add (3 * k.1) = x3 := ⟨_, rfl⟩
    have hxl : x3.block < w.heap.size := by
      have := World.block_lt_of_cell? _ _ ((hv.cells (by omega)).choose_spec.2 (3 * k.1) hk1)
      have e := (hv.cells (by omega)).choose_spec.1
      injection e with e
      rw [← e, hx3] at this
      exact this
    unfold chunk
    rw [Option.map_some, hsz]
    rw [hx3] at hc0 hc1 hc2 ⊢
    rw [show x3.add 1 = ⟨x3.block, x3.off + 1, none⟩ by simp [Addr.add]] at hc1
    rw [show x3.add 2 = ⟨x3.block, x3.off + 2, none⟩ by simp [Addr.add]] at hc2
    have hsmp : ∀ a b c, ys.getD (3 * k.1) 0 = a → ys.getD (3 * k.1 + 1) 0 = b → ys.getD (3 * k.1 + 2) 0 = c → smp ys k.1 = (valT2 b c, decide (a = 1)) := fun a b c ha hb hc => by unfold smp; rw [ha, hb, hc]
    have hy0 := hb.at_ (3 * k.1)
    have hy1 := hb.at_ (3 * k.1 + 1)
    have hy2 := hb.at_ (3 * k.1 + 2)
    obtain ⟨v0, hv0⟩ : ∃ v, ys.getD (3 * k.1) 0 = v := ⟨_, rfl⟩
    obtain ⟨v1, hv1⟩ : ∃ v, ys.getD (3 * k.1 + 1) 0 = v := ⟨_, rfl⟩
    obtain ⟨v2, hv2⟩ : ∃ v, ys.getD (3 * k.1 + 2) 0 = v := ⟨_, rfl⟩
    have HS := Lib.hid (hsmp v0 v1 v2 hv0 hv1 hv2)
    rw [hv0] at hc0 hy0
    rw [hv1] at hc1 hy1
    rw [hv2] at hc2 hy2
    clear hcs hsmp hv0 hv1 hv2 hx3 hk1 hk2 hk3 hsz hk3m
    obtain ⟨A', c', rfl, e1, e2, hVo, _⟩ := Row.Vals.own (S := sampS) hrow
    gi_wp2
    refine Reg.beginW (Reg.wide_round l) (S := fun W => W.cell? x3 = some (.int .u8 v0) ∧ W.cell? ⟨x3.block, x3.off + 1, none⟩ = some (.int .u8 v1) ∧ W.cell? ⟨x3.block, x3.off + 2, none⟩ = some (.int .u8 v2)) (by kernel_rfl) (by kernel_rfl) ⟨hc0, hc1, hc2⟩ (fun hHeld => ?_)
    refine Reg.take (i := 0) (v := ?v1) rfl (by kernel_rfl) (by kernel_rfl) (by kernel_rfl) (by rfl) ?hv1 (by assumption) ?rest1
    case hv1 => first | (intro w hSw; (try dsimp only at hSw); go_simp; done) | (intro w hSw; (try dsimp only at hSw); go_simp; with_reducible rfl)
    (try simp only [Act.put, List.setIfInBounds_toArray, List.set_cons_zero, List.set_cons_succ])
    refine Reg.take (i := 1) (v := ?v2) rfl (by kernel_rfl) (by kernel_rfl) (by kernel_rfl) (by rfl) ?hv2 (by assumption) ?rest2
    case hv2 => first | (intro w hSw; (try dsimp only at hSw); go_simp; done) | (intro w hSw; (try dsimp only at hSw); go_simp; with_reducible rfl)
    (try simp only [Act.put, List.setIfInBounds_toArray, List.set_cons_zero, List.set_cons_succ])
    refine Reg.take (i := 2) (v := ?v3) rfl (by kernel_rfl) (by kernel_rfl) (by kernel_rfl) (by rfl) ?hv3 (by assumption) ?rest3
    case hv3 => first | (intro w hSw; (try dsimp only at hSw); go_simp; done) | (intro w hSw; (try dsimp only at hSw); go_simp; with_reducible rfl)
    (try simp only [Act.put, List.setIfInBounds_toArray, List.set_cons_zero, List.set_cons_succ])
    refine Reg.take (i := 3) (v := ?v4) rfl (by kernel_rfl) (by kernel_rfl) (by kernel_rfl) (by rfl) ?hv4 (by assumption) ?rest4
    case hv4 => first | (intro w hSw; (try dsimp only at hSw); go_simp; done) | (intro w hSw; (try dsimp only at hSw); go_simp; with_reducible rfl)
    (try simp only [Act.put, List.setIfInBounds_toArray, List.set_cons_zero, List.set_cons_succ])
    refine Reg.take (i := 4) (v := ?v5) rfl (by kernel_rfl) (by kernel_rfl) (by kernel_rfl) (by rfl) ?hv5 (by assumption) ?rest5
    case hv5 => first | (intro w hSw; (try dsimp only at hSw); go_simp; done) | (intro w hSw; (try dsimp only at hSw); go_simp; with_reducible rfl)
    (try simp only [Act.put, List.setIfInBounds_toArray, List.set_cons_zero, List.set_cons_succ])
    refine Reg.take (i := 5) (v := ?v6) rfl (by kernel_rfl) (by kernel_rfl) (by kernel_rfl) (by rfl) ?hv6 (by assumption) ?rest6
    case hv6 => first | (intro w hSw; (try dsimp only at hSw); go_simp; done) | (intro w hSw; (try dsimp only at hSw); go_simp; with_reducible rfl)
    (try simp only [Act.put, List.setIfInBounds_toArray, List.set_cons_zero, List.set_cons_succ])
    refine Reg.take (i := 6) (v := ?v7) rfl (by kernel_rfl) (by kernel_rfl) (by kernel_rfl) (by rfl) ?hv7 (by assumption) ?rest7
    case hv7 => first | (intro w hSw; (try dsimp only at hSw); go_simp; done) | (intro w hSw; (try dsimp only at hSw); go_simp; with_reducible rfl)
    (try simp only [Act.put, List.setIfInBounds_toArray, List.set_cons_zero, List.set_cons_succ])
    refine Reg.take (i := 7) (v := ?v8) rfl (by kernel_rfl) (by kernel_rfl) (by kernel_rfl) (by rfl) ?hv8 (by assumption) ?rest8
    case hv8 => first | (intro w hSw; (try dsimp only at hSw); go_simp; done) | (intro w hSw; (try dsimp only at hSw); go_simp; with_reducible rfl)
    (try simp only [Act.put, List.setIfInBounds_toArray, List.set_cons_zero, List.set_cons_succ])
    refine Reg.take (i := 8) (v := ?v9) rfl (by kernel_rfl) (by kernel_rfl) (by kernel_rfl) (by rfl) ?hv9 (by assumption) ?rest9
    case hv9 => first | (intro w hSw; (try dsimp only at hSw); go_simp; done) | (intro w hSw; (try dsimp only at hSw); go_simp; with_reducible rfl)
    (try simp only [Act.put, List.setIfInBounds_toArray, List.set_cons_zero, List.set_cons_succ])
    refine Reg.take (i := 9) (v := ?v10) rfl (by kernel_rfl) (by kernel_rfl) (by kernel_rfl) (by rfl) ?hv10 (by assumption) ?rest10
    case hv10 => first | (intro w hSw; (try dsimp only at hSw); go_simp; done) | (intro w hSw; (try dsimp only at hSw); go_simp; with_reducible rfl)
    (try simp only [Act.put, List.setIfInBounds_toArray, List.set_cons_zero, List.set_cons_succ])
    refine Reg.take (i := 10) (v := ?v11) rfl (by kernel_rfl) (by kernel_rfl) (by kernel_rfl) (by rfl) ?hv11 (by assumption) ?rest11
    case hv11 => first | (intro w hSw; (try dsimp only at hSw); go_simp; done) | (intro w hSw; (try dsimp only at hSw); go_simp; with_reducible rfl)
    (try simp only [Act.put, List.setIfInBounds_toArray, List.set_cons_zero, List.set_cons_succ])
    refine Reg.take (i := 11) (v := ?v12) rfl (by kernel_rfl) (by kernel_rfl) (by kernel_rfl) (by rfl) ?hv12 (by assumption) ?rest12
    case hv12 => first | (intro w hSw; (try dsimp only at hSw); go_simp; done) | (intro w hSw; (try dsimp only at hSw); go_simp; with_reducible rfl)
    (try simp only [Act.put, List.setIfInBounds_toArray, List.set_cons_zero, List.set_cons_succ])
    refine Reg.doneW (by kernel_rfl) ?_ _
    gi_wp2
    rw [val_join hy1 hy2]
    have hVr := valT2_range hy1 hy2
    obtain ⟨V, hV⟩ : ∃ V, valT2 v1 v2 = V := ⟨_, rfl⟩
    rw [hV] at hVr ⊢
    have HV := Lib.hid hV
    have hw32 : IntKind.i32.wrap V = V := by rw [IntKind.wrap_i32]; omega
    have hInfo : (Try.prog.info? 49).map (fun i => (i.zero, i.size, i.bytes)) = some (some (.agg #[.int .i32 0, .bool false]), 2, 8) := by kernel_rfl
    have HInfo := Lib.hid hInfo
    clear hInfo hV hc1 hc2 hHeld
    have hci0 : w.cell? x3 = some (.int .u8 v0) := (hB.cell hxl).symm.trans hc0
    have hpl : pre.length ≤ 100 := by have h9 := HCK.out; omega
    obtain ⟨pl, hpl2⟩ : ∃ pl, pre.length = pl := ⟨_, rfl⟩
    rw [hpl2] at hrow hbx hpl
    have HPL := Lib.hid hpl2
    clear hpl2
    refine Reg.beginW (Reg.wide_round l) (S := fun W => W.cell? x3 = some (.int .u8 v0)) (by kernel_rfl) (by kernel_rfl) (by exact hc0) (fun hHeld => ?_)
    have hFd : Has W.drew.drew w.heap.size 32 #[.slice A' pl c'] := hbx
    have hOd : World.ownsRow W.drew.drew (w.heap.size + 3) 49 2 (.slice A' pl c') pl (Row.flat sampS (pre.map fun k => smp ys k.1)) := hrow
    have hBd : Below w.heap.size w W.drew.drew := below_drewN hB 2
    have hTd : KeptTo (w.heap.size + 3) [w.heap.size] W W.drew.drew := (KeptTo.refl _ _ W.drew.drew).drew_.drew_
    have hGd : KeepsFrom (w.heap.size + 3) W W.drew.drew := ((KeepsOthers.drew W).trans (KeepsOthers.drew _)).from _
    generalize W.drew.drew = wd at *
    refine Reg.take (i := 1) (v := ?v13) rfl (by kernel_rfl) (by kernel_rfl) (by kernel_rfl) (by rfl) ?hv13 (by assumption) ?rest13
    case hv13 => first | (intro w hSw; (try dsimp only at hSw); go_simp; done) | (intro w hSw; (try dsimp only at hSw); go_simp; with_reducible rfl)
    (try simp only [Act.put, List.setIfInBounds_toArray, List.set_cons_zero, List.set_cons_succ])
    refine Reg.take (i := 2) (v := ?v14) rfl (by kernel_rfl) (by kernel_rfl) (by kernel_rfl) (by rfl) ?hv14 (by assumption) ?rest14
    case hv14 => first | (intro w hSw; (try dsimp only at hSw); go_simp; done) | (intro w hSw; (try dsimp only at hSw); go_simp; with_reducible rfl)
    (try simp only [Act.put, List.setIfInBounds_toArray, List.set_cons_zero, List.set_cons_succ])
    refine Reg.take (i := 3) (v := ?v15) rfl (by kernel_rfl) (by kernel_rfl) (by kernel_rfl) (by rfl) ?hv15 (by assumption) ?rest15
    case hv15 => first | (intro w hSw; (try dsimp only at hSw); go_simp; done) | (intro w hSw; (try dsimp only at hSw); go_simp; with_reducible rfl)
    (try simp only [Act.put, List.setIfInBounds_toArray, List.set_cons_zero, List.set_cons_succ])
    refine Reg.take (i := 4) (v := ?v16) rfl (by kernel_rfl) (by kernel_rfl) (by kernel_rfl) (by rfl) ?hv16 (by assumption) ?rest16
    case hv16 => first | (intro w hSw; (try dsimp only at hSw); go_simp; done) | (intro w hSw; (try dsimp only at hSw); go_simp; with_reducible rfl)
    (try simp only [Act.put, List.setIfInBounds_toArray, List.set_cons_zero, List.set_cons_succ])
    refine Reg.take (i := 5) (v := ?v17) rfl (by kernel_rfl) (by kernel_rfl) (by kernel_rfl) (by rfl) ?hv17 (by assumption) ?rest17
    case hv17 => first | (intro w hSw; (try dsimp only at hSw); go_simp; done) | (intro w hSw; (try dsimp only at hSw); go_simp; with_reducible rfl)
    (try simp only [Act.put, List.setIfInBounds_toArray, List.set_cons_zero, List.set_cons_succ])
    refine Reg.take (i := 6) (v := ?v18) rfl (by kernel_rfl) (by kernel_rfl) (by kernel_rfl) (by rfl) ?hv18 (by assumption) ?rest18
    case hv18 => first | (intro w hSw; (try dsimp only at hSw); go_simp; done) | (intro w hSw; (try dsimp only at hSw); go_simp; with_reducible rfl)
    (try simp only [Act.put, List.setIfInBounds_toArray, List.set_cons_zero, List.set_cons_succ])
    refine Reg.take (i := 7) (v := ?v19) rfl (by kernel_rfl) (by kernel_rfl) (by kernel_rfl) (by rfl) ?hv19 (by assumption) ?rest19
    case hv19 => first | (intro w hSw; (try dsimp only at hSw); go_simp; done) | (intro w hSw; (try dsimp only at hSw); go_simp; with_reducible rfl)
    (try simp only [Act.put, List.setIfInBounds_toArray, List.set_cons_zero, List.set_cons_succ])
    have hcia := ((hBd.alloc hBd.size (.cells #[.int .i32 V, .bool ((v0 : Int) == 1)] 49)).cell hxl).trans hci0
    have hKA := (Kept.refl [] wd).alloc (.cells #[.int .i32 V, .bool ((v0 : Int) == 1)] 49)
    have hOa := own_kept hOd hKA (by simp)
    have hBa := hBd.alloc hBd.size (.cells #[.int .i32 V, .bool ((v0 : Int) == 1)] 49)
    have hFa := hFd.alloc (.cells #[.int .i32 V, .bool ((v0 : Int) == 1)] 49)
    have hsz3 : w.heap.size + 3 ≤ wd.heap.size := by have := hGd.size; omega
    have hTa := hTd.trans (KeptTo.of_kept hKA hsz3 (by simp))
    have hGa := hGd.trans ((KeepsOthers.alloc wd (.cells #[.int .i32 V, .bool ((v0 : Int) == 1)] 49)).from (w.heap.size + 3))
    have hVn : Row.Vals sampS (wd.alloc (.cells #[.int .i32 V, .bool ((v0 : Int) == 1)] 49)) (some ⟨wd.heap.size, 0, none⟩) 1 [(V, ((v0 : Int) == 1))] := Row.Vals.has (ys := [(V, ((v0 : Int) == 1))]) (tl := []) (Has.new wd _ _)
    have hBase : w.heap.size + 3 ≤ (wd.alloc (.cells #[.int .i32 V, .bool ((v0 : Int) == 1)] 49)).heap.size := by simp; omega
    have l1 := hFd.cell 0
    have l2 := hFa.cell 0
    refine Reg.call2 (i := 0) (j := 8) rfl rfl (by kernel_rfl) (by rfl) (by rfl) ?_ ?_
    · intro K hK
      go_simp
      refine hK.out _ _ (by assumption) (fun hHeld2 => ?_)
      clear hK K
      (try simp only [Act.put, List.setIfInBounds_toArray, List.set_cons_zero, List.set_cons_succ])
      refine Reg.call (i := 8) rfl (by kernel_rfl) (by rfl) ?_
      intro K hK
      go_simp
      refine hK.out _ _ hcia (fun hHeld3 => ?_)
      clear hK K
      (try simp only [Act.put, List.setIfInBounds_toArray, List.set_cons_zero, List.set_cons_succ])
      refine Reg.call (i := 9) rfl (by kernel_rfl) (by rfl) ?_
      intro K hK
      refine Row.wp_append (S := sampS) (.tmp 20) (.tmp 28) _ rfl (w.heap.size + 3) 49 _ 8 (by omega) Try.underlying32 HInfo.out (by kernel_rfl) (.slice A' pl c') pl (pre.map fun k : Fin (chunks len) => smp ys k.1) rfl hOa (some ⟨wd.heap.size, 0, none⟩) 1 1 [(V, ((v0 : Int) == 1))] rfl hVn (by omega) hBase ?_
      intro v9 W3 hO1 hg1 hat1
      have hK1 := Kept.of_grown hg1
      have hF3 := hK1.has hFa (own_apart hOa (by omega))
      have hB3 := below_kept hBa hK1 hBa.size (fun y hy => by have := own_in hOa y hy; omega)
      have hT3 := hTa.trans (KeptTo.of_kept hK1 hBase (fun y hy hlt => by have := own_in hOa y hy; omega))
      have hG3 := hGa.trans ((KeepsOthers.of_grownBy hg1 (row_cells hOa)).from (w.heap.size + 3))
      have hci3 := (hB3.cell hxl).trans hci0
      obtain ⟨A1, d1, rfl, e3, e4, hV1, _⟩ := Row.Vals.own hO1
      refine hK.out _ _ hci3 (fun hHeld4 => ?_)
      clear hK K
      (try simp only [Act.put, List.setIfInBounds_toArray, List.set_cons_zero, List.set_cons_succ])
      have hF4 : Has (W3.setCell ⟨w.heap.size, 0, none⟩ (.slice A1 (pl + 1) d1)) w.heap.size 32 #[.slice A1 (pl + 1) d1] := by
        have := hF3.set_ 0 (.slice A1 (pl + 1) d1)
        simpa using this
      have hO4 := own_kept hO1 ((Kept.refl [w.heap.size] W3).setCell (p := ⟨w.heap.size, 0, none⟩) (.inl (by simp)) (.slice A1 (pl + 1) d1)) (fun y hy => by simp at hy; omega)
      have hB4 := hB3.setCell (p := ⟨w.heap.size, 0, none⟩) (Nat.le_refl _) (.slice A1 (pl + 1) d1)
      have hT4 := hT3.trans (KeptTo.of_kept ((Kept.refl [w.heap.size] W3).setCell (p := ⟨w.heap.size, 0, none⟩) (.inl (by simp)) (.slice A1 (pl + 1) d1)) (Nat.le_trans hBase hg1.size) (fun y hy _ => hy))
      have hG4 := hG3.trans ((KeepsOthers.setCell W3 ⟨w.heap.size, 0, none⟩ (.slice A1 (pl + 1) d1)).from (w.heap.size + 3))
      have hci4 := (hB4.cell hxl).trans hci0
      refine Reg.call (i := 10) rfl (by kernel_rfl) (by rfl) ?_
      intro K hK
      have t1 := hF3.cell 0
      have g1 := hF3.frozen 0
      go_simp
      refine hK.out _ _ hci4 (fun hHeld5 => ?_)
      clear hK K
      (try simp only [Act.put, List.setIfInBounds_toArray, List.set_cons_zero, List.set_cons_succ])
      refine Reg.doneW (by kernel_rfl) ?_ _
      gi_wp2
      have hb1 : ((v0 : Int) == 1) = decide (v0 = 1) := by rw [Bool.eq_iff_iff]; simp; omega
      have hm9 : (pre ++ [k]).map (fun k : Fin (chunks len) => smp ys k.1) = pre.map (fun k : Fin (chunks len) => smp ys k.1) ++ [(V, ((v0 : Int) == 1))] := by rw [List.map_append, List.map_cons, List.map_nil, HS.out, HV.out, hb1]
      have hsz9 : w.heap.size + 3 ≤ (W3.setCell ⟨w.heap.size, 0, none⟩ (.slice A1 (pl + 1) d1)).heap.size := Nat.le_trans hsz3 (Nat.le_trans (by simp) (Nat.le_trans hg1.size (KeepsOthers.setCell W3 _ _).size))
      exact ⟨by have := hG4; simp only [World.size_alloc]; exact this, hT4, ⟨⟨_, hF4, by rw [hm9, List.length_append, HPL.out]; exact hO4, trivial⟩, hB4, hsz9⟩⟩
    · intro K hK
      go_simp
      refine hK.out _ _ hcia (fun hHeld2 => ?_)
      clear hK K
      (try simp only [Act.put, List.setIfInBounds_toArray, List.set_cons_zero, List.set_cons_succ])
      refine Reg.call (i := 0) rfl (by kernel_rfl) (by rfl) ?_
      intro K hK
      go_simp
      refine hK.out _ _ hcia (fun hHeld3 => ?_)
      clear hK K
      (try simp only [Act.put, List.setIfInBounds_toArray, List.set_cons_zero, List.set_cons_succ])
      refine Reg.call (i := 9) rfl (by kernel_rfl) (by rfl) ?_
      intro K hK
      refine Row.wp_append (S := sampS) (.tmp 20) (.tmp 28) _ rfl (w.heap.size + 3) 49 _ 8 (by omega) Try.underlying32 HInfo.out (by kernel_rfl) (.slice A' pl c') pl (pre.map fun k : Fin (chunks len) => smp ys k.1) rfl hOa (some ⟨wd.heap.size, 0, none⟩) 1 1 [(V, ((v0 : Int) == 1))] rfl hVn (by omega) hBase ?_
      intro v9 W3 hO1 hg1 hat1
      have hK1 := Kept.of_grown hg1
      have hF3 := hK1.has hFa (own_apart hOa (by omega))
      have hB3 := below_kept hBa hK1 hBa.size (fun y hy => by have := own_in hOa y hy; omega)
      have hT3 := hTa.trans (KeptTo.of_kept hK1 hBase (fun y hy hlt => by have := own_in hOa y hy; omega))
      have hG3 := hGa.trans ((KeepsOthers.of_grownBy hg1 (row_cells hOa)).from (w.heap.size + 3))
      have hci3 := (hB3.cell hxl).trans hci0
      obtain ⟨A1, d1, rfl, e3, e4, hV1, _⟩ := Row.Vals.own hO1
      refine hK.out _ _ hci3 (fun hHeld4 => ?_)
      clear hK K
      (try simp only [Act.put, List.setIfInBounds_toArray, List.set_cons_zero, List.set_cons_succ])
      have hF4 : Has (W3.setCell ⟨w.heap.size, 0, none⟩ (.slice A1 (pl + 1) d1)) w.heap.size 32 #[.slice A1 (pl + 1) d1] := by
        have := hF3.set_ 0 (.slice A1 (pl + 1) d1)
        simpa using this
      have hO4 := own_kept hO1 ((Kept.refl [w.heap.size] W3).setCell (p := ⟨w.heap.size, 0, none⟩) (.inl (by simp)) (.slice A1 (pl + 1) d1)) (fun y hy => by simp at hy; omega)
      have hB4 := hB3.setCell (p := ⟨w.heap.size, 0, none⟩) (Nat.le_refl _) (.slice A1 (pl + 1) d1)
      have hT4 := hT3.trans (KeptTo.of_kept ((Kept.refl [w.heap.size] W3).setCell (p := ⟨w.heap.size, 0, none⟩) (.inl (by simp)) (.slice A1 (pl + 1) d1)) (Nat.le_trans hBase hg1.size) (fun y hy _ => hy))
      have hG4 := hG3.trans ((KeepsOthers.setCell W3 ⟨w.heap.size, 0, none⟩ (.slice A1 (pl + 1) d1)).from (w.heap.size + 3))
      have hci4 := (hB4.cell hxl).trans hci0
      refine Reg.call (i := 10) rfl (by kernel_rfl) (by rfl) ?_
      intro K hK
      have t1 := hF3.cell 0
      have g1 := hF3.frozen 0
      go_simp
      refine hK.out _ _ hci4 (fun hHeld5 => ?_)
      clear hK K
      (try simp only [Act.put, List.setIfInBounds_toArray, List.set_cons_zero, List.set_cons_succ])
      refine Reg.doneW (by kernel_rfl) ?_ _
      gi_wp2
      have hb1 : ((v0 : Int) == 1) = decide (v0 = 1) := by rw [Bool.eq_iff_iff]; simp; omega
      have hm9 : (pre ++ [k]).map (fun k : Fin (chunks len) => smp ys k.1) = pre.map (fun k : Fin (chunks len) => smp ys k.1) ++ [(V, ((v0 : Int) == 1))] := by rw [List.map_append, List.map_cons, List.map_nil, HS.out, HV.out, hb1]
      have hsz9 : w.heap.size + 3 ≤ (W3.setCell ⟨w.heap.size, 0, none⟩ (.slice A1 (pl + 1) d1)).heap.size := Nat.le_trans hsz3 (Nat.le_trans (by simp) (Nat.le_trans hg1.size (KeepsOthers.setCell W3 _ _).size))
      exact ⟨by have := hG4; simp only [World.size_alloc]; exact this, hT4, ⟨⟨_, hF4, by rw [hm9, List.length_append, HPL.out]; exact hO4, trivial⟩, hB4, hsz9⟩⟩
  case done =>
    rintro D xs W hD rfl ⟨⟨v, hbx, hrow, _⟩, hB, _⟩ hK
    have hc := hbx.cell
    have hmp : (List.finRange (chunks len)).map (fun k : Fin (chunks len) => smp ys k.1) = (List.range m).map (smp ys) := by
      rw [← HCK.out]
      apply List.ext_getElem
      · simp
      · intro i h1 h2
        simp
    have hlm : (List.finRange (chunks len)).length = m := by rw [List.length_finRange, HCK.out]
    rw [hmp, hlm] at hrow
    gi_wp2
    refine ⟨by simp, .inl ⟨_, _, rfl, run_takeDeferred hK, ?_⟩⟩
    exact ⟨_, results_tmp rfl _ _ _, v, rfl, ownsRow_putObj hrow _ hK rfl, hB.trans (belowK_b (w := w) (Nat.le_refl _) W D _ _ (by simp at hD; omega) hK rfl rfl)⟩
  case stop =>
    rintro D c pre W _ _ h _
    exact h.elim
end Go.Proofs.Ytlhjligeigkbnaa.Frm
