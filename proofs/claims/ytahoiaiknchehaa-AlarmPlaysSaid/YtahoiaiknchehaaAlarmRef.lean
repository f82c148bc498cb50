/- The reference of layer 23: its state as a value; near, High, Cond. -/
import Derived.Test.YtahoiaiknchehaaAlarmMath
import Derived.Test.YtahoiaiknchehaaWholeRow
import Derived.Test.YtahoiaiknchehaaRegionTill
import Derived.Test.YtahoiaiknchehaaOwnMore
import Derived.ProofKit
import Derived.Handy
import Derived.Deep.QuietTactic
import Derived.BigQuiet
import Derived.Deep.DeepCutAuto
import Derived.Lib.Hide
set_option linter.unusedSimpArgs false
set_option linter.unusedVariables false
namespace Go.Proofs.Ytahoiaiknchehaa.Alarm
open Go.RowKit
/-- The document's state, as it lies. -/
def refC (s : St) : Array Value := (([.int .i64 s.escape] : List Value) ++ (onesC s ++ ([.int .i64 s.till, .bool s.sounds] : List Value))).toArray
def refV (s : St) : Value := .agg (refC s)
def zeroR : Array Value := #[.int .i64 0, .bool false, .bool false, .bool false, .bool false, .int .i64 0, .bool false, .bool false, .bool false, .bool false, .int .i64 0, .bool false, .bool false, .bool false, .bool false, .int .i64 0, .bool false, .bool false, .bool false, .bool false, .int .i64 0, .bool false, .bool false, .bool false, .bool false, .int .i64 0, .bool false, .bool false, .bool false, .bool false, .int .i64 0, .int .i64 0, .bool false]
theorem ref_get (s : St) (k m : Nat) (hk : k < 6) (hm : m < 5) : (refC s)[1 + k * 5 + m]? = (oneC (s.get k))[m]? := by
  have hcm : m = 0 ∨ m = 1 ∨ m = 2 ∨ m = 3 ∨ m = 4 := by omega
  rcases k_cases6 hk with rfl | rfl | rfl | rfl | rfl | rfl <;> rcases hcm with rfl | rfl | rfl | rfl | rfl <;> rfl
theorem ref_set (s : St) (k m : Nat) (hk : 1 ≤ k ∧ k ≤ 5) (hm : m < 5) (u : Value) (o : One) (ho : oneC o = (oneC (s.get k)).set m u) : (refC s).setIfInBounds (1 + k * 5 + m) u = refC (s.set k o) := by
  have hcm : m = 0 ∨ m = 1 ∨ m = 2 ∨ m = 3 ∨ m = 4 := by omega
  rcases k_cases hk with rfl | rfl | rfl | rfl | rfl
  · rw [show refC (s.set 1 o) = (([.int .i64 s.escape] : List Value) ++ ((oneC noOne ++ (oneC o ++ (oneC s.a2 ++ (oneC s.a3 ++ (oneC s.a4 ++ (oneC s.a5)))))) ++ ([.int .i64 s.till, .bool s.sounds] : List Value))).toArray from rfl, ho]
    rcases hcm with rfl | rfl | rfl | rfl | rfl <;> rfl
  · rw [show refC (s.set 2 o) = (([.int .i64 s.escape] : List Value) ++ ((oneC noOne ++ (oneC s.a1 ++ (oneC o ++ (oneC s.a3 ++ (oneC s.a4 ++ (oneC s.a5)))))) ++ ([.int .i64 s.till, .bool s.sounds] : List Value))).toArray from rfl, ho]
    rcases hcm with rfl | rfl | rfl | rfl | rfl <;> rfl
  · rw [show refC (s.set 3 o) = (([.int .i64 s.escape] : List Value) ++ ((oneC noOne ++ (oneC s.a1 ++ (oneC s.a2 ++ (oneC o ++ (oneC s.a4 ++ (oneC s.a5)))))) ++ ([.int .i64 s.till, .bool s.sounds] : List Value))).toArray from rfl, ho]
    rcases hcm with rfl | rfl | rfl | rfl | rfl <;> rfl
  · rw [show refC (s.set 4 o) = (([.int .i64 s.escape] : List Value) ++ ((oneC noOne ++ (oneC s.a1 ++ (oneC s.a2 ++ (oneC s.a3 ++ (oneC o ++ (oneC s.a5)))))) ++ ([.int .i64 s.till, .bool s.sounds] : List Value))).toArray from rfl, ho]
    rcases hcm with rfl | rfl | rfl | rfl | rfl <;> rfl
  · rw [show refC (s.set 5 o) = (([.int .i64 s.escape] : List Value) ++ ((oneC noOne ++ (oneC s.a1 ++ (oneC s.a2 ++ (oneC s.a3 ++ (oneC s.a4 ++ (oneC o)))))) ++ ([.int .i64 s.till, .bool s.sounds] : List Value))).toArray from rfl, ho]
    rcases hcm with rfl | rfl | rfl | rfl | rfl <;> rfl
theorem ref_size (s : St) : (refC s).size = 33 := rfl
theorem ref_one (s : St) : (refC s).all (·.oneCell') = true := by simp [refC, onesC, oneC, Value.oneCell']
theorem ref_ld {ops : Array Oper} {rest : List Oper} {op : Oper} {a : Act} {w : World} {Q : Exit → Act → World → Prop} (hgd : op.guard = none) (x : Operand) (ho : op.op = .load 32 x) (g : Nat) (hx : a.eval x = .pointer (some ⟨g, 0, none⟩)) {cs : Array Value}
    (h : Has w g 32 cs) (hs : cs.size = 33) (hk : wpList Try.prog ops Q rest (a.put op.dst (.agg cs)) w) : wpList Try.prog ops Q (op :: rest) a w :=
  wpList_plain hgd fun _ hK => wp_load_row 32 x ho g hx 32 cs (0, 0) (.struct (Try.prog.fieldsOf 32)) h (by kernel_rfl) rfl (by rw [hs]; kernel_rfl) (hK _ _ hk)
theorem ref_st {ops : Array Oper} {rest : List Oper} {op : Oper} {a : Act} {w : World} {Q : Exit → Act → World → Prop} (hgd : op.guard = none) (x y : Operand) (ho : op.op = .store 32 x y) (g : Nat) (cs : Array Value) (hx : a.eval x = .pointer (some ⟨g, 0, none⟩)) (hy : a.eval y = .agg cs) {old : Array Value}
    (h : Has w g 32 old) (hs : cs.size = 33) (hos : old.size = 33) (h1 : cs.all (·.oneCell') = true) (hk : wpList Try.prog ops Q rest (a.put op.dst undef) (w.setRow g cs)) : wpList Try.prog ops Q (op :: rest) a w :=
  wpList_plain hgd fun _ hK => wp_store_row 32 x y ho g cs hx hy 32 old h (by rw [hs]; kernel_rfl) (by rw [hs, hos]) h1 (hK _ _ hk)
theorem ref_take {oi : Oper} {a : Act} {w : World} {g : Nat} {x : Operand} {cs : Array Value} (ho : oi.op = .load 32 x) (hx : a.eval x = .pointer (some ⟨g, 0, none⟩)) (h : Has w g 32 cs) (hs : cs.size = 33) : (execOp a.eval oi).run Try.prog w = .ok (.value (.agg cs)) w := by
  have hi : (Try.prog.info? 32).map (·.size) = some 33 := by kernel_rfl
  have hu : Try.prog.underlying 32 = some (.struct (Try.prog.fieldsOf 32)) := by kernel_rfl
  have hl := run_loadVar_row (P := Try.prog) w g _ 32 cs (0, 0) (.struct (Try.prog.fieldsOf 32)) h hu rfl (by rw [hs]; exact hi)
  unfold execOp
  simp only [ho, hx, Instr.loadAt, Instr.sureAddr, Sem.run_bind, Sem.run_pure, Result.andThen_ok, hl]
theorem ref_ret {fn : Func} {R : Ending → World → Prop} {a : Act} {w : World} {p u : Tmp} (hf : fn.results = #[.cell p 32, .tmp u]) (g : Nat) (hx : a.tmps.getD p undef = .pointer (some ⟨g, 0, none⟩)) (V : Value) (hV : a.tmps.getD u undef = V) (cs : Array Value) (h : Has w g 32 cs) (hs : cs.size = 33) (hd : a.defers = []) (hR : R (.returned (.tuple #[.agg cs, V])) w) : bodyPost Try.prog fn R .ret a w := by
  have hi : (Try.prog.info? 32).map (·.size) = some 33 := by kernel_rfl
  have hu : Try.prog.underlying 32 = some (.struct (Try.prog.fieldsOf 32)) := by kernel_rfl
  have hl := run_loadVar_row (P := Try.prog) w g _ 32 cs (0, 0) (.struct (Try.prog.fieldsOf 32)) h hu rfl (by rw [hs]; exact hi)
  have hp' : a.tmps[p]?.getD undef = .pointer (some ⟨g, 0, none⟩) := by simpa using hx
  have hv' : a.tmps[u]?.getD undef = V := by simpa using hV
  exact bodyPost_ret (by simp [results, hf, hp', hv', asAddr, hl]) hd hR
/-- Where a call stands: its state in block g, its answer in block y. -/
structure Rs (w : World) (g y : Nat) (s : St) (W : World) : Prop where
  X : Has W g 32 (refC s)
  Y : Has W y 32 zeroR
  low : Below w.heap.size w W
  hi : w.heap.size ≤ g ∧ w.heap.size ≤ y
  ne_ : g ≠ y
section
variable {w W W' : World} {g y : Nat} {s s' : St}
theorem Rs.grow (h : Rs w g y s W) (hB : Below W.heap.size W W') : Rs w g y s W' := ⟨h.X.below hB h.X.lt, h.Y.below hB h.Y.lt, h.low.trans (hB.mono h.low.size), h.hi, h.ne_⟩
theorem Rs.turn (h : Rs w g y s W) (hX : Has W' g 32 (refC s')) (hK : Kept [g] W W') : Rs w g y s' W' :=
  ⟨hX, hK.has h.Y (by simp; exact fun e => h.ne_ e.symm), below_kept h.low hK h.low.size (fun k hk => by simp at hk; have := h.hi; omega), h.hi, h.ne_⟩
theorem rpart (hX : Has W g 32 (refC s)) {k : Nat} (hk : k < 6) : W.cell? ⟨g, 1 + k * 5, none⟩ = some (.bool (s.get k).on) ∧ W.cell? ⟨g, 1 + k * 5 + 1, none⟩ = some (.bool (s.get k).stands) ∧ W.cell? ⟨g, 1 + k * 5 + 2, none⟩ = some (.bool (s.get k).acked) ∧ W.cell? ⟨g, 1 + k * 5 + 3, none⟩ = some (.bool (s.get k).esc) ∧ W.cell? ⟨g, 1 + k * 5 + 4, none⟩ = some (.int .i64 (s.get k).since) := by
  have h0 := hX.cell (1 + k * 5 + 0)
  have h1 := hX.cell (1 + k * 5 + 1)
  have h2 := hX.cell (1 + k * 5 + 2)
  have h3 := hX.cell (1 + k * 5 + 3)
  have h4 := hX.cell (1 + k * 5 + 4)
  rw [ref_get s k _ hk (by omega)] at h0 h1 h2 h3 h4
  exact ⟨h0, h1, h2, h3, h4⟩
theorem Rs.partF (h : Rs w g y s W) (k : Nat) : W.frozen? ⟨g, 1 + k * 5, none⟩ = false ∧ W.frozen? ⟨g, 1 + k * 5 + 1, none⟩ = false ∧ W.frozen? ⟨g, 1 + k * 5 + 2, none⟩ = false ∧ W.frozen? ⟨g, 1 + k * 5 + 3, none⟩ = false ∧ W.frozen? ⟨g, 1 + k * 5 + 4, none⟩ = false :=
  ⟨h.X.frozen _, h.X.frozen _, h.X.frozen _, h.X.frozen _, h.X.frozen _⟩
theorem Rs.rest (h : Rs w g y s W) : W.cell? ⟨g, 0, none⟩ = some (.int .i64 s.escape) ∧ W.cell? ⟨g, 31, none⟩ = some (.int .i64 s.till) ∧ W.cell? ⟨g, 32, none⟩ = some (.bool s.sounds) ∧ W.frozen? ⟨g, 31, none⟩ = false ∧ W.frozen? ⟨g, 32, none⟩ = false :=
  ⟨h.X.cell 0, h.X.cell 31, h.X.cell 32, h.X.frozen 31, h.X.frozen 32⟩
theorem Rs.put1 (h : Rs w g y s W) (k m : Nat) (q : Bool) (o : One) (hk : 1 ≤ k ∧ k ≤ 5) (hm : m < 5) (he : oneC o = (oneC (s.get k)).set m (.bool q)) : Rs w g y (s.set k o) (W.setCell ⟨g, 1 + k * 5 + m, none⟩ (.bool q)) := by
  have hH := h.X.set_ (1 + k * 5 + m) (.bool q)
  rw [ref_set s k m hk hm _ o he] at hH
  exact h.turn hH ((Kept.refl [g] W).setCell (p := ⟨g, 1 + k * 5 + m, none⟩) (.inl (by simp)) _)
theorem Rs.put5 (h : Rs w g y s W) (k : Nat) (o : One) (hk : 1 ≤ k ∧ k ≤ 5) : Rs w g y (s.set k o) (((((W.setCell ⟨g, 1 + k * 5, none⟩ (.bool o.on)).setCell ⟨g, 1 + k * 5 + 1, none⟩ (.bool o.stands)).setCell ⟨g, 1 + k * 5 + 2, none⟩ (.bool o.acked)).setCell ⟨g, 1 + k * 5 + 3, none⟩ (.bool o.esc)).setCell ⟨g, 1 + k * 5 + 4, none⟩ (.int .i64 o.since)) := by
  obtain ⟨o1, o2, o3, o4, o5⟩ := o
  have hK := (((((Kept.refl [g] W).setCell (p := ⟨g, 1 + k * 5, none⟩) (.inl (by simp)) (.bool o1)).setCell (p := ⟨g, 1 + k * 5 + 1, none⟩) (.inl (by simp)) (.bool o2)).setCell (p := ⟨g, 1 + k * 5 + 2, none⟩) (.inl (by simp)) (.bool o3)).setCell (p := ⟨g, 1 + k * 5 + 3, none⟩) (.inl (by simp)) (.bool o4)).setCell (p := ⟨g, 1 + k * 5 + 4, none⟩) (.inl (by simp)) (.int .i64 o5)
  have hH := ((((h.X.set_ (1 + k * 5 + 0) (.bool o1)).set_ (1 + k * 5 + 1) (.bool o2)).set_ (1 + k * 5 + 2) (.bool o3)).set_ (1 + k * 5 + 3) (.bool o4)).set_ (1 + k * 5 + 4) (.int .i64 o5)
  rw [ref_set s k 0 hk (by omega) _ ⟨o1, (s.get k).stands, (s.get k).acked, (s.get k).esc, (s.get k).since⟩ rfl] at hH
  rw [ref_set _ k 1 hk (by omega) _ ⟨o1, o2, (s.get k).acked, (s.get k).esc, (s.get k).since⟩ (by rw [get_set _ _ _ hk]; rfl)] at hH
  rw [ref_set _ k 2 hk (by omega) _ ⟨o1, o2, o3, (s.get k).esc, (s.get k).since⟩ (by rw [get_set _ _ _ hk]; rfl)] at hH
  rw [ref_set _ k 3 hk (by omega) _ ⟨o1, o2, o3, o4, (s.get k).since⟩ (by rw [get_set _ _ _ hk]; rfl)] at hH
  rw [ref_set _ k 4 hk (by omega) _ ⟨o1, o2, o3, o4, o5⟩ (by rw [get_set _ _ _ hk]; rfl)] at hH
  simp only [set_set] at hH
  exact h.turn hH hK
theorem Rs.putTill (h : Rs w g y s W) (t : Int) : Rs w g y { s with till := t } (W.setCell ⟨g, 31, none⟩ (.int .i64 t)) :=
  h.turn (s' := { s with till := t }) (h.X.set_ 31 (.int .i64 t)) ((Kept.refl [g] W).setCell (p := ⟨g, 31, none⟩) (.inl (by simp)) _)
theorem Rs.putSounds (h : Rs w g y s W) (q : Bool) : Rs w g y { s with sounds := q } (W.setCell ⟨g, 32, none⟩ (.bool q)) :=
  h.turn (s' := { s with sounds := q }) (h.X.set_ 32 (.bool q)) ((Kept.refl [g] W).setCell (p := ⟨g, 32, none⟩) (.inl (by simp)) _)
end
theorem refnear_any (n : Int) (w : World) : Calls Try.prog 25 #[.int .i64 n] w fun e w' => e = .returned (.int .i64 (nearT n)) ∧ w' = w := by
  obtain ⟨m, hm⟩ : ∃ m, (if 1099511627776 < n then 1099511627776 else n) = m := ⟨_, rfl⟩
  obtain ⟨r, hr⟩ : ∃ r, (if 0 < m then m else 0) = r := ⟨_, rfl⟩
  have he := nearT_ifs2 n m r hm hr
  go_enter Try.func25, Try.ntmps25
  go_wp2
  go_ret
  exact ⟨by rw [← he]; rfl, rfl⟩
/-- What doesn't stand hasn't escalated. -/
def Quiet (s : St) : Prop := ∀ j, (s.get j).stands = false → (s.get j).esc = false
theorem quiet_ok {s : St} (h : Ok s) : Quiet s := fun j hj => by rw [(h j).none_ hj]; rfl
theorem quiet_set {s : St} (h : Quiet s) {j : Nat} {o : One} (ho : o.stands = false → o.esc = false) : Quiet (s.set j o) := fun i hi => by
  by_cases e : i = j
  · subst e
    by_cases hk : 1 ≤ i ∧ i ≤ 5
    · rw [get_set _ _ _ hk] at hi ⊢; exact ho hi
    · rw [get_off _ _ hk]; rfl
  · rw [get_set_ne _ _ _ _ e] at hi ⊢; exact h i hi
set_option maxHeartbeats 1000000 in
theorem refhigh_any (s : St) (k : Int) (hO : Quiet s) (w : World) : Calls Try.prog 26 #[refV s, .int .i64 k] w fun e w' => e = .returned (.bool (s.highZ k)) ∧ Below w.heap.size w w' := by
  have hX := Has.new w 32 (refC s)
  have hB := (Below.refl w.heap.size w).alloc (Nat.le_refl _) (.cells (refC s) 32)
  unfold refV
  by_cases h2 : k = 2
  · subst h2
    clear hX
    generalize refC s = cs at *
    go_enter Try.func26, Try.ntmps26
    go_wp2
    go_ret
    exact ⟨rfl, hB⟩
  by_cases h3 : k = 3
  · subst h3
    clear hX
    generalize refC s = cs at *
    go_enter Try.func26, Try.ntmps26
    go_wp2
    go_ret
    exact ⟨rfl, hB⟩
  by_cases hk : 1 ≤ k ∧ k ≤ 5
  · obtain ⟨j, rfl⟩ : ∃ j : Nat, k = (j : Int) := ⟨k.toNat, by omega⟩
    have hj : j < 6 := by omega
    have hj7 : 0 ≤ (j : Int) ∧ (j : Int) < 6 := by omega
    have b2 : ((j : Int) == 2) = false := by simpa using h2
    have b3 : ((j : Int) == 3) = false := by simpa using h3
    obtain ⟨c0, c1, c2, c3, c4⟩ := rpart hX hj
    have he : s.highZ (j : Int) = (s.get j).esc := by
      unfold St.highZ
      rw [getZ_nat, decide_eq_false h2, decide_eq_false h3]; rfl
    rw [he]
    have hn := hO j
    generalize s.get j = o at *
    obtain ⟨o1, o2, o3, o4, o5⟩ := o
    dsimp only at c0 c1 c2 c3 c4 hn ⊢
    have HN := Lib.hid hn
    clear hX he hn
    generalize refC s = cs at *
    cases o2
    · have h9 := HN.out rfl
      subst h9
      go_enter Try.func26, Try.ntmps26
      go_wp2
      go_ret
      exact ⟨rfl, hB⟩
    · go_enter Try.func26, Try.ntmps26
      go_wp2
      go_ret
      exact ⟨rfl, hB⟩
  · have he : s.highZ k = false := by
      unfold St.highZ St.getZ
      rw [decide_eq_false h2, decide_eq_false h3, if_neg hk]; rfl
    rw [he]
    have b2 : (k == 2) = false := by simpa using h2
    have b3 : (k == 3) = false := by simpa using h3
    clear hX he
    generalize refC s = cs at *
    by_cases h1 : 1 ≤ k
    · have h5 : ¬ k ≤ 5 := fun h => hk ⟨h1, h⟩
      clear hk
      go_enter Try.func26, Try.ntmps26
      go_wp2
      go_ret
      exact ⟨rfl, hB⟩
    · clear hk
      go_enter Try.func26, Try.ntmps26
      go_wp2
      go_ret
      exact ⟨rfl, hB⟩
end Go.Proofs.Ytahoiaiknchehaa.Alarm
