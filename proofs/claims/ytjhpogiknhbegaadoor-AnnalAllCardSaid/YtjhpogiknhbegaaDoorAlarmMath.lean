/- Alarms, reckoned: all kinds' alarms as a machine over conditions and ticks. Of no program. -/
import Derived.ProofKit
import Derived.Test.YtjhpogiknhbegaaDoorShape
set_option linter.unusedVariables false
set_option linter.unusedSimpArgs false
namespace Go.Proofs.YtjhpogiknhbegaaDoor.Alarm
open Go.RowKit
/-- A sample's number as it counts. -/
def nearT (n : Int) : Int := if n < 0 then 0 else if 1099511627776 < n then 1099511627776 else n
theorem nearT_bd (n : Int) : 0 ≤ nearT n ∧ nearT n ≤ 1099511627776 := by unfold nearT; split <;> (try split) <;> omega
theorem nearT_id (n : Int) (h : 0 ≤ n ∧ n ≤ 1099511627776) : nearT n = n := by unfold nearT; split <;> (try split) <;> omega
theorem nearT_ifs (n m r : Int) (h1 : (if n < 0 then 0 else n) = m) (h2 : (if 1099511627776 < m then 1099511627776 else m) = r) : r = nearT n := by
  unfold nearT; subst h1; subst h2; split <;> split <;> (try split) <;> omega
theorem nearT_ifs2 (n m r : Int) (h1 : (if 1099511627776 < n then 1099511627776 else n) = m) (h2 : (if 0 < m then m else 0) = r) : r = nearT n := by
  unfold nearT; subst h1; subst h2; split <;> split <;> (try split) <;> omega
theorem nearT_near (n : Int) : nearT (nearT n) = nearT n := nearT_id _ (nearT_bd n)
/-- An alarm. -/
structure One where
  on : Bool
  stands : Bool
  acked : Bool
  esc : Bool
  since : Int
def noOne : One := ⟨false, false, false, false, 0⟩
/-- A condition (kind, sample, on), an order (sample, kind, number), what is said (kind, sample, alarm, number). -/
abbrev Cd := Int × Int × Bool
abbrev Or := Int × Int × Int
abbrev Ot := Int × Int × Int × Int
def noCd : Cd := (0, 0, false)
def noOr : Or := (0, 0, 0)
def noOt : Ot := (0, 0, 0, 0)
/-- All alarms. -/
structure St where
  escape : Int
  a1 : One
  a2 : One
  a3 : One
  a4 : One
  a5 : One
  till : Int
  sounds : Bool
def St.get (s : St) (k : Nat) : One := if k = 1 then s.a1 else if k = 2 then s.a2 else if k = 3 then s.a3 else if k = 4 then s.a4 else if k = 5 then s.a5 else noOne
def St.set (s : St) (k : Nat) (o : One) : St := if k = 1 then { s with a1 := o } else if k = 2 then { s with a2 := o } else if k = 3 then { s with a3 := o } else if k = 4 then { s with a4 := o } else if k = 5 then { s with a5 := o } else s
def st0 (e : Int) : St := ⟨e, noOne, noOne, noOne, noOne, noOne, 0, false⟩
theorem k_cases {k : Nat} (hk : 1 ≤ k ∧ k ≤ 5) : k = 1 ∨ k = 2 ∨ k = 3 ∨ k = 4 ∨ k = 5 := by omega
theorem k_cases6 {k : Nat} (hk : k < 6) : k = 0 ∨ k = 1 ∨ k = 2 ∨ k = 3 ∨ k = 4 ∨ k = 5 := by omega
theorem get_off (s : St) (k : Nat) (hk : ¬ (1 ≤ k ∧ k ≤ 5)) : s.get k = noOne := by
  unfold St.get
  rw [if_neg (by omega), if_neg (by omega), if_neg (by omega), if_neg (by omega), if_neg (by omega)]
theorem get_set (s : St) (k : Nat) (o : One) (hk : 1 ≤ k ∧ k ≤ 5) : (s.set k o).get k = o := by
  rcases k_cases hk with rfl | rfl | rfl | rfl | rfl <;> rfl
theorem get_set_ne (s : St) (k j : Nat) (o : One) (h : j ≠ k) : (s.set k o).get j = s.get j := by
  by_cases hk : 1 ≤ k ∧ k ≤ 5
  · by_cases hj : 1 ≤ j ∧ j ≤ 5
    · rcases k_cases hk with rfl | rfl | rfl | rfl | rfl <;> rcases k_cases hj with rfl | rfl | rfl | rfl | rfl <;> first | rfl | exact absurd rfl h
    · rw [get_off _ _ hj, get_off _ _ hj]
  · unfold St.set
    rw [if_neg (by omega), if_neg (by omega), if_neg (by omega), if_neg (by omega), if_neg (by omega)]
theorem set_same (s : St) (k : Nat) : s.set k (s.get k) = s := by
  by_cases hk : 1 ≤ k ∧ k ≤ 5
  · rcases k_cases hk with rfl | rfl | rfl | rfl | rfl <;> rfl
  · unfold St.set
    rw [if_neg (by omega), if_neg (by omega), if_neg (by omega), if_neg (by omega), if_neg (by omega)]
theorem set_set (s : St) (k : Nat) (o p : One) : (s.set k o).set k p = s.set k p := by
  by_cases hk : 1 ≤ k ∧ k ≤ 5
  · rcases k_cases hk with rfl | rfl | rfl | rfl | rfl <;> rfl
  · unfold St.set
    repeat rw [if_neg (by omega), if_neg (by omega), if_neg (by omega), if_neg (by omega), if_neg (by omega)]
theorem set_escape (s : St) (k : Nat) (o : One) : (s.set k o).escape = s.escape := by unfold St.set; (repeat' split) <;> rfl
theorem set_till (s : St) (k : Nat) (o : One) : (s.set k o).till = s.till := by unfold St.set; (repeat' split) <;> rfl
theorem set_sounds (s : St) (k : Nat) (o : One) : (s.set k o).sounds = s.sounds := by unfold St.set; (repeat' split) <;> rfl
theorem get_till (s : St) (t : Int) (k : Nat) : St.get { s with till := t } k = s.get k := by unfold St.get; rfl
theorem get_sounds (s : St) (t : Bool) (k : Nat) : St.get { s with sounds := t } k = s.get k := by unfold St.get; rfl
def grave (k : Nat) : Bool := k == 2 || k == 3
def St.high (s : St) (k : Nat) : Bool := grave k || (s.get k).esc
def waits (o : One) : Bool := o.stands && !o.acked
/-- What holds of each alarm. -/
structure Ok1 (k : Nat) (o : One) : Prop where
  none_ : o.stands = false → o = noOne
  acked : o.stands = true → o.acked = true → o.on = true
  calm : o.stands = true → o.acked = false → grave k = false → o.esc = false → o.on = true
  since : 0 ≤ o.since ∧ o.since ≤ 1099511627776
theorem ok_no (k : Nat) : Ok1 k noOne := ⟨fun _ => rfl, fun h => (by cases h), fun h => (by cases h), by decide⟩
def Ok (s : St) : Prop := ∀ k, Ok1 k (s.get k)
theorem Ok.set {s : St} (h : Ok s) {k : Nat} {o : One} (ho : Ok1 k o) : Ok (s.set k o) := fun j => by
  by_cases hj : j = k
  · subst hj
    by_cases hk : 1 ≤ j ∧ j ≤ 5
    · rw [get_set _ _ _ hk]; exact ho
    · rw [get_off _ _ hk]; exact ok_no j
  · rw [get_set_ne _ _ _ _ hj]; exact h j
theorem ok_st0 (e : Int) : Ok (st0 e) := fun k => by
  have : (st0 e).get k = noOne := by unfold St.get st0; (repeat' split) <;> rfl
  rw [this]; exact ok_no k
/-- Of any number: the alarm of that kind, whether it is high. -/
def St.getZ (s : St) (k : Int) : One := if 1 ≤ k ∧ k ≤ 5 then s.get k.toNat else noOne
def St.highZ (s : St) (k : Int) : Bool := decide (k = 2) || decide (k = 3) || (s.getZ k).esc
theorem getZ_nat (s : St) (k : Nat) : s.getZ (k : Int) = s.get k := by
  unfold St.getZ
  split
  · rfl
  · rw [get_off s k (by omega)]
theorem highZ_nat (s : St) (k : Nat) : s.highZ (k : Int) = s.high k := by
  unfold St.highZ St.high grave
  rw [getZ_nat]
  have h1 : decide ((k : Int) = 2) = (k == 2) := decide_eq_decide.2 (by omega)
  have h2 : decide ((k : Int) = 3) = (k == 3) := decide_eq_decide.2 (by omega)
  rw [h1, h2]
/-- A condition of a kind there is begins or ends. -/
def beginT (s : St) (k : Nat) (at_ : Int) : St × List Ot :=
  if (s.get k).stands then (s.set k { s.get k with on := true }, [])
  else (if grave k then { s.set k ⟨true, true, false, false, at_⟩ with till := 0 } else s.set k ⟨true, true, false, false, at_⟩, [(2, at_, (k : Int), 0)])
def endT (s : St) (k : Nat) (at_ : Int) : St × List Ot :=
  if (s.get k).on then
    if s.high k && !(s.get k).acked then (s.set k { s.get k with on := false }, [(4, at_, (k : Int), 0)])
    else (s.set k noOne, [(3, at_, (k : Int), 0)])
  else (s, [])
def condT (s : St) (c : Cd) : St × List Ot :=
  if 1 ≤ c.1 ∧ c.1 ≤ 5 then (if c.2.2 then beginT s c.1.toNat (nearT c.2.1) else endT s c.1.toNat (nearT c.2.1)) else (s, [])
def condsT (s : St) : List Cd → St × List Ot
  | [] => (s, [])
  | c :: cs => ((condsT (condT s c).1 cs).1, (condT s c).2 ++ (condsT (condT s c).1 cs).2)
theorem conds_snoc (s : St) (cs : List Cd) (c : Cd) : condsT s (cs ++ [c]) = ((condT (condsT s cs).1 c).1, (condsT s cs).2 ++ (condT (condsT s cs).1 c).2) := by
  induction cs generalizing s with
  | nil => simp [condsT]
  | cons d cs ih => simp only [List.cons_append, condsT, ih, List.append_assoc]
/-- Kind by kind. -/
def overT (f : St → Nat → St × List Ot) (s : St) : Nat → St × List Ot
  | 0 => (s, [])
  | k + 1 => ((f (overT f s k).1 k).1, (overT f s k).2 ++ (f (overT f s k).1 k).2)
def ack1 (at_ : Int) (s : St) (k : Nat) : St × List Ot :=
  if waits (s.get k) then
    if (s.get k).on then (s.set k { s.get k with acked := true }, [(5, at_, (k : Int), 0)])
    else (s.set k noOne, [(5, at_, (k : Int), 0), (3, at_, (k : Int), 0)])
  else (s, [])
def esc1 (at_ : Int) (s : St) (k : Nat) : St × List Ot :=
  if waits (s.get k) && !s.high k && decide (s.escape ≤ at_ - (s.get k).since) then (s.set k { s.get k with esc := true }, [(6, at_, (k : Int), 0)]) else (s, [])
def orderT (at_ : Int) (s : St) (o : Or) : St × List Ot :=
  if o.2.1 = 1 then overT (ack1 at_) s 6
  else if o.2.1 = 2 ∧ 1 ≤ o.2.2 ∧ o.2.2 ≤ 24000 then ({ s with till := at_ + o.2.2 }, [(8, at_, 0, o.2.2)])
  else (s, [])
def ordersT (at_ : Int) (s : St) : List Or → St × List Ot
  | [] => (s, [])
  | o :: os => ((ordersT at_ (orderT at_ s o).1 os).1, (orderT at_ s o).2 ++ (ordersT at_ (orderT at_ s o).1 os).2)
theorem orders_snoc (at_ : Int) (s : St) (cs : List Or) (c : Or) : ordersT at_ s (cs ++ [c]) = ((orderT at_ (ordersT at_ s cs).1 c).1, (ordersT at_ s cs).2 ++ (orderT at_ (ordersT at_ s cs).1 c).2) := by
  induction cs generalizing s with
  | nil => simp [ordersT]
  | cons d cs ih => simp only [List.cons_append, ordersT, ih, List.append_assoc]
/-- Does any of the first so many kinds wait? -/
def anyT (s : St) : Nat → Bool
  | 0 => false
  | k + 1 => anyT s k || waits (s.get k)
def loudT (at_ : Int) (s : St) : Bool := anyT s 6 && decide (s.till ≤ at_)
def soundT (at_ : Int) (s : St) : St × List Ot :=
  if loudT at_ s = s.sounds then (s, []) else ({ s with sounds := loudT at_ s }, [(7, at_, 0, if loudT at_ s then 1 else 0)])
def tickT (s : St) (at_ : Int) (os : List Or) : St × List Ot :=
  ((soundT (nearT at_) (overT (esc1 (nearT at_)) (ordersT (nearT at_) s os).1 6).1).1,
   ((ordersT (nearT at_) s os).2 ++ (overT (esc1 (nearT at_)) (ordersT (nearT at_) s os).1 6).2) ++ (soundT (nearT at_) (overT (esc1 (nearT at_)) (ordersT (nearT at_) s os).1 6).1).2)
/- All stays in order. -/
theorem ok_begin {s : St} (h : Ok s) (k : Nat) (a : Int) (ha : 0 ≤ a ∧ a ≤ 1099511627776) : Ok (beginT s k a).1 := by
  unfold beginT
  have h1 := h k
  split
  · rename_i hs
    exact h.set ⟨fun h2 => (by rw [hs] at h2; cases h2), fun _ _ => rfl, fun _ _ _ _ => rfl, h1.since⟩
  · have h2 : Ok (s.set k ⟨true, true, false, false, a⟩) := h.set ⟨fun h2 => (by cases h2), fun _ h3 => (by cases h3), fun _ _ _ _ => rfl, ha⟩
    dsimp only
    split
    · exact fun j => by rw [get_till]; exact h2 j
    · exact h2
theorem ok_end {s : St} (h : Ok s) (k : Nat) (a : Int) : Ok (endT s k a).1 := by
  unfold endT
  have h1 := h k
  split
  · rename_i hon
    split
    · rename_i h2
      rw [Bool.and_eq_true, Bool.not_eq_true'] at h2
      refine h.set ⟨fun h3 => ?_, fun h3 h4 => ?_, fun h3 h4 h5 h6 => ?_, h1.since⟩
      · have h4 := h1.none_ h3
        rw [h4] at hon; cases hon
      · have h5 := h2.2; rw [h5] at h4; cases h4
      · have h7 := h2.1
        unfold St.high at h7
        rw [h5] at h7
        dsimp only at h6
        rw [h6] at h7; cases h7
    · exact h.set (ok_no k)
  · exact h
theorem ok_cond {s : St} (h : Ok s) (c : Cd) : Ok (condT s c).1 := by
  unfold condT
  split
  · split
    · exact ok_begin h _ _ (nearT_bd _)
    · exact ok_end h _ _
  · exact h
theorem ok_conds (cs : List Cd) : ∀ {s : St}, Ok s → Ok (condsT s cs).1 := by
  induction cs with
  | nil => exact fun h => h
  | cons c cs ih => exact fun h => ih (ok_cond h c)
theorem ok_over (f : St → Nat → St × List Ot) (hf : ∀ s k, Ok s → Ok (f s k).1) (s : St) (h : Ok s) : ∀ k, Ok (overT f s k).1
  | 0 => h
  | k + 1 => hf _ _ (ok_over f hf s h k)
theorem waits_iff {o : One} : waits o = true ↔ o.stands = true ∧ o.acked = false := by unfold waits; rw [Bool.and_eq_true, Bool.not_eq_true']
theorem ok_ack1 (a : Int) (s : St) (k : Nat) (h : Ok s) : Ok (ack1 a s k).1 := by
  unfold ack1
  have h1 := h k
  split
  · rename_i hw
    have hw := waits_iff.1 hw
    split
    · rename_i hon
      exact h.set ⟨fun h2 => (by rw [hw.1] at h2; cases h2), fun _ _ => hon, fun _ h3 => (by cases h3), h1.since⟩
    · exact h.set (ok_no k)
  · exact h
theorem ok_esc1 (a : Int) (s : St) (k : Nat) (h : Ok s) : Ok (esc1 a s k).1 := by
  unfold esc1
  have h1 := h k
  split
  · rename_i hw
    rw [Bool.and_eq_true, Bool.and_eq_true] at hw
    have hw := waits_iff.1 hw.1.1
    exact h.set ⟨fun h2 => (by rw [hw.1] at h2; cases h2), h1.acked, fun _ _ _ h4 => (by cases h4), h1.since⟩
  · exact h
theorem ok_order {s : St} (a : Int) (h : Ok s) (o : Or) : Ok (orderT a s o).1 := by
  unfold orderT
  split
  · exact ok_over _ (ok_ack1 a) s h 6
  · split
    · exact fun j => by rw [get_till]; exact h j
    · exact h
theorem ok_orders (a : Int) (os : List Or) : ∀ {s : St}, Ok s → Ok (ordersT a s os).1 := by
  induction os with
  | nil => exact fun h => h
  | cons o os ih => exact fun h => ih (ok_order a h o)
theorem ok_sound (a : Int) {s : St} (h : Ok s) : Ok (soundT a s).1 := by
  unfold soundT
  split
  · exact h
  · exact fun j => by rw [get_sounds]; exact h j
theorem ok_tick {s : St} (h : Ok s) (a : Int) (os : List Or) : Ok (tickT s a os).1 := ok_sound _ (ok_over _ (ok_esc1 _) _ (ok_orders _ os h) 6)
/- How much is said. -/
theorem cond_len (s : St) (c : Cd) : (condT s c).2.length ≤ 1 := by
  unfold condT beginT endT
  (repeat' split) <;> simp
theorem conds_len (cs : List Cd) : ∀ s : St, (condsT s cs).2.length ≤ cs.length := by
  induction cs with
  | nil => intro s; simp [condsT]
  | cons c cs ih =>
    intro s
    have h1 := ih (condT s c).1
    have h2 := cond_len s c
    simp only [condsT, List.length_append, List.length_cons]
    omega
theorem over_len (f : St → Nat → St × List Ot) (m : Nat) (hf : ∀ s k, (f s k).2.length ≤ m) (s : St) : ∀ k, (overT f s k).2.length ≤ m * k
  | 0 => by simp [overT]
  | k + 1 => by
    have h1 := over_len f m hf s k
    have h2 := hf (overT f s k).1 k
    simp only [overT, List.length_append]
    rw [Nat.mul_add]
    omega
theorem ack1_len (a : Int) (s : St) (k : Nat) : (ack1 a s k).2.length ≤ 2 := by unfold ack1; (repeat' split) <;> simp
theorem esc1_len (a : Int) (s : St) (k : Nat) : (esc1 a s k).2.length ≤ 1 := by unfold esc1; split <;> simp
theorem order_len (a : Int) (s : St) (o : Or) : (orderT a s o).2.length ≤ 12 := by
  unfold orderT
  split
  · exact over_len _ 2 (ack1_len a) s 6
  · split <;> simp
theorem orders_len (a : Int) (os : List Or) : ∀ s : St, (ordersT a s os).2.length ≤ 12 * os.length := by
  induction os with
  | nil => intro s; simp [ordersT]
  | cons o os ih =>
    intro s
    have h1 := ih (orderT a s o).1
    have h2 := order_len a s o
    simp only [ordersT, List.length_append, List.length_cons]
    omega
theorem sound_len (a : Int) (s : St) : (soundT a s).2.length ≤ 1 := by unfold soundT; split <;> simp
theorem tick_len (s : St) (a : Int) (os : List Or) : (tickT s a os).2.length ≤ 12 * os.length + 7 := by
  have h1 := orders_len (nearT a) os s
  have h2 := over_len (esc1 (nearT a)) 1 (esc1_len _) (ordersT (nearT a) s os).1 6
  have h3 := sound_len (nearT a) (overT (esc1 (nearT a)) (ordersT (nearT a) s os).1 6).1
  simp only [tickT, List.length_append]
  omega
/- What stays. -/
theorem esc1_get (a : Int) (s : St) (k j : Nat) : ((esc1 a s k).1.get j).stands = (s.get j).stands ∧ ((esc1 a s k).1.get j).acked = (s.get j).acked := by
  unfold esc1
  split
  · rename_i hw
    dsimp only
    by_cases hj : j = k
    · subst hj
      by_cases hk : 1 ≤ j ∧ j ≤ 5
      · rw [get_set _ _ _ hk]; exact ⟨rfl, rfl⟩
      · rw [get_off _ _ hk, get_off _ _ hk]; exact ⟨rfl, rfl⟩
    · rw [get_set_ne _ _ _ _ hj]; exact ⟨rfl, rfl⟩
  · exact ⟨rfl, rfl⟩
theorem any_esc (a : Int) (s : St) (k : Nat) : ∀ n, anyT (esc1 a s k).1 n = anyT s n
  | 0 => rfl
  | n + 1 => by
    have h1 := esc1_get a s k n
    show (anyT (esc1 a s k).1 n || waits ((esc1 a s k).1.get n)) = (anyT s n || waits (s.get n))
    rw [any_esc a s k n]
    unfold waits
    rw [h1.1, h1.2]
/-- What one kind's step leaves of the others. -/
theorem ack1_ne (a : Int) (s : St) (k j : Nat) (h : j ≠ k) : (ack1 a s k).1.get j = s.get j := by
  unfold ack1
  (repeat' split) <;> first | rfl | exact get_set_ne _ _ _ _ h
theorem esc1_ne (a : Int) (s : St) (k j : Nat) (h : j ≠ k) : (esc1 a s k).1.get j = s.get j := by
  unfold esc1
  split <;> first | rfl | exact get_set_ne _ _ _ _ h
theorem over_above (f : St → Nat → St × List Ot) (hf : ∀ s k j, j ≠ k → (f s k).1.get j = s.get j) (s : St) : ∀ n j, n ≤ j → (overT f s n).1.get j = s.get j
  | 0, _, _ => rfl
  | n + 1, j, h => by
    show (f (overT f s n).1 n).1.get j = s.get j
    rw [hf _ _ _ (by omega)]
    exact over_above f hf s n j (by omega)
theorem over_below (f : St → Nat → St × List Ot) (hf : ∀ s k j, j ≠ k → (f s k).1.get j = s.get j) (s : St) (k : Nat) : ∀ n, k < n → (overT f s n).1.get k = (overT f s (k + 1)).1.get k
  | 0, h => by omega
  | n + 1, h => by
    by_cases hk : k = n
    · subst hk; rfl
    · show (f (overT f s n).1 n).1.get k = _
      rw [hf _ _ _ hk]
      exact over_below f hf s k n (by omega)
theorem ack1_rest (a : Int) (s : St) (k : Nat) : (ack1 a s k).1.escape = s.escape ∧ (ack1 a s k).1.till = s.till ∧ (ack1 a s k).1.sounds = s.sounds := by
  unfold ack1
  (repeat' split) <;> simp [set_escape, set_till, set_sounds]
theorem esc1_rest (a : Int) (s : St) (k : Nat) : (esc1 a s k).1.escape = s.escape ∧ (esc1 a s k).1.till = s.till ∧ (esc1 a s k).1.sounds = s.sounds := by
  unfold esc1
  split <;> simp [set_escape, set_till, set_sounds]
theorem over_rest (f : St → Nat → St × List Ot) (hf : ∀ s k, (f s k).1.escape = s.escape ∧ (f s k).1.till = s.till ∧ (f s k).1.sounds = s.sounds) (s : St) : ∀ n, (overT f s n).1.escape = s.escape ∧ (overT f s n).1.till = s.till ∧ (overT f s n).1.sounds = s.sounds
  | 0 => ⟨rfl, rfl, rfl⟩
  | n + 1 => by
    have h1 := over_rest f hf s n
    have h2 := hf (overT f s n).1 n
    exact ⟨h2.1.trans h1.1, h2.2.1.trans h1.2.1, h2.2.2.trans h1.2.2⟩
/- How they lie: an alarm's five cells; the five cells of a kind's alarm within all cells. -/
def oneC (o : One) : List Value := [.bool o.on, .bool o.stands, .bool o.acked, .bool o.esc, .int .i64 o.since]
def onesC (s : St) : List Value := oneC noOne ++ (oneC s.a1 ++ (oneC s.a2 ++ (oneC s.a3 ++ (oneC s.a4 ++ oneC s.a5))))
/-- A condition's, an order's and an out's cells. -/
def cdS : Row.Shape Cd := ⟨3, fun c => [.int .i64 c.1, .int .i64 c.2.1, .bool c.2.2], fun _ => rfl, by decide, fun p u hu => by
  simp at hu
  rcases hu with rfl | rfl | rfl <;> rfl⟩
def orS : Row.Shape Or := ⟨3, fun c => [.int .i64 c.1, .int .i64 c.2.1, .int .i64 c.2.2], fun _ => rfl, by decide, fun p u hu => by
  simp at hu
  rcases hu with rfl | rfl | rfl <;> rfl⟩
def otS : Row.Shape Ot := ⟨4, fun c => [.int .i64 c.1, .int .i64 c.2.1, .int .i64 c.2.2.1, .int .i64 c.2.2.2], fun _ => rfl, by decide, fun p u hu => by
  simp at hu
  rcases hu with rfl | rfl | rfl | rfl <;> rfl⟩
theorem part_at {α : Type} {S : Row.Shape α} {w : World} {x : Addr} {len : Nat} {ys : List α} (h : Row.Vals S w (some x) len ys) (i m : Nat) (hi : i < ys.length) (u : Value) (hu : (S.enc ys[i])[m]? = some u) (h0 : m ≠ 0) :
    w.cell? ⟨(x.add (i * S.k)).block, (x.add (i * S.k)).off + m, none⟩ = some u := by
  have h1 := h.at_ i m hi u hu
  rwa [show x.add (i * S.k + m) = ⟨(x.add (i * S.k)).block, (x.add (i * S.k)).off + m, none⟩ by
    unfold Addr.add
    by_cases h2 : i * S.k = 0 <;> simp [h2, h0, Nat.add_assoc]] at h1
theorem getD_in {α : Type} {ys : List α} {i : Nat} (hi : i < ys.length) (d : α) : ys.getD i d = ys[i] := by rw [List.getD_eq_getElem?_getD, List.getElem?_eq_getElem hi]; rfl
theorem cd_cells {w : World} {x : Addr} {len : Nat} {ys : List Cd} (h : Row.Vals cdS w (some x) len ys) (i : Nat) (hi : i < len) :
    w.cell? (x.add (i * 3)) = some (.int .i64 (ys.getD i noCd).1) ∧ w.cell? ⟨(x.add (i * 3)).block, (x.add (i * 3)).off + 1, none⟩ = some (.int .i64 (ys.getD i noCd).2.1) ∧
    w.cell? ⟨(x.add (i * 3)).block, (x.add (i * 3)).off + 2, none⟩ = some (.bool (ys.getD i noCd).2.2) := by
  have hl := h.len_
  rw [getD_in (by omega)]
  exact ⟨by simpa [cdS] using h.at_ i 0 (by omega) _ rfl, part_at h i 1 (by omega) _ rfl (by omega), part_at h i 2 (by omega) _ rfl (by omega)⟩
theorem or_cells {w : World} {x : Addr} {len : Nat} {ys : List Or} (h : Row.Vals orS w (some x) len ys) (i : Nat) (hi : i < len) :
    w.cell? (x.add (i * 3)) = some (.int .i64 (ys.getD i noOr).1) ∧ w.cell? ⟨(x.add (i * 3)).block, (x.add (i * 3)).off + 1, none⟩ = some (.int .i64 (ys.getD i noOr).2.1) ∧
    w.cell? ⟨(x.add (i * 3)).block, (x.add (i * 3)).off + 2, none⟩ = some (.int .i64 (ys.getD i noOr).2.2) := by
  have hl := h.len_
  rw [getD_in (by omega)]
  exact ⟨by simpa [orS] using h.at_ i 0 (by omega) _ rfl, part_at h i 1 (by omega) _ rfl (by omega), part_at h i 2 (by omega) _ rfl (by omega)⟩
theorem ot_cells {w : World} {x : Addr} {len : Nat} {ys : List Ot} (h : Row.Vals otS w (some x) len ys) (i : Nat) (hi : i < len) :
    w.cell? (x.add (i * 4)) = some (.int .i64 (ys.getD i noOt).1) ∧ w.cell? ⟨(x.add (i * 4)).block, (x.add (i * 4)).off + 1, none⟩ = some (.int .i64 (ys.getD i noOt).2.1) ∧
    w.cell? ⟨(x.add (i * 4)).block, (x.add (i * 4)).off + 2, none⟩ = some (.int .i64 (ys.getD i noOt).2.2.1) ∧ w.cell? ⟨(x.add (i * 4)).block, (x.add (i * 4)).off + 3, none⟩ = some (.int .i64 (ys.getD i noOt).2.2.2) := by
  have hl := h.len_
  rw [getD_in (by omega)]
  exact ⟨by simpa [otS] using h.at_ i 0 (by omega) _ rfl, part_at h i 1 (by omega) _ rfl (by omega), part_at h i 2 (by omega) _ rfl (by omega), part_at h i 3 (by omega) _ rfl (by omega)⟩
end Go.Proofs.YtjhpogiknhbegaaDoor.Alarm
