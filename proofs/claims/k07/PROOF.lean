import PyProof.Rows.All
import Wide.All
import OpenK.AllK
import Wide.FinOn
import KE.RegKIsAll
import HandS.Base
import HandS.Call
import HandS.List
import HandS.Comp
import HandS.Ends
import HandS.Dict
import HandS.Iter
import HandS.Exc
import HandS.TryOnly
import HandS.ExcOwn
import HandS.Words
import HandS.WordsList
import HandS.WordsDict
import HandS.WordsExc
import HandS.IsInst
import HandS.ExcIs
import HandS.FStr
import HandS.Small
import HandS.Walk
import HandS.Conv
import HandS.DictComp
import HandS.Style
import HandS.Codes
import HandS.Flow
import HandS.TryMany
import HandS.Deep
import HandS.AnyAll
import HandS.HotCalls
import KE.DataEq
import KE.DataFind
import PySem.Challenge.RW_sharetime_k07_a_wheel_in_step
set_option Elab.async false
set_option maxRecDepth 100000
set_option maxHeartbeats 4000000
set_option linter.all false
/-! The mirror of a wheel and its mathematics: plain Lean, no Python. Names of any kind with decidable equality. -/
namespace Wm
variable {α : Type} [DecidableEq α]
structure Row (α : Type) where
  n : α
  s : Int
  c : Int
  r : Bool
structure Wh (α : Type) where
  past : Int
  rows : List (Row α)
def stp (s : Int) : Int := Int.fdiv 27720 s
theorem stp_cases {s : Int} (h1 : 1 ≤ s) (h2 : s ≤ 12) : stp s * s = 27720 ∧ 2310 ≤ stp s ∧ stp s ≤ 27720 := by
  have h : s = 1 ∨ s = 2 ∨ s = 3 ∨ s = 4 ∨ s = 5 ∨ s = 6 ∨ s = 7 ∨ s = 8 ∨ s = 9 ∨ s = 10 ∨ s = 11 ∨ s = 12 := by omega
  rcases h with h | h | h | h | h | h | h | h | h | h | h | h <;> (subst h; decide)
theorem stp_ediv {s : Int} (h1 : 1 ≤ s) : stp s = 27720 / s := Int.fdiv_eq_ediv_of_nonneg _ (by omega)
/-! ### who gets the turn -/
/-- the one of two that goes ahead; the left one where they are alike -/
def pick (a : Option (Row α)) (x : Row α) : Option (Row α) := match a with
  | none => if x.r then some x else none
  | some b => if x.r && decide (x.c < b.c) then some x else some b
def best (l : List (Row α)) : Option (Row α) := l.foldl pick none
theorem best_snoc (l : List (Row α)) (x : Row α) : best (l ++ [x]) = pick (best l) x := by
  unfold best
  rw [List.foldl_append]
  rfl
theorem pick_some {a : Option (Row α)} {x b : Row α} (h : pick a x = some b) : a = some b ∨ (b = x ∧ x.r = true) := by
  unfold pick at h
  cases a with
  | none =>
    simp only at h
    split at h
    · next q => exact Or.inr ⟨(Option.some.inj h).symm, q⟩
    · cases h
  | some d =>
    simp only at h
    split at h
    · next q =>
      rw [Bool.and_eq_true] at q
      exact Or.inr ⟨(Option.some.inj h).symm, q.1⟩
    · exact Or.inl h
/-- what best tells, by a list cut into two -/
theorem fold_spec : ∀ (l : List (Row α)) (a : Option (Row α)), (∀ b, a = some b → b.r = true) →
    match l.foldl pick a with
    | none => a = none ∧ ∀ x ∈ l, x.r = false
    | some b => b.r = true ∧ (∀ x ∈ l, x.r = true → b.c ≤ x.c) ∧ (∀ d, a = some d → b.c ≤ d.c) ∧ (a = some b ∨ b ∈ l)
  | [], a, ha => by
    cases a with
    | none => exact ⟨rfl, fun x hx => (nomatch hx)⟩
    | some d => exact ⟨ha d rfl, fun x hx => (nomatch hx), fun e he => (by cases he; exact Int.le_refl _), Or.inl rfl⟩
  | y :: l, a, ha => by
    have ha' : ∀ b, pick a y = some b → b.r = true := fun b hb => by
      rcases pick_some hb with h | ⟨rfl, h⟩
      · exact ha b h
      · exact h
    have ih := fold_spec l (pick a y) ha'
    show match l.foldl pick (pick a y) with
      | none => a = none ∧ ∀ x ∈ y :: l, x.r = false
      | some b => b.r = true ∧ (∀ x ∈ y :: l, x.r = true → b.c ≤ x.c) ∧ (∀ d, a = some d → b.c ≤ d.c) ∧ (a = some b ∨ b ∈ y :: l)
    cases e : l.foldl pick (pick a y) with
    | none =>
      rw [e] at ih
      obtain ⟨h1, h2⟩ := ih
      cases a with
      | none =>
        have hy : y.r = false := by
          unfold pick at h1
          cases q : y.r with
          | false => rfl
          | true => rw [q] at h1; cases h1
        exact ⟨rfl, fun x hx => by
          rcases List.mem_cons.mp hx with rfl | hx
          · exact hy
          · exact h2 x hx⟩
      | some d =>
        exfalso
        unfold pick at h1
        simp only at h1
        split at h1 <;> cases h1
    | some b =>
      rw [e] at ih
      obtain ⟨h1, h2, h3, h4⟩ := ih
      refine ⟨h1, fun x hx hr => ?_, fun d hd => ?_, ?_⟩
      · rcases List.mem_cons.mp hx with rfl | hx
        · -- y itself
          cases a with
          | none =>
            have : pick none x = some x := by unfold pick; simp [hr]
            exact h3 _ this
          | some d =>
            by_cases q : x.c < d.c
            · have : pick (some d) x = some x := by unfold pick; simp [hr, q]
              exact h3 _ this
            · have : pick (some d) x = some d := by unfold pick; simp [q]
              have := h3 _ this
              omega
        · exact h2 x hx hr
      · subst hd
        by_cases q : y.r = true ∧ y.c < d.c
        · have : pick (some d) y = some y := by unfold pick; simp [q.1, q.2]
          have := h3 _ this
          omega
        · have : pick (some d) y = some d := by
            unfold pick
            simp only
            rw [if_neg]
            intro z
            rw [Bool.and_eq_true, decide_eq_true_eq] at z
            exact q z
          exact h3 _ this
      · rcases h4 with h4 | h4
        · rcases pick_some h4 with h | ⟨rfl, _⟩
          · exact Or.inl h
          · exact Or.inr List.mem_cons_self
        · exact Or.inr (List.mem_cons_of_mem _ h4)
theorem best_none {l : List (Row α)} : best l = none ↔ ∀ x ∈ l, x.r = false := by
  have h := fold_spec l none (fun _ e => by cases e)
  unfold best
  constructor
  · intro e
    rw [e] at h
    exact h.2
  · intro q
    cases e : l.foldl pick none with
    | none => rfl
    | some b =>
      rw [e] at h
      obtain ⟨h1, _, _, h4⟩ := h
      rcases h4 with h4 | h4
      · cases h4
      · rw [q b h4] at h1
        cases h1
theorem best_some {l : List (Row α)} {b : Row α} (e : best l = some b) : b.r = true ∧ b ∈ l ∧ ∀ x ∈ l, x.r = true → b.c ≤ x.c := by
  have h := fold_spec l none (fun _ e => by cases e)
  unfold best at e
  rw [e] at h
  obtain ⟨h1, h2, _, h4⟩ := h
  rcases h4 with h4 | h4
  · cases h4
  · exact ⟨h1, h4, h2⟩
/-! ### the deeds -/
/-- every row of that name goes through f -/
def upd (l : List (Row α)) (n : α) (f : Row α → Row α) : List (Row α) := l.map fun x => if x.n = n then f x else x
def enter (W : Wh α) (n : α) (s : Int) : Wh α := { W with rows := W.rows ++ [⟨n, s, 0, false⟩] }
def leave (W : Wh α) (n : α) : Wh α := { W with rows := W.rows.filter fun x => decide (x.n ≠ n) }
def woken (past : Int) (x : Row α) : Row α := if x.r then x else { x with c := if x.c < past then past else x.c, r := true }
def wake (W : Wh α) (n : α) : Wh α := { W with rows := upd W.rows n (woken W.past) }
def rest (W : Wh α) (n : α) : Wh α := { W with rows := upd W.rows n fun x => { x with r := false } }
def shared (past s : Int) (x : Row α) : Row α := { x with s := s, c := if past < x.c then past + Int.fdiv ((x.c - past) * stp s) (stp x.s) else x.c }
def reshare (W : Wh α) (n : α) (s : Int) : Wh α := { W with rows := upd W.rows n (shared W.past s) }
def turned (b : Row α) (x : Row α) : Row α := { x with c := b.c + stp b.s }
def turn (W : Wh α) : Wh α := match best W.rows with
  | none => W
  | some b => ⟨b.c, upd W.rows b.n fun x => { x with c := x.c + stp x.s }⟩
def whose (W : Wh α) : Option α := (best W.rows).map (·.n)
/-! ### points 3 and 8 -/
structure RowOk (past : Int) (x : Row α) : Prop where
  s1 : 1 ≤ x.s
  s2 : x.s ≤ 12
  c0 : 0 ≤ x.c
  up : x.c ≤ past + stp x.s
  lo : x.r = true → past ≤ x.c
structure Ok (W : Wh α) : Prop where
  p0 : 0 ≤ W.past
  rows : ∀ x ∈ W.rows, RowOk W.past x
  nd : (W.rows.map (·.n)).Nodup
theorem mem_upd {l : List (Row α)} {n : α} {f : Row α → Row α} {y : Row α} (h : y ∈ upd l n f) : ∃ x ∈ l, (x.n = n ∧ y = f x) ∨ (x.n ≠ n ∧ y = x) := by
  obtain ⟨x, hx, e⟩ := List.mem_map.mp h
  by_cases q : x.n = n
  · rw [if_pos q] at e
    exact ⟨x, hx, Or.inl ⟨q, e.symm⟩⟩
  · rw [if_neg q] at e
    exact ⟨x, hx, Or.inr ⟨q, e.symm⟩⟩
theorem names_upd {l : List (Row α)} {n : α} {f : Row α → Row α} (hf : ∀ x, (f x).n = x.n) : (upd l n f).map (·.n) = l.map (·.n) := by
  unfold upd
  rw [List.map_map]
  apply List.map_congr_left
  intro x _
  show (if x.n = n then f x else x).n = x.n
  split
  · exact hf x
  · rfl
theorem Ok.new : Ok (⟨0, []⟩ : Wh α) := ⟨Int.le_refl _, fun x h => (nomatch h), List.nodup_nil⟩
theorem nd_snoc {β : Type} {k : β} : ∀ {l : List β}, l.Nodup → ¬ k ∈ l → (l ++ [k]).Nodup
  | [], _, _ => by simp
  | a :: l, h, hk => by
    rw [List.nodup_cons] at h
    rw [List.cons_append, List.nodup_cons]
    refine ⟨fun hm => ?_, nd_snoc h.2 fun q => hk (List.mem_cons_of_mem _ q)⟩
    rcases List.mem_append.mp hm with q | q
    · exact h.1 q
    · exact hk (List.mem_cons.mpr (Or.inl (List.mem_singleton.mp q).symm))
theorem Ok.enter {W : Wh α} (h : Ok W) {n : α} {s : Int} (h1 : 1 ≤ s) (h2 : s ≤ 12) (hn : ¬ n ∈ W.rows.map (·.n)) : Ok (enter W n s) := by
  refine ⟨h.p0, fun x hx => ?_, ?_⟩
  · rcases List.mem_append.mp hx with hx | hx
    · exact h.rows x hx
    · rw [List.mem_singleton.mp hx]
      have := stp_cases h1 h2
      have := h.p0
      exact ⟨h1, h2, Int.le_refl _, by show (0 : Int) ≤ W.past + stp s; omega, fun q => by cases q⟩
  · show ((W.rows ++ [_]).map _).Nodup
    rw [List.map_append]
    exact nd_snoc h.nd hn
theorem Ok.leave {W : Wh α} (h : Ok W) (n : α) : Ok (leave W n) := by
  refine ⟨h.p0, fun x hx => h.rows x (List.mem_filter.mp hx).1, ?_⟩
  exact List.Nodup.sublist (List.Sublist.map _ List.filter_sublist) h.nd
theorem woken_n (p : Int) (x : Row α) : (woken p x).n = x.n := by unfold woken; split <;> rfl
theorem Ok.wake {W : Wh α} (h : Ok W) (n : α) : Ok (wake W n) := by
  refine ⟨h.p0, fun y hy => ?_, ?_⟩
  · obtain ⟨x, hx, ⟨_, rfl⟩ | ⟨_, rfl⟩⟩ := mem_upd hy
    · have k := h.rows x hx
      unfold woken
      by_cases q : x.r = true
      · rw [if_pos q]
        exact k
      · rw [if_neg q]
        have a := stp_cases k.s1 k.s2
        have b := k.up
        have c := k.c0
        have d := h.p0
        by_cases z : x.c < W.past
        · exact ⟨k.s1, k.s2, by simp only [if_pos z]; exact d, by show (if x.c < W.past then _ else _) ≤ W.past + stp x.s; rw [if_pos z]; omega, fun _ => by simp only [if_pos z]; exact Int.le_refl _⟩
        · exact ⟨k.s1, k.s2, by simp only [if_neg z]; exact c, by simp only [if_neg z]; exact b, fun _ => by show W.past ≤ (if x.c < W.past then _ else _); rw [if_neg z]; omega⟩
    · exact h.rows _ hx
  · show ((upd W.rows n (woken W.past)).map (·.n)).Nodup
    rw [names_upd (woken_n _)]
    exact h.nd
theorem Ok.rest {W : Wh α} (h : Ok W) (n : α) : Ok (rest W n) := by
  refine ⟨h.p0, fun y hy => ?_, ?_⟩
  · obtain ⟨x, hx, ⟨_, rfl⟩ | ⟨_, rfl⟩⟩ := mem_upd hy
    · have k := h.rows x hx
      exact ⟨k.s1, k.s2, k.c0, k.up, fun q => by cases q⟩
    · exact h.rows _ hx
  · show ((upd W.rows n _).map (·.n)).Nodup
    rw [names_upd]
    · exact h.nd
    · intro _; rfl
/-- a product of two that are not less than nought, divided: no more than one of them where the other is bounded by the divisor -/
theorem fdiv_le {a b d : Int} (ha : 0 ≤ a) (hd : 0 < d) (h : a ≤ d) (hb : 0 ≤ b) : 0 ≤ Int.fdiv (a * b) d ∧ Int.fdiv (a * b) d ≤ b := by
  rw [Int.fdiv_eq_ediv_of_nonneg _ (Int.le_of_lt hd)]
  refine ⟨Int.ediv_nonneg (Int.mul_nonneg ha hb) (Int.le_of_lt hd), ?_⟩
  have e : a * b ≤ d * b := Int.mul_le_mul_of_nonneg_right h hb
  have f : a * b / d ≤ d * b / d := Int.ediv_le_ediv hd e
  rw [Int.mul_ediv_cancel_left _ (by omega)] at f
  exact f
theorem Ok.reshare {W : Wh α} (h : Ok W) (n : α) {s : Int} (h1 : 1 ≤ s) (h2 : s ≤ 12) : Ok (reshare W n s) := by
  refine ⟨h.p0, fun y hy => ?_, ?_⟩
  · obtain ⟨x, hx, ⟨_, rfl⟩ | ⟨_, rfl⟩⟩ := mem_upd hy
    · have k := h.rows x hx
      have a := stp_cases k.s1 k.s2
      have b := stp_cases h1 h2
      have c := k.up
      have e := k.c0
      have d := h.p0
      by_cases z : W.past < x.c
      · have f := fdiv_le (a := x.c - W.past) (b := stp s) (d := stp x.s) (by omega) (by omega) (by omega) (by omega)
        exact ⟨h1, h2, by show 0 ≤ (if W.past < x.c then _ else _); rw [if_pos z]; omega, by show (if W.past < x.c then _ else _) ≤ W.past + stp s; rw [if_pos z]; omega,
          fun _ => by show W.past ≤ (if W.past < x.c then _ else _); rw [if_pos z]; omega⟩
      · exact ⟨h1, h2, by show 0 ≤ (if W.past < x.c then _ else _); rw [if_neg z]; exact e, by show (if W.past < x.c then _ else _) ≤ W.past + stp s; rw [if_neg z]; omega,
          fun q => by show W.past ≤ (if W.past < x.c then _ else _); rw [if_neg z]; exact k.lo q⟩
    · exact h.rows _ hx
  · show ((upd W.rows n _).map (·.n)).Nodup
    rw [names_upd]
    · exact h.nd
    · intro _; rfl
/-- of rows with unlike names one is told by its name -/
theorem row_of_name : ∀ {l : List (Row α)}, (l.map (·.n)).Nodup → ∀ {x y : Row α}, x ∈ l → y ∈ l → x.n = y.n → x = y
  | [], _, _, _, h, _, _ => (nomatch h)
  | a :: l, hd, x, y, hx, hy, e => by
    rw [List.map_cons, List.nodup_cons] at hd
    rcases List.mem_cons.mp hx with hx | hx
    · rcases List.mem_cons.mp hy with hy | hy
      · rw [hx, hy]
      · rw [hx] at e
        exact (hd.1 (List.mem_map.mpr ⟨y, hy, e.symm⟩)).elim
    · rcases List.mem_cons.mp hy with hy | hy
      · rw [hy] at e
        exact (hd.1 (List.mem_map.mpr ⟨x, hx, e⟩)).elim
      · exact row_of_name hd.2 hx hy e
theorem turn_none {W : Wh α} (e : best W.rows = none) : turn W = W := by
  unfold turn
  rw [e]
theorem turn_some {W : Wh α} {b : Row α} (e : best W.rows = some b) : turn W = ⟨b.c, upd W.rows b.n fun x => { x with c := x.c + stp x.s }⟩ := by
  unfold turn
  rw [e]
theorem Ok.turn {W : Wh α} (h : Ok W) : Ok (turn W) ∧ W.past ≤ (turn W).past := by
  cases e : best W.rows with
  | none =>
    rw [turn_none e]
    exact ⟨h, Int.le_refl _⟩
  | some b =>
    rw [turn_some e]
    obtain ⟨hr, hm, hl⟩ := best_some e
    have kb := h.rows b hm
    have pb := kb.lo hr
    refine ⟨⟨by have := h.p0; show 0 ≤ b.c; omega, fun y hy => ?_, ?_⟩, pb⟩
    · obtain ⟨x, hx, ⟨q, rfl⟩ | ⟨q, rfl⟩⟩ := mem_upd hy
      · have z := row_of_name h.nd hx hm q
        subst z
        have a := stp_cases kb.s1 kb.s2
        have c := kb.c0
        exact ⟨kb.s1, kb.s2, by show 0 ≤ x.c + stp x.s; omega, by show x.c + stp x.s ≤ x.c + stp x.s; omega, fun _ => by show x.c ≤ x.c + stp x.s; omega⟩
      · have k := h.rows _ hx
        have u := k.up
        exact ⟨k.s1, k.s2, k.c0, by show y.c ≤ b.c + stp y.s; omega, fun z => hl _ hx z⟩
    · show ((upd W.rows b.n _).map (·.n)).Nodup
      rw [names_upd]
      · exact h.nd
      · intro _; rfl
/-! ### point 9: of one who was ready all along with one share -/
/-- c0: the clock at the beginning, p0: the past then; n turns since -/
theorem given {s c0 c p0 p n : Int} (hs1 : 1 ≤ s) (hs2 : s ≤ 12) (a0 : p0 ≤ c0) (b0 : c0 ≤ p0 + stp s) (a : p ≤ c) (b : c ≤ p + stp s) (e : c = c0 + stp s * n) :
    stp s * (n - 1) ≤ p - p0 ∧ p - p0 ≤ stp s * (n + 1) := by
  have e1 : stp s * (n - 1) = stp s * n - stp s := by rw [Int.mul_sub, Int.mul_one]
  have e2 : stp s * (n + 1) = stp s * n + stp s := by rw [Int.mul_add, Int.mul_one]
  omega
theorem even_two {s t n m d : Int} (hs1 : 1 ≤ s) (hs2 : s ≤ 12) (ht1 : 1 ≤ t) (ht2 : t ≤ 12) (h1 : stp s * (n - 1) ≤ d) (h2 : d ≤ stp t * (m + 1)) : (n - 1) * t ≤ (m + 1) * s := by
  obtain ⟨es, _, _⟩ := stp_cases hs1 hs2
  obtain ⟨et, _, _⟩ := stp_cases ht1 ht2
  have h : stp s * (n - 1) ≤ stp t * (m + 1) := Int.le_trans h1 h2
  have st : 0 ≤ s * t := Int.mul_nonneg (by omega) (by omega)
  have g := Int.mul_le_mul_of_nonneg_right h st
  have l : stp s * (n - 1) * (s * t) = 27720 * ((n - 1) * t) := by
    rw [← es]
    simp only [Int.mul_assoc, Int.mul_left_comm, Int.mul_comm]
  have r : stp t * (m + 1) * (s * t) = 27720 * ((m + 1) * s) := by
    rw [← et]
    simp only [Int.mul_assoc, Int.mul_left_comm, Int.mul_comm]
  rw [l, r] at g
  omega
end Wm

namespace Mine
open PySem PySem.Spec PyProof.Rows L2
/-! ### short words: defs, methods, classes that keep a promise -/
section
variable (P : Program) (w : World) (K : PySem.W.Frag) (mg : Str → Option Value) (base : Heap)
structure MOk (k : Nat) (C : Addr) (m : Str) (ps : List Str) (sp : Sp) : Prop where
  ex : ∃ f fd, Meth K C m f ∧ FnOk P w K mg base (L2.CX P w) k f fd ps sp ∧ Binds K fd ps []
structure DOk (k : Nat) (x : Str) (ps : List Str) (sp : Sp) : Prop where
  ex : ∃ f fd, mg x = some (.ref f) ∧ PySem.W.keepIn K (.ref f) = true ∧ FnOk P w K mg base (L2.CX P w) k f fd ps sp ∧ Binds K fd ps []
structure KOk (k : Nat) (x : Str) (C : Addr) (ps : List Str) (sp : Sp) : Prop where
  ex : ∃ f fd, Mk K C f ∧ FnOk P w K mg base (L2.CX P w) k f fd ps sp ∧ mg x = some (.ref C) ∧ Binds K fd ps []
end
theorem passN {X : Cx} (σ : L2.St) : PassesAt (L2.CX X.prog X.w) X σ E0 := fun _ _ _ _ _ _ c => by
  obtain ⟨_, _, _, _, _, _, _, _, _, _, _, _, z⟩ := c
  exact z.elim
/-- a def that lets nothing out, told as one that may raise -/
theorem okN {P : Program} {w : World} {K : PySem.W.Frag} {mg : Str → Option Value} {base : Heap} {x qual : Str} {st : Stmt} {f : Addr} {fd : FuncData} {N ps : List Str} {k : Nat} {sp : Sp} (F : Fun K x qual st f fd) (S : FnScope N ps (defScope st))
    (len : ∀ vs H Q E, sp vs H Q E → vs.length = ps.length)
    (body : ∀ (cdv : Value) (A : Around) (outer : List Env) (s : Shared) (H : Hp) (vs : List V) (Q : VK) (E : XK), Room k (A.deeper (envOfC qual (defScope st) s.heap.objs.size f cdv)) → sp vs H Q E →
      ∃ t, PSs (cxOf (L2.CX P w) P w K mg base N qual (defScope st) f cdv A outer s H E).nox (defBody st) t ∧ t ⟨fun _ H' => Q .non H', Q, fun _ _ => False, fun _ _ => False⟩ (start N vs) H) :
    FnOk P w K mg base (L2.CX P w) (k + 1) f fd ps sp :=
  F.okX S len fun cdv A outer s H vs Q E hr h => by
    obtain ⟨t, h1, h2⟩ := body cdv A outer s H vs Q E hr h
    exact ⟨t, h1.nox, h2⟩
/-- o.m(..): what a callee raises is wished for at the slots -/
def tMe (C : Addr) (m : Str) (sp : Sp) (E : L2.St → XK) (ta : TE) (t : TA) : TE := fun σ H Q =>
  ta σ H fun x H1 => ∃ a dx fs, x = .ref a ∧ H1 a = some (.ins C dx fs) ∧ fs.lookup m = none ∧ t σ H1 fun vs H2 => sp (x :: vs) H2 Q (E σ)
section
variable {X : Cx} {j k : Nat} {C : Addr} {x m : Str} {ps : List Str} {sp : Sp} {E : L2.St → XK} {p pos apos : Pos} {e o : Expr} {es : List Expr} {ta : TE} {t : TA}
theorem pe_m {pl : Sem Bool} (c : MOk X.prog X.w X.K X.mg X.base k C m ps sp) (cl : Cls X.K C) (hr : Room j X.A) (hk : k ≤ j) (hx : ∀ σ, PassesAt (L2.CX X.prog X.w) X σ (E σ)) (he : PE X o ta) (ha : PA X (e :: es) t)
    (hst : starEach (e :: es) X.env = (false, eval e X.env) :: starEach es X.env := by rfl) (hpl : (backTo pos (starEach es X.env)).any (·.1) = false := by rfl)
    (ht : eval (.Call (.Attribute o m apos) (e :: es) [] pos) X.env = (do
      let ov ← eval o X.env
      standAt apos.atName
      let (f, first) ← holding [ov] (getMethod ov m pl)
      callWith pos f first (backTo pos (starEach (e :: es) X.env)) (backToKw pos (keywordEach [] X.env))) := by rfl) :
    PE X (.Call (.Attribute o m apos) (e :: es) [] pos) (tMe C m sp E ta t) := by
  obtain ⟨f, fd, hm, F, hb⟩ := c.ex
  refine ⟨fun pins s σ H Q I h => PySem.W.methodCall_KW (pl := pl) (thn (he.run pins s σ H _ I h) ?_) ht⟩
  rintro u s1 ⟨x, H1, I1, rx, a, dx, fs, rfl, ea, l, q⟩
  have eu : u = Value.ref a := rx
  subst eu
  refine getmeth_ok I1 ea cl hm l (PySem.W.callWith_K (first := [.ref a]) (h₀ := X.base) I1.ok.mod.kin hm.kp (thn (ha.run pos pins s1 σ H1 _ I1 q) ?_) hst hpl)
  rintro us s2 ⟨vs, H2, I2, r, q2⟩
  exact ⟨I2.kIn, run_fnS (E := E) (us := .ref a :: us) (vs := .ref a :: vs) F (hr.mono hk) hb (hx σ) I2 (.cons rfl r) q2⟩
theorem pe_m0 {pl : Sem Bool} (c : MOk X.prog X.w X.K X.mg X.base k C m ps sp) (cl : Cls X.K C) (hr : Room j X.A) (hk : k ≤ j) (hx : ∀ σ, PassesAt (L2.CX X.prog X.w) X σ (E σ)) (he : PE X o ta)
    (ht : eval (.Call (.Attribute o m apos) [] [] pos) X.env = (do
      let ov ← eval o X.env
      standAt apos.atName
      let (f, first) ← holding [ov] (getMethod ov m pl)
      callWith pos f first (backTo pos (starEach [] X.env)) (backToKw pos (keywordEach [] X.env))) := by rfl) :
    PE X (.Call (.Attribute o m apos) [] [] pos) (tMe C m sp E ta tNil) := by
  obtain ⟨f, fd, hm, F, hb⟩ := c.ex
  refine ⟨fun pins s σ H Q I h => PySem.W.methodCall_KW (pl := pl) (thn (he.run pins s σ H _ I h) ?_) ht⟩
  rintro u s1 ⟨x, H1, I1, rx, a, dx, fs, rfl, ea, l, q⟩
  have eu : u = Value.ref a := rx
  subst eu
  exact getmeth_ok I1 ea cl hm l (PySem.W.callWith_K0 (first := [.ref a]) I1.kIn hm.kp (run_fnS (E := E) (us := [.ref a]) (vs := [.ref a]) F (hr.mono hk) hb (hx σ) I1 (.cons rfl .nil) q))
theorem pe_f (c : DOk X.prog X.w X.K X.mg X.base k x ps sp) (hr : Room j X.A) (hk : k ≤ j) (hg : Gl X x) (hx : ∀ σ, PassesAt (L2.CX X.prog X.w) X σ (E σ)) (ha : PA X (e :: es) t) (hdb : (x == ("__debug__" : Str)) = false := by decide)
    (he : starEach (e :: es) X.env = (false, eval e X.env) :: starEach es X.env := by rfl) (hpl : (backTo pos (starEach es X.env)).any (·.1) = false := by rfl) : PE X (.Call (.Name x p) (e :: es) [] pos) (tCallS sp E t) := by
  obtain ⟨f, fd, hm, kp, F, hb⟩ := c.ex
  exact pe_callS F (hr.mono hk) hg hm kp hb hx ha hdb he hpl
theorem pe_k (c : KOk X.prog X.w X.K X.mg X.base k x C ps sp) (hr : Room j X.A) (hk : k + 1 ≤ j) (hg : Gl X x) (ha : PA X (e :: es) t) (hdb : (x == ("__debug__" : Str)) = false := by decide)
    (he : starEach (e :: es) X.env = (false, eval e X.env) :: starEach es X.env := by rfl) (hpl : (backTo pos (starEach es X.env)).any (·.1) = false := by rfl) : PE X (.Call (.Name x p) (e :: es) [] pos) (tMake C sp [] E0 t) := by
  obtain ⟨f, fd, M, F, hm, hb⟩ := c.ex
  exact pe_make M F (hr.mono hk) hg hm hb .nil passL ha hdb he hpl
theorem pe_k0 (c : KOk X.prog X.w X.K X.mg X.base k x C ps sp) (hr : Room j X.A) (hk : k + 1 ≤ j) (hg : Gl X x) (hdb : (x == ("__debug__" : Str)) = false := by decide) : PE X (.Call (.Name x p) [] [] pos) (tMake C sp [] E0 tNil) := by
  obtain ⟨f, fd, M, F, hm, hb⟩ := c.ex
  exact pe_make0 M F (hr.mono hk) hg hm hb .nil passL hdb
end
/-! ### own errors -/
structure ExcT (K : PySem.W.Frag) (C : Addr) : Prop where
  x : PySem.W.excIn K C [.type "ValueError", .type "Exception", .type "BaseException", .type "object"] "ValueError.__new__" = true
  k : PySem.W.keepIn K (.ref C) = true
  b : PySem.W.subIn K (.ref C) (.type "BaseException") = some true
  t : PySem.W.typeIn K (.ref C) = some (.type "type")
/-- raise X('..') -/
theorem ps_rs {X : Cx} {W : WX} {C : Addr} {x m : Str} {j : Nat} {p p2 pos pos' : Pos} (hc : X.calm = true) (tk : Takes X W) (T : ExcT X.K C) (gC : X.mg x = some (.ref C)) (hg : Gl X x) (hdb : (x == ("__debug__" : Str)) = false := by decide) :
    PS X (.Raise (some (.Call (.Name x p) [.Constant (.str m) j p2] [] pos)) none pos') (fun _ σ H => W (.ref C) none σ H) :=
  ps_raise hc tk (pmk_own PySem.F.excBase_ValueError T.x gC T.k (raises_own T.b T.t) hg hdb)
/-! ### try, with a name for what it reckons -/
def tTryO (K : PySem.W.Frag) (c : Value) (ts : Addr → Value → Option Addr → TS) (Wout : WX) (tb : WX → TS) : TS := fun D σ H => tb (wOnly K c ts Wout D) D σ H
def tTryA (K : PySem.W.Frag) (c : Value) (i : Nat) (ts : Addr → Value → Option Addr → TS) (Wout : WX) (tb : WX → TS) : TS := fun D σ H => tb (wAs K c i ts Wout D) D σ H
def tTryM (K : PySem.W.Frag) (l : List (Value × (Addr → Value → Option Addr → TS))) (Wout : WX) (tb : WX → TS) : TS := fun D σ H => tb (wMany K Wout D l) D σ H
section
variable {X : Cx} {x n : Str} {c : Value} {i : Nat} {body suite : List Stmt} {b₀ : Stmt} {h₀ : ExceptHandler} {hds : List ExceptHandler} {l : List (Value × (Addr → Value → Option Addr → TS))} {np pos pos' : Pos} {tb : WX → TS} {ts : Addr → Value → Option Addr → TS} {Wout : WX}
theorem pt_only (hs : X.stack = X.env :: X.outer) (hf : X.env.frame = some X.env.locals) (hc : Names X x c) (tk : Takes X Wout)
    (hb : ∀ (W : WX) (pn : List (Addr × Obj)) (xe : Value → Shared → Prop), Takes (X.tr pn xe) W → PassesOwn (model X.prog X.w) X.A X.env xe → PSs (X.tr pn xe) body (tb W))
    (hsu : ∀ (a : Addr) (oe : Obj) (cls : Value) (d : Option Addr) (pn : List (Addr × Obj)), Zc cls d oe → (∃ vs, oe.data = .fields vs) → PSs (X.suite a ((a, oe) :: pn)) (b₀ :: suite) (ts a cls d)) :
    PS X (.Try body [.ExceptHandler (some (.Name x np)) none (b₀ :: suite) pos'] [] [] pos) (tTryO X.K c ts Wout tb) := ps_try_only hs hf hc tk hb hsu
theorem pt_as (hs : X.stack = X.env :: X.outer) (hf : X.env.frame = some X.env.locals) (hN : X.N.Nodup) (hi : X.N[i]? = some n) (hln : X.env.kindOf n = some .local) (hc : Names X x c) (tk : Takes X Wout)
    (hb : ∀ (W : WX) (pn : List (Addr × Obj)) (xe : Value → Shared → Prop), Takes (X.tr pn xe) W → PassesOwn (model X.prog X.w) X.A X.env xe → PSs (X.tr pn xe) body (tb W))
    (hsu : ∀ (a : Addr) (oe : Obj) (cls : Value) (d : Option Addr) (pn : List (Addr × Obj)), Zc cls d oe → (∃ vs, oe.data = .fields vs) → PSs (X.suite a ((a, oe) :: pn)) (b₀ :: suite) (ts a cls d)) :
    PS X (.Try body [.ExceptHandler (some (.Name x np)) (some n) (b₀ :: suite) pos'] [] [] pos) (tTryA X.K c i ts Wout tb) := ps_try_as hs hf hN hi hln hc tk hb hsu
theorem pt_many (hs : X.stack = X.env :: X.outer) (hf : X.env.frame = some X.env.locals) (tk : Takes X Wout)
    (hb : ∀ (W : WX) (pn : List (Addr × Obj)) (xe : Value → Shared → Prop), Takes (X.tr pn xe) W → PassesOwn (model X.prog X.w) X.A X.env xe → PSs (X.tr pn xe) body (tb W))
    (hh : HdsOk X (h₀ :: hds) l) : PS X (.Try body (h₀ :: hds) [] [] pos) (tTryM X.K l Wout tb) := ps_try_many hs hf tk hb hh
end
theorem ix_listK {X : Cx} {K0 : PySem.W.Frag} (hK : X.K = K0 := by rfl) : IxR X (rIxL K0) := by
  subst hK
  exact ix_list
theorem ix_tupK {X : Cx} {K0 : PySem.W.Frag} (hK : X.K = K0 := by rfl) : IxR X (rIxT K0) := by
  subst hK
  exact ix_tup
theorem op_inK {X : Cx} {K0 : PySem.W.Frag} (hK : X.K = K0 := by rfl) : OpR X (compareOp .In) (rIn K0 false) := by
  subst hK
  exact op_in_seq
theorem op_notInK {X : Cx} {K0 : PySem.W.Frag} (hK : X.K = K0 := by rfl) : OpR X (compareOp .NotIn) (rIn K0 true) := by
  subst hK
  exact op_notIn_seq
theorem call_list_ofK {X : Cx} {K0 : PySem.W.Frag} (hK : X.K = K0 := by rfl) : CallR X (.type "list") (fun xs H Q => ∃ p ys, xs = [.ref p] ∧ (SqL K0 H p ys ∨ SqT K0 H p ys) ∧ ∀ l, H l = none → Q (.ref l) (upd H l (.lst ys))) := by
  subst hK
  exact call_list_of
theorem pe_app {X : Cx} {K0 : PySem.W.Frag} {o e : Expr} {to te : TE} {apos cpos : Pos} (ho : PE X o to) (he : PE X e te) (hK : X.K = K0 := by rfl)
    (hbase : attributeBase o "append" X.env (eval o X.env) = eval o X.env := by rfl)
    (hfew : ((backTo cpos (starEach [e] X.env)).all (fun x => !x.1) && (backToKw cpos (keywordEach [] X.env)).all (fun x => x.1.isSome)
      && decide ([e].length + ([] : List Keyword).length + (if ([] : List Keyword).isEmpty then 0 else 1) < 30)) = true := by rfl)
    (hline : (apos.endLine == cpos.line) = true := by rfl) (hs : starEach [e] X.env = (false, eval e X.env) :: starEach [] X.env := by rfl) (hplain : (backTo cpos (starEach [] X.env)).any (·.1) = false := by rfl) :
    PE X (.Call (.Attribute o "append" apos) [e] [] cpos) (tBM K0 "list" rAppend to (tCons te tNil)) := by
  subst hK
  exact pe_bm PySem.F.plainAttrs_list PySem.F.slot_list_append PySem.F.type_list_append mt_append ho (pa_cons he pa_nil hs) hbase hfew hline hs hplain
/-! ### kinds of things -/
inductive Th (H : Hp) : V → Prop where
  | int (i : Int) : Th H (.int i)
  | bl (b : Bool) : Th H (.bl b)
  | non : Th H .non
  | str (z : Str) : Th H (.str z)
  | lst {a : Addr} {xs : List V} (e : H a = some (.lst xs)) : Th H (.ref a)
def isI : V → Bool
  | .int _ => true
  | _ => false
def isB : V → Bool
  | .bl _ => true
  | _ => false
def isS : V → Bool
  | .str _ => true
  | _ => false
def good : V → Bool
  | .int i => decide (1 ≤ i) && decide (i ≤ 12)
  | _ => false
theorem Th.ty {K : PySem.W.Frag} {H : Hp} {x : V} (h : Th H x) : ∃ t, TyX K H x t ∧ PySem.W.kitOne K t (.type "int") = some (isI x || isB x) ∧ PySem.W.kitOne K t (.type "bool") = some (isB x) ∧ PySem.W.kitOne K t (.type "str") = some (isS x) := by
  cases h with
  | int i => exact ⟨_, .base (.int i), kit_ty (by show kitB "int" "int" = some true; decide +kernel), kit_ty (by show kitB "int" "bool" = some false; decide +kernel), kit_ty (by show kitB "int" "str" = some false; decide +kernel)⟩
  | bl b => exact ⟨_, .base (.bl b), kit_ty (by show kitB "bool" "int" = some true; decide +kernel), kit_ty (by show kitB "bool" "bool" = some true; decide +kernel), kit_ty (by show kitB "bool" "str" = some false; decide +kernel)⟩
  | non => exact ⟨_, .base .non, kit_ty (by show kitB "NoneType" "int" = some false; decide +kernel), kit_ty (by show kitB "NoneType" "bool" = some false; decide +kernel), kit_ty (by show kitB "NoneType" "str" = some false; decide +kernel)⟩
  | str z => exact ⟨_, .base (.str z), kit_ty (by show kitB "str" "int" = some false; decide +kernel), kit_ty (by show kitB "str" "bool" = some false; decide +kernel), kit_ty (by show kitB "str" "str" = some true; decide +kernel)⟩
  | lst e => exact ⟨_, .base (.lst e), kit_ty (by show kitB "list" "int" = some false; decide +kernel), kit_ty (by show kitB "list" "bool" = some false; decide +kernel), kit_ty (by show kitB "list" "str" = some false; decide +kernel)⟩
/-! ### heaps: all but what is owned stays -/
def Kept (fp : List Addr) (H H' : Hp) : Prop := ∀ b o, H b = some o → b ∉ fp → H' b = some o
structure Step (fp : List Addr) (H : Hp) (fp' : List Addr) (H' : Hp) : Prop where
  kept : Kept fp H H'
  new : ∀ b ∈ fp', b ∈ fp ∨ H b = none
theorem Step.same {fp : List Addr} {H H' : Hp} (h : Same H H') : Step fp H fp H' := ⟨fun b o e _ => h b o e, fun _ hb => .inl hb⟩
theorem Step.refl (fp : List Addr) (H : Hp) : Step fp H fp H := .same (Same.refl H)
theorem Step.trans {fp fp' fp'' : List Addr} {H H' H'' : Hp} (a : Step fp H fp' H') (b : Step fp' H' fp'' H'') : Step fp H fp'' H'' := by
  refine ⟨fun c o e hc => b.kept c o (a.kept c o e hc) fun hc' => ?_, fun c hc => ?_⟩
  · rcases a.new c hc' with h | h
    · exact hc h
    · rw [h] at e
      cases e
  · rcases b.new c hc with h | h
    · exact a.new c h
    · by_cases hf : c ∈ fp
      · exact .inl hf
      · right
        cases e : H c with
        | none => rfl
        | some o =>
          rw [a.kept c o e hf] at h
          cases h
/-- what stands apart stays apart -/
theorem Step.apart {fp fp' gp : List Addr} {H H' : Hp} (a : Step fp H fp' H') (hg : ∀ b ∈ gp, ∃ o, H b = some o) (h : ∀ b ∈ gp, b ∉ fp) : ∀ b ∈ gp, b ∉ fp' := fun b hb hb' => by
  rcases a.new b hb' with z | z
  · exact h b hb z
  · obtain ⟨o, e⟩ := hg b hb
    rw [z] at e
    cases e
theorem same_upd {H : Hp} {a : Addr} {o : HO} (h : H a = none) : Same H (upd H a o) := fun b u e => by
  rw [upd_ne (ne_of_none e h)]
  exact e
theorem same_made {H : Hp} {x dx C : Addr} {fs : List (Str × V)} (hx : H x = none) (hd : H dx = none) : Same H (upd (upd H dx (.own x)) x (.ins C dx fs)) := fun b u e => by
  rw [upd_ne (ne_of_none e hx), upd_ne (ne_of_none e hd)]
  exact e
theorem upd_self {H : Hp} {a : Addr} {o : HO} (h : H a = some o) : upd H a o = H := by
  funext b
  by_cases q : b = a
  · rw [q, upd_same, h]
  · rw [upd_ne q]
/-! ### attributes -/
theorem lk_same (f : Str) (v : V) (r : List (Str × V)) : List.lookup f ((f, v) :: r) = some v := by
  rw [List.lookup_cons]
  simp
theorem lk_ne {f g : Str} (h : ¬ f = g) (v : V) (r : List (Str × V)) : List.lookup f ((g, v) :: r) = List.lookup f r := by
  rw [List.lookup_cons]
  have : (f == g) = false := beq_eq_false_iff_ne.mpr h
  rw [this]
theorem pf_same (f : Str) (v u : V) (r : List (Str × V)) : putF f v ((f, u) :: r) = (f, v) :: r := by
  show (if f = f then (f, v) :: r else _) = _
  rw [if_pos rfl]
theorem pf_ne {f g : Str} (h : ¬ g = f) (v u : V) (r : List (Str × V)) : putF f v ((g, u) :: r) = (g, u) :: putF f v r := by
  show (if g = f then _ else (g, u) :: putF f v r) = _
  rw [if_neg h]
theorem pf_nil (f : Str) (v : V) : putF f v [] = [(f, v)] := rfl
/-- a dict comprehension over what is walked -/
theorem dc_it {J : It} {n : Nat} {G : Hp → Prop} {Y : Nat → Hp → V → Hp → Prop} (w : Walk J n G Y) {g : TG} {tt : TT} {tk tv : TE} {vs : List Nat} {σ : L2.St} {H1 : Hp} {D : Addr} {Qd : Hp → Prop} (Pv : Nat → Hp → Prop) (h0 : Pv 0 (upd H1 D (.dK []))) (hG : ∀ i H, i ≤ n → Pv i H → G H)
    (hs : ∀ i x H H', i < n → Pv i H → Y i H x H' → g x (wipe σ vs) H' fun σ2 H2 => wipe σ2 vs = wipe σ vs ∧ tt σ2 H2 fun b H3 =>
      if b = true then tk σ2 H3 fun y H4 => tv σ2 H4 fun z H5 => ∃ ks k, y = kV k ∧ H5 D = some (.dK ks) ∧ ks.length < sizeLine ∧ Pv (i + 1) (upd H5 D (.dK (putK ks k z))) else Pv (i + 1) H3)
    (hd : ∀ H, Pv n H → Qd H) :
    ∃ W : Nat → Nat → Hp → Prop, (∃ m, W 0 m (upd H1 D (.dK []))) ∧ ∀ i m H, W i m H →
      (J.stop i H ∧ Qd H) ∨ (J.go i H ∧ ∃ Nx : Hp → Prop, (∀ H', Nx H' → ∃ m', m' < m ∧ W (i + 1) m' H') ∧ ∀ x H', J.yld i H x H' → g x (wipe σ vs) H' fun σ2 H2 => wipe σ2 vs = wipe σ vs ∧ tt σ2 H2 fun b H3 =>
        if b = true then tk σ2 H3 fun y H4 => tv σ2 H4 fun z H5 => ∃ ks k, y = kV k ∧ H5 D = some (.dK ks) ∧ ks.length < sizeLine ∧ Nx (upd H5 D (.dK (putK ks k z))) else Nx H3) := by
  refine ⟨fun i m H => i ≤ n ∧ m = n - i ∧ Pv i H, ⟨n, Nat.zero_le _, by simp, h0⟩, fun i m H ⟨hi, hm, p⟩ => ?_⟩
  subst hm
  rcases Nat.lt_or_ge i n with hlt | hge
  · exact .inr ⟨w.goes i H hlt (hG i H hi p), Pv (i + 1), fun H' p' => ⟨n - (i + 1), by omega, hlt, rfl, p'⟩, fun x H' y => hs i x H H' hlt p (w.yields i H x H' hlt (hG i H hi p) y)⟩
  · have e : i = n := by omega
    rw [e] at p ⊢
    exact .inl ⟨w.stops H (hG n H (Nat.le_refl _) p), hd H p⟩
/-- built-in names that no module's name hides -/
structure LT (mg : Str → Option Value) : Prop where
  len : mg "len" = none
  range : mg "range" = none
  isi : mg "isinstance" = none
  int : mg "int" = none
  bool : mg "bool" = none
  str : mg "str" = none
  max : mg "max" = none
  min : mg "min" = none
  list : mg "list" = none
  dict : mg "dict" = none
  zip : mg "zip" = none
  ValueError : mg "ValueError" = none

/-! ### wheels: how they lie in the heap -/
abbrev WhS := Wm.Wh Str
abbrev RowS := Wm.Row Str
abbrev En := RowS × Addr
theorem n_cs : ¬ (("clock" : Str) = "share") := by decide +kernel
theorem n_sc : ¬ (("share" : Str) = "clock") := by decide +kernel
theorem n_rs : ¬ (("ready" : Str) = "share") := by decide +kernel
theorem n_sr : ¬ (("share" : Str) = "ready") := by decide +kernel
theorem n_rc : ¬ (("ready" : Str) = "clock") := by decide +kernel
theorem n_cr : ¬ (("clock" : Str) = "ready") := by decide +kernel
theorem n_ps : ¬ (("past" : Str) = "_sharers") := by decide +kernel
theorem n_sp : ¬ (("_sharers" : Str) = "past") := by decide +kernel
def sf (s c : Int) (r : Bool) : List (Str × V) := [("share", .int s), ("clock", .int c), ("ready", .bl r)]
def wf (q : Int) (d : Addr) : List (Str × V) := [("past", .int q), ("_sharers", .ref d)]
theorem sf_share (s c : Int) (r : Bool) : (sf s c r).lookup ("share" : Str) = some (.int s) := lk_same _ _ _
theorem sf_clock (s c : Int) (r : Bool) : (sf s c r).lookup ("clock" : Str) = some (.int c) := (lk_ne n_cs _ _).trans (lk_same _ _ _)
theorem sf_ready (s c : Int) (r : Bool) : (sf s c r).lookup ("ready" : Str) = some (.bl r) := (lk_ne n_rs _ _).trans ((lk_ne n_rc _ _).trans (lk_same _ _ _))
theorem sf_no (s c : Int) (r : Bool) {m : Str} (h1 : ¬ m = "share") (h2 : ¬ m = "clock") (h3 : ¬ m = "ready") : (sf s c r).lookup m = none := (lk_ne h1 _ _).trans ((lk_ne h2 _ _).trans ((lk_ne h3 _ _).trans rfl))
theorem sf_pshare (s c : Int) (r : Bool) (t : Int) : putF "share" (.int t) (sf s c r) = sf t c r := pf_same _ _ _ _
theorem sf_pclock (s c : Int) (r : Bool) (t : Int) : putF "clock" (.int t) (sf s c r) = sf s t r := (pf_ne n_sc _ _ _).trans (congrArg _ (pf_same _ _ _ _))
theorem sf_pready (s c : Int) (r t : Bool) : putF "ready" (.bl t) (sf s c r) = sf s c t := (pf_ne n_sr _ _ _).trans (congrArg _ ((pf_ne n_cr _ _ _).trans (congrArg _ (pf_same _ _ _ _))))
theorem wf_past (q : Int) (d : Addr) : (wf q d).lookup ("past" : Str) = some (.int q) := lk_same _ _ _
theorem wf_sh (q : Int) (d : Addr) : (wf q d).lookup ("_sharers" : Str) = some (.ref d) := (lk_ne n_sp _ _).trans (lk_same _ _ _)
theorem wf_no (q : Int) (d : Addr) {m : Str} (h1 : ¬ m = "past") (h2 : ¬ m = "_sharers") : (wf q d).lookup m = none := (lk_ne h1 _ _).trans ((lk_ne h2 _ _).trans rfl)
theorem wf_ppast (q : Int) (d : Addr) (t : Int) : putF "past" (.int t) (wf q d) = wf t d := pf_same _ _ _ _
theorem wf_psh (q : Int) (d e : Addr) : putF "_sharers" (.ref e) (wf q d) = wf q e := (pf_ne n_ps _ _ _).trans (congrArg _ (pf_same _ _ _ _))
/-- the dict's pairs -/
def kvs (es : List En) : List (Key × V) := es.map fun e => (Sum.inr e.1.n, V.ref e.2)
theorem kvs_len (es : List En) : (kvs es).length = es.length := List.length_map _
theorem kvs_some {n : Str} {v : V} : ∀ {es : List En}, valV (kvs es) (Sum.inr n : Key) = some v → ∃ e ∈ es, e.1.n = n ∧ v = .ref e.2
  | [], h => by cases h
  | e :: es, h => by
    by_cases q : e.1.n = n
    · have : valV (kvs (e :: es)) (Sum.inr n : Key) = some (.ref e.2) := valV_pos (p := (Sum.inr e.1.n, V.ref e.2)) (congrArg Sum.inr q)
      rw [this] at h
      exact ⟨e, List.mem_cons_self, q, (Option.some.inj h).symm⟩
    · have : valV (kvs (e :: es)) (Sum.inr n : Key) = valV (kvs es) (Sum.inr n : Key) := valV_neg (p := (Sum.inr e.1.n, V.ref e.2)) fun z => q (Sum.inr.inj z)
      rw [this] at h
      obtain ⟨e', h1, h2⟩ := kvs_some h
      exact ⟨e', List.mem_cons_of_mem _ h1, h2⟩
theorem kvs_none {n : Str} : ∀ {es : List En}, valV (kvs es) (Sum.inr n : Key) = none → ∀ e ∈ es, e.1.n ≠ n
  | [], _, _, h => (nomatch h)
  | e :: es, h, e', he => by
    by_cases q : e.1.n = n
    · have : valV (kvs (e :: es)) (Sum.inr n : Key) = some (.ref e.2) := valV_pos (p := (Sum.inr e.1.n, V.ref e.2)) (congrArg Sum.inr q)
      rw [this] at h
      cases h
    · have : valV (kvs (e :: es)) (Sum.inr n : Key) = valV (kvs es) (Sum.inr n : Key) := valV_neg (p := (Sum.inr e.1.n, V.ref e.2)) fun z => q (Sum.inr.inj z)
      rw [this] at h
      rcases List.mem_cons.mp he with rfl | he
      · exact q
      · exact kvs_none h e' he
theorem kvs_at {es : List En} {e : En} (nd : (es.map (·.1.n)).Nodup) (h : e ∈ es) : valV (kvs es) (Sum.inr e.1.n : Key) = some (.ref e.2) := by
  cases q : valV (kvs es) (Sum.inr e.1.n : Key) with
  | none => exact absurd rfl (kvs_none q e h)
  | some v =>
    obtain ⟨e', h', en, rfl⟩ := kvs_some q
    have : e' = e := by
      clear q
      induction es with
      | nil => cases h
      | cons a es ih =>
        rw [List.map_cons, List.nodup_cons] at nd
        rcases List.mem_cons.mp h with rfl | h1
        · rcases List.mem_cons.mp h' with rfl | h2
          · rfl
          · exact (nd.1 (List.mem_map.mpr ⟨e', h2, en⟩)).elim
        · rcases List.mem_cons.mp h' with rfl | h2
          · exact (nd.1 (List.mem_map.mpr ⟨e, h1, en.symm⟩)).elim
          · exact ih nd.2 h1 h2
    rw [this]
theorem kvs_drop (es : List En) (n : Str) : dropK (kvs es) (Sum.inr n : Key) = kvs (es.filter fun e => decide (e.1.n ≠ n)) := by
  unfold dropK kvs
  rw [List.filter_map]
  congr 1
  apply List.filter_congr
  intro e _
  show decide ((Sum.inr e.1.n : Key) ≠ Sum.inr n) = decide (e.1.n ≠ n)
  exact decide_eq_decide.mpr ⟨fun z q => z (congrArg Sum.inr q), fun z q => z (Sum.inr.inj q)⟩
/-- the entries, one row changed -/
def updE (es : List En) (n : Str) (f : RowS → RowS) : List En := es.map fun e => if e.1.n = n then (f e.1, e.2) else e
theorem updE_rows (es : List En) (n : Str) (f : RowS → RowS) : (updE es n f).map (·.1) = Wm.upd (es.map (·.1)) n f := by
  unfold updE Wm.upd
  rw [List.map_map, List.map_map]
  apply List.map_congr_left
  intro e _
  show (if e.1.n = n then (f e.1, e.2) else e).1 = if e.1.n = n then f e.1 else e.1
  by_cases q : e.1.n = n
  · rw [if_pos q, if_pos q]
  · rw [if_neg q, if_neg q]
theorem updE_addrs (es : List En) (n : Str) (f : RowS → RowS) : (updE es n f).map (·.2) = es.map (·.2) := by
  unfold updE
  rw [List.map_map]
  apply List.map_congr_left
  intro e _
  show (if e.1.n = n then (f e.1, e.2) else e).2 = e.2
  by_cases q : e.1.n = n
  · rw [if_pos q]
  · rw [if_neg q]
theorem updE_kvs (es : List En) (n : Str) (f : RowS → RowS) (hf : ∀ x, (f x).n = x.n) : kvs (updE es n f) = kvs es := by
  unfold updE kvs
  rw [List.map_map]
  apply List.map_congr_left
  intro e _
  show ((Sum.inr (if e.1.n = n then (f e.1, e.2) else e).1.n : Key), V.ref (if e.1.n = n then (f e.1, e.2) else e).2) = (Sum.inr e.1.n, V.ref e.2)
  by_cases q : e.1.n = n
  · rw [if_pos q, hf]
  · rw [if_neg q]
/-- entries with unlike addresses are told by them -/
theorem en_inj : ∀ {l : List En}, (l.map (·.2)).Nodup → ∀ {x y : En}, x ∈ l → y ∈ l → x.2 = y.2 → x = y
  | [], _, _, _, hx, _, _ => (nomatch hx)
  | a :: l, hd, x, y, hx, hy, exy => by
    rw [List.map_cons, List.nodup_cons] at hd
    rcases List.mem_cons.mp hx with ex | hx
    · rcases List.mem_cons.mp hy with ey | hy
      · rw [ex, ey]
      · rw [ex] at exy
        exact (hd.1 (List.mem_map.mpr ⟨y, hy, exy.symm⟩)).elim
    · rcases List.mem_cons.mp hy with ey | hy
      · rw [ey] at exy
        exact (hd.1 (List.mem_map.mpr ⟨x, hx, exy⟩)).elim
      · exact en_inj hd.2 hx hy exy
/-- a wheel at p, its dict at d, with these entries -/
structure WIn (CW CS : Addr) (H : Hp) (p d : Addr) (q : Int) (es : List En) : Prop where
  ob : ∃ dx, H p = some (.ins CW dx (wf q d))
  dc : H d = some (.dK (kvs es))
  sh : ∀ e ∈ es, ∃ dx, H e.2 = some (.ins CS dx (sf e.1.s e.1.c e.1.r))
  nd : (es.map (·.2)).Nodup
/-- .. as the mirror W has it; fp: all its objects -/
def WAt (CW CS : Addr) (H : Hp) (p : Addr) (W : WhS) (fp : List Addr) : Prop :=
  ∃ d es, W.rows = es.map (·.1) ∧ fp = p :: d :: es.map (·.2) ∧ WIn CW CS H p d W.past es ∧ Wm.Ok W
section
variable {CW CS : Addr} {H H' : Hp} {p d : Addr} {q : Int} {es : List En} {W : WhS} {fp gp : List Addr}
theorem WIn.ne_pd (h : WIn CW CS H p d q es) : p ≠ d := by
  obtain ⟨dx, e⟩ := h.ob
  exact ne_of e h.dc (by intro z; cases z)
theorem WIn.ne_ps (h : WIn CW CS H p d q es) {e : En} (he : e ∈ es) : p ≠ e.2 := by
  obtain ⟨dx, e1⟩ := h.ob
  obtain ⟨dy, e2⟩ := h.sh e he
  refine ne_of e1 e2 fun z => ?_
  injection z with _ _ z
  injection z with z _
  injection z with z _
  exact absurd z (by decide +kernel)
theorem WIn.ne_ds (h : WIn CW CS H p d q es) {e : En} (he : e ∈ es) : d ≠ e.2 := by
  obtain ⟨dy, e2⟩ := h.sh e he
  exact ne_of h.dc e2 (by intro z; cases z)
theorem WIn.keep (h : WIn CW CS H p d q es) (k : ∀ b ∈ p :: d :: es.map (·.2), ∀ o, H b = some o → H' b = some o) : WIn CW CS H' p d q es := by
  refine ⟨?_, k d (by simp) _ h.dc, fun e he => ?_, h.nd⟩
  · obtain ⟨dx, e⟩ := h.ob
    exact ⟨dx, k p (by simp) _ e⟩
  · obtain ⟨dx, e1⟩ := h.sh e he
    exact ⟨dx, k _ (by simp only [List.mem_cons, List.mem_map]; exact .inr (.inr ⟨e, he, rfl⟩)) _ e1⟩
theorem WIn.fpt (h : WIn CW CS H p d q es) : ∀ b ∈ p :: d :: es.map (·.2), ∃ o, H b = some o := by
  intro b hb
  rcases List.mem_cons.mp hb with rfl | hb
  · obtain ⟨dx, e⟩ := h.ob
    exact ⟨_, e⟩
  rcases List.mem_cons.mp hb with rfl | hb
  · exact ⟨_, h.dc⟩
  obtain ⟨e, he, rfl⟩ := List.mem_map.mp hb
  obtain ⟨dx, e1⟩ := h.sh e he
  exact ⟨_, e1⟩
theorem WAt.keep (h : WAt CW CS H p W fp) (k : ∀ b ∈ fp, ∀ o, H b = some o → H' b = some o) : WAt CW CS H' p W fp := by
  obtain ⟨d, es, h1, rfl, h3, h4⟩ := h
  exact ⟨d, es, h1, rfl, h3.keep k, h4⟩
theorem WAt.same (h : WAt CW CS H p W fp) (k : Same H H') : WAt CW CS H' p W fp := h.keep fun b _ o e => k b o e
theorem WAt.kept (h : WAt CW CS H p W fp) (k : Kept gp H H') (a : ∀ b ∈ fp, b ∉ gp) : WAt CW CS H' p W fp := h.keep fun b hb o e => k b o e (a b hb)
theorem WAt.fpt (h : WAt CW CS H p W fp) : ∀ b ∈ fp, ∃ o, H b = some o := by
  obtain ⟨d, es, h1, rfl, h3, h4⟩ := h
  exact h3.fpt
theorem WAt.ok (h : WAt CW CS H p W fp) : Wm.Ok W := by
  obtain ⟨d, es, h1, rfl, h3, h4⟩ := h
  exact h4
theorem WAt.mem (h : WAt CW CS H p W fp) : p ∈ fp := by
  obtain ⟨d, es, h1, rfl, h3, h4⟩ := h
  exact List.mem_cons_self
theorem WAt.at (h : WAt CW CS H p W fp) : ∃ dx d, H p = some (.ins CW dx (wf W.past d)) := by
  obtain ⟨d, es, h1, rfl, ⟨⟨dx, e⟩, _, _, _⟩, h4⟩ := h
  exact ⟨dx, d, e⟩
/-- what is neither an instance nor a dict is none of a wheel's -/
theorem WAt.notin (h : WAt CW CS H p W fp) {b : Addr} {o : HO} (e : H b = some o) (h1 : ∀ C dx fs, o ≠ .ins C dx fs) (h2 : ∀ k, o ≠ .dK k) : b ∉ fp := by
  obtain ⟨d, es, _, rfl, h3, _⟩ := h
  intro hb
  rcases List.mem_cons.mp hb with rfl | hb
  · obtain ⟨dx, e1⟩ := h3.ob
    rw [e] at e1
    exact h1 _ _ _ (Option.some.inj e1)
  rcases List.mem_cons.mp hb with rfl | hb
  · have e1 := h3.dc
    rw [e] at e1
    exact h2 _ (Option.some.inj e1)
  obtain ⟨x, hx, rfl⟩ := List.mem_map.mp hb
  obtain ⟨dx, e1⟩ := h3.sh x hx
  rw [e] at e1
  exact h1 _ _ _ (Option.some.inj e1)
theorem WAt.lst (h : WAt CW CS H p W fp) {b : Addr} {xs : List V} (e : H b = some (.lst xs)) : b ∉ fp := h.notin e (fun _ _ _ z => by cases z) fun _ z => by cases z
theorem WAt.tup (h : WAt CW CS H p W fp) {b : Addr} {xs : List V} (e : H b = some (.tup xs)) : b ∉ fp := h.notin e (fun _ _ _ z => by cases z) fun _ z => by cases z
theorem WAt.frz (h : WAt CW CS H p W fp) {b : Addr} {x : Obj} {u : HO} (e : H b = some (.frz x u)) : b ∉ fp := h.notin e (fun _ _ _ z => by cases z) fun _ z => by cases z
/-- a list or the script stands as before -/
theorem WAt.seq (h : WAt CW CS H p W fp) (k : Kept fp H H') {K : PySem.W.Frag} {a : Addr} {xs : List V} (e : SqL K H a xs) : SqL K H' a xs := by
  rcases e with (e | ⟨o, e⟩) | e
  · exact .inl (.inl (k _ _ e (h.lst e)))
  · exact .inl (.inr ⟨o, k _ _ e (h.frz e)⟩)
  · exact .inr e
/-- one sharer is written -/
theorem WIn.set (h : WIn CW CS H p d q es) {e : En} (he : e ∈ es) (nn : (es.map (·.1.n)).Nodup) (f : RowS → RowS) (hf : ∀ x, (f x).n = x.n) (dx : Addr) :
    WIn CW CS (upd H e.2 (.ins CS dx (sf (f e.1).s (f e.1).c (f e.1).r))) p d q (updE es e.1.n f) := by
  refine ⟨?_, ?_, fun x hx => ?_, ?_⟩
  · obtain ⟨dy, e1⟩ := h.ob
    exact ⟨dy, by rw [upd_ne (h.ne_ps he)]; exact e1⟩
  · rw [upd_ne (h.ne_ds he), updE_kvs _ _ _ hf]
    exact h.dc
  · obtain ⟨y, hy, rfl⟩ := List.mem_map.mp hx
    by_cases qn : y.1.n = e.1.n
    · have : y = e := by
        have a1 := kvs_at nn hy
        have a2 := kvs_at nn he
        rw [qn, a2] at a1
        have a3 : e.2 = y.2 := V.ref.inj (Option.some.inj a1)
        exact en_inj h.nd hy he a3.symm
      subst this
      rw [if_pos qn]
      exact ⟨dx, upd_same⟩
    · rw [if_neg qn]
      obtain ⟨dy, e1⟩ := h.sh y hy
      refine ⟨dy, ?_⟩
      rw [upd_ne]
      · exact e1
      · intro z
        apply qn
        rw [en_inj h.nd hy he z]
  · rw [updE_addrs]
    exact h.nd
end
theorem names_nd {W : WhS} {es : List En} (h : Wm.Ok W) (e : W.rows = es.map (·.1)) : (es.map (·.1.n)).Nodup := by
  have := h.nd
  rw [e, List.map_map] at this
  exact this

/-! ### the text by places -/
def top (i : Nat) : Stmt := PySem.Challenge.pw_sharetime_k07_a_wheel_in_step.main.body.getD i (.Pass ⟨0, 0, 0, 0⟩)
abbrev s_stands_in : Stmt := top 6
abbrev s_is_whole : Stmt := top 10
abbrev s_step : Stmt := top 11
abbrev sSharer_init : Stmt := inClass (top 13) 0
abbrev sSharer_copied : Stmt := inClass (top 13) 1
abbrev sWheel_init : Stmt := inClass (top 14) 0
abbrev sWheel_enter : Stmt := inClass (top 14) 1
abbrev sWheel_leave : Stmt := inClass (top 14) 2
abbrev sWheel_reshare : Stmt := inClass (top 14) 3
abbrev sWheel_wake : Stmt := inClass (top 14) 4
abbrev sWheel_rest : Stmt := inClass (top 14) 5
abbrev sWheel_turn : Stmt := inClass (top 14) 6
abbrev sWheel_whose : Stmt := inClass (top 14) 7
abbrev sWheel_names : Stmt := inClass (top 14) 8
abbrev sWheel_clock_of : Stmt := inClass (top 14) 9
abbrev sWheel_share_of : Stmt := inClass (top 14) 10
abbrev sWheel_is_ready : Stmt := inClass (top 14) 11
abbrev sWheel_copied : Stmt := inClass (top 14) 12
abbrev sWheel_sharer : Stmt := inClass (top 14) 13
abbrev s_L_cell_at : Stmt := top 16
abbrev s_L_truth : Stmt := top 17
abbrev s_L_turn : Stmt := top 18
abbrev s_L_turns : Stmt := top 19
abbrev s_L_one : Stmt := top 20
abbrev s_L_names_told : Stmt := top 21
abbrev s_L_row_told : Stmt := top 22
abbrev s_L_whose_told : Stmt := top 23
abbrev s_L_alike : Stmt := top 24
abbrev s_law : Stmt := top 25
/-! ### what the top has written of the wheels -/
structure WT (K : PySem.W.Frag) (mg : Str → Option Value) (CS CW CB CT CN : Addr) : Prop where
  clS : Cls K CS
  clW : Cls K CW
  aShare : NoAttr K CS "share"
  aClock : NoAttr K CS "clock"
  aReady : NoAttr K CS "ready"
  aPast : NoAttr K CW "past"
  aSh : NoAttr K CW "_sharers"
  gB : mg "BadShare" = some (.ref CB)
  gT : mg "Twice" = some (.ref CT)
  gN : mg "NoName" = some (.ref CN)
  eB : ExcT K CB
  eT : ExcT K CT
  eN : ExcT K CN
  isi : mg "isinstance" = none
  int : mg "int" = none
  bool : mg "bool" = none
  str : mg "str" = none
  max : mg "max" = none
  list : mg "list" = none
  mR : ∃ t, mg "ROUND" = some (.int 27720 t)
  mM : ∃ t, mg "MOST" = some (.int 12 t)
/-! ### what each def promises -/
def spStands : Sp := fun vs H Q _ => ∃ x d ks, vs = [x, .ref d] ∧ Th H x ∧ H d = some (.dK ks) ∧ (∀ z, x = .str z → Q (.bl (valV ks (Sum.inr z : Key)).isSome) H) ∧ (isS x = false → Q (.bl false) H)
def spWhole : Sp := fun vs H Q _ => ∃ x, vs = [x] ∧ Th H x ∧ Q (.bl (isI x)) H
def spStep (CB : Addr) : Sp := fun vs H Q E => ∃ x, vs = [x] ∧ Th H x ∧ (∀ i, x = .int i → 1 ≤ i → i ≤ 12 → Q (.int (Wm.stp i)) H) ∧ (good x = false → E (.ref CB) none H)
def spSInit (CS : Addr) : Sp := fun vs H Q _ => ∃ p dx s, vs = [.ref p, .int s] ∧ H p = some (.ins CS dx []) ∧ Q .non (upd H p (.ins CS dx (sf s 0 false)))
def spSCopied (CS : Addr) : Sp := fun vs H Q _ => ∃ a dx s c r, vs = [.ref a] ∧ H a = some (.ins CS dx (sf s c r)) ∧ ∀ b dy H', H b = none → Same H H' → H' b = some (.ins CS dy (sf s c r)) → Q (.ref b) H'
def spWInit (CW CS : Addr) : Sp := fun vs H Q _ => ∃ p dx, vs = [.ref p] ∧ H p = some (.ins CW dx []) ∧ ∀ d H', H d = none → WIn CW CS H' p d 0 [] → (∀ b o, H b = some o → b ≠ p → H' b = some o) → Q .non H'
def spSharer (CW CS CN : Addr) : Sp := fun vs H Q E => ∃ p d q es n, vs = [.ref p, .str n] ∧ WIn CW CS H p d q es ∧ (∀ e ∈ es, e.1.n = n → Q (.ref e.2) H) ∧ ((∀ e ∈ es, e.1.n ≠ n) → E (.ref CN) none H)
/-- is the name there -/
def Has (W : WhS) (n : Str) : Prop := ∃ x ∈ W.rows, x.n = n
def spEnter (CW CS CB CT : Addr) : Sp := fun vs H Q E => ∃ p W fp n x, vs = [.ref p, .str n, x] ∧ WAt CW CS H p W fp ∧ W.rows.length ≤ 1000 ∧ Th H x ∧ (Has W n → E (.ref CT) none H) ∧ (¬ Has W n → good x = false → E (.ref CB) none H) ∧
  (¬ Has W n → ∀ s, x = .int s → 1 ≤ s → s ≤ 12 → ∀ H' fp', WAt CW CS H' p (Wm.enter W n s) fp' → Step fp H fp' H' → Q .non H')
def spLeave (CW CS CN : Addr) : Sp := fun vs H Q E => ∃ p W fp n, vs = [.ref p, .str n] ∧ WAt CW CS H p W fp ∧ (¬ Has W n → E (.ref CN) none H) ∧ (Has W n → ∀ H' fp', WAt CW CS H' p (Wm.leave W n) fp' → Step fp H fp' H' → Q .non H')
def spReshare (CW CS CB CN : Addr) : Sp := fun vs H Q E => ∃ p W fp n x, vs = [.ref p, .str n, x] ∧ WAt CW CS H p W fp ∧ Th H x ∧ (¬ Has W n → E (.ref CN) none H) ∧ (Has W n → good x = false → E (.ref CB) none H) ∧
  (Has W n → ∀ s, x = .int s → 1 ≤ s → s ≤ 12 → ∀ H', WAt CW CS H' p (Wm.reshare W n s) fp → Step fp H fp H' → Q .non H')
def spWake (CW CS CN : Addr) : Sp := fun vs H Q E => ∃ p W fp n, vs = [.ref p, .str n] ∧ WAt CW CS H p W fp ∧ (¬ Has W n → E (.ref CN) none H) ∧
  (∀ x ∈ W.rows, x.n = n → ∀ H', WAt CW CS H' p (Wm.wake W n) fp → Step fp H fp H' → Q (.bl (!x.r)) H')
def spRest (CW CS CN : Addr) : Sp := fun vs H Q E => ∃ p W fp n, vs = [.ref p, .str n] ∧ WAt CW CS H p W fp ∧ (¬ Has W n → E (.ref CN) none H) ∧
  (∀ x ∈ W.rows, x.n = n → ∀ H', WAt CW CS H' p (Wm.rest W n) fp → Step fp H fp H' → Q (.bl x.r) H')
/-- a name, or None -/
def optN : Option Str → V
  | none => .non
  | some n => .str n
def spWhose (CW CS : Addr) : Sp := fun vs H Q _ => ∃ p W fp, vs = [.ref p] ∧ WAt CW CS H p W fp ∧ ∀ H', Same H H' → Q (optN (Wm.whose W)) H'
def spTurn (CW CS : Addr) : Sp := fun vs H Q _ => ∃ p W fp, vs = [.ref p] ∧ WAt CW CS H p W fp ∧ ∀ H', WAt CW CS H' p (Wm.turn W) fp → Step fp H fp H' → Q (optN (Wm.whose W)) H'
def spNames (CW CS : Addr) : Sp := fun vs H Q _ => ∃ p W fp, vs = [.ref p] ∧ WAt CW CS H p W fp ∧ ∀ l, H l = none → Q (.ref l) (upd H l (.lst (W.rows.map fun x => V.str x.n)))
def spAsk (CW CS CN : Addr) (g : RowS → V) : Sp := fun vs H Q E => ∃ p W fp n, vs = [.ref p, .str n] ∧ WAt CW CS H p W fp ∧ (¬ Has W n → E (.ref CN) none H) ∧ (∀ x ∈ W.rows, x.n = n → Q (g x) H)
def spCopied (CW CS : Addr) : Sp := fun vs H Q _ => ∃ p W fp, vs = [.ref p] ∧ WAt CW CS H p W fp ∧ W.rows.length ≤ 1000 ∧ ∀ p' fp' H', WAt CW CS H' p' W fp' → Same H H' → (∀ b ∈ fp', H b = none) → Q (.ref p') H'
/-- a new wheel, made -/
theorem mk_wheel {CW CS : Addr} {E : XK} {H : Hp} {Q : VK} {x dx : Addr} (hx : H x = none) (hdx : H dx = none) (k : ∀ H' fp, WAt CW CS H' x ⟨0, []⟩ fp → Same H H' → (∀ b ∈ fp, H b = none) → Q .non H') :
    spWInit CW CS [.ref x] (upd (upd H dx (.own x)) x (.ins CW dx [])) Q E := by
  refine ⟨x, dx, rfl, upd_same, fun d H' hd w k' => k H' [x, d] ⟨d, [], rfl, rfl, w, Wm.Ok.new⟩ (fun b o e => k' b o ?_ (ne_of_none e hx)) fun b hb => ?_⟩
  · rw [upd_ne (ne_of_none e hx), upd_ne (ne_of_none e hdx)]
    exact e
  · rcases List.mem_cons.mp hb with rfl | hb
    · exact hx
    · have e := List.mem_singleton.mp hb
      subst e
      cases q : H b with
      | none => rfl
      | some o =>
        have := same_made (C := CW) (fs := []) hx hdx b o q
        rw [hd] at this
        cases this
section
variable {P : Program} {w : World} {K : PySem.W.Frag} {mg : Str → Option Value} {base : Heap} {CS CW CB CT CN : Addr}
theorem has_of {W : WhS} {es : List En} (e : W.rows = es.map (·.1)) {n : Str} : Has W n ↔ ∃ x ∈ es, x.1.n = n := by
  unfold Has
  rw [e]
  constructor
  · rintro ⟨x, hx, h⟩
    obtain ⟨y, hy, rfl⟩ := List.mem_map.mp hx
    exact ⟨y, hy, h⟩
  · rintro ⟨y, hy, h⟩
    exact ⟨y.1, List.mem_map.mpr ⟨y, hy, rfl⟩, h⟩
theorem sc_stands : FnScope ["thing", "table"] ["thing", "table"] (defScope s_stands_in) := ⟨rfl, rfl, rfl, by decide +kernel, rfl, by decide +kernel, by decide +kernel⟩
theorem ok_stands {f : Addr} {fd : FuncData} (F : Fun K "stands_in" "stands_in" s_stands_in f fd) (T : WT K mg CS CW CB CT CN) : FnOk P w K mg base (L2.CX P w) 1 f fd ["thing", "table"] spStands := by
  refine okN F sc_stands (fun vs H Q E h => ?_) (fun cdv A outer s H vs Q E hr h => ?_)
  · obtain ⟨x, d, ks, rfl, _⟩ := h
    rfl
  · obtain ⟨x, d, ks, rfl, hx, hd, k1, k2⟩ := h
    have hu := hu_of hr
    refine ⟨_, pss_one (ps_ret (pe_and (pe_callB call_isi (by rfl) T.isi boot_isinstance (pa_cons (pv 0) (pa_cons (pe_bltn (v := .ty "str") (by rfl) T.str PyProof.Rows.boot_str rfl) pa_nil))) (pe_one (pe_cmp (pc_din hu (pv 0) (pv 1)))))), ?_⟩
    obtain ⟨t, ty, _, _, e3⟩ := hx.ty (K := K)
    refine ⟨_, rfl, _, _, t, _, _, rfl, .ty _, ty, e3, _, rfl, ?_⟩
    cases hx with
    | int i => exact iteF (k2 rfl)
    | bl b => exact iteF (k2 rfl)
    | non => exact iteF (k2 rfl)
    | lst e => exact iteF (k2 rfl)
    | str z => exact iteT ⟨_, rfl, _, rfl, d, _, rfl, DGet.k (k := Sum.inr z) hd, k1 z rfl⟩
theorem sc_whole : FnScope ["thing"] ["thing"] (defScope s_is_whole) := ⟨rfl, rfl, rfl, by decide +kernel, rfl, by decide +kernel, by decide +kernel⟩
theorem ok_whole {f : Addr} {fd : FuncData} (F : Fun K "is_whole" "is_whole" s_is_whole f fd) (T : WT K mg CS CW CB CT CN) : FnOk P w K mg base (L2.CX P w) 1 f fd ["thing"] spWhole := by
  refine okN F sc_whole (fun vs H Q E h => ?_) (fun cdv A outer s H vs Q E hr h => ?_)
  · obtain ⟨x, rfl, _⟩ := h
    rfl
  · obtain ⟨x, rfl, hx, k⟩ := h
    refine ⟨_, pss_one (ps_ret (pe_and (pe_callB call_isi (by rfl) T.isi boot_isinstance (pa_cons (pv 0) (pa_cons (pe_bltn (v := .ty "int") (by rfl) T.int PyProof.Rows.boot_int rfl) pa_nil)))
      (pe_one (pe_not (pe_callB call_isi (by rfl) T.isi boot_isinstance (pa_cons (pv 0) (pa_cons (pe_bltn (v := .ty "bool") (by rfl) T.bool PyProof.Rows.boot_bool rfl) pa_nil))))))), ?_⟩
    obtain ⟨t, ty, e1, e2, _⟩ := hx.ty (K := K)
    refine ⟨_, rfl, _, _, t, _, _, rfl, .ty _, ty, e1, _, rfl, ?_⟩
    have k2 : isI x = false → Q (.bl false) H := fun z => by rw [← z]; exact k
    cases hx with
    | int i => exact iteT ⟨_, rfl, _, _, t, _, _, rfl, .ty _, ty, e2, _, rfl, k⟩
    | bl b => exact iteT ⟨_, rfl, _, _, t, _, _, rfl, .ty _, ty, e2, _, rfl, k⟩
    | non => exact iteF (k2 rfl)
    | str z => exact iteF (k2 rfl)
    | lst e => exact iteF (k2 rfl)
theorem sc_step : FnScope ["share"] ["share"] (defScope s_step) := ⟨rfl, rfl, rfl, by decide +kernel, rfl, by decide +kernel, by decide +kernel⟩
theorem ok_step {f : Addr} {fd : FuncData} (F : Fun K "step" "step" s_step f fd) (T : WT K mg CS CW CB CT CN) (GW : DOk P w K mg base 1 "is_whole" ["thing"] spWhole) : FnOk P w K mg base (L2.CX P w) 2 f fd ["share"] (spStep CB) := by
  refine F.okX sc_step (fun vs H Q E h => ?_) (fun cdv A outer s H vs Q E hr h => ?_)
  · obtain ⟨x, rfl, _⟩ := h
    rfl
  · obtain ⟨x, rfl, hx, k, e⟩ := h
    obtain ⟨tR, mR⟩ := T.mR
    obtain ⟨tM, mM⟩ := T.mM
    refine ⟨_, pss_cons (ps_if (PW.pt (pw_or (pt_not (pt_val (pe_f GW hr (Nat.le_refl _) (by rfl) (fun σ => passN σ) (pa_cons (pv 0) pa_nil)))) (pw_or1 (pt_not (pt_chain op_le op_le pe_int (pv 0) (pe_glob (v := .int 12) rfl mM ⟨_, rfl⟩))))))
        (pss_one (ps_raise rfl (takes_of rfl rfl rfl rfl) (pmk_ownA PySem.F.excBase_ValueError T.eB.x T.gB T.eB.k (raises_own T.eB.b T.eB.t) (by exact rfl)
          (pa_cons (pe_joined (.cons pe_str (.cons (pe_fmt (pe_glob (v := .int 12) rfl mM ⟨_, rfl⟩)) .nil))) pa_nil)))) pss_nil)
      (pss_one (ps_ret (pe_op op_fdivN (pe_glob (v := .int 27720) rfl mR ⟨_, rfl⟩) (pv 0)))), ?_⟩
    refine ⟨_, rfl, x, rfl, hx, _, rfl, ?_⟩
    have bad : good x = false → tJs [tC (.str "a share is a whole number from 1 to "), tFmt (tC (.int 12))] Str.empty [some x] H fun out H1 => (1 ≤ sizeLine ∧ E (.ref CB) none H1) := fun z => by
      refine ⟨_, rfl, (by decide +kernel), .inr ⟨12, rfl, by decide +kernel, _, rfl, (by decide +kernel), by decide, e z⟩⟩
    cases hx with
    | int i =>
      refine iteF ⟨_, rfl, _, _, rfl, rfl, _, rfl, ?_⟩
      by_cases h1 : (1 : Int) ≤ i
      · rw [if_pos (decide_eq_true h1)]
        refine ⟨_, _, rfl, rfl, _, rfl, ?_⟩
        by_cases h2 : i ≤ 12
        · rw [decide_eq_true h2]
          refine iteF ?_
          exact ⟨_, rfl, _, _, rfl, rfl, ⟨by omega, by omega⟩, k i rfl h1 h2⟩
        · rw [decide_eq_false h2]
          refine iteT ?_
          exact bad (by show (decide (1 ≤ i) && decide (i ≤ 12)) = false; rw [decide_eq_false h2, Bool.and_false])
      · rw [if_neg (by rw [decide_eq_false h1]; exact Bool.false_ne_true)]
        refine ⟨_, rfl, ?_⟩
        refine iteT ?_
        exact bad (by show (decide (1 ≤ i) && decide (i ≤ 12)) = false; rw [decide_eq_false h1, Bool.false_and])
    | bl b => exact iteT (iteT (bad rfl))
    | non => exact iteT (iteT (bad rfl))
    | str z => exact iteT (iteT (bad rfl))
    | lst e => exact iteT (iteT (bad rfl))
theorem sc_sinit : FnScope ["self", "share"] ["self", "share"] (defScope sSharer_init) := ⟨rfl, rfl, rfl, by decide +kernel, rfl, by decide +kernel, by decide +kernel⟩
theorem ok_sinit {f : Addr} {fd : FuncData} (F : Fun K "__init__" "Sharer.__init__" sSharer_init f fd) (T : WT K mg CS CW CB CT CN) : FnOk P w K mg base (L2.CX P w) 1 f fd ["self", "share"] (spSInit CS) := by
  refine okN F sc_sinit (fun vs H Q E h => ?_) (fun cdv A outer s H vs Q E hr h => ?_)
  · obtain ⟨p, dx, z, rfl, _⟩ := h
    rfl
  · obtain ⟨p, dx, z, rfl, hp, k⟩ := h
    refine ⟨_, pss_cons (ps_fld (pv 0) (pv 1) rfl) (pss_cons (ps_fld (pv 0) pe_int rfl) (pss_one (ps_fld (pv 0) pe_bl rfl))), ?_⟩
    refine ⟨_, rfl, _, rfl, p, CS, dx, [], rfl, hp, T.clS, T.aShare, (by show 0 < 1000; decide), _, rfl, p, CS, dx, _, rfl, upd_same, T.clS, T.aClock, (by show 1 < 1000; decide), _, rfl, p, CS, dx, _, rfl, upd_same, T.clS, T.aReady, ?_, ?_⟩
    · rw [pf_nil, pf_ne n_sc, pf_nil]
      show 2 < 1000
      decide
    · rw [upd_upd, upd_upd, pf_nil, pf_ne n_sc, pf_nil, pf_ne n_sr, pf_ne n_cr, pf_nil]
      exact k
theorem sc_scopied : FnScope ["self", "other"] ["self"] (defScope sSharer_copied) := ⟨rfl, rfl, rfl, by decide +kernel, rfl, by decide +kernel, by decide +kernel⟩
theorem ok_scopied {f : Addr} {fd : FuncData} (F : Fun K "copied" "Sharer.copied" sSharer_copied f fd) (T : WT K mg CS CW CB CT CN) (MS : KOk P w K mg base 1 "Sharer" CS ["self", "share"] (spSInit CS)) : FnOk P w K mg base (L2.CX P w) 3 f fd ["self"] (spSCopied CS) := by
  refine okN F sc_scopied (fun vs H Q E h => ?_) (fun cdv A outer s H vs Q E hr h => ?_)
  · obtain ⟨p, dx, z, c, r, rfl, _⟩ := h
    rfl
  · obtain ⟨p, dx, z, c, r, rfl, hp, k⟩ := h
    refine ⟨_, pss_cons (ps_set (i := 1) sc_scopied.nd rfl (Or.inl rfl) (pe_k MS hr (Nat.le_refl _) (by rfl) (pa_cons (pe_fld (pv 0) rfl) pa_nil)))
      (pss_cons (ps_fld (pv 1) (pe_fld (pv 0) rfl) rfl) (pss_cons (ps_fld (pv 1) (pe_fld (pv 0) rfl) rfl) (pss_one (ps_ret (pv 1))))), ?_⟩
    refine ⟨_, rfl, p, CS, dx, _, _, rfl, hp, T.clS, T.aShare, sf_share _ _ _, fun x dy hx hdy ne => ?_⟩
    refine ⟨x, dy, z, rfl, upd_same, rfl, ?_⟩
    rw [upd_upd]
    have npx : p ≠ x := ne_of_none hp hx
    have npd : p ≠ dy := ne_of_none hp hdy
    have g : ∀ o, (upd (upd H dy (.own x)) x o) p = some (.ins CS dx (sf z c r)) := fun o => by
      rw [upd_ne npx, upd_ne npd]
      exact hp
    refine ⟨_, rfl, p, CS, dx, _, _, rfl, g _, T.clS, T.aClock, sf_clock _ _ _, _, rfl, x, CS, dy, _, rfl, upd_same, T.clS, T.aClock, (by show 3 < 1000; decide), ?_⟩
    rw [upd_upd, sf_pclock]
    refine ⟨_, rfl, p, CS, dx, _, _, rfl, g _, T.clS, T.aReady, sf_ready _ _ _, _, rfl, x, CS, dy, _, rfl, upd_same, T.clS, T.aReady, (by show 3 < 1000; decide), ?_⟩
    rw [upd_upd, sf_pready]
    refine ⟨_, rfl, ?_⟩
    exact k x dy _ hx (same_made hx hdy) upd_same
theorem sc_winit : FnScope ["self"] ["self"] (defScope sWheel_init) := ⟨rfl, rfl, rfl, by decide +kernel, rfl, by decide +kernel, by decide +kernel⟩
theorem ok_winit {f : Addr} {fd : FuncData} (F : Fun K "__init__" "Wheel.__init__" sWheel_init f fd) (T : WT K mg CS CW CB CT CN) : FnOk P w K mg base (L2.CX P w) 1 f fd ["self"] (spWInit CW CS) := by
  refine okN F sc_winit (fun vs H Q E h => ?_) (fun cdv A outer s H vs Q E hr h => ?_)
  · obtain ⟨p, dx, rfl, _⟩ := h
    rfl
  · obtain ⟨p, dx, rfl, hp, k⟩ := h
    refine ⟨_, pss_cons (ps_fld (pv 0) pe_int rfl) (pss_one (ps_fld (pv 0) pe_dnewK rfl)), ?_⟩
    refine ⟨_, rfl, p, CW, dx, [], rfl, hp, T.clW, T.aPast, (by show 0 < 1000; decide), fun d hd => ?_⟩
    have npd : p ≠ d := ne_of_none upd_same hd
    rw [upd_ne npd.symm] at hd
    refine ⟨_, rfl, p, CW, dx, _, rfl, (by rw [upd_ne npd]; exact upd_same), T.clW, T.aSh, (by show 1 < 1000; decide), ?_⟩
    refine k d _ hd ⟨⟨dx, ?_⟩, by rw [upd_ne npd.symm]; exact upd_same, fun e he => (nomatch he), List.nodup_nil⟩ fun b o e hb => ?_
    · rw [upd_same, pf_nil, pf_ne n_ps, pf_nil]
      rfl
    · rw [upd_ne hb, upd_ne (ne_of_none e hd), upd_ne hb]
      exact e
theorem sc_sharer : FnScope ["self", "name"] ["self", "name"] (defScope sWheel_sharer) := ⟨rfl, rfl, rfl, by decide +kernel, rfl, by decide +kernel, by decide +kernel⟩
theorem ok_sharer {f : Addr} {fd : FuncData} (F : Fun K "_sharer" "Wheel._sharer" sWheel_sharer f fd) (T : WT K mg CS CW CB CT CN) (GS : DOk P w K mg base 1 "stands_in" ["thing", "table"] spStands) : FnOk P w K mg base (L2.CX P w) 2 f fd ["self", "name"] (spSharer CW CS CN) := by
  refine F.okX sc_sharer (fun vs H Q E h => ?_) (fun cdv A outer s H vs Q E hr h => ?_)
  · obtain ⟨p, d, q, es, n, rfl, _⟩ := h
    rfl
  · obtain ⟨p, d, q, es, n, rfl, I, k1, k2⟩ := h
    have hu := hu_of hr
    obtain ⟨dx, hp⟩ := I.ob
    refine ⟨_, pss_cons (ps_if (pt_not (pt_val (pe_f GS hr (Nat.le_refl _) (by rfl) (fun σ => passN σ) (pa_cons (pv 1) (pa_cons (pe_fld (pv 0) rfl) pa_nil))))) (pss_one (ps_rs rfl (takes_of rfl rfl rfl rfl) T.eN T.gN (by rfl))) pss_nil)
      (pss_one (ps_ret (pe_dget hu (pe_fld (pv 0) rfl) (pv 1) (fun _ _ => rfl)))), ?_⟩
    refine ⟨_, rfl, _, rfl, p, CW, dx, _, _, rfl, hp, T.clW, T.aSh, wf_sh _ _, .str n, d, _, rfl, .str n, I.dc, fun z ez => ?_, fun z => by cases z⟩
    cases ez
    refine ⟨_, rfl, ?_⟩
    cases e : valV (kvs es) (Sum.inr n : Key) with
    | none =>
      refine iteT ?_
      exact k2 (kvs_none e)
    | some v =>
      obtain ⟨x, hx, hn, rfl⟩ := kvs_some e
      refine iteF ?_
      refine ⟨_, rfl, p, CW, dx, _, _, rfl, hp, T.clW, T.aSh, wf_sh _ _, _, rfl, d, _, rfl, ?_, k1 x hx hn⟩
      have g := DGet.k (k := Sum.inr n) I.dc
      rw [e] at g
      exact g
theorem sc_enter : FnScope ["self", "name", "share"] ["self", "name", "share"] (defScope sWheel_enter) := ⟨rfl, rfl, rfl, by decide +kernel, rfl, by decide +kernel, by decide +kernel⟩
theorem ok_enter {f : Addr} {fd : FuncData} (F : Fun K "enter" "Wheel.enter" sWheel_enter f fd) (T : WT K mg CS CW CB CT CN) (GS : DOk P w K mg base 2 "step" ["share"] (spStep CB)) (MS : KOk P w K mg base 1 "Sharer" CS ["self", "share"] (spSInit CS)) :
    FnOk P w K mg base (L2.CX P w) 3 f fd ["self", "name", "share"] (spEnter CW CS CB CT) := by
  refine F.okX sc_enter (fun vs H Q E h => ?_) (fun cdv A outer s H vs Q E hr h => ?_)
  · obtain ⟨p, W, fp, n, x, rfl, _⟩ := h
    rfl
  · obtain ⟨p, W, fp, n, x, rfl, ⟨d, es, hrows, rfl, I, ok⟩, hlen, hx, k1, k2, k3⟩ := h
    have hu := hu_of hr
    obtain ⟨dx, hp⟩ := I.ob
    have hl : es.length ≤ 1000 := by
      rw [hrows, List.length_map] at hlen
      exact hlen
    refine ⟨_, pss_cons (ps_if (pt_cmp (pc_din hu (pv 1) (pe_fld (pv 0) rfl))) (pss_one (ps_rs rfl (takes_of rfl rfl rfl rfl) T.eT T.gT (by rfl))) pss_nil)
      (pss_cons (ps_expr (pe_f GS hr (Nat.le_refl _) (by rfl) (fun σ => passAt (takes_of rfl rfl rfl rfl) σ) (pa_cons (pv 2) pa_nil)))
      (pss_one (ps_dput hu (pe_fld (pv 0) rfl) (pv 1) (pe_k MS hr (Nat.le_refl _) (by rfl) (pa_cons (pv 2) pa_nil)) rfl))), ?_⟩
    refine ⟨_, rfl, _, rfl, p, CW, dx, _, _, rfl, hp, T.clW, T.aSh, wf_sh _ _, d, _, rfl, DGet.k (k := Sum.inr n) I.dc, _, rfl, ?_⟩
    cases e : valV (kvs es) (Sum.inr n : Key) with
    | some v =>
      obtain ⟨y, hy, hn, rfl⟩ := kvs_some e
      exact iteT (k1 ((has_of hrows).mpr ⟨y, hy, hn⟩))
    | none =>
      have nn := kvs_none e
      have nh : ¬ Has W n := fun z => by
        obtain ⟨y, hy, hn⟩ := (has_of hrows).mp z
        exact nn y hy hn
      refine iteF ?_
      refine ⟨_, rfl, x, rfl, hx, fun i ei h1 h2 => ?_, fun z => k2 nh z⟩
      subst ei
      -- the new one
      refine ⟨_, rfl, fun a dy ha hdy ne => ⟨a, dy, i, rfl, upd_same, rfl, ?_⟩⟩
      rw [upd_upd]
      have sm : Same H (upd (upd H dy (.own a)) a (.ins CS dy (sf i 0 false))) := same_made ha hdy
      refine ⟨_, rfl, p, CW, dx, _, _, rfl, sm _ _ hp, T.clW, T.aSh, wf_sh _ _, _, rfl, d, _, rfl, DPut.k (k := Sum.inr n) (sm _ _ I.dc) (small1000 (by rw [kvs_len]; exact hl)), ?_⟩
      have epl : putK (kvs es) (Sum.inr n : Key) (V.ref a) = kvs (es ++ [((⟨n, i, 0, false⟩ : RowS), a)]) := by
        rw [putK_new _ e]
        unfold kvs
        rw [List.map_append]
        rfl
      rw [epl]
      have npd := I.ne_pd
      have nda : d ≠ a := ne_of_none I.dc ha
      refine k3 nh i rfl h1 h2 _ (p :: d :: (es ++ [((⟨n, i, 0, false⟩ : RowS), a)]).map (·.2)) ⟨d, es ++ [(⟨n, i, 0, false⟩, a)], ?_, rfl, ⟨⟨dx, ?_⟩, upd_same, fun y hy => ?_, ?_⟩, ok.enter h1 h2 fun z => ?_⟩ ⟨fun b o eb hb => ?_, fun b hb => ?_⟩
      · show W.rows ++ [_] = _
        rw [hrows, List.map_append]
        rfl
      · rw [upd_ne npd]
        exact sm _ _ hp
      · rcases List.mem_append.mp hy with hy | hy
        · obtain ⟨dz, ez⟩ := I.sh y hy
          exact ⟨dz, by rw [upd_ne (I.ne_ds hy).symm]; exact sm _ _ ez⟩
        · rw [List.mem_singleton.mp hy]
          exact ⟨dy, by rw [upd_ne nda.symm]; exact upd_same⟩
      · rw [List.map_append]
        refine Wm.nd_snoc I.nd fun z => ?_
        obtain ⟨y, hy, ey⟩ := List.mem_map.mp z
        obtain ⟨dz, ez⟩ := I.sh y hy
        rw [ey, ha] at ez
        cases ez
      · obtain ⟨y, hy, hn⟩ := List.mem_map.mp z
        exact nh ⟨y, hy, hn⟩
      · rw [upd_ne (fun z => hb (by rw [z]; simp))]
        exact sm _ _ eb
      · rw [List.map_append] at hb
        rcases List.mem_cons.mp hb with rfl | hb
        · exact .inl List.mem_cons_self
        rcases List.mem_cons.mp hb with rfl | hb
        · exact .inl (List.mem_cons_of_mem _ List.mem_cons_self)
        rcases List.mem_append.mp hb with hb | hb
        · exact .inl (List.mem_cons_of_mem _ (List.mem_cons_of_mem _ hb))
        · rw [List.mem_singleton.mp hb]
          exact .inr ha
theorem sc_leave : FnScope ["self", "name"] ["self", "name"] (defScope sWheel_leave) := ⟨rfl, rfl, rfl, by decide +kernel, rfl, by decide +kernel, by decide +kernel⟩
theorem ok_leave {f : Addr} {fd : FuncData} (F : Fun K "leave" "Wheel.leave" sWheel_leave f fd) (T : WT K mg CS CW CB CT CN) (GS : MOk P w K mg base 2 CW "_sharer" ["self", "name"] (spSharer CW CS CN)) : FnOk P w K mg base (L2.CX P w) 3 f fd ["self", "name"] (spLeave CW CS CN) := by
  refine F.okX sc_leave (fun vs H Q E h => ?_) (fun cdv A outer s H vs Q E hr h => ?_)
  · obtain ⟨p, W, fp, n, rfl, _⟩ := h
    rfl
  · obtain ⟨p, W, fp, n, rfl, ⟨d, es, hrows, rfl, I, ok⟩, k1, k2⟩ := h
    obtain ⟨dx, hp⟩ := I.ob
    refine ⟨_, pss_cons (ps_expr (pe_m GS T.clW hr (Nat.le_refl _) (fun σ => passAt (takes_of rfl rfl rfl rfl) σ) (pv 0) (pa_cons (pv 1) pa_nil))) (pss_one (ps_ddel (pe_fld (pv 0) rfl) (pv 1))), ?_⟩
    refine ⟨_, rfl, p, dx, _, rfl, hp, wf_no _ _ (by decide +kernel) (by decide +kernel), _, rfl, p, d, _, es, n, rfl, I, fun x hx hn => ?_, fun z => k1 fun h => ?_⟩
    · refine ⟨_, rfl, p, CW, dx, _, _, rfl, hp, T.clW, T.aSh, wf_sh _ _, _, rfl, d, _, Sum.inr n, rfl, I.dc, rfl, ?_, ?_⟩
      · rw [← hn, kvs_at (names_nd ok hrows) hx]
        rfl
      · rw [kvs_drop]
        refine k2 ((has_of hrows).mpr ⟨x, hx, hn⟩) _ (p :: d :: (es.filter fun e => decide (e.1.n ≠ n)).map (·.2)) ⟨d, _, ?_, rfl, ⟨⟨dx, ?_⟩, upd_same, fun y hy => ?_, ?_⟩, ok.leave n⟩ ⟨fun b o eb hb => ?_, fun b hb => ?_⟩
        · show W.rows.filter _ = _
          rw [hrows, List.filter_map]
          rfl
        · rw [upd_ne I.ne_pd]
          exact hp
        · have hy' := (List.mem_filter.mp hy).1
          obtain ⟨dz, ez⟩ := I.sh y hy'
          exact ⟨dz, by rw [upd_ne (I.ne_ds hy').symm]; exact ez⟩
        · exact List.Nodup.sublist (List.Sublist.map _ List.filter_sublist) I.nd
        · rw [upd_ne (fun z => hb (by rw [z]; simp))]
          exact eb
        · left
          rcases List.mem_cons.mp hb with rfl | hb
          · exact List.mem_cons_self
          rcases List.mem_cons.mp hb with rfl | hb
          · exact List.mem_cons_of_mem _ List.mem_cons_self
          obtain ⟨y, hy, rfl⟩ := List.mem_map.mp hb
          exact List.mem_cons_of_mem _ (List.mem_cons_of_mem _ (List.mem_map.mpr ⟨y, (List.mem_filter.mp hy).1, rfl⟩))
    · obtain ⟨y, hy, hn⟩ := (has_of hrows).mp h
      exact z y hy hn

theorem WIn.past {CW CS : Addr} {H : Hp} {p d : Addr} {q q' : Int} {es : List En} (h : WIn CW CS H p d q es) (dx : Addr) : WIn CW CS (upd H p (.ins CW dx (wf q' d))) p d q' es := by
  refine ⟨⟨dx, upd_same⟩, by rw [upd_ne h.ne_pd.symm]; exact h.dc, fun e he => ?_, h.nd⟩
  obtain ⟨dy, e1⟩ := h.sh e he
  exact ⟨dy, by rw [upd_ne (h.ne_ps he).symm]; exact e1⟩
theorem step_upd {fp : List Addr} {H : Hp} {a : Addr} {o : HO} (h : a ∈ fp) : Step fp H fp (upd H a o) := ⟨fun b u e hb => by
  rw [upd_ne (fun z => hb (by rw [z]; exact h))]
  exact e, fun _ hb => .inl hb⟩
theorem fp_s {p d : Addr} {es : List En} {e : En} (he : e ∈ es) : e.2 ∈ p :: d :: es.map (·.2) := List.mem_cons_of_mem _ (List.mem_cons_of_mem _ (List.mem_map.mpr ⟨e, he, rfl⟩))
/-- the row of a name is told by it -/
theorem en_of {W : WhS} {es : List En} (ok : Wm.Ok W) (hr : W.rows = es.map (·.1)) {e : En} (he : e ∈ es) {x : RowS} (hx : x ∈ W.rows) (hn : x.n = e.1.n) : x = e.1 :=
  Wm.row_of_name ok.nd hx (by rw [hr]; exact List.mem_map.mpr ⟨e, he, rfl⟩) hn
theorem sc_reshare : FnScope ["self", "name", "share", "sharer", "new", "beyond"] ["self", "name", "share"] (defScope sWheel_reshare) := ⟨rfl, rfl, rfl, by decide +kernel, rfl, by decide +kernel, by decide +kernel⟩
theorem ok_reshare {f : Addr} {fd : FuncData} (F : Fun K "reshare" "Wheel.reshare" sWheel_reshare f fd) (T : WT K mg CS CW CB CT CN) (GS : MOk P w K mg base 2 CW "_sharer" ["self", "name"] (spSharer CW CS CN)) (GP : DOk P w K mg base 2 "step" ["share"] (spStep CB)) :
    FnOk P w K mg base (L2.CX P w) 3 f fd ["self", "name", "share"] (spReshare CW CS CB CN) := by
  refine F.okX sc_reshare (fun vs H Q E h => ?_) (fun cdv A outer s H vs Q E hr h => ?_)
  · obtain ⟨p, W, fp, n, x, rfl, _⟩ := h
    rfl
  · obtain ⟨p, W, fp, n, x, rfl, ⟨d, es, hrows, rfl, I, ok⟩, hx, k1, k2, k3⟩ := h
    obtain ⟨dx, hp⟩ := I.ob
    refine ⟨_, pss_cons (ps_set (i := 3) sc_reshare.nd rfl (Or.inl rfl) (pe_m GS T.clW hr (Nat.le_refl _) (fun σ => passAt (takes_of rfl rfl rfl rfl) σ) (pv 0) (pa_cons (pv 1) pa_nil)))
      (pss_cons (ps_set (i := 4) sc_reshare.nd rfl (Or.inl rfl) (pe_f GP hr (Nat.le_refl _) (by rfl) (fun σ => passAt (takes_of rfl rfl rfl rfl) σ) (pa_cons (pv 2) pa_nil)))
      (pss_cons (ps_set (i := 5) sc_reshare.nd rfl (Or.inl rfl) (pe_op op_sub (pe_fld (pv 3) rfl) (pe_fld (pv 0) rfl)))
      (pss_cons (ps_if (pt_cmpR op_gt (pv 5) pe_int (nomark _))
        (pss_one (ps_fld (pv 3) (pe_op op_add (pe_fld (pv 0) rfl) (pe_op op_fdivN (pe_op op_mul (pv 5) (pv 4)) (pe_f GP hr (Nat.le_refl _) (by rfl) (fun σ => passAt (takes_of rfl rfl rfl rfl) σ) (pa_cons (pe_fld (pv 3) rfl) pa_nil)))) rfl)) pss_nil)
      (pss_one (ps_fld (pv 3) (pv 2) rfl))))), ?_⟩
    refine ⟨_, rfl, p, dx, _, rfl, hp, wf_no _ _ (by decide +kernel) (by decide +kernel), _, rfl, p, d, _, es, n, rfl, I, fun e he hn => ?_, fun z => k1 fun h => ?_⟩
    · have hh : Has W n := (has_of hrows).mpr ⟨e, he, hn⟩
      refine ⟨_, rfl, x, rfl, hx, fun i ei h1 h2 => ?_, fun z => k2 hh z⟩
      subst ei
      obtain ⟨dy, ha⟩ := I.sh e he
      refine ⟨_, rfl, e.2, CS, dy, _, _, rfl, ha, T.clS, T.aClock, sf_clock _ _ _, _, rfl, p, CW, dx, _, _, rfl, hp, T.clW, T.aPast, wf_past _ _, _, _, rfl, rfl, ?_⟩
      have ro := ok.rows e.1 (by rw [hrows]; exact List.mem_map.mpr ⟨e, he, rfl⟩)
      have c1 := Wm.stp_cases h1 h2
      have c2 := Wm.stp_cases ro.s1 ro.s2
      have W1 := I.set he (names_nd ok hrows) (Wm.shared W.past i) (fun _ => rfl) dy
      rw [hn] at W1
      have fin : WAt CW CS (upd H e.2 (.ins CS dy (sf (Wm.shared W.past i e.1).s (Wm.shared W.past i e.1).c (Wm.shared W.past i e.1).r))) p (Wm.reshare W n i) (p :: d :: es.map (·.2)) :=
        ⟨d, _, by rw [updE_rows, ← hrows]; rfl, by rw [updE_addrs], W1, ok.reshare n h1 h2⟩
      refine ⟨_, rfl, _, _, rfl, rfl, _, rfl, ?_⟩
      by_cases hb : W.past < e.1.c
      · rw [decide_eq_true (show (0 : Int) < e.1.c - W.past by omega)]
        refine iteT ?_
        refine ⟨_, rfl, p, CW, dx, _, _, rfl, hp, T.clW, T.aPast, wf_past _ _, _, rfl, _, rfl, _, _, rfl, rfl, .inr ⟨by omega, by omega⟩, _, rfl, e.2, CS, dy, _, _, rfl, ha, T.clS, T.aShare, sf_share _ _ _, .int e.1.s, rfl, .int _, fun i' ei' _ _ => ?_, fun z => ?_⟩
        · cases ei'
          refine ⟨_, _, rfl, rfl, ⟨by omega, by omega⟩, _, _, rfl, rfl, _, rfl, e.2, CS, dy, _, rfl, ha, T.clS, T.aClock, (by show 3 < 1000; decide), ?_⟩
          rw [sf_pclock]
          refine ⟨_, rfl, _, rfl, e.2, CS, dy, _, rfl, upd_same, T.clS, T.aShare, (by show 3 < 1000; decide), ?_⟩
          rw [upd_upd, sf_pshare]
          have ec : (Wm.shared W.past i e.1).c = W.past + Int.fdiv ((e.1.c - W.past) * Wm.stp i) (Wm.stp e.1.s) := by
            show (if W.past < e.1.c then _ else _) = _
            rw [if_pos hb]
          have es' : (Wm.shared W.past i e.1).s = i := rfl
          rw [ec] at fin
          exact k3 hh i rfl h1 h2 _ fin (step_upd (fp_s he))
        · exfalso
          have : (decide (1 ≤ e.1.s) && decide (e.1.s ≤ 12)) = false := z
          rw [decide_eq_true ro.s1, decide_eq_true ro.s2] at this
          cases this
      · rw [decide_eq_false (show ¬ (0 : Int) < e.1.c - W.past by omega)]
        refine iteF ?_
        refine ⟨_, rfl, _, rfl, e.2, CS, dy, _, rfl, ha, T.clS, T.aShare, (by show 3 < 1000; decide), ?_⟩
        rw [sf_pshare]
        have ec : (Wm.shared W.past i e.1).c = e.1.c := by
          show (if W.past < e.1.c then _ else _) = _
          rw [if_neg hb]
        rw [ec] at fin
        exact k3 hh i rfl h1 h2 _ fin (step_upd (fp_s he))
    · obtain ⟨y, hy, hn⟩ := (has_of hrows).mp h
      exact z y hy hn
theorem sc_wake : FnScope ["self", "name", "sharer"] ["self", "name"] (defScope sWheel_wake) := ⟨rfl, rfl, rfl, by decide +kernel, rfl, by decide +kernel, by decide +kernel⟩
theorem ok_wake {f : Addr} {fd : FuncData} (F : Fun K "wake" "Wheel.wake" sWheel_wake f fd) (T : WT K mg CS CW CB CT CN) (GS : MOk P w K mg base 2 CW "_sharer" ["self", "name"] (spSharer CW CS CN)) :
    FnOk P w K mg base (L2.CX P w) 3 f fd ["self", "name"] (spWake CW CS CN) := by
  refine F.okX sc_wake (fun vs H Q E h => ?_) (fun cdv A outer s H vs Q E hr h => ?_)
  · obtain ⟨p, W, fp, n, rfl, _⟩ := h
    rfl
  · obtain ⟨p, W, fp, n, rfl, ⟨d, es, hrows, rfl, I, ok⟩, k1, k2⟩ := h
    obtain ⟨dx, hp⟩ := I.ob
    refine ⟨_, pss_cons (ps_set (i := 2) sc_wake.nd rfl (Or.inl rfl) (pe_m GS T.clW hr (Nat.le_refl _) (fun σ => passAt (takes_of rfl rfl rfl rfl) σ) (pv 0) (pa_cons (pv 1) pa_nil)))
      (pss_cons (ps_if (pt_val (pe_fld (pv 2) rfl)) (pss_one (ps_ret pe_bl)) pss_nil)
      (pss_cons (ps_fld (pv 2) pe_bl rfl)
      (pss_cons (ps_fld (pv 2) (pe_callB (call_max2 rfl) (by rfl) T.max (by decide +kernel) (pa_cons (pe_fld (pv 2) rfl) (pa_cons (pe_fld (pv 0) rfl) pa_nil))) rfl)
      (pss_one (ps_ret pe_bl))))), ?_⟩
    refine ⟨_, rfl, p, dx, _, rfl, hp, wf_no _ _ (by decide +kernel) (by decide +kernel), _, rfl, p, d, _, es, n, rfl, I, fun e he hn => ?_, fun z => k1 fun h => ?_⟩
    · obtain ⟨dy, ha⟩ := I.sh e he
      have hm : e.1 ∈ W.rows := by rw [hrows]; exact List.mem_map.mpr ⟨e, he, rfl⟩
      have W1 := I.set he (names_nd ok hrows) (Wm.woken W.past) (Wm.woken_n _) dy
      rw [hn] at W1
      have fin : WAt CW CS (upd H e.2 (.ins CS dy (sf (Wm.woken W.past e.1).s (Wm.woken W.past e.1).c (Wm.woken W.past e.1).r))) p (Wm.wake W n) (p :: d :: es.map (·.2)) :=
        ⟨d, _, by rw [updE_rows, ← hrows]; rfl, by rw [updE_addrs], W1, ok.wake n⟩
      refine ⟨_, rfl, e.2, CS, dy, _, _, rfl, ha, T.clS, T.aReady, sf_ready _ _ _, _, rfl, ?_⟩
      cases er : e.1.r with
      | true =>
        refine iteT ?_
        have ew : Wm.woken W.past e.1 = e.1 := by
          unfold Wm.woken
          rw [if_pos er]
        rw [ew, upd_self ha] at fin
        have := k2 e.1 hm hn H fin (Step.refl _ _)
        rw [er] at this
        exact this
      | false =>
        refine iteF ?_
        rw [er] at ha
        refine ⟨_, rfl, e.2, CS, dy, _, rfl, ha, T.clS, T.aReady, (by show 3 < 1000; decide), ?_⟩
        rw [sf_pready]
        refine ⟨_, rfl, e.2, CS, dy, _, _, rfl, upd_same, T.clS, T.aClock, sf_clock _ _ _, _, rfl, p, CW, dx, _, _, rfl, (by rw [upd_ne (I.ne_ps he)]; exact hp), T.clW, T.aPast, wf_past _ _, _, _, rfl, _, rfl, e.2, CS, dy, _, rfl, upd_same, T.clS, T.aClock, (by show 3 < 1000; decide), ?_⟩
        rw [upd_upd, sf_pclock]
        have ew : Wm.woken W.past e.1 = { e.1 with c := if e.1.c < W.past then W.past else e.1.c, r := true } := by
          unfold Wm.woken
          rw [if_neg (by rw [er]; exact Bool.false_ne_true)]
        rw [ew] at fin
        have := k2 e.1 hm hn _ fin (step_upd (fp_s he))
        rw [er] at this
        exact this
    · obtain ⟨y, hy, hn⟩ := (has_of hrows).mp h
      exact z y hy hn
theorem sc_rest : FnScope ["self", "name", "sharer", "changed"] ["self", "name"] (defScope sWheel_rest) := ⟨rfl, rfl, rfl, by decide +kernel, rfl, by decide +kernel, by decide +kernel⟩
theorem ok_rest {f : Addr} {fd : FuncData} (F : Fun K "rest" "Wheel.rest" sWheel_rest f fd) (T : WT K mg CS CW CB CT CN) (GS : MOk P w K mg base 2 CW "_sharer" ["self", "name"] (spSharer CW CS CN)) :
    FnOk P w K mg base (L2.CX P w) 3 f fd ["self", "name"] (spRest CW CS CN) := by
  refine F.okX sc_rest (fun vs H Q E h => ?_) (fun cdv A outer s H vs Q E hr h => ?_)
  · obtain ⟨p, W, fp, n, rfl, _⟩ := h
    rfl
  · obtain ⟨p, W, fp, n, rfl, ⟨d, es, hrows, rfl, I, ok⟩, k1, k2⟩ := h
    obtain ⟨dx, hp⟩ := I.ob
    refine ⟨_, pss_cons (ps_set (i := 2) sc_rest.nd rfl (Or.inl rfl) (pe_m GS T.clW hr (Nat.le_refl _) (fun σ => passAt (takes_of rfl rfl rfl rfl) σ) (pv 0) (pa_cons (pv 1) pa_nil)))
      (pss_cons (ps_set (i := 3) sc_rest.nd rfl (Or.inl rfl) (pe_fld (pv 2) rfl))
      (pss_cons (ps_fld (pv 2) pe_bl rfl) (pss_one (ps_ret (pv 3))))), ?_⟩
    refine ⟨_, rfl, p, dx, _, rfl, hp, wf_no _ _ (by decide +kernel) (by decide +kernel), _, rfl, p, d, _, es, n, rfl, I, fun e he hn => ?_, fun z => k1 fun h => ?_⟩
    · obtain ⟨dy, ha⟩ := I.sh e he
      have hm : e.1 ∈ W.rows := by rw [hrows]; exact List.mem_map.mpr ⟨e, he, rfl⟩
      have W1 := I.set he (names_nd ok hrows) (fun x => { x with r := false }) (fun _ => rfl) dy
      rw [hn] at W1
      have fin : WAt CW CS (upd H e.2 (.ins CS dy (sf e.1.s e.1.c false))) p (Wm.rest W n) (p :: d :: es.map (·.2)) :=
        ⟨d, _, by rw [updE_rows, ← hrows]; rfl, by rw [updE_addrs], W1, ok.rest n⟩
      refine ⟨_, rfl, e.2, CS, dy, _, _, rfl, ha, T.clS, T.aReady, sf_ready _ _ _, _, rfl, e.2, CS, dy, _, rfl, ha, T.clS, T.aReady, (by show 3 < 1000; decide), ?_⟩
      rw [sf_pready]
      exact ⟨_, rfl, k2 e.1 hm hn _ fin (step_upd (fp_s he))⟩
    · obtain ⟨y, hy, hn⟩ := (has_of hrows).mp h
      exact z y hy hn
/-! ### who gets the turn -/
theorem best_take {l : List RowS} {i : Nat} {x : RowS} (h : l[i]? = some x) : Wm.best (l.take (i + 1)) = Wm.pick (Wm.best (l.take i)) x := by
  rw [List.take_succ, h]
  exact Wm.best_snoc _ _
def optC : Option RowS → Int
  | none => 0
  | some b => b.c
theorem sc_whose : FnScope ["self", "first", "least", "name", "sharer"] ["self"] (defScope sWheel_whose) := ⟨rfl, rfl, rfl, by decide +kernel, rfl, by decide +kernel, by decide +kernel⟩
theorem ok_whose {f : Addr} {fd : FuncData} (F : Fun K "whose" "Wheel.whose" sWheel_whose f fd) (T : WT K mg CS CW CB CT CN) : FnOk P w K mg base (L2.CX P w) 1 f fd ["self"] (spWhose CW CS) := by
  refine okN F sc_whose (fun vs H Q E h => ?_) (fun cdv A outer s H vs Q E hr h => ?_)
  · obtain ⟨p, W, fp, rfl, _⟩ := h
    rfl
  · obtain ⟨p, W, fp, rfl, ⟨d, es, hrows, rfl, I, ok⟩, k⟩ := h
    obtain ⟨dx, hp⟩ := I.ob
    refine ⟨_, pss_cons (ps_set (i := 1) sc_whose.nd rfl (Or.inl rfl) pe_non) (pss_cons (ps_set (i := 2) sc_whose.nd rfl (Or.inl rfl) pe_int)
      (pss_cons (ps_lock (ps_for PassesOwn.never rfl (pi_items (pe_fld (pv 0) rfl)) (pg_tup rfl (pgs_cons (pg_name (i := 3) sc_whose.nd rfl (Or.inl rfl)) (pgs_cons (pg_name (i := 4) sc_whose.nd rfl (Or.inl rfl)) pgs_nil)))
        (pss_one (ps_if (PW.pt (pw_and (pt_val (pe_fld (pv 4) rfl)) (pw_and1 (PW.pt (pw_or (pt_cmpR op_isN (pv 1) pe_non (nomark _)) (pw_or1 (pt_cmpR op_lt (pe_fld (pv 4) rfl) (pv 2) (nomark _))))))))
          (pss_cons (ps_set (i := 1) sc_whose.nd rfl (Or.inl rfl) (pv 3)) (pss_one (ps_set (i := 2) sc_whose.nd rfl (Or.inl rfl) (pe_fld (pv 4) rfl)))) pss_nil))))
      (pss_one (ps_ret (pv 1))))), ?_⟩
    refine ⟨d, .dK (kvs es), I.dc, trivial, fun od => ?_⟩
    have hp' : (upd H d (.frz od (.dK (kvs es)))) p = some (.ins CW dx (wf W.past d)) := by rw [upd_ne I.ne_pd]; exact hp
    refine ⟨_, rfl, p, CW, dx, _, _, rfl, hp', T.clW, T.aSh, wf_sh _ _, d, od, kvs es, rfl, upd_same, ?_⟩
    refine for_it (walk_items (d := d) (o := od) (kvs := kvs es)) (fun i σ H' => ∃ v3 v4, σ = [some (.ref p), some (optN ((Wm.best (W.rows.take i)).map (·.n))), some (.int (optC (Wm.best (W.rows.take i)))), v3, v4] ∧ Same (upd H d (.frz od (.dK (kvs es)))) H')
      ⟨none, none, rfl, Same.refl _⟩ (fun i σ H' _ ⟨_, _, _, sm⟩ => sm _ _ upd_same) ?_ ?_
    · rintro i y σ H1 H2 hi ⟨v3, v4, rfl, sm⟩ ⟨U, x, z, rfl, hU, rfl, e1, e2⟩
      have hi' : i < es.length := by rw [kvs_len] at hi; exact hi
      have ei : es[i]? = some es[i] := by simp [hi']
      generalize es[i] = en at ei
      have hen : en ∈ es := List.mem_of_getElem? ei
      have ek : (kvs es)[i]? = some (Sum.inr en.1.n, V.ref en.2) := by
        unfold kvs
        rw [List.getElem?_map, ei]
        rfl
      simp only [ek] at e1 e2
      have ex : x = .str en.1.n := (Option.some.inj e1).symm
      have ez : z = .ref en.2 := (Option.some.inj e2).symm
      subst ex ez
      obtain ⟨dy, ha⟩ := I.sh en hen
      have hr1 : W.rows[i]? = some en.1 := by rw [hrows, List.getElem?_map, ei]; rfl
      have sm2 : Same (upd H d (.frz od (.dK (kvs es)))) (upd H1 U (.tup [.str en.1.n, .ref en.2])) := sm.trans (same_upd hU)
      have ha' : ∀ {H3 : Hp}, Same (upd H d (.frz od (.dK (kvs es)))) H3 → H3 en.2 = some (.ins CS dy (sf en.1.s en.1.c en.1.r)) := fun sm => sm _ _ (by rw [upd_ne (I.ne_ds hen).symm]; exact ha)
      refine ⟨U, [.str en.1.n, .ref en.2], rfl, SqT.of upd_same, rfl, _, _, rfl, _, _, rfl, rfl, ?_⟩
      refine ⟨_, rfl, en.2, CS, dy, _, _, rfl, ha' sm2, T.clS, T.aReady, sf_ready _ _ _, _, rfl, ?_⟩
      have eb := best_take hr1
      generalize Wm.best (W.rows.take (i + 1)) = B1 at eb
      generalize Wm.best (W.rows.take i) = B0 at eb
      subst eb
      cases er : en.1.r with
      | false =>
        refine iteF (iteF ?_)
        have : Wm.pick B0 en.1 = B0 := by
          unfold Wm.pick
          cases B0 with
          | none => simp [er]
          | some b => simp [er]
        rw [this]
        exact ⟨_, _, rfl, sm2⟩
      | true =>
        refine iteT ⟨_, rfl, rfl, _, rfl, ?_⟩
        cases B0 with
        | none =>
          refine iteT (iteT ?_)
          have : Wm.pick none en.1 = some en.1 := by
            unfold Wm.pick
            simp [er]
          rw [this]
          refine ⟨_, rfl, _, rfl, en.2, CS, dy, _, _, rfl, ha' sm2, T.clS, T.aClock, sf_clock _ _ _, ?_⟩
          exact ⟨_, _, rfl, sm2⟩
        | some b =>
          refine iteF ⟨_, rfl, en.2, CS, dy, _, _, rfl, ha' sm2, T.clS, T.aClock, sf_clock _ _ _, _, rfl, _, _, rfl, rfl, _, rfl, ?_⟩
          have hp : Wm.pick (some b) en.1 = if en.1.c < b.c then some en.1 else some b := by
            unfold Wm.pick
            simp [er]
          show if decide (en.1.c < b.c) = true then _ else _
          by_cases q : en.1.c < b.c
          · rw [decide_eq_true q]
            refine iteT ?_
            rw [hp, if_pos q]
            refine ⟨_, rfl, _, rfl, en.2, CS, dy, _, _, rfl, ha' sm2, T.clS, T.aClock, sf_clock _ _ _, ?_⟩
            exact ⟨_, _, rfl, sm2⟩
          · rw [decide_eq_false q]
            refine iteF ?_
            rw [hp, if_neg q]
            exact ⟨_, _, rfl, sm2⟩
    · rintro σ H1 ⟨v3, v4, rfl, sm⟩
      refine ⟨sm _ _ upd_same, _, rfl, ?_⟩
      have : W.rows.take (kvs es).length = W.rows := by
        rw [kvs_len, List.take_of_length_le]
        rw [hrows, List.length_map]
        exact Nat.le_refl _
      rw [this]
      refine k _ fun b o e => ?_
      by_cases q : b = d
      · rw [q] at e ⊢
        rw [I.dc] at e
        cases e
        exact upd_same
      · rw [upd_ne q]
        exact sm _ _ (by rw [upd_ne q]; exact e)
theorem sc_turn : FnScope ["self", "name", "sharer"] ["self"] (defScope sWheel_turn) := ⟨rfl, rfl, rfl, by decide +kernel, rfl, by decide +kernel, by decide +kernel⟩
theorem ok_turn {f : Addr} {fd : FuncData} (F : Fun K "turn" "Wheel.turn" sWheel_turn f fd) (T : WT K mg CS CW CB CT CN) (GW : MOk P w K mg base 1 CW "whose" ["self"] (spWhose CW CS)) (GP : DOk P w K mg base 2 "step" ["share"] (spStep CB)) :
    FnOk P w K mg base (L2.CX P w) 3 f fd ["self"] (spTurn CW CS) := by
  refine okN F sc_turn (fun vs H Q E h => ?_) (fun cdv A outer s H vs Q E hr h => ?_)
  · obtain ⟨p, W, fp, rfl, _⟩ := h
    rfl
  · obtain ⟨p, W, fp, rfl, hW, k⟩ := h
    obtain ⟨d, es, hrows, rfl, I, ok⟩ := id hW
    obtain ⟨dx, hp⟩ := I.ob
    have hu := hu_of hr
    refine ⟨_, pss_cons (ps_set (i := 1) sc_turn.nd rfl (Or.inl rfl) (pe_m0 GW T.clW hr (by decide) (fun σ => passN σ) (pv 0)))
      (pss_cons (ps_if (pt_cmpR op_notN (pv 1) pe_non (nomark _))
        (pss_cons (ps_set (i := 2) sc_turn.nd rfl (Or.inl rfl) (pe_dget hu (pe_fld (pv 0) rfl) (pv 1) (fun _ _ => rfl)))
        (pss_cons (ps_fld (pv 0) (pe_fld (pv 2) rfl) rfl)
        (pss_one (ps_fldaug (pv 2) (pe_f GP hr (Nat.le_refl _) (by rfl) (fun σ => passN σ) (pa_cons (pe_fld (pv 2) rfl) pa_nil)) in_add)))) pss_nil)
      (pss_one (ps_ret (pv 1)))), ?_⟩
    refine ⟨_, rfl, p, dx, _, rfl, hp, wf_no _ _ (by decide +kernel) (by decide +kernel), p, W, _, rfl, hW, fun H1 sm => ?_⟩
    refine ⟨_, rfl, rfl, _, rfl, ?_⟩
    have I1 : WIn CW CS H1 p d W.past es := I.keep fun b _ o e => sm b o e
    cases eb : Wm.best W.rows with
    | none =>
      have ew : Wm.whose W = none := by
        unfold Wm.whose
        rw [eb]
        rfl
      rw [ew]
      refine iteF ⟨_, rfl, ?_⟩
      have := k H1 (by rw [Wm.turn_none eb]; exact hW.same sm) (.same sm)
      rw [ew] at this
      exact this
    | some b =>
      have ew : Wm.whose W = some b.n := by
        unfold Wm.whose
        rw [eb]
        rfl
      rw [ew]
      obtain ⟨_, hb, _⟩ := Wm.best_some eb
      have hb' := hb
      rw [hrows] at hb'
      obtain ⟨e, he, eq⟩ := List.mem_map.mp hb'
      subst eq
      obtain ⟨dy, ha⟩ := I1.sh e he
      have ro := ok.rows e.1 hb
      refine iteT ?_
      have g := DGet.k (k := Sum.inr e.1.n) I1.dc
      have g2 : valV (kvs es) (Sum.inr e.1.n : Key) = some (.ref e.2) := kvs_at (names_nd ok hrows) he
      rw [g2] at g
      refine ⟨_, rfl, p, CW, dx, _, _, rfl, sm _ _ hp, T.clW, T.aSh, wf_sh _ _, _, rfl, d, _, rfl, g, ?_⟩
      refine ⟨_, rfl, e.2, CS, dy, _, _, rfl, ha, T.clS, T.aClock, sf_clock _ _ _, _, rfl, p, CW, dx, _, rfl, sm _ _ hp, T.clW, T.aPast, (by show 2 < 1000; decide), ?_⟩
      rw [wf_ppast]
      have ha2 : (upd H1 p (.ins CW dx (wf e.1.c d))) e.2 = some (.ins CS dy (sf e.1.s e.1.c e.1.r)) := by rw [upd_ne (I1.ne_ps he).symm]; exact ha
      refine ⟨_, rfl, e.2, CS, dy, _, _, rfl, ha2, T.clS, T.aClock, sf_clock _ _ _, _, rfl, e.2, CS, dy, _, _, rfl, ha2, T.clS, T.aShare, sf_share _ _ _, .int e.1.s, rfl, .int _, fun i ei _ _ => ?_, fun z => ?_⟩
      · cases ei
        refine ⟨_, _, rfl, rfl, dy, _, ha2, (by show 3 < 1000; decide), ?_⟩
        rw [sf_pclock]
        refine ⟨_, rfl, ?_⟩
        have I2 := (I1.past (q' := e.1.c) dx).set he (names_nd ok hrows) (fun x => { x with c := x.c + Wm.stp x.s }) (fun _ => rfl) dy
        have := k _ ⟨d, updE es e.1.n (fun x => { x with c := x.c + Wm.stp x.s }), by rw [Wm.turn_some eb, updE_rows, ← hrows], by rw [updE_addrs], by rw [Wm.turn_some eb]; exact I2, (ok.turn).1⟩ ((Step.same sm).trans ((step_upd List.mem_cons_self).trans (step_upd (fp_s he))))
        rw [ew] at this
        exact this
      · exfalso
        have : (decide (1 ≤ e.1.s) && decide (e.1.s ≤ 12)) = false := z
        rw [decide_eq_true ro.s1, decide_eq_true ro.s2] at this
        cases this
theorem sc_names : FnScope ["self"] ["self"] (defScope sWheel_names) := ⟨rfl, rfl, rfl, by decide +kernel, rfl, by decide +kernel, by decide +kernel⟩
theorem ok_names {f : Addr} {fd : FuncData} (F : Fun K "names" "Wheel.names" sWheel_names f fd) (T : WT K mg CS CW CB CT CN) : FnOk P w K mg base (L2.CX P w) 1 f fd ["self"] (spNames CW CS) := by
  refine okN F sc_names (fun vs H Q E h => ?_) (fun cdv A outer s H vs Q E hr h => ?_)
  · obtain ⟨p, W, fp, rfl, _⟩ := h
    rfl
  · obtain ⟨p, W, fp, rfl, ⟨d, es, hrows, rfl, I, ok⟩, k⟩ := h
    obtain ⟨dx, hp⟩ := I.ob
    refine ⟨_, pss_one (ps_ret (pe_callTy (call_list_dK rfl) (by rfl) T.list (by decide +kernel) (pa_cons (pe_fld (pv 0) rfl) pa_nil))), ?_⟩
    refine ⟨_, rfl, p, CW, dx, _, _, rfl, hp, T.clW, T.aSh, wf_sh _ _, d, _, rfl, I.dc, fun l hl => ?_⟩
    have := k l hl
    rw [hrows, List.map_map] at this
    unfold kvs
    rw [List.map_map]
    exact this
theorem sc_clock_of : FnScope ["self", "name"] ["self", "name"] (defScope sWheel_clock_of) := ⟨rfl, rfl, rfl, by decide +kernel, rfl, by decide +kernel, by decide +kernel⟩
theorem ok_clock_of {f : Addr} {fd : FuncData} (F : Fun K "clock_of" "Wheel.clock_of" sWheel_clock_of f fd) (T : WT K mg CS CW CB CT CN) (GS : MOk P w K mg base 2 CW "_sharer" ["self", "name"] (spSharer CW CS CN)) :
    FnOk P w K mg base (L2.CX P w) 3 f fd ["self", "name"] (spAsk CW CS CN fun x => .int x.c) := by
  refine F.okX sc_clock_of (fun vs H Q E h => ?_) (fun cdv A outer s H vs Q E hr h => ?_)
  · obtain ⟨p, W, fp, n, rfl, _⟩ := h
    rfl
  · obtain ⟨p, W, fp, n, rfl, ⟨d, es, hrows, rfl, I, ok⟩, k1, k2⟩ := h
    obtain ⟨dx, hp⟩ := I.ob
    refine ⟨_, pss_one (ps_ret (pe_fld (pe_m GS T.clW hr (Nat.le_refl _) (fun σ => passAt (takes_of rfl rfl rfl rfl) σ) (pv 0) (pa_cons (pv 1) pa_nil)) rfl)), ?_⟩
    refine ⟨_, rfl, p, dx, _, rfl, hp, wf_no _ _ (by decide +kernel) (by decide +kernel), _, rfl, p, d, _, es, n, rfl, I, fun e he hn => ?_, fun z => k1 fun h => ?_⟩
    · obtain ⟨dy, ha⟩ := I.sh e he
      exact ⟨e.2, CS, dy, _, _, rfl, ha, T.clS, T.aClock, sf_clock _ _ _, k2 e.1 (by rw [hrows]; exact List.mem_map.mpr ⟨e, he, rfl⟩) hn⟩
    · obtain ⟨y, hy, hn⟩ := (has_of hrows).mp h
      exact z y hy hn
theorem sc_share_of : FnScope ["self", "name"] ["self", "name"] (defScope sWheel_share_of) := ⟨rfl, rfl, rfl, by decide +kernel, rfl, by decide +kernel, by decide +kernel⟩
theorem ok_share_of {f : Addr} {fd : FuncData} (F : Fun K "share_of" "Wheel.share_of" sWheel_share_of f fd) (T : WT K mg CS CW CB CT CN) (GS : MOk P w K mg base 2 CW "_sharer" ["self", "name"] (spSharer CW CS CN)) :
    FnOk P w K mg base (L2.CX P w) 3 f fd ["self", "name"] (spAsk CW CS CN fun x => .int x.s) := by
  refine F.okX sc_share_of (fun vs H Q E h => ?_) (fun cdv A outer s H vs Q E hr h => ?_)
  · obtain ⟨p, W, fp, n, rfl, _⟩ := h
    rfl
  · obtain ⟨p, W, fp, n, rfl, ⟨d, es, hrows, rfl, I, ok⟩, k1, k2⟩ := h
    obtain ⟨dx, hp⟩ := I.ob
    refine ⟨_, pss_one (ps_ret (pe_fld (pe_m GS T.clW hr (Nat.le_refl _) (fun σ => passAt (takes_of rfl rfl rfl rfl) σ) (pv 0) (pa_cons (pv 1) pa_nil)) rfl)), ?_⟩
    refine ⟨_, rfl, p, dx, _, rfl, hp, wf_no _ _ (by decide +kernel) (by decide +kernel), _, rfl, p, d, _, es, n, rfl, I, fun e he hn => ?_, fun z => k1 fun h => ?_⟩
    · obtain ⟨dy, ha⟩ := I.sh e he
      exact ⟨e.2, CS, dy, _, _, rfl, ha, T.clS, T.aShare, sf_share _ _ _, k2 e.1 (by rw [hrows]; exact List.mem_map.mpr ⟨e, he, rfl⟩) hn⟩
    · obtain ⟨y, hy, hn⟩ := (has_of hrows).mp h
      exact z y hy hn
theorem sc_is_ready : FnScope ["self", "name"] ["self", "name"] (defScope sWheel_is_ready) := ⟨rfl, rfl, rfl, by decide +kernel, rfl, by decide +kernel, by decide +kernel⟩
theorem ok_is_ready {f : Addr} {fd : FuncData} (F : Fun K "is_ready" "Wheel.is_ready" sWheel_is_ready f fd) (T : WT K mg CS CW CB CT CN) (GS : MOk P w K mg base 2 CW "_sharer" ["self", "name"] (spSharer CW CS CN)) :
    FnOk P w K mg base (L2.CX P w) 3 f fd ["self", "name"] (spAsk CW CS CN fun x => .bl x.r) := by
  refine F.okX sc_is_ready (fun vs H Q E h => ?_) (fun cdv A outer s H vs Q E hr h => ?_)
  · obtain ⟨p, W, fp, n, rfl, _⟩ := h
    rfl
  · obtain ⟨p, W, fp, n, rfl, ⟨d, es, hrows, rfl, I, ok⟩, k1, k2⟩ := h
    obtain ⟨dx, hp⟩ := I.ob
    refine ⟨_, pss_one (ps_ret (pe_fld (pe_m GS T.clW hr (Nat.le_refl _) (fun σ => passAt (takes_of rfl rfl rfl rfl) σ) (pv 0) (pa_cons (pv 1) pa_nil)) rfl)), ?_⟩
    refine ⟨_, rfl, p, dx, _, rfl, hp, wf_no _ _ (by decide +kernel) (by decide +kernel), _, rfl, p, d, _, es, n, rfl, I, fun e he hn => ?_, fun z => k1 fun h => ?_⟩
    · obtain ⟨dy, ha⟩ := I.sh e he
      exact ⟨e.2, CS, dy, _, _, rfl, ha, T.clS, T.aReady, sf_ready _ _ _, k2 e.1 (by rw [hrows]; exact List.mem_map.mpr ⟨e, he, rfl⟩) hn⟩
    · obtain ⟨y, hy, hn⟩ := (has_of hrows).mp h
      exact z y hy hn
theorem sc_copied : FnScope ["self", "other", "name", "sharer"] ["self"] (defScope sWheel_copied) := ⟨rfl, rfl, rfl, by decide +kernel, rfl, by decide +kernel, by decide +kernel⟩
theorem ok_copied {f : Addr} {fd : FuncData} (F : Fun K "copied" "Wheel.copied" sWheel_copied f fd) (T : WT K mg CS CW CB CT CN) (MW : KOk P w K mg base 1 "Wheel" CW ["self"] (spWInit CW CS)) (GC : MOk P w K mg base 3 CS "copied" ["self"] (spSCopied CS)) :
    FnOk P w K mg base (L2.CX P w) 4 f fd ["self"] (spCopied CW CS) := by
  refine okN F sc_copied (fun vs H Q E h => ?_) (fun cdv A outer s H vs Q E hr h => ?_)
  · obtain ⟨p, W, fp, rfl, _⟩ := h
    rfl
  · obtain ⟨p, W, fp, rfl, ⟨d, es, hrows, rfl, I, ok⟩, hlen, k⟩ := h
    obtain ⟨dx, hp⟩ := I.ob
    refine ⟨_, pss_cons (ps_set (i := 1) sc_copied.nd rfl (Or.inl rfl) (pe_k0 MW hr (by decide) rfl))
      (pss_cons (ps_fld (pv 1) (pe_fld (pv 0) rfl) rfl)
      (pss_cons (ps_fld (pv 1) (pe_lock (pe_dc (own := [("name", 2), ("sharer", 3)]) (g := gTup K 2 (gCons (gName 2) (gCons (gName 3) gNil))) (tt := tYes) (tk := tVar 2) (tv := tMe CS "copied" (spSCopied CS) (fun _ => E0) (tVar 3) tNil) rfl sc_copied.nd (pi_items (pe_fld (pv 0) rfl))
          (blkOk_by (N := ["self", "other", "name", "sharer"]) (sc := defScope sWheel_copied) (by decide +kernel)) (fun _ _ _ _ _ => pg_tup rfl (pgs_cons (pg_name (i := 2) sc_copied.nd rfl (Or.inl rfl)) (pgs_cons (pg_name (i := 3) sc_copied.nd rfl (Or.inl rfl)) pgs_nil))) (fun _ _ _ _ _ => pts_nil) (fun _ _ _ _ _ => pv 2)
          (fun _ _ _ _ _ => by exact pe_m0 GC T.clS hr (Nat.le_refl _) (fun σ => passN σ) (pv 3)))) rfl)
      (pss_one (ps_ret (pv 1))))), ?_⟩
    intro p2 dxw hxw hdw _
    refine mk_wheel hxw hdw fun H1 fp2 w1 s1 n1 => ⟨rfl, ?_⟩
    obtain ⟨d2, es2, hr2, rfl, I2, _⟩ := w1
    have e2 : es2 = [] := by
      cases es2 with
      | nil => rfl
      | cons a l => cases hr2
    subst e2
    obtain ⟨dx2, hp2⟩ := I2.ob
    refine ⟨_, rfl, p, CW, dx, _, _, rfl, s1 _ _ hp, T.clW, T.aPast, wf_past _ _, _, rfl, p2, CW, dx2, _, rfl, hp2, T.clW, T.aPast, (by show 2 < 1000; decide), ?_⟩
    rw [wf_ppast]
    have np2 : H p2 = none := n1 p2 List.mem_cons_self
    have nd2 : H d2 = none := n1 d2 (List.mem_cons_of_mem _ List.mem_cons_self)
    generalize hH2 : upd H1 p2 (.ins CW dx2 (wf W.past d2)) = H2
    have s2 : Same H H2 := fun b o e => by
      rw [← hH2, upd_ne (ne_of_none e np2)]
      exact s1 b o e
    have hp2' : H2 p2 = some (.ins CW dx2 (wf W.past d2)) := by rw [← hH2]; exact upd_same
    have I3 : WIn CW CS H2 p d W.past es := I.keep fun b _ o e => s2 b o e
    have n2d : p2 ≠ d := fun z => by
      have := I.dc
      rw [← z, np2] at this
      cases this
    refine ⟨d, .dK (kvs es), I3.dc, trivial, fun od => ?_⟩
    generalize hHb : upd H2 d (.frz od (.dK (kvs es))) = Hb
    have hpb : Hb p = some (.ins CW dx (wf W.past d)) := by rw [← hHb, upd_ne I.ne_pd]; exact s2 _ _ hp
    have hdb : Hb d = some (.frz od (.dK (kvs es))) := by rw [← hHb]; exact upd_same
    have h2b : Hb p2 = some (.ins CW dx2 (wf W.past d2)) := by rw [← hHb, upd_ne n2d]; exact hp2'
    have fresh : ∀ {b : Addr}, Hb b = none → H b = none := fun {b} e => by
      cases q : H b with
      | none => rfl
      | some o =>
        by_cases z : b = d
        · rw [z, hdb] at e
          cases e
        · rw [← hHb, upd_ne z, s2 _ _ q] at e
          cases e
    refine ⟨_, rfl, p, CW, dx, _, _, rfl, hpb, T.clW, T.aSh, wf_sh _ _, d, od, kvs es, rfl, hdb, fun D hD => ?_⟩
    have nn := names_nd ok hrows
    refine dc_it (walk_items (d := d) (o := od) (kvs := kvs es)) (fun i H' => Same Hb H' ∧ ∃ es' : List En, H' D = some (.dK (kvs es')) ∧ es'.map (·.1) = (es.map (·.1)).take i ∧ (∀ e ∈ es', Hb e.2 = none ∧ e.2 ≠ D ∧ ∃ dy, H' e.2 = some (.ins CS dy (sf e.1.s e.1.c e.1.r))) ∧ (es'.map (·.2)).Nodup)
      ⟨same_upd hD, [], upd_same, rfl, fun e he => (nomatch he), List.nodup_nil⟩ (fun i H' _ h => h.1 _ _ hdb) ?_ ?_
    · rintro i y H3 H4 hi ⟨sm, es', hD', hrow, hsh, hnd⟩ ⟨U, x, z, rfl, hU, rfl, e1, e2⟩
      have hi' : i < es.length := by rw [kvs_len] at hi; exact hi
      have ei : es[i]? = some es[i] := by simp [hi']
      generalize es[i] = en at ei
      have hen : en ∈ es := List.mem_of_getElem? ei
      have ek : (kvs es)[i]? = some (Sum.inr en.1.n, V.ref en.2) := by
        unfold kvs
        rw [List.getElem?_map, ei]
        rfl
      simp only [ek] at e1 e2
      have ex : x = .str en.1.n := (Option.some.inj e1).symm
      have ez : z = .ref en.2 := (Option.some.inj e2).symm
      subst ex ez
      obtain ⟨dy, ha⟩ := I3.sh en hen
      have hab : Hb en.2 = some (.ins CS dy (sf en.1.s en.1.c en.1.r)) := by rw [← hHb, upd_ne (I.ne_ds hen).symm]; exact ha
      have nUa : en.2 ≠ U := ne_of_none (sm _ _ hab) hU
      refine ⟨U, [.str en.1.n, .ref en.2], rfl, SqT.of upd_same, rfl, _, _, rfl, _, _, rfl, rfl, rfl, ?_⟩
      refine ⟨_, rfl, _, rfl, en.2, dy, _, rfl, (by rw [upd_ne nUa]; exact sm _ _ hab), sf_no _ _ _ (by decide +kernel) (by decide +kernel) (by decide +kernel), ?_⟩
      refine ⟨en.2, dy, _, _, _, rfl, (by rw [upd_ne nUa]; exact sm _ _ hab), fun b dz H5 hb s5 eb => ?_⟩
      have sU := same_upd (o := .tup [V.str en.1.n, V.ref en.2]) hU
      have nbU : b ≠ U := fun z => by
        rw [z, upd_same] at hb
        cases hb
      have hb3 : H3 b = none := by
        rw [upd_ne nbU] at hb
        exact hb
      have hbb : Hb b = none := sm.free hb3
      have nbD : b ≠ D := fun z => by
        rw [z, hD'] at hb3
        cases hb3
      have hl : es'.length ≤ es.length := by
        have := congrArg List.length hrow
        rw [List.length_map, List.length_take, List.length_map] at this
        omega
      have hle : es.length ≤ 1000 := by
        rw [hrows, List.length_map] at hlen
        exact hlen
      refine ⟨kvs es', Sum.inr en.1.n, rfl, s5 _ _ (sU _ _ hD'), small1000 (by rw [kvs_len]; omega), fun c o e => ?_, es' ++ [(en.1, b)], ?_, ?_, fun e he => ?_, ?_⟩
      · by_cases q : c = D
        · rw [q, hD] at e
          cases e
        · rw [upd_ne q]
          exact s5 _ _ (sU _ _ (sm _ _ e))
      · rw [upd_same]
        have nk : valV (kvs es') (Sum.inr en.1.n : Key) = none := by
          cases q : valV (kvs es') (Sum.inr en.1.n : Key) with
          | none => rfl
          | some v =>
            exfalso
            obtain ⟨e', he', hn', _⟩ := kvs_some q
            have : e'.1 ∈ (es.map (·.1)).take i := by rw [← hrow]; exact List.mem_map.mpr ⟨e', he', rfl⟩
            obtain ⟨j, hj⟩ := List.getElem?_of_mem this
            rw [List.getElem?_take] at hj
            have hj2 : j < i := by
              rcases Nat.lt_or_ge j i with q2 | q2
              · exact q2
              · rw [if_neg (by omega)] at hj
                cases hj
            rw [if_pos hj2] at hj
            have a1 : (es.map (·.1.n))[j]? = some en.1.n := by
              rw [← hn', show (es.map (·.1.n)) = (es.map (·.1)).map (·.n) by rw [List.map_map]; rfl, List.getElem?_map, hj]
              rfl
            have a2 : (es.map (·.1.n))[i]? = some en.1.n := by rw [List.getElem?_map, ei]; rfl
            have := nd_ix nn a1 a2
            omega
        rw [putK_new _ nk]
        unfold kvs
        rw [List.map_append]
        rfl
      · rw [List.map_append, hrow, List.take_succ, List.getElem?_map, ei]
        rfl
      · rcases List.mem_append.mp he with he | he
        · obtain ⟨g1, g2, dw, g3⟩ := hsh e he
          exact ⟨g1, g2, dw, by rw [upd_ne g2]; exact s5 _ _ (sU _ _ g3)⟩
        · rw [List.mem_singleton.mp he]
          exact ⟨hbb, nbD, dz, by rw [upd_ne nbD]; exact eb⟩
      · rw [List.map_append]
        refine Wm.nd_snoc hnd fun z => ?_
        obtain ⟨e', he', eq⟩ := List.mem_map.mp z
        obtain ⟨_, _, dw, g3⟩ := hsh e' he'
        rw [eq, hb3] at g3
        cases g3
    · rintro H3 ⟨sm, es', hD', hrow, hsh, hnd⟩
      refine ⟨sm _ _ hdb, _, rfl, p2, CW, dx2, _, rfl, (by rw [upd_ne n2d]; exact sm _ _ h2b), T.clW, T.aSh, (by show 2 < 1000; decide), ?_⟩
      rw [wf_psh]
      refine ⟨_, rfl, ?_⟩
      have full : es'.map (·.1) = es.map (·.1) := by
        rw [hrow, List.take_of_length_le]
        rw [kvs_len, List.length_map]
        exact Nat.le_refl _
      have nDd : D ≠ d := fun z => by
        rw [z, hdb] at hD
        cases hD
      have nDp : D ≠ p2 := fun z => by
        rw [z, h2b] at hD
        cases hD
      have nep : ∀ e ∈ es', e.2 ≠ p2 ∧ e.2 ≠ d := fun e he => by
        obtain ⟨g1, _⟩ := hsh e he
        refine ⟨fun z => ?_, fun z => ?_⟩
        · rw [z, h2b] at g1
          cases g1
        · rw [z, hdb] at g1
          cases g1
      refine k p2 (p2 :: D :: es'.map (·.2)) _ ⟨D, es', by rw [full]; exact hrows, rfl, ⟨⟨dx2, upd_same⟩, ?_, fun e he => ?_, hnd⟩, ok⟩ (fun b o e => ?_) fun b hb => ?_
      · rw [upd_ne nDp, upd_ne nDd]
        exact hD'
      · obtain ⟨g1, g2⟩ := nep e he
        obtain ⟨_, _, dw, g3⟩ := hsh e he
        exact ⟨dw, by rw [upd_ne g1, upd_ne g2]; exact g3⟩
      · rw [upd_ne (ne_of_none e np2)]
        by_cases q : b = d
        · rw [q] at e ⊢
          rw [upd_same, ← e]
          exact I.dc.symm
        · rw [upd_ne q]
          exact sm _ _ (by rw [← hHb, upd_ne q]; exact s2 _ _ e)
      · rcases List.mem_cons.mp hb with rfl | hb
        · exact np2
        rcases List.mem_cons.mp hb with rfl | hb
        · exact fresh hD
        obtain ⟨e, he, rfl⟩ := List.mem_map.mp hb
        exact fresh (hsh e he).1
end

/-! ### rows by their place -/
theorem upd_set {l : List RowS} (nd : (l.map (·.n)).Nodup) {k : Nat} {x : RowS} (h : l[k]? = some x) (f : RowS → RowS) : Wm.upd l x.n f = l.set k (f x) := by
  unfold Wm.upd
  apply List.ext_getElem?
  intro j
  rw [List.getElem?_map, List.getElem?_set]
  by_cases q : k = j
  · subst q
    rw [h, if_pos rfl]
    obtain ⟨hk, _⟩ := List.getElem?_eq_some_iff.mp h
    rw [if_pos hk]
    show some (if x.n = x.n then f x else x) = _
    rw [if_pos rfl]
  · rw [if_neg q]
    cases e : l[j]? with
    | none => rfl
    | some y =>
      show some (if y.n = x.n then f y else y) = some y
      rw [if_neg]
      intro z
      apply q
      have a1 : (l.map (·.n))[k]? = some x.n := by rw [List.getElem?_map, h]; rfl
      have a2 : (l.map (·.n))[j]? = some x.n := by rw [List.getElem?_map, e]; exact congrArg some z
      exact nd_ix nd a1 a2
theorem set_at {α : Type} {l : List α} {k : Nat} {x : α} (h : l[k]? = some x) : l.set k x = l := by
  apply List.ext_getElem?
  intro j
  rw [List.getElem?_set]
  by_cases q : k = j
  · subst q
    obtain ⟨hk, _⟩ := List.getElem?_eq_some_iff.mp h
    rw [if_pos rfl, if_pos hk, h]
  · rw [if_neg q]
theorem map_set {α β : Type} (g : α → β) (l : List α) (k : Nat) (x : α) : (l.set k x).map g = (l.map g).set k (g x) := List.map_set
theorem at_map {α β : Type} {l : List α} {k : Nat} {x : α} (g : α → β) (h : l[k]? = some x) : (l.map g)[k]? = some (g x) := by
  rw [List.getElem?_map, h]
  rfl
/-- the rows of W have these names, by places -/
theorem row_at {l : List RowS} {nm : Nat → Str} {m : Nat} (h : l.map (·.n) = (List.range m).map nm) {k : Nat} (hk : k < m) : ∃ x, l[k]? = some x ∧ x.n = nm k := by
  have a : (l.map (·.n))[k]? = some (nm k) := by
    rw [h, List.getElem?_map, List.getElem?_range hk]
    rfl
  rw [List.getElem?_map] at a
  cases e : l[k]? with
  | none =>
    rw [e] at a
    cases a
  | some x =>
    rw [e] at a
    exact ⟨x, rfl, Option.some.inj a⟩
theorem len_rows {l : List RowS} {nm : Nat → Str} {m : Nat} (h : l.map (·.n) = (List.range m).map nm) : l.length = m := by
  have := congrArg List.length h
  rw [List.length_map, List.length_map, List.length_range] at this
  exact this
theorem map_at {β : Type} {m k : Nat} (f : Nat → β) (hk : k < m) : ((List.range m).map f)[k]? = some (f k) := by
  rw [List.getElem?_map, List.getElem?_range hk]
  rfl
theorem range_snoc {β : Type} (f : Nat → β) (i : Nat) : (List.range (i + 1)).map f = (List.range i).map f ++ [f i] := by
  rw [List.range_succ, List.map_append]
  rfl
theorem small5000 {n : Nat} (h : n ≤ 5000) : n < sizeLine := Nat.lt_of_le_of_lt h (by decide)
/-! ### a text so many times -/
theorem foldl_app (xs : Array Nat) : ∀ (n : Nat) (acc : Array Nat), ((List.replicate n xs).foldl (fun x y => x ++ y) acc).toList = acc.toList ++ (List.replicate n xs.toList).flatten
  | 0, acc => by simp
  | n + 1, acc => by
    rw [List.replicate_succ, List.foldl_cons, foldl_app xs n (acc ++ xs), List.replicate_succ, List.flatten_cons, Array.toList_append, List.append_assoc]
theorem mul_codes (z : Str) (i : Int) : (Txt.mul z i).cps.toList = (List.replicate i.toNat z.cps.toList).flatten := by
  unfold Txt.mul
  by_cases h1 : i < 1
  · rw [if_pos h1]
    have : i.toNat = 0 := by omega
    rw [this]
    rfl
  · rw [if_neg h1]
    by_cases h2 : (i == 1 || z.length == 0) = true
    · rw [if_pos h2]
      rw [Bool.or_eq_true] at h2
      rcases h2 with h2 | h2
      · have : i = 1 := by simpa using h2
        subst this
        simp
      · have : z.cps.size = 0 := by
          have : z.length = 0 := by simpa using h2
          exact this
        have e : z.cps.toList = [] := by
          rw [← List.length_eq_zero_iff, Array.length_toList]
          exact this
        rw [e]
        induction i.toNat with
        | zero => rfl
        | succ n ih => rw [List.replicate_succ, List.flatten_cons, ← ih]; rfl
    · rw [if_neg h2]
      show ((List.replicate i.toNat z.cps).foldl (fun x y => x ++ y) #[]).toList = _
      rw [foldl_app]
      rfl
theorem op_mul_str {X : Cx} : OpR X (binaryOp .Mult) (fun x y H Q => ∃ z i, x = .str z ∧ y = .int i ∧ z.length ≤ 16 ∧ 0 ≤ i ∧ i ≤ 1048576 ∧ Q (.str (Txt.mul z i)) H) := by
  intro pins s σ H x y v u Q I rx ry h
  obtain ⟨z, i, rfl, rfl, h1, h2, h3, q⟩ := h
  obtain ⟨t, rfl⟩ := rx
  obtain ⟨t', rfl⟩ := ry
  refine SB.mul (mulOk_of 16 1048576 h1 h3 (by omega) (by decide) (by decide)) fun t2 k => ⟨.str (Txt.mul z i), H, I.tok k, ⟨t2, rfl⟩, q⟩
theorem ext_codes {x y : Str} (h : x.cps.toList = y.cps.toList) : x = y := by
  cases x
  cases y
  congr 1
  exact Array.toList_inj.mp h
theorem codes_app (x y : Str) : (x ++ y).cps.toList = x.cps.toList ++ y.cps.toList := by
  show (x.cps ++ y.cps).toList = _
  rw [Array.toList_append]
theorem codes_len (x : Str) : x.cps.toList.length = x.length := Array.length_toList
theorem mul_len (z : Str) (i : Nat) : (Txt.mul z (i : Int)).length = i * z.length := by
  rw [← codes_len, mul_codes, Int.toNat_natCast]
  induction i with
  | zero => simp
  | succ n ih => rw [List.replicate_succ, List.flatten_cons, List.length_append, ih, codes_len, Nat.succ_mul, Nat.add_comm]
/-! ### what all laws share -/
/-- any whole number comes -/
def spCell (K : PySem.W.Frag) : Sp := fun vs H Q _ => ∃ (a : Addr) (ns : List Int) (k : Int), vs = [.ref a, .int k] ∧ SqL K H a (ns.map V.int) ∧ 0 ≤ k ∧ ∀ z : Int, Q (.int z) H
def spTruth : Sp := fun vs H Q _ => ∃ b c, vs = [.bl b, .bl c] ∧ Q (.bl (decide (b = c))) H
/-- the script: a list that is locked, or of the written part -/
def Scr (K : PySem.W.Frag) (H : Hp) (a : Addr) (xs : List V) : Prop :=
  (∃ o, H a = some (.frz o (.lst xs))) ∨ (∃ (o : Obj) (its : Array Value) (n : Nat), K.lookup a = some o ∧ o.cls = .type "list" ∧ o.dict = none ∧ o.data = .seq its n ∧ its.size ≤ sizeLine ∧ Vals xs its.toList)
theorem Scr.sq {K : PySem.W.Frag} {H : Hp} {a : Addr} {xs : List V} (h : Scr K H a xs) : SqL K H a xs := by
  rcases h with h | h
  · exact .inl (.inr h)
  · exact .inr h
theorem Scr.of {K : PySem.W.Frag} {H : Hp} {a : Addr} {xs : List V} (hO : Only H) (h : SqL K H a xs) : Scr K H a xs := by
  rcases h with (h | h) | h
  · rcases hO a with q | ⟨o, ys, q⟩
    · rw [h] at q
      cases q
    · rw [h] at q
      cases q
  · exact .inl h
  · exact .inr h
theorem Scr.same {K : PySem.W.Frag} {H H' : Hp} {a : Addr} {xs : List V} (h : Scr K H a xs) (s : Same H H') : Scr K H' a xs := by
  rcases h with ⟨o, h⟩ | h
  · exact .inl ⟨o, s _ _ h⟩
  · exact .inr h
/-- through the store of what is no locked thing -/
theorem Scr.upd {K : PySem.W.Frag} {H : Hp} {a l : Addr} {xs : List V} {u v : HO} (h : Scr K H a xs) (e : H l = some u) (n : ∀ o w, u ≠ .frz o w) : Scr K (upd H l v) a xs := by
  rcases h with ⟨o, h⟩ | h
  · exact .inl ⟨o, by rw [upd_ne (fun z => by rw [z, e] at h; exact n _ _ (Option.some.inj h))]; exact h⟩
  · exact .inr h
theorem Scr.upl {K : PySem.W.Frag} {H : Hp} {a l : Addr} {xs ys : List V} {v : HO} (h : Scr K H a xs) (e : H l = some (.lst ys)) : Scr K (L2.upd H l v) a xs := h.upd e fun _ _ z => by cases z
theorem WAt.scr {CW CS : Addr} {H H' : Hp} {p : Addr} {W : WhS} {fp : List Addr} (h : WAt CW CS H p W fp) (k : Kept fp H H') {K : PySem.W.Frag} {a : Addr} {xs : List V} (e : Scr K H a xs) : Scr K H' a xs := by
  rcases e with ⟨o, e⟩ | e
  · exact .inl ⟨o, k _ _ e (h.frz e)⟩
  · exact .inr e
def spLaw (K : PySem.W.Frag) : Sp := fun vs H Q _ => ∃ (a : Addr) (ns : List Int), vs = [.ref a] ∧ Scr K H a (ns.map V.int) ∧ ns.length ≤ 63 ∧ ∀ H', Q (.bl true) H'
theorem ty_bl {K : PySem.W.Frag} {H : Hp} (b : Bool) : TyX K H (.bl b) (.type "bool") := .base (.bl b)
theorem ty_int {K : PySem.W.Frag} {H : Hp} (i : Int) : TyX K H (.int i) (.type "int") := .base (.int i)
theorem ty_str {K : PySem.W.Frag} {H : Hp} (z : Str) : TyX K H (.str z) (.type "str") := .base (.str z)
theorem kbb {K : PySem.W.Frag} : PySem.W.kitOne K (.type "bool") (.type "bool") = some true := kit_ty (by show kitB "bool" "bool" = some true; decide +kernel)
theorem kib {K : PySem.W.Frag} : PySem.W.kitOne K (.type "int") (.type "bool") = some false := kit_ty (by show kitB "int" "bool" = some false; decide +kernel)
theorem kii {K : PySem.W.Frag} : PySem.W.kitOne K (.type "int") (.type "int") = some true := kit_ty (by show kitB "int" "int" = some true; decide +kernel)
theorem kss {K : PySem.W.Frag} : PySem.W.kitOne K (.type "str") (.type "str") = some true := kit_ty (by show kitB "str" "str" = some true; decide +kernel)
section
variable {P : Program} {w : World} {K : PySem.W.Frag} {mg : Str → Option Value} {base : Heap} {CS CW CB CT CN : Addr}
theorem sc_L_cell_at : FnScope ["_law_script", "_law_k"] ["_law_script", "_law_k"] (defScope s_L_cell_at) := ⟨rfl, rfl, rfl, by decide +kernel, rfl, by decide +kernel, by decide +kernel⟩
theorem ok_L_cell_at {f : Addr} {fd : FuncData} (F : Fun K "_law_cell_at" "_law_cell_at" s_L_cell_at f fd) (T : WT K mg CS CW CB CT CN) (L : LT mg) :
    FnOk P w K mg base (L2.CX P w) 1 f fd ["_law_script", "_law_k"] (spCell K) := by
  refine okN F sc_L_cell_at (fun vs H Q E h => ?_) (fun cdv A outer s H vs Q E hr h => ?_)
  · (first | (obtain ⟨_, rfl, _⟩ := h; rfl) | (obtain ⟨_, _, rfl, _⟩ := h; rfl) | (obtain ⟨_, _, _, rfl, _⟩ := h; rfl) | (obtain ⟨_, _, _, _, rfl, _⟩ := h; rfl) | (obtain ⟨_, _, _, _, _, rfl, _⟩ := h; rfl) | (obtain ⟨_, _, _, _, _, _, rfl, _⟩ := h; rfl) | (obtain ⟨_, _, _, _, _, _, _, rfl, _⟩ := h; rfl) | (obtain ⟨_, _, _, _, _, _, _, _, rfl, _⟩ := h; rfl) | (obtain ⟨_, _, _, _, _, _, _, _, _, rfl, _⟩ := h; rfl) | (obtain ⟨_, _, _, _, _, _, _, _, _, _, rfl, _⟩ := h; rfl) | (obtain ⟨_, _, _, _, _, _, _, _, _, _, _, rfl, _⟩ := h; rfl) | (obtain ⟨_, _, _, _, _, _, _, _, _, _, _, _, rfl, _⟩ := h; rfl) | (obtain ⟨_, _, _, _, _, _, _, _, _, _, _, _, _, rfl, _⟩ := h; rfl) | (obtain ⟨_, _, _, _, _, _, _, _, _, _, _, _, _, _, rfl, _⟩ := h; rfl) | (obtain ⟨_, _, _, _, _, _, _, _, _, _, _, _, _, _, _, rfl, _⟩ := h; rfl))
  · obtain ⟨a, ns, k, rfl, hS, hk, q⟩ := h
    refine ⟨_, (pss_cons (ps_if (pt_cmpR op_lt (pv 1) (pe_callB call_len_seq (by rfl) L.len PySem.boot_len (pa_cons (pv 0) pa_nil)) (nomark _)) (pss_one (ps_ret (pe_ix (ix_listK (K0 := K)) (pv 0) (pv 1) (fun _ _ => rfl)))) pss_nil)
      (pss_one (ps_ret pe_int))), ?_⟩
    refine ⟨_, rfl, _, rfl, a, _, rfl, .inl hS, _, _, rfl, rfl, _, rfl, ?_⟩
    refine ite2 (fun hc => ?_) (fun _ => ?_)
    · have hc2 : k < ((ns.map V.int).length : Int) := of_decide_eq_true hc
      rw [List.length_map] at hc2
      obtain ⟨j, rfl⟩ : ∃ j : Nat, k = (j : Int) := ⟨k.toNat, by omega⟩
      have hj : j < ns.length := by omega
      refine ⟨_, rfl, _, rfl, a, _, _, .int ns[j], rfl, rfl, hS, atI_nat ?_, q _⟩
      rw [List.getElem?_map, List.getElem?_eq_getElem hj]
      rfl
    · exact q 0
theorem sc_L_truth : FnScope ["_law_found", "_law_due"] ["_law_found", "_law_due"] (defScope s_L_truth) := ⟨rfl, rfl, rfl, by decide +kernel, rfl, by decide +kernel, by decide +kernel⟩
theorem ok_L_truth {f : Addr} {fd : FuncData} (F : Fun K "_law_truth" "_law_truth" s_L_truth f fd) (T : WT K mg CS CW CB CT CN) (L : LT mg) :
    FnOk P w K mg base (L2.CX P w) 1 f fd ["_law_found", "_law_due"] spTruth := by
  refine okN F sc_L_truth (fun vs H Q E h => ?_) (fun cdv A outer s H vs Q E hr h => ?_)
  · (first | (obtain ⟨_, rfl, _⟩ := h; rfl) | (obtain ⟨_, _, rfl, _⟩ := h; rfl) | (obtain ⟨_, _, _, rfl, _⟩ := h; rfl) | (obtain ⟨_, _, _, _, rfl, _⟩ := h; rfl) | (obtain ⟨_, _, _, _, _, rfl, _⟩ := h; rfl) | (obtain ⟨_, _, _, _, _, _, rfl, _⟩ := h; rfl) | (obtain ⟨_, _, _, _, _, _, _, rfl, _⟩ := h; rfl) | (obtain ⟨_, _, _, _, _, _, _, _, rfl, _⟩ := h; rfl) | (obtain ⟨_, _, _, _, _, _, _, _, _, rfl, _⟩ := h; rfl) | (obtain ⟨_, _, _, _, _, _, _, _, _, _, rfl, _⟩ := h; rfl) | (obtain ⟨_, _, _, _, _, _, _, _, _, _, _, rfl, _⟩ := h; rfl) | (obtain ⟨_, _, _, _, _, _, _, _, _, _, _, _, rfl, _⟩ := h; rfl) | (obtain ⟨_, _, _, _, _, _, _, _, _, _, _, _, _, rfl, _⟩ := h; rfl) | (obtain ⟨_, _, _, _, _, _, _, _, _, _, _, _, _, _, rfl, _⟩ := h; rfl) | (obtain ⟨_, _, _, _, _, _, _, _, _, _, _, _, _, _, _, rfl, _⟩ := h; rfl))
  · obtain ⟨b, c, rfl, q⟩ := h
    refine ⟨_, (pss_one (ps_ret (pe_and (pe_callB call_isi (by rfl) L.isi boot_isinstance (pa_cons (pv 0) (pa_cons (pe_bltn (v := .ty "bool") (by rfl) L.bool PyProof.Rows.boot_bool rfl) pa_nil))) (pe_one (pe_cmpR op_eq (pv 0) (pv 1) (nomark _)))))), ?_⟩
    refine ⟨_, rfl, _, _, _, _, _, rfl, .ty _, ty_bl b, kbb, _, rfl, ?_⟩
    refine iteT ⟨_, rfl, _, rfl, rfl, ?_⟩
    have e : decide (V.bl b = V.bl c) = decide (b = c) := decide_eq_decide.mpr ⟨fun z => by injection z, fun z => by rw [z]⟩
    show Q (.bl (decide (V.bl b = V.bl c))) H
    rw [e]
    exact q
end
theorem ixN_nat {n k : Nat} (h : k < n) : ixN n (k : Int) = some k := by
  unfold ixN
  rw [if_pos (by omega), if_pos (by omega)]
  rfl
theorem rep_flat {α : Type} (x : α) (n : Nat) : (List.replicate n [x]).flatten = List.replicate n x := by
  induction n with
  | zero => rfl
  | succ n ih => rw [List.replicate_succ, List.flatten_cons, ih, List.replicate_succ]; rfl
/-- only one is ready: it gets the turn -/
theorem best_own {l : List RowS} {k : Nat} {x : RowS} (h : l[k]? = some x) (hr : x.r = true) (ho : ∀ (j : Nat) (y : RowS), l[j]? = some y → y.r = true → j = k) : Wm.best l = some x := by
  cases e : Wm.best l with
  | none =>
    have := Wm.best_none.mp e x (List.mem_of_getElem? h)
    rw [hr] at this
    cases this
  | some b =>
    obtain ⟨h1, h2, _⟩ := Wm.best_some e
    obtain ⟨j, hj⟩ := List.getElem?_of_mem h2
    have := ho j b hj h1
    subst this
    rw [hj] at h
    exact h
theorem whose_some {W : WhS} {b : RowS} (e : Wm.best W.rows = some b) : Wm.whose W = some b.n := by
  unfold Wm.whose
  rw [e]
  rfl
theorem whose_none {W : WhS} (e : Wm.best W.rows = none) : Wm.whose W = none := by
  unfold Wm.whose
  rw [e]
  rfl
/-- a list stands through what a wheel does -/
theorem kl {CW CS : Addr} {H H' : Hp} {p l : Addr} {W : WhS} {fp fp' : List Addr} {xs : List V} (hW : WAt CW CS H p W fp) (st : Step fp H fp' H') (h : H l = some (.lst xs)) : H' l = some (.lst xs) := st.kept _ _ h (hW.lst h)
/-- a wheel stands through a list's store -/
theorem wl {CW CS : Addr} {H : Hp} {p l : Addr} {W : WhS} {fp : List Addr} {xs ys : List V} (hW : WAt CW CS H p W fp) (h : H l = some (.lst xs)) : WAt CW CS (upd H l (.lst ys)) p W fp :=
  hW.keep fun b hb o e => by
    rw [upd_ne]
    · exact e
    · intro z
      rw [z] at hb
      exact hW.lst h hb
theorem wf_m {q : Int} {d : Addr} {m : Str} (h1 : ¬ m = "past" := by decide +kernel) (h2 : ¬ m = "_sharers" := by decide +kernel) : (wf q d).lookup m = none := wf_no q d h1 h2
/-- a name among the names -/
theorem inV_names {W : WhS} {n : Str} : inV (.str n) (W.rows.map fun x => V.str x.n) = true ↔ Has W n := by
  unfold inV Has
  rw [List.any_map, List.any_eq_true]
  constructor
  · rintro ⟨x, hx, e⟩
    refine ⟨x, hx, ?_⟩
    have e : (x.n == n) = true := e
    exact eq_of_beq e
  · rintro ⟨x, hx, e⟩
    refine ⟨x, hx, ?_⟩
    show (x.n == n) = true
    rw [e]
    exact beq_self_eq_true _
theorem inV_strs {l : List Str} {n : Str} : inV (.str n) (l.map V.str) = true ↔ n ∈ l := by
  unfold inV
  rw [List.any_map, List.any_eq_true]
  constructor
  · rintro ⟨x, hx, e⟩
    have e : (x == n) = true := e
    rw [← eq_of_beq e]
    exact hx
  · intro h
    refine ⟨n, h, ?_⟩
    show (n == n) = true
    exact beq_self_eq_true _
theorem flat_strs (l : List Str) : (l.map V.str).all flatV = true := by
  rw [List.all_map, List.all_eq_true]
  intro x _
  rfl
theorem flat_names (l : List RowS) : (l.map fun x => V.str x.n).all flatV = true := by
  rw [List.all_map, List.all_eq_true]
  intro x _
  rfl
theorem upd_len (l : List RowS) (n : Str) (f : RowS → RowS) : (Wm.upd l n f).length = l.length := List.length_map _
theorem turn_len (W : WhS) : (Wm.turn W).rows.length = W.rows.length := by
  cases e : Wm.best W.rows with
  | none => rw [Wm.turn_none e]
  | some b => rw [Wm.turn_some e]; exact upd_len _ _ _
theorem turn_names (W : WhS) : (Wm.turn W).rows.map (·.n) = W.rows.map (·.n) := by
  cases e : Wm.best W.rows with
  | none => rw [Wm.turn_none e]
  | some b => rw [Wm.turn_some e]; exact Wm.names_upd fun _ => rfl
theorem rest_names (W : WhS) (n : Str) : (Wm.rest W n).rows.map (·.n) = W.rows.map (·.n) := Wm.names_upd (f := fun x => { x with r := false }) fun _ => rfl
theorem reshare_names (W : WhS) (n : Str) (s : Int) : (Wm.reshare W n s).rows.map (·.n) = W.rows.map (·.n) := Wm.names_upd (f := Wm.shared W.past s) fun _ => rfl
theorem wake_names (W : WhS) (n : Str) : (Wm.wake W n).rows.map (·.n) = W.rows.map (·.n) := Wm.names_upd (Wm.woken_n _)
theorem has_n {W : WhS} {n : Str} : Has W n ↔ n ∈ W.rows.map (·.n) := by
  unfold Has
  rw [List.mem_map]
theorem good_share {i : Int} (h1 : 1 ≤ i) (h2 : i ≤ 12) (h : good (.int i) = false) : False := by
  have : (decide (1 ≤ i) && decide (i ≤ 12)) = false := h
  rw [decide_eq_true h1, decide_eq_true h2] at this
  cases this
/-- a text's number -/
def num (k : Nat) : Str := Str.ofString (toString ((k : Nat) : Int))
theorem Th.same {H H' : Hp} {x : V} (h : Th H x) (s : Same H H') : Th H' x := by
  cases h with
  | lst e => exact .lst (s _ _ e)
  | int i => exact .int i
  | bl b => exact .bl b
  | non => exact .non
  | str z => exact .str z
/-! ### isinstance of a caught error, of any class of ours -/
def rIsA (K : PySem.W.Frag) (a : Addr) (cls : Value) (d : Option Addr) : List V → Hp → VK → Prop := fun xs H Q => ∃ D, ExcC K D ∧ cls = .ref D ∧ d = none ∧ rIsE K D a xs H Q
theorem call_isA {X : Cx} {a : Addr} {oe : Obj} {pn : List (Addr × Obj)} {cls : Value} {d : Option Addr} (hz : Zc cls d oe) (hf : ∃ vs, oe.data = .fields vs) :
    CallR (X.suite a ((a, oe) :: pn)) (.builtin "isinstance") (rIsA X.K a cls d) := by
  intro pins s σ H xs us Q I r h
  obtain ⟨D, C, rfl, rfl, h⟩ := h
  exact call_isE C hz hf pins s σ H xs us Q I r h
structure InsT (K : PySem.W.Frag) (C : Addr) : Prop where
  ha : PySem.W.findIn K (.ref C) "__class__" = some (some (.builtin "object.__class__"))
  hn : PySem.W.specialIn K (.builtin "object.__class__") "__get__" = some (some (.builtin "getset_descriptor.__get__"))
  ht : PySem.W.takesIn K (.builtin "object.__class__") = some true
  hm : PySem.W.mroIn K C (.type "object") = some true
theorem InsT.ty {K : PySem.W.Frag} {C a dx : Addr} {H : Hp} {fs : List (Str × V)} (h : InsT K C) (cl : Cls K C) (e : H a = some (.ins C dx fs)) : TyX K H (.ref a) (.ref C) := .base (.ins e cl h.ha h.hn h.ht h.hm)
/-! ### data compared -/
def rEqP (K : PySem.W.Frag) : R2 := fun x y H Q => ∃ d e, Dp K H x d ∧ Dp K H y e ∧ d.plain = true ∧ e.plain = true ∧ d.depth ≤ 64 ∧ Q (.bl (PyData.eqv d e)) H
def rNeP (K : PySem.W.Frag) : R2 := fun x y H Q => ∃ d e, Dp K H x d ∧ Dp K H y e ∧ d.plain = true ∧ e.plain = true ∧ d.depth ≤ 64 ∧ Q (.bl (!PyData.eqv d e)) H
theorem room64 {A : Around} {d e : PyData} (h : d.depth ≤ 64) (hu : A.units + 64 < cLine) : A.units + min d.depth e.depth < cLine := by
  have := Nat.min_le_left d.depth e.depth
  omega
theorem op_eqP {X : Cx} {K0 : PySem.W.Frag} (hu : X.A.units + 64 < cLine) (hK : X.K = K0 := by rfl) : OpR X (compareOp .Eq) (rEqP K0) := by
  subst hK
  intro pins s σ H x y v u Q I rx ry h
  obtain ⟨d, e, hd, he, sd, se, dd, q⟩ := h
  obtain ⟨as, r1⟩ := Dp.reads I d x v hd rx
  obtain ⟨bs, r2⟩ := Dp.reads I e y u he ry
  exact SeqAt.eq_plain r1 r2 sd se (room64 dd hu) ⟨.bl _, H, I, rfl, q⟩
theorem op_neP {X : Cx} {K0 : PySem.W.Frag} (hu : X.A.units + 64 < cLine) (hK : X.K = K0 := by rfl) : OpR X (compareOp .NotEq) (rNeP K0) := by
  subst hK
  intro pins s σ H x y v u Q I rx ry h
  obtain ⟨d, e, hd, he, sd, se, dd, q⟩ := h
  obtain ⟨as, r1⟩ := Dp.reads I d x v hd rx
  obtain ⟨bs, r2⟩ := Dp.reads I e y u he ry
  exact SeqAt.ne_plain r1 r2 sd se (room64 dd hu) ⟨.bl _, H, I, rfl, q⟩
theorem plain_all : ∀ {ds : List PyData}, (∀ d ∈ ds, d.plain = true) → PyData.plainAll ds = true
  | [], _ => rfl
  | d :: ds, h => by
    show (d.plain && PyData.plainAll ds) = true
    rw [h d List.mem_cons_self, plain_all fun x hx => h x (List.mem_cons_of_mem _ hx)]
    rfl
theorem dep_all {k : Nat} : ∀ {ds : List PyData}, (∀ d ∈ ds, d.depth ≤ k) → PyData.depthAll ds ≤ k
  | [], _ => Nat.zero_le _
  | d :: ds, h => by
    show max d.depth (PyData.depthAll ds) ≤ k
    exact Nat.max_le.mpr ⟨h d List.mem_cons_self, dep_all fun x hx => h x (List.mem_cons_of_mem _ hx)⟩
/-- a list of small data -/
def Sm (k : Nat) (d : PyData) : Prop := d.plain = true ∧ d.depth ≤ k
theorem Sm.list {k : Nat} {ds : List PyData} (h : ∀ d ∈ ds, Sm k d) : Sm (k + 1) (.list ds) := ⟨plain_all fun d hd => (h d hd).1, Nat.succ_le_succ (dep_all fun d hd => (h d hd).2)⟩
theorem Sm.tup {k : Nat} {ds : List PyData} (h : ∀ d ∈ ds, Sm k d) : Sm (k + 1) (.tuple ds) := ⟨plain_all fun d hd => (h d hd).1, Nat.succ_le_succ (dep_all fun d hd => (h d hd).2)⟩
theorem Sm.str (k : Nat) (s : Str) : Sm k (.str s) := ⟨rfl, Nat.zero_le _⟩
theorem Sm.int (k : Nat) (s : Int) : Sm k (.int s) := ⟨rfl, Nat.zero_le _⟩
theorem Sm.bl (k : Nat) (s : Bool) : Sm k (.bool s) := ⟨rfl, Nat.zero_le _⟩
theorem Sm.up {j k : Nat} {d : PyData} (h : Sm j d) (e : j ≤ k) : Sm k d := ⟨h.1, Nat.le_trans h.2 e⟩
theorem Sm.strs {k : Nat} (ss : List Str) : Sm (k + 1) (.list (ss.map PyData.str)) := Sm.list fun d hd => by
  obtain ⟨s, _, rfl⟩ := List.mem_map.mp hd
  exact .str _ _
theorem DpAll.map {α : Type} {K : PySem.W.Frag} {H : Hp} {f : α → V} {g : α → PyData} : ∀ {l : List α}, (∀ x ∈ l, Dp K H (f x) (g x)) → DpAll K H (l.map f) (l.map g)
  | [], _ => .nil
  | a :: l, h => .cons (h a List.mem_cons_self) (DpAll.map fun x hx => h x (List.mem_cons_of_mem _ hx))
theorem DpAll.app {K : PySem.W.Frag} {H : Hp} : ∀ {xs ys : List V} {ds es : List PyData}, DpAll K H xs ds → DpAll K H ys es → DpAll K H (xs ++ ys) (ds ++ es)
  | _, _, _, _, .nil, h => h
  | _, _, _, _, .cons a b, h => .cons a (DpAll.app b h)
/-- by places -/
theorem DpAll.of {K : PySem.W.Frag} {H : Hp} : ∀ {xs : List V} {ds : List PyData}, xs.length = ds.length → (∀ (i : Nat) (x : V) (d : PyData), xs[i]? = some x → ds[i]? = some d → Dp K H x d) → DpAll K H xs ds
  | [], [], _, _ => .nil
  | [], _ :: _, h, _ => by simp at h
  | _ :: _, [], h, _ => by simp at h
  | x :: xs, d :: ds, h, f => .cons (f 0 x d rfl rfl) (DpAll.of (by simpa using h) fun i y e h1 h2 => f (i + 1) y e (by simpa using h1) (by simpa using h2))
theorem Dp.strs {K : PySem.W.Frag} {H : Hp} {l : Addr} {ss : List Str} (h : SqL K H l (ss.map V.str)) : Dp K H (.ref l) (.list (ss.map PyData.str)) := .lst h (DpAll.map fun x _ => .str x)
/-- x == y of the same data -/
theorem eq_same {K : PySem.W.Frag} {H : Hp} {x y : V} {d : PyData} {Q : VK} (h1 : Dp K H x d) (h2 : Dp K H y d) (h : Sm 64 d) (q : Q (.bl true) H) : rEqP K x y H Q := ⟨d, d, h1, h2, h.1, h.1, h.2, by rw [SeqAt.eqv_refl_plain d h.1]; exact q⟩
theorem ne_same {K : PySem.W.Frag} {H : Hp} {x y : V} {d : PyData} {Q : VK} (h1 : Dp K H x d) (h2 : Dp K H y d) (h : Sm 64 d) (q : Q (.bl false) H) : rNeP K x y H Q := ⟨d, d, h1, h2, h.1, h.1, h.2, by rw [SeqAt.eqv_refl_plain d h.1]; exact q⟩
theorem names_v {l : List RowS} {nl : List Str} (h : l.map (·.n) = nl) : (l.map fun x => V.str x.n) = nl.map V.str := by
  rw [← h, List.map_map]
  rfl
/-! ### lists of tuples -/
inductive TA2 (H : Hp) : List Addr → List (List V) → Prop
  | nil : TA2 H [] []
  | cons {t : Addr} {vs : List V} {ts : List Addr} {vss : List (List V)} : H t = some (.tup vs) → TA2 H ts vss → TA2 H (t :: ts) (vs :: vss)
theorem TA2.mono {H H' : Hp} (k : ∀ t vs, H t = some (.tup vs) → H' t = some (.tup vs)) : ∀ {ts : List Addr} {vss : List (List V)}, TA2 H ts vss → TA2 H' ts vss
  | _, _, .nil => .nil
  | _, _, .cons a b => .cons (k _ _ a) (b.mono k)
theorem TA2.len {H : Hp} : ∀ {ts : List Addr} {vss : List (List V)}, TA2 H ts vss → ts.length = vss.length
  | _, _, .nil => rfl
  | _, _, .cons _ b => congrArg (· + 1) b.len
theorem TA2.app {H : Hp} : ∀ {ts us : List Addr} {vss wss : List (List V)}, TA2 H ts vss → TA2 H us wss → TA2 H (ts ++ us) (vss ++ wss)
  | _, _, _, _, .nil, h => h
  | _, _, _, _, .cons a b, h => .cons a (b.app h)
theorem TA2.at {H : Hp} : ∀ {ts : List Addr} {vss : List (List V)} {i : Nat} {vs : List V}, TA2 H ts vss → vss[i]? = some vs → ∃ t, ts[i]? = some t ∧ H t = some (.tup vs)
  | _, _, 0, _, .cons a _, h => by
    cases h
    exact ⟨_, rfl, a⟩
  | _, _, i + 1, _, .cons _ b, h => b.at (i := i) (by simpa using h)
  | _, _, _, _, .nil, h => by simp at h
theorem TA2.dp {α : Type} {K : PySem.W.Frag} {H : Hp} {f : α → List V} {g : α → List PyData} (fg : ∀ x, DpAll K H (f x) (g x)) : ∀ {l : List α} {ts : List Addr}, TA2 H ts (l.map f) → DpAll K H (ts.map V.ref) (l.map fun x => PyData.tuple (g x))
  | [], [], .nil => .nil
  | x :: l, t :: ts, .cons a b => .cons (.tup (.inl (.inl a)) (fg x)) (TA2.dp fg b)
/-- a list of tuples -/
def Tl (H : Hp) (l : Addr) (vss : List (List V)) : Prop := ∃ ts, H l = some (.lst (ts.map V.ref)) ∧ TA2 H ts vss
theorem Tl.same {H H' : Hp} {l : Addr} {vss : List (List V)} (h : Tl H l vss) (s : Same H H') : Tl H' l vss := by
  obtain ⟨ts, a, b⟩ := h
  exact ⟨ts, s _ _ a, b.mono fun t vs e => s _ _ e⟩
theorem Tl.kept {CW CS : Addr} {H H' : Hp} {p l : Addr} {W : WhS} {fp : List Addr} {vss : List (List V)} (h : Tl H l vss) (hW : WAt CW CS H p W fp) (k : Kept fp H H') : Tl H' l vss := by
  obtain ⟨ts, a, b⟩ := h
  exact ⟨ts, k _ _ a (hW.lst a), b.mono fun t vs e => k _ _ e (hW.tup e)⟩
theorem Tl.nil {H : Hp} {l : Addr} (h : H l = some (.lst [])) : Tl H l [] := ⟨[], h, .nil⟩
theorem Tl.at {H : Hp} {l : Addr} {vss : List (List V)} {i : Nat} {vs : List V} (h : Tl H l vss) (e : vss[i]? = some vs) : ∃ xs t, H l = some (.lst xs) ∧ xs[i]? = some (.ref t) ∧ H t = some (.tup vs) := by
  obtain ⟨ts, a, b⟩ := h
  obtain ⟨t, t1, t2⟩ := b.at e
  exact ⟨_, t, a, by rw [List.getElem?_map, t1]; rfl, t2⟩
theorem Tl.len {H : Hp} {l : Addr} {vss : List (List V)} (h : Tl H l vss) : ∃ xs, H l = some (.lst xs) ∧ xs.length = vss.length := by
  obtain ⟨ts, a, b⟩ := h
  exact ⟨_, a, by rw [List.length_map, b.len]⟩
/-- one more tuple at the end, in place -/
theorem Tl.snoc {H : Hp} {l t : Addr} {vss : List (List V)} {vs : List V} (h : Tl H l vss) (ht : H t = none) : ∃ xs, H l = some (.lst xs) ∧ xs.length = vss.length ∧ Tl (upd (upd H t (.tup vs)) l (.lst (xs ++ [.ref t]))) l (vss ++ [vs]) := by
  obtain ⟨ts, a, b⟩ := h
  refine ⟨_, a, by rw [List.length_map, b.len], ts ++ [t], by rw [upd_same, List.map_append]; rfl, TA2.app (b.mono fun u us e => ?_) (.cons ?_ .nil)⟩
  · rw [upd_ne (fun z => by rw [z, a] at e; cases e), upd_ne (ne_of_none e ht)]
    exact e
  · rw [upd_ne (ne_of_none a ht).symm, upd_same]
theorem Tl.dp {α : Type} {K : PySem.W.Frag} {H : Hp} {l : Addr} {f : α → List V} {g : α → List PyData} (fg : ∀ x, DpAll K H (f x) (g x)) {as : List α} (h : Tl H l (as.map f)) : Dp K H (.ref l) (.list (as.map fun x => PyData.tuple (g x))) := by
  obtain ⟨ts, a, b⟩ := h
  exact .lst (SqL.of a) (b.dp fg)
theorem TA2.take {H : Hp} {α : Type} {f : α → List V} {ps : List α} {ts : List Addr} (h : TA2 H ts (ps.map f)) {i : Nat} {x : α} (e : ps[i]? = some x) : ∃ t, ts[i]? = some t ∧ H t = some (.tup (f x)) :=
  h.at (by rw [List.getElem?_map, e]; rfl)
theorem take_snoc {α : Type} {l : List α} {i : Nat} {x : α} (e : l[i]? = some x) : l.take (i + 1) = l.take i ++ [x] := by
  rw [List.take_add_one, e]
  rfl
/-- a comprehension over a list of tuples, with a test: the tuples themselves -/
theorem lc_tf {K : PySem.W.Frag} {α : Type} {f : α → List V} {ps : List α} {a : Addr} {g : TG} {tt : TT} {te : TE} {vs : List Nat} {σ : L2.St} {H : Hp} {D : Addr} {Qd : Hp → Prop} (pr : α → Bool) (h : Tl H a (ps.map f)) (hD : H D = none) (hlen : ps.length ≤ 1000)
    (hs : ∀ x ∈ ps, ∀ t H', Same H H' → H' t = some (.tup (f x)) → ∀ (Y : V → Hp → Prop) (Z : Hp → Prop), (pr x = true → Y (.ref t) H') → (pr x = false → Z H') →
      g (.ref t) (wipe σ vs) H' fun σ2 H2 => wipe σ2 vs = wipe σ vs ∧ tt σ2 H2 fun b H3 => if b = true then te σ2 H3 Y else Z H3)
    (hd : ∀ H', Same H H' → Tl H' D ((ps.filter pr).map f) → Qd H') :
    ∃ W : Nat → Nat → Hp → Prop, (∃ m, W 0 m (upd H D (.lst []))) ∧ ∀ i m H, W i m H →
      ((Itl K a).stop i H ∧ Qd H) ∨ ((Itl K a).go i H ∧ ∃ Nx : Hp → Prop, (∀ H', Nx H' → ∃ m', m' < m ∧ W (i + 1) m' H') ∧ ∀ x H', (Itl K a).yld i H x H' → g x (wipe σ vs) H' fun σ2 H2 => wipe σ2 vs = wipe σ vs ∧ tt σ2 H2 fun b H3 =>
        if b = true then te σ2 H3 fun y H4 => ∃ acc, H4 D = some (.lst acc) ∧ acc.length < sizeLine ∧ Nx (upd H4 D (.lst (acc ++ [y]))) else Nx H3) := by
  obtain ⟨ts, h1, h2⟩ := h
  have hl : (ts.map V.ref).length = ps.length := by rw [List.length_map, h2.len, List.length_map]
  refine lc_list (K := K) (a := a) (xs := ts.map V.ref) (fun i H' => Same H H' ∧ ∃ us, H' D = some (.lst (us.map V.ref)) ∧ TA2 H' us (((ps.take i).filter pr).map f)) ⟨same_upd hD, [], upd_same, .nil⟩ (fun i H' _ e => SqL.of (e.1 _ _ h1)) ?_ ?_
  · rintro i v H' hv ⟨s, us, u1, u2⟩
    have hi : i < ps.length := by rw [← hl]; exact (List.getElem?_eq_some_iff.mp hv).1
    have ex : ps[i]? = some ps[i] := by simp [hi]
    generalize ps[i] = x at ex
    obtain ⟨t, t1, t2⟩ := h2.take ex
    rw [List.getElem?_map, t1] at hv
    cases hv
    refine hs x (List.mem_of_getElem? ex) t H' s (s _ _ t2) _ _ (fun e => ?_) (fun e => ?_)
    · refine ⟨us.map V.ref, u1, ?_, fun b o e2 => ?_, us ++ [t], by rw [upd_same, List.map_append]; rfl, ?_⟩
      · rw [List.length_map, u2.len, List.length_map]
        refine small1000 (Nat.le_trans (List.length_filter_le _ _) ?_)
        rw [List.length_take]
        omega
      · rw [upd_ne (fun z => by rw [z, hD] at e2; cases e2)]
        exact s _ _ e2
      · rw [take_snoc ex, List.filter_append, List.map_append]
        have : [x].filter pr = [x] := by simp [e]
        rw [this]
        exact TA2.app (u2.mono fun z w e2 => by rw [upd_ne (fun q => by rw [q, u1] at e2; cases e2)]; exact e2) (.cons (by rw [upd_ne (fun q => by rw [q] at t2; rw [hD] at t2; cases t2)]; exact s _ _ t2) .nil)
    · refine ⟨s, us, u1, ?_⟩
      rw [take_snoc ex, List.filter_append]
      have : [x].filter pr = [] := by simp [e]
      rw [this, List.append_nil]
      exact u2
  · rintro H' ⟨s, us, u1, u2⟩
    rw [hl, List.take_length] at u2
    exact hd H' s ⟨us, u1, u2⟩
/-- a comprehension over a list of tuples, without a test: flat values -/
theorem lc_tm {K : PySem.W.Frag} {α : Type} {f : α → List V} {ps : List α} {a : Addr} {g : TG} {tt : TT} {te : TE} {vs : List Nat} {σ : L2.St} {H : Hp} {D : Addr} {Qd : Hp → Prop} (fv : α → V) (h : Tl H a (ps.map f)) (hD : H D = none) (hlen : ps.length ≤ 1000)
    (hs : ∀ x ∈ ps, ∀ t H', Same H H' → H' t = some (.tup (f x)) → ∀ (Y : V → Hp → Prop) (Z : Hp → Prop), Y (fv x) H' →
      g (.ref t) (wipe σ vs) H' fun σ2 H2 => wipe σ2 vs = wipe σ vs ∧ tt σ2 H2 fun b H3 => if b = true then te σ2 H3 Y else Z H3)
    (hd : ∀ H', Same H H' → H' D = some (.lst (ps.map fv)) → Qd H') :
    ∃ W : Nat → Nat → Hp → Prop, (∃ m, W 0 m (upd H D (.lst []))) ∧ ∀ i m H, W i m H →
      ((Itl K a).stop i H ∧ Qd H) ∨ ((Itl K a).go i H ∧ ∃ Nx : Hp → Prop, (∀ H', Nx H' → ∃ m', m' < m ∧ W (i + 1) m' H') ∧ ∀ x H', (Itl K a).yld i H x H' → g x (wipe σ vs) H' fun σ2 H2 => wipe σ2 vs = wipe σ vs ∧ tt σ2 H2 fun b H3 =>
        if b = true then te σ2 H3 fun y H4 => ∃ acc, H4 D = some (.lst acc) ∧ acc.length < sizeLine ∧ Nx (upd H4 D (.lst (acc ++ [y]))) else Nx H3) := by
  obtain ⟨ts, h1, h2⟩ := h
  have hl : (ts.map V.ref).length = ps.length := by rw [List.length_map, h2.len, List.length_map]
  refine lc_list (K := K) (a := a) (xs := ts.map V.ref) (fun i H' => Same H H' ∧ H' D = some (.lst ((ps.take i).map fv))) ⟨same_upd hD, upd_same⟩ (fun i H' _ e => SqL.of (e.1 _ _ h1)) ?_ ?_
  · rintro i v H' hv ⟨s, u1⟩
    have hi : i < ps.length := by rw [← hl]; exact (List.getElem?_eq_some_iff.mp hv).1
    have ex : ps[i]? = some ps[i] := by simp [hi]
    generalize ps[i] = x at ex
    obtain ⟨t, t1, t2⟩ := h2.take ex
    rw [List.getElem?_map, t1] at hv
    cases hv
    refine hs x (List.mem_of_getElem? ex) t H' s (s _ _ t2) _ _ ?_
    refine ⟨_, u1, ?_, fun b o e2 => ?_, ?_⟩
    · rw [List.length_map]
      refine small1000 ?_
      rw [List.length_take]
      omega
    · rw [upd_ne (fun z => by rw [z, hD] at e2; cases e2)]
      exact s _ _ e2
    · rw [upd_same, take_snoc ex, List.map_append]
      rfl
  · rintro H' ⟨s, u1⟩
    rw [hl, List.take_length] at u1
    exact hd H' s u1
theorem eqv_nils : PyData.eqv (.list []) (.list []) = true := SeqAt.eqv_refl_plain _ rfl
theorem eqv_cons_nil (d : PyData) (ds : List PyData) : PyData.eqv (.list (d :: ds)) (.list []) = false := by
  show PyData.eqvAll (d :: ds) [] = false
  rw [PyData.eqvAll]
/-- a list of tuples != [] -/
theorem ne_empty {K : PySem.W.Frag} {α : Type} {H : Hp} {l l0 : Addr} {f : α → List V} {g : α → List PyData} {as : List α} {Q : VK} (fg : ∀ x, DpAll K H (f x) (g x)) (h : Tl H l (as.map f)) (h0 : H l0 = some (.lst [])) (gs : ∀ x, ∀ d ∈ g x, Sm 60 d) (q : Q (.bl (!as.isEmpty)) H) : rNeP K (.ref l) (.ref l0) H Q := by
  have sm : Sm 64 (.list (as.map fun x => PyData.tuple (g x))) := Sm.up (j := 62) (Sm.list fun d hd => by
    obtain ⟨x, _, rfl⟩ := List.mem_map.mp hd
    exact Sm.tup (gs x)) (by decide)
  refine ⟨_, _, h.dp fg, .lst (SqL.of h0) .nil, sm.1, rfl, sm.2, ?_⟩
  cases as with
  | nil => rw [List.map_nil, eqv_nils]; exact q
  | cons x as => rw [List.map_cons, eqv_cons_nil]; exact q
theorem TA2.set {H : Hp} : ∀ {ts : List Addr} {vss : List (List V)} {k : Nat} {t : Addr} {vs : List V}, TA2 H ts vss → H t = some (.tup vs) → TA2 H (ts.set k t) (vss.set k vs)
  | _, _, _, _, _, .nil, _ => .nil
  | _, _, 0, _, _, .cons _ b, h => .cons h b
  | _, _, k + 1, _, _, .cons a b, h => .cons a (b.set (k := k) h)
/-- one tuple set anew -/
theorem Tl.set {H : Hp} {l t : Addr} {vss : List (List V)} {k : Nat} {vs : List V} (h : Tl H l vss) (hk : k < vss.length) (ht : H t = none) :
    ∃ xs, H l = some (.lst xs) ∧ ixN xs.length (k : Int) = some k ∧ Tl (upd (upd H t (.tup vs)) l (.lst (xs.set k (.ref t)))) l (vss.set k vs) := by
  obtain ⟨ts, a, b⟩ := h
  have hl := b.len
  refine ⟨_, a, ixN_nat (by rw [List.length_map, hl]; exact hk), ts.set k t, by rw [upd_same, List.map_set], TA2.set (b.mono fun u us e => ?_) ?_⟩
  · rw [upd_ne (fun z => by rw [z, a] at e; cases e), upd_ne (ne_of_none e ht)]
    exact e
  · rw [upd_ne (ne_of_none a ht).symm, upd_same]
/-- a list of tuples stands while another list is stored to -/
theorem Tl.upl {H : Hp} {l l' : Addr} {vss : List (List V)} {xs ys : List V} (h : Tl H l vss) (e : H l' = some (.lst xs)) (ne : l ≠ l') : Tl (upd H l' (.lst ys)) l vss := by
  obtain ⟨ts, a, b⟩ := h
  exact ⟨ts, by rw [upd_ne ne]; exact a, b.mono fun t vs h2 => by rw [upd_ne (fun z => by rw [z, e] at h2; cases h2)]; exact h2⟩
/-- a comprehension over names: tuples of what was told of each -/
theorem lc_nt {K : PySem.W.Frag} {rows : List RowS} {ln : Addr} {g : TG} {tt : TT} {te : TE} {vs : List Nat} {σ : L2.St} {H : Hp} {D : Addr} {Qd : Hp → Prop} (tv : RowS → List V) (hn : H ln = some (.lst (rows.map fun x => V.str x.n))) (hD : H D = none) (hlen : rows.length ≤ 1000)
    (hs : ∀ x ∈ rows, ∀ H', Same H H' → ∀ (Y : V → Hp → Prop) (Z : Hp → Prop), (∀ t, H' t = none → Y (.ref t) (upd H' t (.tup (tv x)))) →
      g (.str x.n) (wipe σ vs) H' fun σ2 H2 => wipe σ2 vs = wipe σ vs ∧ tt σ2 H2 fun b H3 => if b = true then te σ2 H3 Y else Z H3)
    (hd : ∀ H', Same H H' → Tl H' D (rows.map tv) → Qd H') :
    ∃ W : Nat → Nat → Hp → Prop, (∃ m, W 0 m (upd H D (.lst []))) ∧ ∀ i m H, W i m H →
      ((Itl K ln).stop i H ∧ Qd H) ∨ ((Itl K ln).go i H ∧ ∃ Nx : Hp → Prop, (∀ H', Nx H' → ∃ m', m' < m ∧ W (i + 1) m' H') ∧ ∀ x H', (Itl K ln).yld i H x H' → g x (wipe σ vs) H' fun σ2 H2 => wipe σ2 vs = wipe σ vs ∧ tt σ2 H2 fun b H3 =>
        if b = true then te σ2 H3 fun y H4 => ∃ acc, H4 D = some (.lst acc) ∧ acc.length < sizeLine ∧ Nx (upd H4 D (.lst (acc ++ [y]))) else Nx H3) := by
  have hl : (rows.map fun x => V.str x.n).length = rows.length := List.length_map _
  refine lc_list (K := K) (a := ln) (xs := rows.map fun x => V.str x.n) (fun i H' => Same H H' ∧ Tl H' D ((rows.take i).map tv)) ⟨same_upd hD, Tl.nil upd_same⟩ (fun i H' _ e => SqL.of (e.1 _ _ hn)) ?_ ?_
  · rintro i v H' hv ⟨s, u1⟩
    have hi : i < rows.length := by rw [← hl]; exact (List.getElem?_eq_some_iff.mp hv).1
    have ex : rows[i]? = some rows[i] := by simp [hi]
    generalize rows[i] = x at ex
    rw [List.getElem?_map, ex] at hv
    cases hv
    refine hs x (List.mem_of_getElem? ex) H' s _ _ fun t ht => ?_
    obtain ⟨xs, x1, x2, x3⟩ := u1.snoc (vs := tv x) ht
    refine ⟨xs, ?_, ?_, fun b o e2 => ?_, ?_⟩
    · rw [upd_ne (ne_of_none x1 ht)]
      exact x1
    · rw [x2, List.length_map, List.length_take]
      exact small1000 (by omega)
    · rw [upd_ne (fun z => by rw [z, hD] at e2; cases e2)]
      exact same_upd ht _ _ (s _ _ e2)
    · rw [take_snoc ex, List.map_append]
      exact x3
  · rintro H' ⟨s, u1⟩
    rw [hl, List.take_length] at u1
    exact hd H' s u1
/-- the place of the one who gets the turn -/
def bestV (rows : List RowS) (v : V) : Prop := (Wm.best rows = none ∧ v = .non) ∨ ∃ (k : Nat) (b : RowS), rows[k]? = some b ∧ Wm.best rows = some b ∧ v = .int (k : Int)
theorem bestV_keep {l : List RowS} {x : RowS} {v : V} (h : bestV l v) (e : Wm.pick (Wm.best l) x = Wm.best l) : bestV (l ++ [x]) v := by
  rcases h with ⟨a, b⟩ | ⟨k, b, h1, h2, h3⟩
  · exact .inl ⟨by rw [Wm.best_snoc, e]; exact a, b⟩
  · refine .inr ⟨k, b, ?_, by rw [Wm.best_snoc, e]; exact h2, h3⟩
    rw [List.getElem?_append_left (List.getElem?_eq_some_iff.mp h1).1]
    exact h1
theorem bestV_new {l : List RowS} {x : RowS} (e : Wm.pick (Wm.best l) x = some x) : bestV (l ++ [x]) (.int (l.length : Int)) :=
  .inr ⟨l.length, x, by simp, by rw [Wm.best_snoc, e], rfl⟩
theorem scal_optN (o : Option Str) : scal (optN o) (optN o) = true := by cases o <;> rfl
theorem ne_self {H : Hp} {x : V} {Q : VK} (h : scal x x = true) (q : Q (.bl false) H) : rNe x x H Q := ⟨h, by rw [decide_eq_true rfl]; exact q⟩

/-! ### law k07 -/
/-- l.remove(x): lists of data -/
def rRemD (K : PySem.W.Frag) : V → List V → Hp → VK → Prop := fun x xs H Q => ∃ (a : Addr) (y : V) (ys : List V) (ds : List PyData) (d : PyData) (j : Nat), x = V.ref a ∧ xs = [y] ∧ H a = some (.lst ys) ∧ DpAll K H ys ds ∧ Dp K H y d ∧
  PyData.plainAll ds = true ∧ d.plain = true ∧ d.depth ≤ 60 ∧ SeqAt.dataPlace ds d = some j ∧ Q .non (upd H a (.lst (ys.eraseIdx j)))
theorem mt_removeD {X : Cx} {K0 : PySem.W.Frag} (hu : X.A.units + 64 < cLine) (hK : X.K = K0 := by rfl) : MtR X "list.remove" (rRemD K0) := by
  subst hK
  intro pins s σ H x xs v us Q I rx rxs h
  obtain ⟨a, y, ys, ds, d, j, rfl, rfl, hH, hd, hy, p1, p2, p3, hj, q⟩ := h
  cases rx
  cases rxs with
  | cons ry rt =>
    rename_i uy ut
    cases rt
    obtain ⟨z, its, n, r, hl, e0⟩ := I.lstM hH
    obtain ⟨bs, r1⟩ := Dp.reads I d y uy hy ry
    obtain ⟨as, r2⟩ := Dp.readsAll I ds ys its hd r
    have hroom : X.A.units + 1 + min (PyData.depthAll ds) d.depth < cLine := by
      have := Nat.min_le_right (PyData.depthAll ds) d.depth
      omega
    refine SeqAt.remove_list_data (vs := its.toArray) ⟨_, e0, rfl, n, rfl⟩ r2 r1 p1 p2 hroom hj (by rw [List.size_toArray]; omega) ?_
    refine ⟨.non, _, I.lset (its' := its.eraseIdx j) hH e0 ?_ (r.eraseIdx j) ?_, rfl, q⟩
    · show its.toArray.eraseIdxIfInBounds j = (its.eraseIdx j).toArray
      rw [List.eraseIdxIfInBounds_toArray]
    · have := List.length_eraseIdx_le ys j
      omega
theorem pe_remD {X : Cx} {K0 : PySem.W.Frag} {o e : Expr} {to te : TE} {apos cpos : Pos} (hu : X.A.units + 64 < cLine) (ho : PE X o to) (he : PE X e te) (hK : X.K = K0 := by rfl)
    (hbase : attributeBase o "remove" X.env (eval o X.env) = eval o X.env := by rfl)
    (hfew : ((backTo cpos (starEach [e] X.env)).all (fun x => !x.1) && (backToKw cpos (keywordEach [] X.env)).all (fun x => x.1.isSome)
      && decide ([e].length + ([] : List Keyword).length + (if ([] : List Keyword).isEmpty then 0 else 1) < 30)) = true := by rfl)
    (hline : (apos.endLine == cpos.line) = true := by rfl) (hs : starEach [e] X.env = (false, eval e X.env) :: starEach [] X.env := by rfl) (hplain : (backTo cpos (starEach [] X.env)).any (·.1) = false := by rfl) :
    PE X (.Call (.Attribute o "remove" apos) [e] [] cpos) (tBM K0 "list" (rRemD K0) to (tCons te tNil)) := by
  subst hK
  exact pe_bm PySem.F.plainAttrs_list PySem.F.slot_list_remove PySem.F.type_list_remove (mt_removeD hu) ho (pa_cons he pa_nil hs) hbase hfew hline hs hplain
def rv (x : RowS) : List V := [.str x.n, .int x.s, .int x.c, .bl x.r]
/-- rows as lists -/
inductive RA (H : Hp) : List Addr → List RowS → Prop
  | nil : RA H [] []
  | cons {t : Addr} {x : RowS} {ts : List Addr} {rows : List RowS} : H t = some (.lst (rv x)) → RA H ts rows → RA H (t :: ts) (x :: rows)
theorem RA.mono {H H' : Hp} : ∀ {ts : List Addr} {rows : List RowS}, (∀ t ∈ ts, ∀ xs, H t = some (.lst xs) → H' t = some (.lst xs)) → RA H ts rows → RA H' ts rows
  | _, _, _, .nil => .nil
  | _, _, k, .cons a b => .cons (k _ List.mem_cons_self _ a) (b.mono fun t ht => k t (List.mem_cons_of_mem _ ht))
theorem RA.len {H : Hp} : ∀ {ts : List Addr} {rows : List RowS}, RA H ts rows → ts.length = rows.length
  | _, _, .nil => rfl
  | _, _, .cons _ b => congrArg (· + 1) b.len
theorem RA.app {H : Hp} : ∀ {ts us : List Addr} {rows sows : List RowS}, RA H ts rows → RA H us sows → RA H (ts ++ us) (rows ++ sows)
  | _, _, _, _, .nil, h => h
  | _, _, _, _, .cons a b, h => .cons a (b.app h)
theorem RA.at {H : Hp} : ∀ {ts : List Addr} {rows : List RowS} {i : Nat} {x : RowS}, RA H ts rows → rows[i]? = some x → ∃ t, ts[i]? = some t ∧ H t = some (.lst (rv x))
  | _, _, 0, _, .cons a _, h => by
    cases h
    exact ⟨_, rfl, a⟩
  | _, _, i + 1, _, .cons _ b, h => b.at (i := i) (by simpa using h)
  | _, _, _, _, .nil, h => by simp at h
theorem RA.lst {H : Hp} : ∀ {ts : List Addr} {rows : List RowS}, RA H ts rows → ∀ t ∈ ts, ∃ xs, H t = some (.lst xs)
  | _, _, .nil, _, h => (nomatch h)
  | _, _, .cons a b, t, h => by
    rcases List.mem_cons.mp h with rfl | h
    · exact ⟨_, a⟩
    · exact b.lst t h
theorem RA.erase {H : Hp} : ∀ {ts : List Addr} {rows : List RowS} (k : Nat), RA H ts rows → RA H (ts.eraseIdx k) (rows.eraseIdx k)
  | _, _, _, .nil => .nil
  | _, _, 0, .cons _ b => b
  | _, _, k + 1, .cons a b => .cons a (b.erase k)
theorem RA.set {H : Hp} {y : RowS} {t : Addr} : ∀ {ts : List Addr} {rows : List RowS} {k : Nat}, RA H ts rows → ts.Nodup → ts[k]? = some t → RA (upd H t (.lst (rv y))) ts (rows.set k y)
  | _, _, 0, .cons a b, nd, h => by
    cases h
    refine .cons upd_same (b.mono fun u hu xs e => ?_)
    rw [upd_ne (fun z => (List.nodup_cons.mp nd).1 (by rw [← z]; exact hu))]
    exact e
  | _, _, k + 1, .cons (t := u) (ts := ts) a b, nd, h => by
    have h : ts[k]? = some t := by simpa using h
    refine .cons ?_ (RA.set (k := k) b (List.nodup_cons.mp nd).2 h)
    rw [upd_ne (fun z => (List.nodup_cons.mp nd).1 (by rw [z]; exact List.mem_of_getElem? h))]
    exact a
  | _, _, _, .nil, _, h => by simp at h
structure Rl (H : Hp) (lr : Addr) (ts : List Addr) (rows : List RowS) : Prop where
  h : H lr = some (.lst (ts.map V.ref))
  a : RA H ts rows
  nd : (lr :: ts).Nodup
theorem Rl.lst {H : Hp} {lr : Addr} {ts : List Addr} {rows : List RowS} (R : Rl H lr ts rows) : ∀ t ∈ lr :: ts, ∃ xs, H t = some (.lst xs) := fun t ht => by
  rcases List.mem_cons.mp ht with rfl | ht
  · exact ⟨_, R.h⟩
  · exact R.a.lst t ht
theorem Rl.same {H H' : Hp} {lr : Addr} {ts : List Addr} {rows : List RowS} (R : Rl H lr ts rows) (s : Same H H') : Rl H' lr ts rows := ⟨s _ _ R.h, R.a.mono fun _ _ _ e => s _ _ e, R.nd⟩
/-- a wheel moves: lists stand -/
theorem Rl.kept {CW CS : Addr} {H H' : Hp} {lr p : Addr} {ts fp : List Addr} {rows : List RowS} {W : WhS} (R : Rl H lr ts rows) (hW : WAt CW CS H p W fp) (k : Kept fp H H') : Rl H' lr ts rows :=
  ⟨k _ _ R.h (hW.lst R.h), R.a.mono fun _ _ _ e => k _ _ e (hW.lst e), R.nd⟩
theorem Rl.at {H : Hp} {lr : Addr} {ts : List Addr} {rows : List RowS} {i : Nat} {x : RowS} (R : Rl H lr ts rows) (e : rows[i]? = some x) : ∃ t, (ts.map V.ref)[i]? = some (.ref t) ∧ ts[i]? = some t ∧ H t = some (.lst (rv x)) := by
  obtain ⟨t, t1, t2⟩ := R.a.at e
  exact ⟨t, by rw [List.getElem?_map, t1]; rfl, t1, t2⟩
/-- one row's list anew -/
theorem Rl.set {H : Hp} {lr t : Addr} {ts : List Addr} {rows : List RowS} {k : Nat} {y : RowS} (R : Rl H lr ts rows) (h : ts[k]? = some t) : Rl (upd H t (.lst (rv y))) lr ts (rows.set k y) := by
  have nd := List.nodup_cons.mp R.nd
  refine ⟨?_, R.a.set nd.2 h, R.nd⟩
  rw [upd_ne (fun z => nd.1 (by rw [z]; exact List.mem_of_getElem? h))]
  exact R.h
/-- what moves only lists leaves a wheel -/
theorem WAt.lists {CW CS : Addr} {H H' : Hp} {p : Addr} {W : WhS} {fp S : List Addr} (hW : WAt CW CS H p W fp) (hs : ∀ t ∈ S, ∃ xs, H t = some (.lst xs)) (k : Kept S H H') : WAt CW CS H' p W fp :=
  hW.keep fun b hb o e => k b o e fun hS => by
    obtain ⟨xs, q⟩ := hs b hS
    exact hW.lst q hb
def spTurnR : Sp := fun vs H Q _ => ∃ lr ts rows q, vs = [.ref lr, .int q] ∧ Rl H lr ts rows ∧ (rows.map (·.n)).Nodup ∧ (∀ x ∈ rows, 1 ≤ x.s ∧ x.s ≤ 12) ∧ rows.length ≤ 200 ∧
  ∀ t H', Rl H' lr ts (Wm.turn (⟨q, rows⟩ : WhS)).rows → H' t = some (.tup [optN (Wm.whose (⟨q, rows⟩ : WhS)), .int (Wm.turn (⟨q, rows⟩ : WhS)).past]) → Kept ts H H' → Q (.ref t) H'
def rd (x : RowS) : PyData := .list [.str x.n, .int x.s, .int x.c, .bool x.r]
theorem rdp {K : PySem.W.Frag} {H : Hp} {t : Addr} {x : RowS} (h : H t = some (.lst (rv x))) : Dp K H (.ref t) (rd x) := .lst (SqL.of h) (.cons (.str _) (.cons (.int _) (.cons (.int _) (.cons (.bl _) .nil))))
theorem rd_sm (x : RowS) : Sm 1 (rd x) := Sm.list fun d hd => by
  simp only [List.mem_cons, List.mem_nil_iff, or_false] at hd
  rcases hd with rfl | rfl | rfl | rfl
  · exact .str _ _
  · exact .int _ _
  · exact .int _ _
  · exact .bl _ _
theorem rd_ne {x y : RowS} (h : x.n ≠ y.n) : PyData.eqv (rd x) (rd y) = false := by
  show PyData.eqvAll _ _ = false
  rw [PyData.eqvAll]
  have : PyData.eqv (.str x.n) (.str y.n) = false := by
    show (x.n == y.n) = false
    exact beq_eq_false_iff_ne.mpr h
  rw [this]
  rfl
theorem RA.dp {K : PySem.W.Frag} {H : Hp} : ∀ {ts : List Addr} {rows : List RowS}, RA H ts rows → DpAll K H (ts.map V.ref) (rows.map rd)
  | _, _, .nil => .nil
  | _, _, .cons a b => .cons (rdp a) b.dp
theorem place_at {rows : List RowS} (nd : (rows.map (·.n)).Nodup) {k : Nat} {x : RowS} (h : rows[k]? = some x) : SeqAt.dataPlace (rows.map rd) (rd x) = some k := by
  unfold SeqAt.dataPlace
  obtain ⟨hk, e⟩ := List.getElem?_eq_some_iff.mp h
  refine List.findIdx?_eq_some_iff_getElem.mpr ⟨by rw [List.length_map]; exact hk, ?_, fun j hj => ?_⟩
  · rw [List.getElem_map, e]
    exact SeqAt.eqv_refl_plain _ (rd_sm x).1
  · have hj2 : j < rows.length := by omega
    rw [List.getElem_map]
    have : rows[j].n ≠ x.n := fun z => by
      have h1 : (rows.map (·.n))[j]? = some x.n := by rw [List.getElem?_map, List.getElem?_eq_getElem hj2]; exact congrArg some z
      have h2 : (rows.map (·.n))[k]? = some x.n := by rw [List.getElem?_map, h]; rfl
      have := (List.getElem?_inj (by rw [List.length_map]; exact hj2) nd).mp (h1.trans h2.symm)
      omega
    rw [rd_ne this]
    decide
theorem erase_map {α β : Type} (f : α → β) : ∀ (l : List α) (k : Nat), (l.map f).eraseIdx k = (l.eraseIdx k).map f
  | [], _ => by simp
  | a :: l, 0 => rfl
  | a :: l, k + 1 => by
    show f a :: (l.map f).eraseIdx k = f a :: (l.eraseIdx k).map f
    rw [erase_map f l k]
theorem leave_erase {x : RowS} : ∀ {l : List RowS} {k : Nat}, (l.map (·.n)).Nodup → l[k]? = some x → (l.filter fun y => decide (y.n ≠ x.n)) = l.eraseIdx k
  | [], _, _, h => by simp at h
  | a :: l, 0, nd, h => by
    cases h
    rw [List.map_cons, List.nodup_cons] at nd
    have : (l.filter fun y => decide (y.n ≠ x.n)) = l := List.filter_eq_self.mpr fun y hy => decide_eq_true fun e => nd.1 (List.mem_map.mpr ⟨y, hy, e⟩)
    rw [List.filter_cons, if_neg (by simp), this]
    rfl
  | a :: l, k + 1, nd, h => by
    have h : l[k]? = some x := by simpa using h
    rw [List.map_cons, List.nodup_cons] at nd
    have hne : a.n ≠ x.n := fun e => nd.1 (List.mem_map.mpr ⟨x, List.mem_of_getElem? h, e.symm⟩)
    rw [List.filter_cons, if_pos (by simpa using hne), leave_erase nd.2 h]
    rfl
theorem erase_mem {α : Type} {l : List α} {k : Nat} {x : α} (h : x ∈ l.eraseIdx k) : x ∈ l := (List.eraseIdx_sublist l k).subset h
theorem Rl.erase {H : Hp} {lr : Addr} {ts : List Addr} {rows : List RowS} (k : Nat) (R : Rl H lr ts rows) : Rl (upd H lr (.lst ((ts.map V.ref).eraseIdx k))) lr (ts.eraseIdx k) (rows.eraseIdx k) := by
  have nd := List.nodup_cons.mp R.nd
  refine ⟨by rw [upd_same, erase_map], (R.a.erase k).mono fun t ht xs e => ?_, List.nodup_cons.mpr ⟨fun h => nd.1 (erase_mem h), nd.2.sublist (List.eraseIdx_sublist _ _)⟩⟩
  rw [upd_ne (fun z => nd.1 (by rw [← z]; exact erase_mem ht))]
  exact e
theorem Rl.snoc {H : Hp} {lr t : Addr} {ts : List Addr} {rows : List RowS} {y : RowS} (R : Rl H lr ts rows) (ht : H t = none) : Rl (upd (upd H t (.lst (rv y))) lr (.lst (ts.map V.ref ++ [.ref t]))) lr (ts ++ [t]) (rows ++ [y]) := by
  have nd := List.nodup_cons.mp R.nd
  have nlt : lr ≠ t := ne_of_none R.h ht
  have nt : ¬ t ∈ ts := fun h => by
    obtain ⟨xs, e⟩ := R.a.lst t h
    rw [ht] at e
    cases e
  refine ⟨by rw [upd_same, List.map_append]; rfl, (R.a.mono fun u hu xs e => ?_).app (.cons (by rw [upd_ne nlt.symm, upd_same]) .nil), List.nodup_cons.mpr ⟨fun h => ?_, Wm.nd_snoc nd.2 nt⟩⟩
  · rw [upd_ne (fun z => nd.1 (by rw [← z]; exact hu)), upd_ne (ne_of_none e ht)]
    exact e
  · rcases List.mem_append.mp h with h | h
    · exact nd.1 h
    · exact nlt (List.mem_singleton.mp h)
def spTurnsR (CW CS : Addr) : Sp := fun vs H Q _ => ∃ p W fp lr ts n, vs = [.ref p, .ref lr, .int W.past, .int n] ∧ WAt CW CS H p W fp ∧ Rl H lr ts W.rows ∧ 0 ≤ n ∧ n ≤ 1000 ∧ W.rows.length ≤ 200 ∧
  ∀ H' W', WAt CW CS H' p W' fp → Rl H' lr ts W'.rows → W'.rows.length = W.rows.length → (∀ b o, H b = some o → b ∉ fp → b ∉ ts → H' b = some o) → Q (.int W'.past) H'
def spOneR (CW CS : Addr) : Sp := fun vs H Q _ => ∃ p W fp lr ts n kind s, vs = [.ref p, .ref lr, .int W.past, .str n, .int kind, .int s] ∧ WAt CW CS H p W fp ∧ Rl H lr ts W.rows ∧ 1 ≤ s ∧ s ≤ 12 ∧ W.rows.length ≤ 200 ∧
  ∀ H' W' fp' ts', WAt CW CS H' p W' fp' → Rl H' lr ts' W'.rows → W'.past = W.past → W'.rows.length ≤ W.rows.length + 1 → (∀ b o, H b = some o → b ∉ fp → b ∉ lr :: ts → H' b = some o) → (∀ b ∈ ts', b ∈ ts ∨ ∀ xs, H b ≠ some (.lst xs)) → Q (.bl true) H'
/-- the pairs of names that are held -/
structure H7 (H : Hp) (lh : Addr) (S : List Addr) (hs : List (Addr × Addr × List Str)) : Prop where
  t : Tl H lh (hs.map fun e => [V.ref e.1, V.ref e.2.1])
  e : ∀ e ∈ hs, H e.1 = some (.lst (e.2.2.map V.str)) ∧ H e.2.1 = some (.lst (e.2.2.map V.str)) ∧ e.1 ∉ lh :: S ∧ e.2.1 ∉ lh :: S
/-- all stands but at one place -/
def K7 (lh : Addr) (H H' : Hp) : Prop := ∀ b o, H b = some o → b ≠ lh → H' b = some o
theorem K7.same {lh : Addr} {H H' : Hp} (s : Same H H') : K7 lh H H' := fun b o e _ => s b o e
theorem K7.trans {lh : Addr} {H H' H'' : Hp} (a : K7 lh H H') (b : K7 lh H' H'') : K7 lh H H'' := fun x o e h => b x o (a x o e h) h
theorem H7.same {H H' : Hp} {lh : Addr} {S : List Addr} {hs : List (Addr × Addr × List Str)} (h : H7 H lh S hs) (s : Same H H') : H7 H' lh S hs :=
  ⟨h.t.same s, fun e he => ⟨s _ _ (h.e e he).1, s _ _ (h.e e he).2.1, (h.e e he).2.2⟩⟩
theorem K7.rl {H H' : Hp} {lh lr : Addr} {ts : List Addr} {rows : List RowS} (k : K7 lh H H') (R : Rl H lr ts rows) (n : lh ∉ lr :: ts) : Rl H' lr ts rows :=
  ⟨k _ _ R.h fun z => n (by rw [z]; exact List.mem_cons_self), R.a.mono fun t ht xs e => k _ _ e fun z => n (by rw [← z]; exact List.mem_cons_of_mem _ ht), R.nd⟩
theorem K7.w {CW CS : Addr} {H H' : Hp} {lh p : Addr} {W : WhS} {fp : List Addr} {xs : List V} (k : K7 lh H H') (hW : WAt CW CS H p W fp) (e : H lh = some (.lst xs)) : WAt CW CS H' p W fp :=
  hW.keep fun b hb o e2 => k _ _ e2 fun z => hW.lst e (by rw [← z]; exact hb)
theorem Tl.lh {H : Hp} {l : Addr} {vss : List (List V)} (h : Tl H l vss) : ∃ xs, H l = some (.lst xs) := by
  obtain ⟨ts, a, _⟩ := h
  exact ⟨_, a⟩
def spRowTold (CW CS : Addr) : Sp := fun vs H Q _ => ∃ p W fp t x kind, vs = [.ref p, .ref t, .int kind] ∧ WAt CW CS H p W fp ∧ x ∈ W.rows ∧ H t = some (.lst (rv x)) ∧ Q (.bl true) H
def spWhoseTold (CW CS : Addr) : Sp := fun vs H Q _ => ∃ p W fp lr ts, vs = [.ref p, .ref lr] ∧ WAt CW CS H p W fp ∧ Rl H lr ts W.rows ∧ W.rows.length ≤ 200 ∧ ∀ H', Same H H' → Q (.bl true) H'
def spNamesTold (CW CS : Addr) : Sp := fun vs H Q _ => ∃ p W fp lr ts lh hs, vs = [.ref p, .ref lr, .int W.past, .ref lh] ∧ WAt CW CS H p W fp ∧ Rl H lr ts W.rows ∧ lh ∉ lr :: ts ∧ H7 H lh (lr :: ts) hs ∧ W.rows.length ≤ 200 ∧ hs.length ≤ 500 ∧
  ∀ H' e, K7 lh H H' → H7 H' lh (lr :: ts) (hs ++ [e]) → Q (.bl true) H'
def spAlike (CW CS : Addr) : Sp := fun vs H Q _ => ∃ p W fp lr ts lh hs way, vs = [.ref p, .ref lr, .int W.past, .ref lh, .int way] ∧ WAt CW CS H p W fp ∧ Rl H lr ts W.rows ∧ lh ∉ lr :: ts ∧ H7 H lh (lr :: ts) hs ∧ W.rows.length ≤ 200 ∧ hs.length ≤ 400 ∧
  ∀ H' hs', K7 lh H H' → H7 H' lh (lr :: ts) hs' → hs'.length ≤ hs.length + 2 → Q (.bl true) H'
def nm0 (k : Nat) : Str := "k" ++ num k
theorem nm0_inj : ∀ j < 49, ∀ k < 49, nm0 j = nm0 k → j = k := by decide +kernel
theorem nm0_ne : ∀ k < 49, nm0 k ≠ "" ∧ (nm0 k).length ≤ 100 := by decide +kernel
theorem set_map {m j : Nat} (f : Nat → Str) (x : Str) : ((List.range m).map f).set j x = (List.range m).map fun k => if k = j then x else f k := by
  apply List.ext_getElem?
  intro i
  rw [List.getElem?_set, List.getElem?_map, List.getElem?_map]
  by_cases h : i < m
  · rw [List.getElem?_range h]
    by_cases e : j = i
    · subst e
      simp [h]
    · rw [if_neg e]
      simp [Ne.symm e, eq_comm, e]
  · have : (List.range m)[i]? = none := List.getElem?_eq_none (by simp; omega)
    rw [this]
    simp
    omega
theorem mv {CW CS : Addr} {H H' : Hp} {p lr l : Addr} {W : WhS} {fp ts ts' : List Addr} {xs : List V} (hW : WAt CW CS H p W fp) (e : H l = some (.lst xs)) (n : l ∉ lr :: ts) (ke : ∀ b o, H b = some o → b ∉ fp → b ∉ lr :: ts → H' b = some o) (fr : ∀ b ∈ ts', b ∈ ts ∨ ∀ xs, H b ≠ some (.lst xs)) : H' l = some (.lst xs) ∧ l ∉ lr :: ts' := by
  refine ⟨ke _ _ e (hW.lst e) n, fun h => ?_⟩
  rcases List.mem_cons.mp h with h | h
  · exact n (by rw [h]; exact List.mem_cons_self)
  · rcases fr l h with h | h
    · exact n (List.mem_cons_of_mem _ h)
    · exact h _ e
theorem H7.move {CW CS : Addr} {H H' : Hp} {p lr lh : Addr} {W : WhS} {fp ts ts' : List Addr} {rows : List RowS} {hs : List (Addr × Addr × List Str)} (h : H7 H lh (lr :: ts) hs) (hW : WAt CW CS H p W fp) (R : Rl H lr ts rows) (n : lh ∉ lr :: ts)
    (ke : ∀ b o, H b = some o → b ∉ fp → b ∉ lr :: ts → H' b = some o) (fr : ∀ b ∈ ts', b ∈ ts ∨ ∀ xs, H b ≠ some (.lst xs)) : H7 H' lh (lr :: ts') hs ∧ lh ∉ lr :: ts' := by
  obtain ⟨us, a, b⟩ := id h.t
  have a' := mv hW a n ke fr
  refine ⟨⟨⟨us, a'.1, b.mono fun t vs e => ke _ _ e (hW.tup e) fun ht => ?_⟩, fun e he => ?_⟩, a'.2⟩
  · obtain ⟨xs, q⟩ := R.lst t ht
    rw [q] at e
    cases e
  · obtain ⟨c1, c2, c3, c4⟩ := h.e e he
    have d1 := mv hW c1 (fun z => c3 (List.mem_cons_of_mem _ z)) ke fr
    have d2 := mv hW c2 (fun z => c4 (List.mem_cons_of_mem _ z)) ke fr
    refine ⟨d1.1, d2.1, fun z => ?_, fun z => ?_⟩
    · rcases List.mem_cons.mp z with z | z
      · exact c3 (by rw [z]; exact List.mem_cons_self)
      · exact d1.2 z
    · rcases List.mem_cons.mp z with z | z
      · exact c4 (by rw [z]; exact List.mem_cons_self)
      · exact d2.2 z
section
variable {P : Program} {w : World} {K : PySem.W.Frag} {mg : Str → Option Value} {base : Heap} {CS CW CB CT CN : Addr}
theorem sc_L_turn : FnScope ["_law_rows", "_law_past", "_law_best", "_law_k"] ["_law_rows", "_law_past"] (defScope s_L_turn) := ⟨rfl, rfl, rfl, by decide +kernel, rfl, by decide +kernel, by decide +kernel⟩
theorem ok_L_turn {f : Addr} {fd : FuncData} (F : Fun K "_law_turn" "_law_turn" s_L_turn f fd) (T : WT K mg CS CW CB CT CN) (L : LT mg) :
    FnOk P w K mg base (L2.CX P w) 1 f fd ["_law_rows", "_law_past"] spTurnR := by
  refine okN F sc_L_turn (fun vs H Q E h => ?_) (fun cdv A outer s H vs Q E hr h => ?_)
  · (first | (obtain ⟨_, rfl, _⟩ := h; rfl) | (obtain ⟨_, _, rfl, _⟩ := h; rfl) | (obtain ⟨_, _, _, rfl, _⟩ := h; rfl) | (obtain ⟨_, _, _, _, rfl, _⟩ := h; rfl) | (obtain ⟨_, _, _, _, _, rfl, _⟩ := h; rfl) | (obtain ⟨_, _, _, _, _, _, rfl, _⟩ := h; rfl) | (obtain ⟨_, _, _, _, _, _, _, rfl, _⟩ := h; rfl) | (obtain ⟨_, _, _, _, _, _, _, _, rfl, _⟩ := h; rfl) | (obtain ⟨_, _, _, _, _, _, _, _, _, rfl, _⟩ := h; rfl) | (obtain ⟨_, _, _, _, _, _, _, _, _, _, rfl, _⟩ := h; rfl) | (obtain ⟨_, _, _, _, _, _, _, _, _, _, _, rfl, _⟩ := h; rfl) | (obtain ⟨_, _, _, _, _, _, _, _, _, _, _, _, rfl, _⟩ := h; rfl) | (obtain ⟨_, _, _, _, _, _, _, _, _, _, _, _, _, rfl, _⟩ := h; rfl) | (obtain ⟨_, _, _, _, _, _, _, _, _, _, _, _, _, _, rfl, _⟩ := h; rfl) | (obtain ⟨_, _, _, _, _, _, _, _, _, _, _, _, _, _, _, rfl, _⟩ := h; rfl))
  · obtain ⟨lr, ts, rows, q, rfl, R, nd, sh, hl, k⟩ := h
    have tl := R.a.len
    have ll : (ts.map V.ref).length = rows.length := by rw [List.length_map, tl]
    refine ⟨_, (pss_cons (ps_set (i := 2) sc_L_turn.nd rfl (Or.inl rfl) pe_non)
      (pss_cons (ps_for PassesOwn.never rfl (pi_range1 rfl L.range (pa_cons (pe_callB call_len_seq (by rfl) L.len PySem.boot_len (pa_cons (pv 0) pa_nil)) pa_nil)) (pg_name (i := 3) sc_L_turn.nd rfl (Or.inl rfl))
        (pss_one (ps_if (PW.pt (pw_and (pt_val (pe_ix (ix_listK (K0 := K)) (pe_ix (ix_listK (K0 := K)) (pv 0) (pv 3) (fun _ _ => rfl)) pe_int (fun _ _ => rfl))) (pw_and1 (PW.pt (pw_or (pt_cmpR op_isN (pv 2) pe_non (nomark _)) (pw_or1 (pt_cmpR op_lt (pe_ix (ix_listK (K0 := K)) (pe_ix (ix_listK (K0 := K)) (pv 0) (pv 3) (fun _ _ => rfl)) pe_int (fun _ _ => rfl)) (pe_ix (ix_listK (K0 := K)) (pe_ix (ix_listK (K0 := K)) (pv 0) (pv 2) (fun _ _ => rfl)) pe_int (fun _ _ => rfl)) (nomark _)))))))) (pss_one (ps_set (i := 2) sc_L_turn.nd rfl (Or.inl rfl) (pv 3))) pss_nil)))
      (pss_cons (ps_if (pt_cmpR op_isN (pv 2) pe_non (nomark _)) (pss_one (ps_ret (pe_tup (pa_cons pe_non (pa_cons (pv 1) pa_nil))))) pss_nil)
      (pss_cons (ps_set (i := 1) sc_L_turn.nd rfl (Or.inl rfl) (pe_ix (ix_listK (K0 := K)) (pe_ix (ix_listK (K0 := K)) (pv 0) (pv 2) (fun _ _ => rfl)) pe_int (fun _ _ => rfl)))
      (pss_cons (ps_asg (pe_op op_add (pv 1) (pe_op op_fdivN pe_int (pe_ix (ix_listK (K0 := K)) (pe_ix (ix_listK (K0 := K)) (pv 0) (pv 2) (fun _ _ => rfl)) pe_int (fun _ _ => rfl)))) (pg_sub (pe_ix (ix_listK (K0 := K)) (pv 0) (pv 2) (fun _ _ => rfl)) pe_int set_list))
      (pss_one (ps_ret (pe_tup (pa_cons (pe_ix (ix_listK (K0 := K)) (pe_ix (ix_listK (K0 := K)) (pv 0) (pv 2) (fun _ _ => rfl)) pe_int (fun _ _ => rfl)) (pa_cons (pv 1) pa_nil)))))))))), ?_⟩
    refine ⟨_, rfl, lr, _, rfl, .inl (SqL.of R.h), ?_⟩
    refine ⟨((ts.map V.ref).length : Int), rfl, by omega, by omega, for_range (lo := 0) (n := (ts.map V.ref).length) (fun i σ H' => ∃ v v3, σ = [some (.ref lr), some (.int q), some v, v3] ∧ bestV (rows.take i) v ∧ H' = H) ⟨.non, none, rfl, .inl ⟨rfl, rfl⟩, rfl⟩ ?_ ?_⟩
    · rintro i σ H' hi ⟨v, v3, rfl, hb, rfl⟩
      have hi : i < rows.length := by omega
      have ex : rows[i]? = some rows[i] := by simp [hi]
      generalize rows[i] = x at ex
      have lt : (rows.take i).length = i := by rw [List.length_take]; omega
      have z0 : (0 : Int) + (i : Int) = (i : Int) := by omega
      obtain ⟨t, y1, y2, y3⟩ := R.at ex
      rw [take_snoc ex]
      show gName 3 (V.int (0 + (i : Int))) _ _ _
      rw [z0]
      refine ⟨_, rfl, _, rfl, lr, _, _, _, rfl, rfl, SqL.of R.h, atI_nat y1, t, _, _, _, rfl, rfl, SqL.of y3, at_of (j := 3) rfl rfl, _, rfl, ?_⟩
      cases er : x.r with
      | false =>
        refine iteF (iteF ⟨v, _, rfl, bestV_keep hb ?_, rfl⟩)
        unfold Wm.pick
        cases Wm.best (rows.take i) with
        | none => dsimp only; rw [er]; rfl
        | some b => dsimp only; rw [er]; rfl
      | true =>
        refine iteT ?_
        rcases id hb with ⟨b1, rfl⟩ | ⟨k, b, b1, b2, rfl⟩
        · refine ⟨_, rfl, rfl, _, rfl, iteT (iteT ?_)⟩
          refine ⟨_, rfl, .int (i : Int), _, rfl, ?_, rfl⟩
          have := bestV_new (l := rows.take i) (x := x) (by rw [b1]; unfold Wm.pick; dsimp only; rw [er]; rfl)
          rw [lt] at this
          exact this
        · have hk := (List.getElem?_eq_some_iff.mp b1).1
          rw [lt] at hk
          have bk : rows[k]? = some b := by
            rw [← b1, List.getElem?_take, if_pos hk]
          obtain ⟨t', q1, q2, q3⟩ := R.at bk
          refine ⟨_, rfl, rfl, _, rfl, iteF ?_⟩
          refine ⟨_, rfl, _, rfl, lr, _, _, _, rfl, rfl, SqL.of R.h, atI_nat y1, t, _, _, _, rfl, rfl, SqL.of y3, at_of (j := 2) rfl rfl, _, rfl, _, rfl, lr, _, _, _, rfl, rfl, SqL.of R.h, atI_nat q1, t', _, _, _, rfl, rfl, SqL.of q3, at_of (j := 2) rfl rfl, _, _, rfl, rfl, _, rfl, ?_⟩
          by_cases hc : x.c < b.c
          · rw [decide_eq_true hc]
            refine iteT ⟨_, rfl, .int (i : Int), _, rfl, ?_, rfl⟩
            have := bestV_new (l := rows.take i) (x := x) (by rw [b2]; unfold Wm.pick; dsimp only; rw [er, decide_eq_true hc]; rfl)
            rw [lt] at this
            exact this
          · rw [decide_eq_false hc]
            refine iteF ⟨_, _, rfl, bestV_keep hb ?_, rfl⟩
            rw [b2]
            unfold Wm.pick
            dsimp only
            rw [er, decide_eq_false hc]
            rfl
    · rintro σ H' ⟨v, v3, rfl, hb, rfl⟩
      rw [ll, List.take_length] at hb
      rcases id hb with ⟨b1, rfl⟩ | ⟨k', b, b1, b2, rfl⟩
      · refine ⟨_, rfl, rfl, _, rfl, iteT ?_⟩
        refine ⟨_, rfl, (by show 2 ≤ sizeLine; decide), fun t ht => ?_⟩
        have s := same_upd (o := .tup [V.non, V.int q]) ht
        refine k t _ ?_ ?_ fun b o e _ => s _ _ e
        · rw [Wm.turn_none b1]
          exact R.same s
        · rw [Wm.turn_none b1, show Wm.whose (⟨q, rows⟩ : WhS) = none from whose_none b1]
          exact upd_same
      · obtain ⟨t, y1, y2, y3⟩ := R.at b1
        obtain ⟨hs1, hs2⟩ := sh b (List.mem_of_getElem? b1)
        have tr : Wm.turn (⟨q, rows⟩ : WhS) = ⟨b.c, rows.set k' ⟨b.n, b.s, b.c + Wm.stp b.s, b.r⟩⟩ := by rw [Wm.turn_some b2, upd_set nd b1]
        refine ⟨_, rfl, rfl, _, rfl, iteF ?_⟩
        refine ⟨_, rfl, _, rfl, lr, _, _, _, rfl, rfl, SqL.of R.h, atI_nat y1, t, _, _, _, rfl, rfl, SqL.of y3, at_of (j := 2) rfl rfl, ?_⟩
        refine ⟨_, rfl, _, rfl, _, rfl, lr, _, _, _, rfl, rfl, SqL.of R.h, atI_nat y1, t, _, _, _, rfl, rfl, SqL.of y3, at_of (j := 1) rfl rfl, _, _, rfl, rfl, ⟨by omega, by omega⟩, _, _, rfl, rfl, ?_⟩
        refine ⟨_, rfl, _, rfl, lr, _, _, _, rfl, rfl, SqL.of R.h, atI_nat y1, t, _, _, 2, rfl, rfl, y3, rfl, ?_⟩
        have R2 := R.set (y := ⟨b.n, b.s, b.c + Wm.stp b.s, b.r⟩) y2
        have H2e : upd H' t (.lst ((rv b).set 2 (V.int (b.c + Int.fdiv 27720 b.s)))) = upd H' t (.lst (rv ⟨b.n, b.s, b.c + Wm.stp b.s, b.r⟩)) := rfl
        rw [H2e]
        have hk2 : k' < rows.length := (List.getElem?_eq_some_iff.mp b1).1
        have y3' : upd H' t (.lst (rv ⟨b.n, b.s, b.c + Wm.stp b.s, b.r⟩)) t = some (.lst (rv ⟨b.n, b.s, b.c + Wm.stp b.s, b.r⟩)) := upd_same
        have ke : Kept ts H' (upd H' t (.lst (rv ⟨b.n, b.s, b.c + Wm.stp b.s, b.r⟩))) := fun u o e hu => by
          rw [upd_ne (fun z => hu (by rw [z]; exact List.mem_of_getElem? y2))]
          exact e
        generalize upd H' t (.lst (rv ⟨b.n, b.s, b.c + Wm.stp b.s, b.r⟩)) = H2 at R2 y3' ke ⊢
        refine ⟨_, rfl, _, rfl, lr, _, _, _, rfl, rfl, SqL.of R2.h, atI_nat y1, t, _, _, _, rfl, rfl, SqL.of y3', at_of (j := 0) rfl rfl, _, rfl, (by show 2 ≤ sizeLine; decide), fun t' ht' => ?_⟩
        have s := same_upd (o := .tup [V.str b.n, V.int b.c]) ht'
        refine k t' _ ?_ ?_ fun b o e hb => s _ _ (ke b o e hb)
        · rw [tr]
          exact R2.same s
        · rw [tr, show Wm.whose (⟨q, rows⟩ : WhS) = some b.n from whose_some b2]
          exact upd_same
theorem sc_L_turns : FnScope ["_law_wheel", "_law_rows", "_law_past", "_law_many", "_law_k", "_law_name"] ["_law_wheel", "_law_rows", "_law_past", "_law_many"] (defScope s_L_turns) := ⟨rfl, rfl, rfl, by decide +kernel, rfl, by decide +kernel, by decide +kernel⟩
theorem ok_L_turns {f : Addr} {fd : FuncData} (F : Fun K "_law_turns" "_law_turns" s_L_turns f fd) (T : WT K mg CS CW CB CT CN) (L : LT mg) (g_turn : DOk P w K mg base 1 "_law_turn" ["_law_rows", "_law_past"] spTurnR) (m_W_turn : MOk P w K mg base 3 CW "turn" ["self"] (spTurn CW CS)) :
    FnOk P w K mg base (L2.CX P w) 5 f fd ["_law_wheel", "_law_rows", "_law_past", "_law_many"] (spTurnsR CW CS) := by
  refine okN F sc_L_turns (fun vs H Q E h => ?_) (fun cdv A outer s H vs Q E hr h => ?_)
  · (first | (obtain ⟨_, rfl, _⟩ := h; rfl) | (obtain ⟨_, _, rfl, _⟩ := h; rfl) | (obtain ⟨_, _, _, rfl, _⟩ := h; rfl) | (obtain ⟨_, _, _, _, rfl, _⟩ := h; rfl) | (obtain ⟨_, _, _, _, _, rfl, _⟩ := h; rfl) | (obtain ⟨_, _, _, _, _, _, rfl, _⟩ := h; rfl) | (obtain ⟨_, _, _, _, _, _, _, rfl, _⟩ := h; rfl) | (obtain ⟨_, _, _, _, _, _, _, _, rfl, _⟩ := h; rfl) | (obtain ⟨_, _, _, _, _, _, _, _, _, rfl, _⟩ := h; rfl) | (obtain ⟨_, _, _, _, _, _, _, _, _, _, rfl, _⟩ := h; rfl) | (obtain ⟨_, _, _, _, _, _, _, _, _, _, _, rfl, _⟩ := h; rfl) | (obtain ⟨_, _, _, _, _, _, _, _, _, _, _, _, rfl, _⟩ := h; rfl) | (obtain ⟨_, _, _, _, _, _, _, _, _, _, _, _, _, rfl, _⟩ := h; rfl) | (obtain ⟨_, _, _, _, _, _, _, _, _, _, _, _, _, _, rfl, _⟩ := h; rfl) | (obtain ⟨_, _, _, _, _, _, _, _, _, _, _, _, _, _, _, rfl, _⟩ := h; rfl))
  · obtain ⟨p, W, fp, lr, ts, n, rfl, hW, R, n0, n1, hl, k⟩ := h
    refine ⟨_, (pss_cons (ps_for PassesOwn.never rfl (pi_range1 rfl L.range (pa_cons (pv 3) pa_nil)) (pg_name (i := 4) sc_L_turns.nd rfl (Or.inl rfl))
        (pss_cons (ps_asg (by exact pe_f g_turn hr (by decide) (by rfl) (fun σ => passN σ) (pa_cons (pv 1) (pa_cons (pv 2) pa_nil))) (pg_tup rfl (pgs_cons (pg_name (i := 5) sc_L_turns.nd rfl (Or.inl rfl)) (pgs_cons (pg_name (i := 2) sc_L_turns.nd rfl (Or.inl rfl)) pgs_nil))))
      (pss_one (ps_if (pt_cmpR op_ne (by exact pe_m0 m_W_turn T.clW hr (by decide) (fun σ => passN σ) (pv 0)) (pv 5) (nomark _)) (pss_one (ps_ret pe_non)) pss_nil))))
      (pss_one (ps_ret (pv 2)))), ?_⟩
    refine ⟨_, rfl, n, rfl, by omega, by omega, for_range (lo := 0) (n := n.toNat) (fun i σ H' => ∃ W' v4 v5, σ = [some (.ref p), some (.ref lr), some (.int W'.past), some (.int n), v4, v5] ∧ WAt CW CS H' p W' fp ∧ Rl H' lr ts W'.rows ∧ W'.rows.length = W.rows.length ∧ (∀ b o, H b = some o → b ∉ fp → b ∉ ts → H' b = some o))
      ⟨W, none, none, rfl, hW, R, rfl, fun _ _ e _ _ => e⟩ ?_ ?_⟩
    · rintro i σ H' hi ⟨W', v4, v5, rfl, w', R', el, ke⟩
      refine ⟨_, rfl, _, rfl, lr, ts, W'.rows, W'.past, rfl, R', w'.ok.nd, fun x hx => ⟨(w'.ok.rows x hx).s1, (w'.ok.rows x hx).s2⟩, by omega, fun t H1 R1 ht k1 => ?_⟩
      have w1 := w'.lists (fun t ht => R'.a.lst t ht) k1
      obtain ⟨dx, d, hp⟩ := w1.at
      refine ⟨t, _, rfl, .inl (.inl ht), rfl, _, _, rfl, _, _, rfl, rfl, ?_⟩
      refine ⟨_, rfl, p, dx, _, rfl, hp, wf_m, p, W', fp, rfl, w1, fun H2 w2 st2 => ⟨_, rfl, ne_self (scal_optN _) ⟨_, rfl, iteF ?_⟩⟩⟩
      exact ⟨Wm.turn W', _, _, rfl, w2, R1.kept w1 st2.kept, by rw [turn_len]; exact el, fun b o e h1 h2 => st2.kept _ _ (k1 b o (ke b o e h1 h2) h2) h1⟩
    · rintro σ H' ⟨W', v4, v5, rfl, w', R', el, ke⟩
      exact ⟨_, rfl, k H' W' w' R' el ke⟩
theorem sc_L_one : FnScope ["_law_wheel", "_law_rows", "_law_past", "_law_name", "_law_kind", "_law_share", "_law_found", "_law_row"] ["_law_wheel", "_law_rows", "_law_past", "_law_name", "_law_kind", "_law_share"] (defScope s_L_one) := ⟨rfl, rfl, rfl, by decide +kernel, rfl, by decide +kernel, by decide +kernel⟩
theorem ok_L_one {f : Addr} {fd : FuncData} (F : Fun K "_law_one" "_law_one" s_L_one f fd) (T : WT K mg CS CW CB CT CN) (L : LT mg) (g_truth : DOk P w K mg base 1 "_law_truth" ["_law_found", "_law_due"] spTruth) (m_W_enter : MOk P w K mg base 3 CW "enter" ["self", "name", "share"] (spEnter CW CS CB CT)) (m_W_leave : MOk P w K mg base 3 CW "leave" ["self", "name"] (spLeave CW CS CN)) (m_W_reshare : MOk P w K mg base 3 CW "reshare" ["self", "name", "share"] (spReshare CW CS CB CN)) (m_W_rest : MOk P w K mg base 3 CW "rest" ["self", "name"] (spRest CW CS CN)) (m_W_wake : MOk P w K mg base 3 CW "wake" ["self", "name"] (spWake CW CS CN)) :
    FnOk P w K mg base (L2.CX P w) 5 f fd ["_law_wheel", "_law_rows", "_law_past", "_law_name", "_law_kind", "_law_share"] (spOneR CW CS) := by
  refine okN F sc_L_one (fun vs H Q E h => ?_) (fun cdv A outer s H vs Q E hr h => ?_)
  · (first | (obtain ⟨_, rfl, _⟩ := h; rfl) | (obtain ⟨_, _, rfl, _⟩ := h; rfl) | (obtain ⟨_, _, _, rfl, _⟩ := h; rfl) | (obtain ⟨_, _, _, _, rfl, _⟩ := h; rfl) | (obtain ⟨_, _, _, _, _, rfl, _⟩ := h; rfl) | (obtain ⟨_, _, _, _, _, _, rfl, _⟩ := h; rfl) | (obtain ⟨_, _, _, _, _, _, _, rfl, _⟩ := h; rfl) | (obtain ⟨_, _, _, _, _, _, _, _, rfl, _⟩ := h; rfl) | (obtain ⟨_, _, _, _, _, _, _, _, _, rfl, _⟩ := h; rfl) | (obtain ⟨_, _, _, _, _, _, _, _, _, _, rfl, _⟩ := h; rfl) | (obtain ⟨_, _, _, _, _, _, _, _, _, _, _, rfl, _⟩ := h; rfl) | (obtain ⟨_, _, _, _, _, _, _, _, _, _, _, _, rfl, _⟩ := h; rfl) | (obtain ⟨_, _, _, _, _, _, _, _, _, _, _, _, _, rfl, _⟩ := h; rfl) | (obtain ⟨_, _, _, _, _, _, _, _, _, _, _, _, _, _, rfl, _⟩ := h; rfl) | (obtain ⟨_, _, _, _, _, _, _, _, _, _, _, _, _, _, _, rfl, _⟩ := h; rfl))
  · obtain ⟨p, W, fp, lr, ts, n, kind, s, rfl, hW, R, s1, s2, hl, k⟩ := h
    have tl := R.a.len
    refine ⟨_, (pss_cons (ps_setLc (i := 6) (own := [("_law_row", 7)]) (g := gName 7) rfl sc_L_one.nd rfl rfl (sw_true rfl rfl rfl (by decide +kernel)) (pi_list (pv 1)) (blkOk_by (N := ["_law_wheel", "_law_rows", "_law_past", "_law_name", "_law_kind", "_law_share", "_law_found", "_law_row"]) (sc := defScope s_L_one) (by decide +kernel)) (fun _ _ _ _ _ => (pg_name (i := 7) sc_L_one.nd rfl (Or.inl rfl))) (fun _ _ _ _ _ => (pts_one (pt_cmpR op_eq (pe_ix (ix_listK (K0 := K)) (pv 7) pe_int (fun _ _ => rfl)) (pv 3) (nomark _)))) (fun _ _ _ _ _ => (pv 7)))
      (pss_cons (ps_if (pt_cmpR (op_eqP (K0 := K) hr.units) (pv 6) (pe_lst pa_nil) (nomark _)) (pss_cons (ps_expr (by exact pe_m m_W_enter T.clW hr (by decide) (fun σ => passN σ) (pv 0) (pa_cons (pv 3) (pa_cons (pv 5) pa_nil))))
      (pss_cons (ps_expr (by exact pe_app (K0 := K) (pv 1) (pe_lst (pa_cons (pv 3) (pa_cons (pv 5) (pa_cons pe_int (pa_cons pe_bl pa_nil)))))))
      (pss_one (ps_ret pe_bl)))) pss_nil)
      (pss_cons (ps_set (i := 7) sc_L_one.nd rfl (Or.inl rfl) (pe_ix (ix_listK (K0 := K)) (pv 6) pe_int (fun _ _ => rfl)))
      (C8.pss_cut (ps_if (PW.pt (pw_or (pt_cmpR op_eq (pv 4) pe_int (nomark _)) (pw_or1 (pt_cmpR op_eq (pv 4) pe_int (nomark _))))) (pss_cons (ps_if (pt_not (pt_val (by exact pe_f g_truth hr (by decide) (by rfl) (fun σ => passN σ) (pa_cons (by exact pe_m m_W_wake T.clW hr (by decide) (fun σ => passN σ) (pv 0) (pa_cons (pv 3) pa_nil)) (pa_cons (pe_not (pe_ix (ix_listK (K0 := K)) (pv 7) pe_int (fun _ _ => rfl))) pa_nil))))) (pss_one (ps_ret pe_bl)) pss_nil)
      (pss_cons (ps_asg (pe_ifExp (pt_val (pe_ix (ix_listK (K0 := K)) (pv 7) pe_int (fun _ _ => rfl))) (pe_ix (ix_listK (K0 := K)) (pv 7) pe_int (fun _ _ => rfl)) (pe_callB (call_max2 rfl) (by rfl) L.max (by decide +kernel) (pa_cons (pe_ix (ix_listK (K0 := K)) (pv 7) pe_int (fun _ _ => rfl)) (pa_cons (pv 2) pa_nil)))) (pg_sub (pv 7) pe_int set_list))
      (pss_one (ps_asg pe_bl (pg_sub (pv 7) pe_int set_list))))) (pss_one (ps_if (pt_cmpR op_eq (pv 4) pe_int (nomark _)) (pss_cons (ps_if (pt_not (pt_val (by exact pe_f g_truth hr (by decide) (by rfl) (fun σ => passN σ) (pa_cons (by exact pe_m m_W_rest T.clW hr (by decide) (fun σ => passN σ) (pv 0) (pa_cons (pv 3) pa_nil)) (pa_cons (pe_ix (ix_listK (K0 := K)) (pv 7) pe_int (fun _ _ => rfl)) pa_nil))))) (pss_one (ps_ret pe_bl)) pss_nil)
      (pss_one (ps_asg pe_bl (pg_sub (pv 7) pe_int set_list)))) (pss_one (ps_if (pt_cmpR op_eq (pv 4) pe_int (nomark _)) (pss_cons (ps_expr (by exact pe_m m_W_reshare T.clW hr (by decide) (fun σ => passN σ) (pv 0) (pa_cons (pv 3) (pa_cons (pv 5) pa_nil))))
      (C8.pss_cut (ps_if (pt_cmpR op_gt (pe_ix (ix_listK (K0 := K)) (pv 7) pe_int (fun _ _ => rfl)) (pv 2) (nomark _)) (pss_one (ps_asg (pe_op op_add (pv 2) (pe_op op_fdivN (pe_op op_mul (pe_op op_sub (pe_ix (ix_listK (K0 := K)) (pv 7) pe_int (fun _ _ => rfl)) (pv 2)) (pe_op op_fdivN pe_int (pv 5))) (pe_op op_fdivN pe_int (pe_ix (ix_listK (K0 := K)) (pv 7) pe_int (fun _ _ => rfl))))) (pg_sub (pv 7) pe_int set_list))) pss_nil)
      (pss_one (ps_asg (pv 5) (pg_sub (pv 7) pe_int set_list))))) (pss_cons (ps_expr (by exact pe_m m_W_leave T.clW hr (by decide) (fun σ => passN σ) (pv 0) (pa_cons (pv 3) pa_nil)))
      (pss_one (ps_expr (by exact pe_remD (K0 := K) hr.units (pv 1) (pv 7))))))))))
      (pss_one (ps_ret pe_bl)))))), ?_⟩
    have sx2 := s2
    refine ⟨_, rfl, lr, rfl, ⟨_, SqL.of R.h⟩, fun D hD => ?_⟩
    have ll : (ts.map V.ref).length = W.rows.length := by rw [List.length_map, tl]
    have at_inj : ∀ {i j : Nat} {x y : RowS}, W.rows[i]? = some x → W.rows[j]? = some y → x.n = n → y.n = n → i = j := fun {i j x y} a b e1 e2 => by
      have h1 : (W.rows.map (·.n))[i]? = some n := by rw [List.getElem?_map, a]; exact congrArg some e1
      have h2 : (W.rows.map (·.n))[j]? = some n := by rw [List.getElem?_map, b]; exact congrArg some e2
      exact (List.getElem?_inj (List.getElem?_eq_some_iff.mp h1).1 hW.ok.nd).mp (h1.trans h2.symm)
    refine lc_list (K := K) (a := lr) (xs := ts.map V.ref) (fun i H' => Same H H' ∧ (((∀ x ∈ W.rows.take i, x.n ≠ n) ∧ H' D = some (.lst [])) ∨ ∃ k x t, k < i ∧ W.rows[k]? = some x ∧ x.n = n ∧ ts[k]? = some t ∧ H' D = some (.lst [.ref t]))) ?_ (fun i H' _ e => SqL.of (e.1 _ _ R.h)) ?_ ?_
    · exact ⟨same_upd hD, .inl ⟨fun x hx => by simp at hx, upd_same⟩⟩
    · rintro i v H' hv ⟨sm, cs⟩
      have hi : i < W.rows.length := by rw [← ll]; exact (List.getElem?_eq_some_iff.mp hv).1
      have ex : W.rows[i]? = some W.rows[i] := by simp [hi]
      generalize W.rows[i] = x at ex
      obtain ⟨t, y1, y2, y3⟩ := R.at ex
      rw [y1] at hv
      cases hv
      have y3' := sm _ _ y3
      refine ⟨rfl, _, rfl, t, _, _, _, rfl, rfl, SqL.of y3', at_of (j := 0) rfl rfl, _, rfl, rfl, _, rfl, ?_⟩
      have e : decide (V.str x.n = V.str n) = decide (x.n = n) := decide_eq_decide.mpr ⟨fun z => by injection z, fun z => by rw [z]⟩
      show (if decide (V.str x.n = V.str n) = true then _ else _)
      rw [e]
      by_cases q : x.n = n
      · rw [decide_eq_true q]
        rcases cs with ⟨c1, c2⟩ | ⟨k', x', t', c1, c2, c3, c4, c5⟩
        · refine iteT ⟨_, rfl, _, c2, (by decide), fun b o e2 => ?_, .inr ⟨i, x, t, Nat.lt_succ_self i, ex, q, y2, upd_same⟩⟩
          rw [upd_ne (fun z => by rw [z, hD] at e2; cases e2)]
          exact sm _ _ e2
        · have := at_inj c2 ex c3 q
          omega
      · rw [decide_eq_false q]
        refine iteF ⟨sm, ?_⟩
        rcases cs with ⟨c1, c2⟩ | ⟨k', x', t', c1, c2⟩
        · refine .inl ⟨fun y hy => ?_, c2⟩
          rw [take_snoc ex] at hy
          rcases List.mem_append.mp hy with hy | hy
          · exact c1 y hy
          · rw [List.mem_singleton.mp hy]
            exact q
        · exact .inr ⟨k', x', t', by omega, c2⟩
    rintro H1 ⟨sm, cs⟩
    rw [ll, List.take_length] at cs
    have w1 := hW.same sm
    have R1 := R.same sm
    refine ⟨_, rfl, (by show 0 ≤ sizeLine; decide), fun l0 hl0 => ?_⟩
    rcases cs with ⟨nx, hD1⟩ | ⟨j, x, t, hj, ex, en, et, hD1⟩
    · -- it comes
      refine ⟨.list [], .list [], .lst (SqL.of (same_upd hl0 _ _ hD1)) .nil, .lst (SqL.of upd_same) .nil, rfl, rfl, by decide, ?_⟩
      rw [eqv_nils]
      refine ⟨_, rfl, iteT ?_⟩
      have s2 : Same H1 (upd H1 l0 (.lst [])) := same_upd hl0
      have w2 := w1.same s2
      have R2 := R1.same s2
      have s02 := sm.trans s2
      generalize upd H1 l0 (.lst []) = H2 at s2 w2 R2 s02 ⊢
      have nh : ¬ Has W n := fun ⟨x, hx, e⟩ => nx x hx e
      obtain ⟨dx, d, hp⟩ := w2.at
      refine ⟨_, rfl, p, dx, _, rfl, hp, wf_m, _, rfl, _, rfl, p, W, fp, n, _, rfl, w2, by omega, .int _, fun z => (nh z).elim, fun _ z => (good_share s1 sx2 z).elim, fun _ i ei _ _ H3 fp3 w3 st3 => ?_⟩
      cases ei
      have R3 := R2.kept w2 st3.kept
      refine ⟨_, rfl, .inl ⟨rfl, _, SqL.of R3.h⟩, _, rfl, _, rfl, (by show 4 ≤ sizeLine; decide), fun t ht => ?_⟩
      have s4 : Same H3 (upd H3 t (.lst [V.str n, V.int s, V.int 0, V.bl false])) := same_upd ht
      refine ⟨lr, _, _, rfl, rfl, s4 _ _ R3.h, by rw [List.length_map, tl]; exact small1000 (by omega), ?_⟩
      have R4 := R3.snoc (y := ⟨n, s, 0, false⟩) ht
      have w4 := wl (ys := ts.map V.ref ++ [V.ref t]) (w3.same s4) (s4 _ _ R3.h)
      refine k _ _ fp3 (ts ++ [t]) w4 R4 rfl (by show (W.rows ++ [_]).length ≤ _; rw [List.length_append]; exact Nat.le_refl _) (fun b o e h1 h2 => ?_) fun b hb => ?_
      · rw [upd_ne (fun z => h2 (by rw [z]; exact List.mem_cons_self))]
        exact s4 _ _ (st3.kept _ _ (s02 _ _ e) h1)
      · rcases List.mem_append.mp hb with hb | hb
        · exact .inl hb
        · right
          rw [List.mem_singleton.mp hb]
          intro xs e
          have := st3.kept _ _ (s02 _ _ e) (hW.lst e)
          rw [ht] at this
          cases this
    · have hm := List.mem_of_getElem? ex
      have hh : Has W n := ⟨x, hm, en⟩
      have one : ∀ y ∈ W.rows, y.n = n → y = x := fun y hy e => Wm.row_of_name hW.ok.nd hy hm (e.trans en.symm)
      have sb := sm.trans (same_upd hl0 : Same H1 (upd H1 l0 (.lst [])))
      obtain ⟨t', _, t2', yt0⟩ := R.at ex
      rw [et] at t2'
      cases t2'
      refine ⟨.list [rd x], .list [], .lst (SqL.of (same_upd hl0 _ _ hD1)) (.cons (rdp (sb _ _ yt0)) .nil), .lst (SqL.of upd_same) .nil, (Sm.list (k := 1) fun d hd => by rw [List.mem_singleton.mp hd]; exact rd_sm x).1, rfl, (Sm.up (j := 2) (Sm.list (k := 1) fun d hd => by rw [List.mem_singleton.mp hd]; exact rd_sm x) (by decide) : Sm 64 _).2, ?_⟩
      rw [eqv_cons_nil]
      refine ⟨_, rfl, iteF ?_⟩
      have hD2 : upd H1 l0 (.lst []) D = some (.lst [.ref t]) := same_upd hl0 _ _ hD1
      have w2 := hW.same sb
      have R2 := R.same sb
      have yt := sb _ _ yt0
      have ro := hW.ok.rows x hm
      generalize upd H1 l0 (.lst []) = H2 at sb hD2 w2 R2 yt ⊢
      refine ⟨_, rfl, D, _, _, _, rfl, rfl, SqL.of hD2, at_of (j := 0) rfl rfl, ?_⟩
      have fin : ∀ {H' : Hp} {W' : WhS} {fp' ts' : List Addr}, WAt CW CS H' p W' fp' → Rl H' lr ts' W'.rows → W'.past = W.past → W'.rows.length ≤ W.rows.length + 1 → (∀ b o, H b = some o → b ∉ fp → b ∉ lr :: ts → H' b = some o) → (∀ b ∈ ts', b ∈ ts ∨ ∀ xs, H b ≠ some (.lst xs)) →
          ∃ W' fp' ts', WAt CW CS H' p W' fp' ∧ Rl H' lr ts' W'.rows ∧ W'.past = W.past ∧ W'.rows.length ≤ W.rows.length + 1 ∧ (∀ b o, H b = some o → b ∉ fp → b ∉ lr :: ts → H' b = some o) ∧ (∀ b ∈ ts', b ∈ ts ∨ ∀ xs, H b ≠ some (.lst xs)) := fun a b c d e f => ⟨_, _, _, a, b, c, d, e, f⟩
      obtain ⟨dx, d, hp⟩ := w2.at
      have htl : t ∈ ts := List.mem_of_getElem? et
      have last : ∀ {H3 : Hp} {g : RowS → RowS} {xs : List V}, WAt CW CS H3 p ⟨W.past, Wm.upd W.rows n g⟩ fp → Rl (upd H3 t (.lst xs)) lr ts (W.rows.set j (g x)) → H3 t = some (.lst (rv x)) ∨ True → (∃ ys, H3 t = some (.lst ys)) → (∀ b o, H b = some o → b ∉ fp → b ∉ lr :: ts → H3 b = some o) →
          ∃ W' fp' ts', WAt CW CS (upd H3 t (.lst xs)) p W' fp' ∧ Rl (upd H3 t (.lst xs)) lr ts' W'.rows ∧ W'.past = W.past ∧ W'.rows.length ≤ W.rows.length + 1 ∧ (∀ b o, H b = some o → b ∉ fp → b ∉ lr :: ts → upd H3 t (.lst xs) b = some o) ∧ (∀ b ∈ ts', b ∈ ts ∨ ∀ xs, H b ≠ some (.lst xs)) :=
        fun {H3 g xs} w3 R4 _ ⟨ys, e3⟩ ke => by
          refine fin (wl w3 e3) ?_ rfl (by show (Wm.upd _ _ _).length ≤ _; rw [upd_len]; exact Nat.le_succ _) (fun b o e h1 h2 => ?_) fun b hb => .inl hb
          · show Rl _ lr ts (Wm.upd W.rows n g)
            rw [← en, upd_set hW.ok.nd ex]
            exact R4
          · rw [upd_ne (fun z => h2 (by rw [z]; exact List.mem_cons_of_mem _ htl))]
            exact ke b o e h1 h2
      refine ⟨fun σ' H' => ∃ W' fp' ts', WAt CW CS H' p W' fp' ∧ Rl H' lr ts' W'.rows ∧ W'.past = W.past ∧ W'.rows.length ≤ W.rows.length + 1 ∧ (∀ b o, H b = some o → b ∉ fp → b ∉ lr :: ts → H' b = some o) ∧ (∀ b ∈ ts', b ∈ ts ∨ ∀ xs, H b ≠ some (.lst xs)), ?_, ?_⟩
      · refine ⟨_, rfl, rfl, _, rfl, ?_⟩
        cases e4 : decide (V.int kind = V.int 4) with
        | true =>
          refine iteT (iteT ?_)
          refine ⟨_, rfl, p, dx, _, rfl, hp, wf_m, _, rfl, p, W, fp, n, rfl, w2, fun z => (z hh).elim, fun y hy hyn H3 w3 st3 => ?_⟩
          cases one y hy hyn
          have R3 := R2.kept w2 st3.kept
          have yt3 := st3.kept _ _ yt (w2.lst yt)
          refine ⟨_, rfl, t, _, _, _, rfl, rfl, SqL.of yt3, at_of (j := 3) rfl rfl, _, rfl, _, _, rfl, true, congrArg V.bl (decide_eq_true rfl), iteF ?_⟩
          have tail : ∀ cc : Int, (⟨x.n, x.s, cc, true⟩ : RowS) = Wm.woken W.past x → ∃ W' fp' ts', WAt CW CS (upd (upd H3 t (.lst ((rv x).set 2 (.int cc)))) t (.lst (((rv x).set 2 (.int cc)).set 3 (.bl true)))) p W' fp' ∧ Rl (upd (upd H3 t (.lst ((rv x).set 2 (.int cc)))) t (.lst (((rv x).set 2 (.int cc)).set 3 (.bl true)))) lr ts' W'.rows ∧ W'.past = W.past ∧ W'.rows.length ≤ W.rows.length + 1 ∧ (∀ b o, H b = some o → b ∉ fp → b ∉ lr :: ts → (upd (upd H3 t (.lst ((rv x).set 2 (.int cc)))) t (.lst (((rv x).set 2 (.int cc)).set 3 (.bl true)))) b = some o) ∧ (∀ b ∈ ts', b ∈ ts ∨ ∀ xs, H b ≠ some (.lst xs)) := fun cc ec => by
            refine last (g := Wm.woken W.past) (wl w3 yt3) ?_ (.inr trivial) ⟨_, upd_same⟩ fun b o e h1 h2 => ?_
            · have := (R3.set (y := { x with c := cc }) et).set (y := ⟨x.n, x.s, cc, true⟩) et
              rw [List.set_set, ec] at this
              rw [← ec] at this ⊢
              exact this
            · rw [upd_ne (fun z => h2 (by rw [z]; exact List.mem_cons_of_mem _ htl))]
              exact st3.kept _ _ (sb _ _ e) h1
          refine ⟨_, rfl, t, _, _, _, rfl, rfl, SqL.of yt3, at_of (j := 3) rfl rfl, _, rfl, ?_⟩
          cases er : x.r with
          | true =>
            refine iteT ⟨_, rfl, t, _, _, _, rfl, rfl, SqL.of yt3, at_of (j := 2) rfl rfl, _, rfl, t, _, _, 2, rfl, rfl, yt3, rfl, _, rfl, t, _, _, 3, rfl, rfl, upd_same, rfl, tail _ ?_⟩
            unfold Wm.woken
            rw [if_pos er, ← er]
          | false =>
            refine iteF ⟨_, rfl, t, _, _, _, rfl, rfl, SqL.of yt3, at_of (j := 2) rfl rfl, _, rfl, _, _, rfl, _, rfl, t, _, _, 2, rfl, rfl, yt3, rfl, _, rfl, t, _, _, 3, rfl, rfl, upd_same, rfl, tail _ ?_⟩
            have : Wm.woken W.past x = ⟨x.n, x.s, if x.c < W.past then W.past else x.c, true⟩ := by simp [Wm.woken, er]
            exact this.symm
        | false =>
          refine iteF ⟨_, rfl, rfl, _, rfl, ?_⟩
          cases e8 : decide (V.int kind = V.int 8) with
          | true =>
            refine iteT ?_
            refine ⟨_, rfl, p, dx, _, rfl, hp, wf_m, _, rfl, p, W, fp, n, rfl, w2, fun z => (z hh).elim, fun y hy hyn H3 w3 st3 => ?_⟩
            cases one y hy hyn
            have R3 := R2.kept w2 st3.kept
            have yt3 := st3.kept _ _ yt (w2.lst yt)
            refine ⟨_, rfl, t, _, _, _, rfl, rfl, SqL.of yt3, at_of (j := 3) rfl rfl, _, rfl, _, _, rfl, true, congrArg V.bl (decide_eq_true rfl), iteF ?_⟩
            have tail : ∀ cc : Int, (⟨x.n, x.s, cc, true⟩ : RowS) = Wm.woken W.past x → ∃ W' fp' ts', WAt CW CS (upd (upd H3 t (.lst ((rv x).set 2 (.int cc)))) t (.lst (((rv x).set 2 (.int cc)).set 3 (.bl true)))) p W' fp' ∧ Rl (upd (upd H3 t (.lst ((rv x).set 2 (.int cc)))) t (.lst (((rv x).set 2 (.int cc)).set 3 (.bl true)))) lr ts' W'.rows ∧ W'.past = W.past ∧ W'.rows.length ≤ W.rows.length + 1 ∧ (∀ b o, H b = some o → b ∉ fp → b ∉ lr :: ts → (upd (upd H3 t (.lst ((rv x).set 2 (.int cc)))) t (.lst (((rv x).set 2 (.int cc)).set 3 (.bl true)))) b = some o) ∧ (∀ b ∈ ts', b ∈ ts ∨ ∀ xs, H b ≠ some (.lst xs)) := fun cc ec => by
              refine last (g := Wm.woken W.past) (wl w3 yt3) ?_ (.inr trivial) ⟨_, upd_same⟩ fun b o e h1 h2 => ?_
              · have := (R3.set (y := { x with c := cc }) et).set (y := ⟨x.n, x.s, cc, true⟩) et
                rw [List.set_set, ec] at this
                rw [← ec] at this ⊢
                exact this
              · rw [upd_ne (fun z => h2 (by rw [z]; exact List.mem_cons_of_mem _ htl))]
                exact st3.kept _ _ (sb _ _ e) h1
            refine ⟨_, rfl, t, _, _, _, rfl, rfl, SqL.of yt3, at_of (j := 3) rfl rfl, _, rfl, ?_⟩
            cases er : x.r with
            | true =>
              refine iteT ⟨_, rfl, t, _, _, _, rfl, rfl, SqL.of yt3, at_of (j := 2) rfl rfl, _, rfl, t, _, _, 2, rfl, rfl, yt3, rfl, _, rfl, t, _, _, 3, rfl, rfl, upd_same, rfl, tail _ ?_⟩
              unfold Wm.woken
              rw [if_pos er, ← er]
            | false =>
              refine iteF ⟨_, rfl, t, _, _, _, rfl, rfl, SqL.of yt3, at_of (j := 2) rfl rfl, _, rfl, _, _, rfl, _, rfl, t, _, _, 2, rfl, rfl, yt3, rfl, _, rfl, t, _, _, 3, rfl, rfl, upd_same, rfl, tail _ ?_⟩
              have : Wm.woken W.past x = ⟨x.n, x.s, if x.c < W.past then W.past else x.c, true⟩ := by simp [Wm.woken, er]
              exact this.symm
          | false =>
            refine iteF ?_
            refine ⟨_, rfl, rfl, _, rfl, ?_⟩
            refine ite2 (fun _ => ?_) (fun _ => ?_)
            · -- rests
              refine ⟨_, rfl, p, dx, _, rfl, hp, wf_m, _, rfl, p, W, fp, n, rfl, w2, fun z => (z hh).elim, fun y hy hyn H3 w3 st3 => ?_⟩
              cases one y hy hyn
              have R3 := R2.kept w2 st3.kept
              have yt3 := st3.kept _ _ yt (w2.lst yt)
              refine ⟨_, rfl, t, _, _, _, rfl, rfl, SqL.of yt3, at_of (j := 3) rfl rfl, _, _, rfl, true, congrArg V.bl (decide_eq_true rfl), iteF ?_⟩
              refine ⟨_, rfl, t, _, _, 3, rfl, rfl, yt3, rfl, ?_⟩
              exact last (g := fun x => { x with r := false }) w3 (R3.set (y := { x with r := false }) et) (.inr trivial) ⟨_, yt3⟩ fun b o e h1 h2 => st3.kept _ _ (sb _ _ e) h1
            refine ⟨_, rfl, rfl, _, rfl, ?_⟩
            refine ite2 (fun _ => ?_) (fun _ => ?_)
            · -- another share
              refine ⟨_, rfl, p, dx, _, rfl, hp, wf_m, _, rfl, _, rfl, p, W, fp, n, _, rfl, w2, .int _, fun z => (z hh).elim, fun _ z => (good_share s1 sx2 z).elim, fun _ i ei _ _ H3 w3 st3 => ?_⟩
              cases ei
              have R3 := R2.kept w2 st3.kept
              have yt3 := st3.kept _ _ yt (w2.lst yt)
              have k3 : ∀ b o, H b = some o → b ∉ fp → b ∉ lr :: ts → H3 b = some o := fun b o e h1 h2 => st3.kept _ _ (sb _ _ e) h1
              have rs1 := ro.s1
              have rs2 := ro.s2
              have stn := Wm.stp_cases s1 sx2
              have sto := Wm.stp_cases rs1 rs2
              refine ⟨fun σ' H' => σ' = [some (.ref p), some (.ref lr), some (.int W.past), some (.str n), some (.int kind), some (.int s), some (.ref D), some (.ref t)] ∧
                WAt CW CS H' p (Wm.reshare W n s) fp ∧ Rl H' lr ts (W.rows.set j { x with c := (Wm.shared W.past s x).c }) ∧ H' t = some (.lst (rv { x with c := (Wm.shared W.past s x).c })) ∧ (∀ b o, H b = some o → b ∉ fp → b ∉ lr :: ts → H' b = some o), ?_, ?_⟩
              · refine ⟨_, rfl, t, _, _, _, rfl, rfl, SqL.of yt3, at_of (j := 2) rfl rfl, _, rfl, _, _, rfl, rfl, _, rfl, ?_⟩
                refine ite2 (fun hc => ?_) (fun hc => ?_)
                · have hc : W.past < x.c := of_decide_eq_true hc
                  have ec : (Wm.shared W.past s x).c = W.past + Int.fdiv ((x.c - W.past) * Wm.stp s) (Wm.stp x.s) := by
                    show (if W.past < x.c then _ else _) = _
                    rw [if_pos hc]
                  rw [ec]
                  refine ⟨_, rfl, _, rfl, t, _, _, _, rfl, rfl, SqL.of yt3, at_of (j := 2) rfl rfl, _, rfl, _, _, rfl, rfl, _, rfl, _, _, rfl, rfl, ⟨by omega, by omega⟩, _, _, rfl, rfl, .inr ⟨by show -(2 ^ 64) < Wm.stp s; omega, by show Wm.stp s < 2 ^ 64; omega⟩, ?_⟩
                  refine ⟨_, rfl, t, _, _, _, rfl, rfl, SqL.of yt3, at_of (j := 1) rfl rfl, _, _, rfl, rfl, ⟨by omega, by omega⟩, _, _, rfl, rfl, ⟨by show ¬ Wm.stp x.s = 0; omega, by show (Wm.stp x.s).natAbs < 1073741824; omega⟩, _, _, rfl, rfl, ?_⟩
                  refine ⟨_, rfl, t, _, _, 2, rfl, rfl, yt3, rfl, rfl, wl w3 yt3, R3.set (y := { x with c := W.past + Int.fdiv ((x.c - W.past) * Wm.stp s) (Wm.stp x.s) }) et, upd_same, fun b o e h1 h2 => ?_⟩
                  rw [upd_ne (fun z => h2 (by rw [z]; exact List.mem_cons_of_mem _ htl))]
                  exact k3 b o e h1 h2
                · have hc : ¬ W.past < x.c := fun z => hc (decide_eq_true z)
                  have ec : (Wm.shared W.past s x).c = x.c := by
                    show (if W.past < x.c then _ else _) = _
                    rw [if_neg hc]
                  rw [ec]
                  refine ⟨rfl, w3, ?_, yt3, k3⟩
                  rw [set_at ex]
                  exact R3
              · rintro σ1 H4 ⟨rfl, w4, R4, yt4, k4⟩
                refine ⟨_, rfl, _, rfl, t, _, _, 1, rfl, rfl, yt4, rfl, ?_⟩
                refine last (g := Wm.shared W.past s) w4 ?_ (.inr trivial) ⟨_, yt4⟩ k4
                have := R4.set (y := Wm.shared W.past s x) et
                rw [List.set_set] at this
                exact this
            · -- it goes
              refine ⟨_, rfl, p, dx, _, rfl, hp, wf_m, _, rfl, p, W, fp, n, rfl, w2, fun z => (z hh).elim, fun _ H3 fp3 w3 st3 => ?_⟩
              have R3 := R2.kept w2 st3.kept
              have yt3 := st3.kept _ _ yt (w2.lst yt)
              refine ⟨_, rfl, .inl ⟨rfl, _, SqL.of R3.h⟩, _, rfl, lr, _, _, _, rd x, j, rfl, rfl, R3.h, R3.a.dp, rdp yt3, plain_all (fun d hd => by obtain ⟨y, _, rfl⟩ := List.mem_map.mp hd; exact (rd_sm y).1), (rd_sm x).1, Nat.le_trans (rd_sm x).2 (by decide), place_at hW.ok.nd ex, ?_⟩
              refine fin (ts' := ts.eraseIdx j) (wl w3 R3.h) ?_ rfl (Nat.le_trans (List.length_filter_le _ _) (Nat.le_succ _)) (fun b o e h1 h2 => ?_) fun b hb => .inl (erase_mem (k := j) hb)
              · show Rl _ lr (ts.eraseIdx j) (W.rows.filter fun y => decide (y.n ≠ n))
                rw [← en, leave_erase hW.ok.nd ex]
                exact R3.erase j
              · rw [upd_ne (fun z => h2 (by rw [z]; exact List.mem_cons_self))]
                exact st3.kept _ _ (sb _ _ e) h1
      · rintro σ' H' ⟨W', fp', ts', a, b, c, d, e, f⟩
        exact k H' W' fp' ts' a b c d e f
theorem sc_L_row_told : FnScope ["_law_wheel", "_law_row", "_law_kind"] ["_law_wheel", "_law_row", "_law_kind"] (defScope s_L_row_told) := ⟨rfl, rfl, rfl, by decide +kernel, rfl, by decide +kernel, by decide +kernel⟩
theorem ok_L_row_told {f : Addr} {fd : FuncData} (F : Fun K "_law_row_told" "_law_row_told" s_L_row_told f fd) (T : WT K mg CS CW CB CT CN) (L : LT mg) (g_truth : DOk P w K mg base 1 "_law_truth" ["_law_found", "_law_due"] spTruth) (m_W_clock_of : MOk P w K mg base 3 CW "clock_of" ["self", "name"] (spAsk CW CS CN fun x => .int x.c)) (m_W_is_ready : MOk P w K mg base 3 CW "is_ready" ["self", "name"] (spAsk CW CS CN fun x => .bl x.r)) (m_W_share_of : MOk P w K mg base 3 CW "share_of" ["self", "name"] (spAsk CW CS CN fun x => .int x.s)) :
    FnOk P w K mg base (L2.CX P w) 4 f fd ["_law_wheel", "_law_row", "_law_kind"] (spRowTold CW CS) := by
  refine okN F sc_L_row_told (fun vs H Q E h => ?_) (fun cdv A outer s H vs Q E hr h => ?_)
  · (first | (obtain ⟨_, rfl, _⟩ := h; rfl) | (obtain ⟨_, _, rfl, _⟩ := h; rfl) | (obtain ⟨_, _, _, rfl, _⟩ := h; rfl) | (obtain ⟨_, _, _, _, rfl, _⟩ := h; rfl) | (obtain ⟨_, _, _, _, _, rfl, _⟩ := h; rfl) | (obtain ⟨_, _, _, _, _, _, rfl, _⟩ := h; rfl) | (obtain ⟨_, _, _, _, _, _, _, rfl, _⟩ := h; rfl) | (obtain ⟨_, _, _, _, _, _, _, _, rfl, _⟩ := h; rfl) | (obtain ⟨_, _, _, _, _, _, _, _, _, rfl, _⟩ := h; rfl) | (obtain ⟨_, _, _, _, _, _, _, _, _, _, rfl, _⟩ := h; rfl) | (obtain ⟨_, _, _, _, _, _, _, _, _, _, _, rfl, _⟩ := h; rfl) | (obtain ⟨_, _, _, _, _, _, _, _, _, _, _, _, rfl, _⟩ := h; rfl) | (obtain ⟨_, _, _, _, _, _, _, _, _, _, _, _, _, rfl, _⟩ := h; rfl) | (obtain ⟨_, _, _, _, _, _, _, _, _, _, _, _, _, _, rfl, _⟩ := h; rfl) | (obtain ⟨_, _, _, _, _, _, _, _, _, _, _, _, _, _, _, rfl, _⟩ := h; rfl))
  · obtain ⟨p, W, fp, t, x, kind, rfl, hW, hx, ht, k⟩ := h
    obtain ⟨dx, d, hp⟩ := hW.at
    have one : ∀ y ∈ W.rows, y.n = x.n → y = x := fun y hy e => Wm.row_of_name hW.ok.nd hy hx e
    refine ⟨_, (pss_cons (ps_if (pt_cmpR op_eq (pv 2) pe_int (nomark _)) (pss_one (ps_ret (pe_cmpR op_eq (by exact pe_m m_W_share_of T.clW hr (by decide) (fun σ => passN σ) (pv 0) (pa_cons (pe_ix (ix_listK (K0 := K)) (pv 1) pe_int (fun _ _ => rfl)) pa_nil)) (pe_ix (ix_listK (K0 := K)) (pv 1) pe_int (fun _ _ => rfl)) (nomark _)))) pss_nil)
      (pss_cons (ps_if (pt_cmpR op_eq (pv 2) pe_int (nomark _)) (pss_one (ps_ret (pe_cmpR op_eq (by exact pe_m m_W_clock_of T.clW hr (by decide) (fun σ => passN σ) (pv 0) (pa_cons (pe_ix (ix_listK (K0 := K)) (pv 1) pe_int (fun _ _ => rfl)) pa_nil)) (pe_ix (ix_listK (K0 := K)) (pv 1) pe_int (fun _ _ => rfl)) (nomark _)))) pss_nil)
      (pss_one (ps_ret (by exact pe_f g_truth hr (by decide) (by rfl) (fun σ => passN σ) (pa_cons (by exact pe_m m_W_is_ready T.clW hr (by decide) (fun σ => passN σ) (pv 0) (pa_cons (pe_ix (ix_listK (K0 := K)) (pv 1) pe_int (fun _ _ => rfl)) pa_nil)) (pa_cons (pe_ix (ix_listK (K0 := K)) (pv 1) pe_int (fun _ _ => rfl)) pa_nil))))))), ?_⟩
    refine ⟨_, rfl, rfl, _, rfl, ?_⟩
    refine ite2 (fun _ => ?_) (fun _ => ?_)
    · refine ⟨_, rfl, p, dx, _, rfl, hp, wf_m, _, rfl, t, _, _, _, rfl, rfl, SqL.of ht, at_of (j := 0) rfl rfl, p, W, fp, x.n, rfl, hW, fun z => (z ⟨x, hx, rfl⟩).elim, fun y hy e => ?_⟩
      cases one y hy e
      refine ⟨_, rfl, t, _, _, _, rfl, rfl, SqL.of ht, at_of (j := 1) rfl rfl, rfl, ?_⟩
      rw [decide_eq_true rfl]
      exact k
    refine ⟨_, rfl, rfl, _, rfl, ?_⟩
    refine ite2 (fun _ => ?_) (fun _ => ?_)
    · refine ⟨_, rfl, p, dx, _, rfl, hp, wf_m, _, rfl, t, _, _, _, rfl, rfl, SqL.of ht, at_of (j := 0) rfl rfl, p, W, fp, x.n, rfl, hW, fun z => (z ⟨x, hx, rfl⟩).elim, fun y hy e => ?_⟩
      cases one y hy e
      refine ⟨_, rfl, t, _, _, _, rfl, rfl, SqL.of ht, at_of (j := 2) rfl rfl, rfl, ?_⟩
      rw [decide_eq_true rfl]
      exact k
    · refine ⟨_, rfl, p, dx, _, rfl, hp, wf_m, _, rfl, t, _, _, _, rfl, rfl, SqL.of ht, at_of (j := 0) rfl rfl, p, W, fp, x.n, rfl, hW, fun z => (z ⟨x, hx, rfl⟩).elim, fun y hy e => ?_⟩
      cases one y hy e
      refine ⟨_, rfl, t, _, _, _, rfl, rfl, SqL.of ht, at_of (j := 3) rfl rfl, _, _, rfl, ?_⟩
      rw [decide_eq_true rfl]
      exact k
theorem sc_L_whose_told : FnScope ["_law_wheel", "_law_rows", "_law_row"] ["_law_wheel", "_law_rows"] (defScope s_L_whose_told) := ⟨rfl, rfl, rfl, by decide +kernel, rfl, by decide +kernel, by decide +kernel⟩
theorem ok_L_whose_told {f : Addr} {fd : FuncData} (F : Fun K "_law_whose_told" "_law_whose_told" s_L_whose_told f fd) (T : WT K mg CS CW CB CT CN) (L : LT mg) (g_turn : DOk P w K mg base 1 "_law_turn" ["_law_rows", "_law_past"] spTurnR) (m_W_whose : MOk P w K mg base 1 CW "whose" ["self"] (spWhose CW CS)) :
    FnOk P w K mg base (L2.CX P w) 4 f fd ["_law_wheel", "_law_rows"] (spWhoseTold CW CS) := by
  refine okN F sc_L_whose_told (fun vs H Q E h => ?_) (fun cdv A outer s H vs Q E hr h => ?_)
  · (first | (obtain ⟨_, rfl, _⟩ := h; rfl) | (obtain ⟨_, _, rfl, _⟩ := h; rfl) | (obtain ⟨_, _, _, rfl, _⟩ := h; rfl) | (obtain ⟨_, _, _, _, rfl, _⟩ := h; rfl) | (obtain ⟨_, _, _, _, _, rfl, _⟩ := h; rfl) | (obtain ⟨_, _, _, _, _, _, rfl, _⟩ := h; rfl) | (obtain ⟨_, _, _, _, _, _, _, rfl, _⟩ := h; rfl) | (obtain ⟨_, _, _, _, _, _, _, _, rfl, _⟩ := h; rfl) | (obtain ⟨_, _, _, _, _, _, _, _, _, rfl, _⟩ := h; rfl) | (obtain ⟨_, _, _, _, _, _, _, _, _, _, rfl, _⟩ := h; rfl) | (obtain ⟨_, _, _, _, _, _, _, _, _, _, _, rfl, _⟩ := h; rfl) | (obtain ⟨_, _, _, _, _, _, _, _, _, _, _, _, rfl, _⟩ := h; rfl) | (obtain ⟨_, _, _, _, _, _, _, _, _, _, _, _, _, rfl, _⟩ := h; rfl) | (obtain ⟨_, _, _, _, _, _, _, _, _, _, _, _, _, _, rfl, _⟩ := h; rfl) | (obtain ⟨_, _, _, _, _, _, _, _, _, _, _, _, _, _, _, rfl, _⟩ := h; rfl))
  · obtain ⟨p, W, fp, lr, ts, rfl, hW, R, hl, k⟩ := h
    obtain ⟨dx, d, hp⟩ := hW.at
    have ll : (ts.map V.ref).length = W.rows.length := by rw [List.length_map, R.a.len]
    refine ⟨_, (pss_one (ps_ret (pe_cmpR op_eq (by exact pe_m0 m_W_whose T.clW hr (by decide) (fun σ => passN σ) (pv 0)) (pe_ix (ix_tupK (K0 := K)) (by exact pe_f g_turn hr (by decide) (by rfl) (fun σ => passN σ) (pa_cons (pe_lc (own := [("_law_row", 2)]) (g := gName 2) (tt := tYes) rfl sc_L_whose_told.nd (pi_list (pv 1)) (blkOk_by (N := ["_law_wheel", "_law_rows", "_law_row"]) (sc := defScope s_L_whose_told) (by decide +kernel)) (fun _ _ _ _ _ => (pg_name (i := 2) sc_L_whose_told.nd rfl (Or.inl rfl))) (fun _ _ _ _ _ => pts_nil) (fun _ _ _ _ _ => (pe_callTy (call_list_ofK (K0 := K)) (by rfl) L.list (by decide +kernel) (pa_cons (pv 2) pa_nil)))) (pa_cons pe_int pa_nil))) pe_int (fun _ _ => rfl)) (nomark _)))), ?_⟩
    refine ⟨_, rfl, p, dx, _, rfl, hp, wf_m, p, W, fp, rfl, hW, fun H1 s1 => ?_⟩
    have R1 := R.same s1
    refine ⟨_, rfl, lr, rfl, ⟨_, SqL.of R1.h⟩, fun D hD => ?_⟩
    refine lc_list (K := K) (a := lr) (xs := ts.map V.ref) (fun i H' => Same H1 H' ∧ ∃ us, H' D = some (.lst (us.map V.ref)) ∧ RA H' us (W.rows.take i) ∧ (∀ u ∈ us, H1 u = none ∧ u ≠ D) ∧ us.Nodup) ?_ (fun i H' _ e => SqL.of (e.1 _ _ R1.h)) ?_ ?_
    · exact ⟨same_upd hD, [], upd_same, .nil, fun u hu => (nomatch hu), List.nodup_nil⟩
    · rintro i v H' hv ⟨sm, us, u1, u2, u3, u4⟩
      have hi : i < W.rows.length := by rw [← ll]; exact (List.getElem?_eq_some_iff.mp hv).1
      have ex : W.rows[i]? = some W.rows[i] := by simp [hi]
      generalize W.rows[i] = x at ex
      obtain ⟨t, y1, y2, y3⟩ := R1.at ex
      rw [y1] at hv
      cases hv
      refine ⟨rfl, _, rfl, t, _, rfl, .inl (SqL.of (sm _ _ y3)), fun l hl' => ⟨us.map V.ref, ?_, ?_, fun b o e => ?_, us ++ [l], ?_, ?_, ?_, ?_⟩⟩
      · rw [upd_ne (ne_of_none u1 hl')]
        exact u1
      · rw [List.length_map, u2.len, List.length_take]
        exact small1000 (by omega)
      · rw [upd_ne (fun z => by rw [z, hD] at e; cases e)]
        exact same_upd hl' _ _ (sm _ _ e)
      · rw [upd_same, List.map_append]
        rfl
      · rw [take_snoc ex]
        refine (u2.mono fun u hu xs e => ?_).app (.cons ?_ .nil)
        · rw [upd_ne (u3 u hu).2, upd_ne (ne_of_none e hl')]
          exact e
        · rw [upd_ne (ne_of_none u1 hl').symm, upd_same]
      · intro u hu
        rcases List.mem_append.mp hu with hu | hu
        · exact u3 u hu
        · rw [List.mem_singleton.mp hu]
          refine ⟨?_, (ne_of_none u1 hl').symm⟩
          cases e : H1 l with
          | none => rfl
          | some o =>
            have := sm _ _ e
            rw [hl'] at this
            cases this
      · refine Wm.nd_snoc u4 fun hu => ?_
        obtain ⟨xs, e⟩ := u2.lst l hu
        rw [hl'] at e
        cases e
    · rintro H2 ⟨sm, us, u1, u2, u3, u4⟩
      rw [ll, List.take_length] at u2
      have R2 : Rl H2 D us W.rows := ⟨u1, u2, List.nodup_cons.mpr ⟨fun h => (u3 D h).2 rfl, u4⟩⟩
      refine ⟨D, us, W.rows, 0, rfl, R2, hW.ok.nd, fun x hx => ⟨(hW.ok.rows x hx).s1, (hW.ok.rows x hx).s2⟩, hl, fun t H3 _ ht k3 => ?_⟩
      refine ⟨t, _, _, _, rfl, rfl, .inl (.inl ht), at_of (j := 0) rfl rfl, scal_optN _, ?_⟩
      show Q (.bl (decide (optN (Wm.whose W) = optN (Wm.whose W)))) H3
      rw [decide_eq_true rfl]
      exact k H3 fun b o e => k3 _ _ (sm _ _ (s1 _ _ e)) fun hb => by
        have := (u3 b hb).1
        rw [s1 _ _ e] at this
        cases this
theorem sc_L_names_told : FnScope ["_law_wheel", "_law_rows", "_law_past", "_law_held", "_law_names", "_law_row"] ["_law_wheel", "_law_rows", "_law_past", "_law_held"] (defScope s_L_names_told) := ⟨rfl, rfl, rfl, by decide +kernel, rfl, by decide +kernel, by decide +kernel⟩
theorem ok_L_names_told {f : Addr} {fd : FuncData} (F : Fun K "_law_names_told" "_law_names_told" s_L_names_told f fd) (T : WT K mg CS CW CB CT CN) (L : LT mg) (m_W_names : MOk P w K mg base 1 CW "names" ["self"] (spNames CW CS)) :
    FnOk P w K mg base (L2.CX P w) 4 f fd ["_law_wheel", "_law_rows", "_law_past", "_law_held"] (spNamesTold CW CS) := by
  refine okN F sc_L_names_told (fun vs H Q E h => ?_) (fun cdv A outer s H vs Q E hr h => ?_)
  · (first | (obtain ⟨_, rfl, _⟩ := h; rfl) | (obtain ⟨_, _, rfl, _⟩ := h; rfl) | (obtain ⟨_, _, _, rfl, _⟩ := h; rfl) | (obtain ⟨_, _, _, _, rfl, _⟩ := h; rfl) | (obtain ⟨_, _, _, _, _, rfl, _⟩ := h; rfl) | (obtain ⟨_, _, _, _, _, _, rfl, _⟩ := h; rfl) | (obtain ⟨_, _, _, _, _, _, _, rfl, _⟩ := h; rfl) | (obtain ⟨_, _, _, _, _, _, _, _, rfl, _⟩ := h; rfl) | (obtain ⟨_, _, _, _, _, _, _, _, _, rfl, _⟩ := h; rfl) | (obtain ⟨_, _, _, _, _, _, _, _, _, _, rfl, _⟩ := h; rfl) | (obtain ⟨_, _, _, _, _, _, _, _, _, _, _, rfl, _⟩ := h; rfl) | (obtain ⟨_, _, _, _, _, _, _, _, _, _, _, _, rfl, _⟩ := h; rfl) | (obtain ⟨_, _, _, _, _, _, _, _, _, _, _, _, _, rfl, _⟩ := h; rfl) | (obtain ⟨_, _, _, _, _, _, _, _, _, _, _, _, _, _, rfl, _⟩ := h; rfl) | (obtain ⟨_, _, _, _, _, _, _, _, _, _, _, _, _, _, _, rfl, _⟩ := h; rfl))
  · obtain ⟨p, W, fp, lr, ts, lh, hs, rfl, hW, R, nlh, h7, hl, hhs, k⟩ := h
    obtain ⟨dx, d, hp⟩ := hW.at
    have ll : (ts.map V.ref).length = W.rows.length := by rw [List.length_map, R.a.len]
    refine ⟨_, (pss_cons (ps_set (i := 4) sc_L_names_told.nd rfl (Or.inl rfl) (by exact pe_m0 m_W_names T.clW hr (by decide) (fun σ => passN σ) (pv 0)))
      (pss_cons (ps_expr (by exact pe_app (K0 := K) (pv 3) (pe_tup (pa_cons (pv 4) (pa_cons (pe_lc (own := [("_law_row", 5)]) (g := gName 5) (tt := tYes) rfl sc_L_names_told.nd (pi_list (pv 1)) (blkOk_by (N := ["_law_wheel", "_law_rows", "_law_past", "_law_held", "_law_names", "_law_row"]) (sc := defScope s_L_names_told) (by decide +kernel)) (fun _ _ _ _ _ => (pg_name (i := 5) sc_L_names_told.nd rfl (Or.inl rfl))) (fun _ _ _ _ _ => pts_nil) (fun _ _ _ _ _ => (pe_ix (ix_listK (K0 := K)) (pv 5) pe_int (fun _ _ => rfl)))) pa_nil)))))
      (pss_one (ps_ret (pe_and (pe_cmpR (op_eqP (K0 := K) hr.units) (pv 4) (pe_ix (ix_tupK (K0 := K)) (pe_ix (ix_listK (K0 := K)) (pv 3) (pe_un un_neg pe_int) (fun _ _ => rfl)) pe_int (fun _ _ => rfl)) (nomark _)) (pe_one (pe_cmpR op_eq (pe_fld (pv 0) rfl) (pv 2) (nomark _)))))))), ?_⟩
    refine ⟨_, rfl, p, dx, _, rfl, hp, wf_m, p, W, fp, rfl, hW, fun l1 hl1 => ?_⟩
    have s1 : Same H (upd H l1 (.lst (W.rows.map fun x => V.str x.n))) := same_upd hl1
    have n1 : upd H l1 (.lst (W.rows.map fun x => V.str x.n)) l1 = some (.lst ((W.rows.map (·.n)).map V.str)) := by rw [upd_same, names_v rfl]
    generalize upd H l1 (.lst (W.rows.map fun x => V.str x.n)) = H1 at s1 n1 ⊢
    have R1 := R.same s1
    have h71 := h7.same s1
    obtain ⟨xh, eh⟩ := h71.t.lh
    refine ⟨_, rfl, .inl ⟨rfl, _, SqL.of eh⟩, _, rfl, _, rfl, lr, rfl, ⟨_, SqL.of R1.h⟩, fun D hD => ?_⟩
    refine lc_list (K := K) (a := lr) (xs := ts.map V.ref) (fun i H' => Same H1 H' ∧ H' D = some (.lst ((W.rows.take i).map fun x => V.str x.n))) ⟨same_upd hD, upd_same⟩ (fun i H' _ e => SqL.of (e.1 _ _ R1.h)) ?_ ?_
    · rintro i v H' hv ⟨sm, u1⟩
      have hi : i < W.rows.length := by rw [← ll]; exact (List.getElem?_eq_some_iff.mp hv).1
      have ex : W.rows[i]? = some W.rows[i] := by simp [hi]
      generalize W.rows[i] = x at ex
      obtain ⟨t, y1, y2, y3⟩ := R1.at ex
      rw [y1] at hv
      cases hv
      refine ⟨rfl, _, rfl, t, _, _, _, rfl, rfl, SqL.of (sm _ _ y3), at_of (j := 0) rfl rfl, _, u1, ?_, fun b o e => ?_, ?_⟩
      · rw [List.length_map, List.length_take]
        exact small1000 (by omega)
      · rw [upd_ne (fun z => by rw [z, hD] at e; cases e)]
        exact sm _ _ e
      · rw [upd_same, take_snoc ex, List.map_append]
        rfl
    · rintro H2 ⟨s2, u1⟩
      rw [ll, List.take_length, names_v rfl] at u1
      refine ⟨(by show 2 ≤ sizeLine; decide), fun t ht => ?_⟩
      have h72 := h71.same s2
      obtain ⟨xs, x1, x2, x3⟩ := h72.t.snoc (vs := [V.ref l1, V.ref D]) ht
      rw [List.length_map] at x2
      have s3 : Same H2 (upd H2 t (.tup [.ref l1, .ref D])) := same_upd ht
      refine ⟨lh, xs, _, rfl, rfl, s3 _ _ x1, by rw [x2]; exact small1000 (by omega), ?_⟩
      have s13 := (s1.trans s2).trans s3
      have nD : ∀ {b : Addr} {xs : List V}, H1 b = some (.lst xs) → b ≠ D := fun e z => by rw [z, hD] at e; cases e
      have nl1 : ∀ {b : Addr} {o : HO}, H b = some o → b ≠ l1 := fun e z => by rw [z, hl1] at e; cases e
      obtain ⟨xh0, eh0⟩ := h7.t.lh
      have lhl1 : l1 ≠ lh := fun z => nl1 eh0 z.symm
      have lhD : D ≠ lh := fun z => nD eh z.symm
      have ab : ∀ l, (∀ b ∈ lr :: ts, b ≠ l) → l ≠ lh → l ∉ lh :: lr :: ts := fun l h1 h2 h3 => by
        rcases List.mem_cons.mp h3 with h3 | h3
        · exact h2 h3
        · exact h1 l h3 rfl
      have al1 : l1 ∉ lh :: lr :: ts := ab l1 (fun b hb => by obtain ⟨xs, e⟩ := R.lst b hb; exact nl1 e) lhl1
      have aD : D ∉ lh :: lr :: ts := ab D (fun b hb => by obtain ⟨xs, e⟩ := R1.lst b hb; exact nD e) lhD
      have kk7 : K7 lh H (upd (upd H2 t (.tup [.ref l1, .ref D])) lh (.lst (xs ++ [.ref t]))) := fun b o e hb => by
        rw [upd_ne hb]
        exact s13 _ _ e
      have n4 : upd (upd H2 t (.tup [.ref l1, .ref D])) lh (.lst (xs ++ [.ref t])) l1 = some (.lst ((W.rows.map (·.n)).map V.str)) := by
        rw [upd_ne lhl1]
        exact s3 _ _ (s2 _ _ n1)
      have u4 : upd (upd H2 t (.tup [.ref l1, .ref D])) lh (.lst (xs ++ [.ref t])) D = some (.lst ((W.rows.map (·.n)).map V.str)) := by
        rw [upd_ne lhD]
        exact s3 _ _ u1
      have h74 : H7 (upd (upd H2 t (.tup [.ref l1, .ref D])) lh (.lst (xs ++ [.ref t]))) lh (lr :: ts) (hs ++ [(l1, D, W.rows.map (·.n))]) := by
        refine ⟨by rw [List.map_append]; exact x3, fun e he => ?_⟩
        rcases List.mem_append.mp he with he | he
        · obtain ⟨a, b, c, d⟩ := h7.e e he
          exact ⟨kk7 _ _ a fun z => c (by rw [z]; exact List.mem_cons_self), kk7 _ _ b fun z => d (by rw [z]; exact List.mem_cons_self), c, d⟩
        · rw [List.mem_singleton.mp he]
          exact ⟨n4, u4, al1, aD⟩
      obtain ⟨us, v1, v2⟩ := id x3
      have lu : us.length = hs.length + 1 := by rw [v2.len, List.length_append, List.length_map]; rfl
      have ht4 : ∃ t', us[hs.length]? = some t' ∧ upd (upd H2 t (.tup [.ref l1, .ref D])) lh (.lst (xs ++ [.ref t])) t' = some (.tup [V.ref l1, V.ref D]) := v2.at (by
        rw [List.getElem?_append_right (by rw [List.length_map]; exact Nat.le_refl _), List.length_map]
        simp)
      obtain ⟨t', t1, t2⟩ := ht4
      have dpn : ∀ {l}, upd (upd H2 t (.tup [.ref l1, .ref D])) lh (.lst (xs ++ [.ref t])) l = some (.lst ((W.rows.map (·.n)).map V.str)) → Dp K (upd (upd H2 t (.tup [.ref l1, .ref D])) lh (.lst (xs ++ [.ref t]))) (.ref l) (.list ((W.rows.map (·.n)).map PyData.str)) := fun e => Dp.strs (SqL.of e)
      have w4 := kk7.w hW eh0
      obtain ⟨dx4, d4, hp4⟩ := w4.at
      refine ⟨_, rfl, _, rfl, _, rfl, lh, _, _, _, rfl, rfl, SqL.of v1, ?_, t', _, _, _, rfl, rfl, .inl (.inl t2), at_of (j := 1) rfl rfl, eq_same (dpn n4) (dpn u4) (Sm.strs _) ⟨_, rfl, iteT ?_⟩⟩
      · unfold atI ixN
        rw [if_neg (by decide), List.length_map, lu, if_pos (by omega)]
        have : ((-1 : Int) + ((hs.length + 1 : Nat) : Int)).toNat = hs.length := by omega
        show (us.map V.ref)[((-1 : Int) + ((hs.length + 1 : Nat) : Int)).toNat]? = _
        rw [this, List.getElem?_map, t1]
        rfl
      refine ⟨_, rfl, p, CW, dx4, _, _, rfl, hp4, T.clW, T.aPast, wf_past _ _, _, rfl, rfl, ?_⟩
      rw [decide_eq_true rfl]
      exact k _ _ kk7 h74
theorem sc_L_alike : FnScope ["_law_wheel", "_law_rows", "_law_past", "_law_held", "_law_way", "_law_row", "_law_k"] ["_law_wheel", "_law_rows", "_law_past", "_law_held", "_law_way"] (defScope s_L_alike) := ⟨rfl, rfl, rfl, by decide +kernel, rfl, by decide +kernel, by decide +kernel⟩
theorem ok_L_alike {f : Addr} {fd : FuncData} (F : Fun K "_law_alike" "_law_alike" s_L_alike f fd) (T : WT K mg CS CW CB CT CN) (L : LT mg) (g_names_told : DOk P w K mg base 4 "_law_names_told" ["_law_wheel", "_law_rows", "_law_past", "_law_held"] (spNamesTold CW CS)) (g_row_told : DOk P w K mg base 4 "_law_row_told" ["_law_wheel", "_law_row", "_law_kind"] (spRowTold CW CS)) (g_whose_told : DOk P w K mg base 4 "_law_whose_told" ["_law_wheel", "_law_rows"] (spWhoseTold CW CS)) :
    FnOk P w K mg base (L2.CX P w) 5 f fd ["_law_wheel", "_law_rows", "_law_past", "_law_held", "_law_way"] (spAlike CW CS) := by
  refine okN F sc_L_alike (fun vs H Q E h => ?_) (fun cdv A outer s H vs Q E hr h => ?_)
  · (first | (obtain ⟨_, rfl, _⟩ := h; rfl) | (obtain ⟨_, _, rfl, _⟩ := h; rfl) | (obtain ⟨_, _, _, rfl, _⟩ := h; rfl) | (obtain ⟨_, _, _, _, rfl, _⟩ := h; rfl) | (obtain ⟨_, _, _, _, _, rfl, _⟩ := h; rfl) | (obtain ⟨_, _, _, _, _, _, rfl, _⟩ := h; rfl) | (obtain ⟨_, _, _, _, _, _, _, rfl, _⟩ := h; rfl) | (obtain ⟨_, _, _, _, _, _, _, _, rfl, _⟩ := h; rfl) | (obtain ⟨_, _, _, _, _, _, _, _, _, rfl, _⟩ := h; rfl) | (obtain ⟨_, _, _, _, _, _, _, _, _, _, rfl, _⟩ := h; rfl) | (obtain ⟨_, _, _, _, _, _, _, _, _, _, _, rfl, _⟩ := h; rfl) | (obtain ⟨_, _, _, _, _, _, _, _, _, _, _, _, rfl, _⟩ := h; rfl) | (obtain ⟨_, _, _, _, _, _, _, _, _, _, _, _, _, rfl, _⟩ := h; rfl) | (obtain ⟨_, _, _, _, _, _, _, _, _, _, _, _, _, _, rfl, _⟩ := h; rfl) | (obtain ⟨_, _, _, _, _, _, _, _, _, _, _, _, _, _, _, rfl, _⟩ := h; rfl))
  · obtain ⟨p, W, fp, lr, ts, lh, hs, way, rfl, hW, R, nlh, h7, hl, hhs, k⟩ := h
    obtain ⟨xh0, eh0⟩ := h7.t.lh
    refine ⟨_, (C8.pss_cut (ps_if (PW.pt (pw_and (pt_cmpR op_eq (pe_op op_mod (pe_op op_fdiv (pv 4) pe_int) pe_int) pe_int (nomark _)) (pw_and1 (pt_not (pt_val (by exact pe_f g_whose_told hr (by decide) (by rfl) (fun σ => passN σ) (pa_cons (pv 0) (pa_cons (pv 1) pa_nil)))))))) (pss_one (ps_ret pe_bl)) pss_nil)
      (C8.pss_cut (ps_if (PW.pt (pw_and (pt_cmpR op_eq (pe_op op_mod (pv 4) pe_int) pe_int (nomark _)) (pw_and1 (pt_not (pt_val (by exact pe_f g_names_told hr (by decide) (by rfl) (fun σ => passN σ) (pa_cons (pv 0) (pa_cons (pv 1) (pa_cons (pv 2) (pa_cons (pv 3) pa_nil)))))))))) (pss_one (ps_ret pe_bl)) pss_nil)
      (pss_cons (ps_for PassesOwn.never rfl (pi_list (pe_ix (ix_listK (K0 := K)) (pe_lst (pa_cons (pv 1) (pa_cons (pe_revL (pv 1)) pa_nil))) (pe_op op_mod (pe_op op_fdiv (pv 4) pe_int) pe_int) (fun _ _ => rfl))) (pg_name (i := 5) sc_L_alike.nd rfl (Or.inl rfl))
        (pss_one (ps_for PassesOwn.never rfl (pi_range1 rfl L.range (pa_cons pe_int pa_nil)) (pg_name (i := 6) sc_L_alike.nd rfl (Or.inl rfl))
        (pss_one (ps_if (pt_not (pt_val (by exact pe_f g_row_told hr (by decide) (by rfl) (fun σ => passN σ) (pa_cons (pv 0) (pa_cons (pv 5) (pa_cons (pe_op op_mod (pe_op op_add (pe_op op_fdiv (pv 4) pe_int) (pe_op op_mul (pv 6) (pe_ix (ix_listK (K0 := K)) (pe_lst (pa_cons pe_int (pa_cons pe_int pa_nil))) (pe_op op_mod (pe_op op_fdiv (pv 4) pe_int) pe_int) (fun _ _ => rfl)))) pe_int) pa_nil)))))) (pss_one (ps_ret pe_bl)) pss_nil)))))
      (C8.pss_cut (ps_if (PW.pt (pw_and (pt_cmpR op_eq (pe_op op_mod (pe_op op_fdiv (pv 4) pe_int) pe_int) pe_int (nomark _)) (pw_and1 (pt_not (pt_val (by exact pe_f g_whose_told hr (by decide) (by rfl) (fun σ => passN σ) (pa_cons (pv 0) (pa_cons (pv 1) pa_nil)))))))) (pss_one (ps_ret pe_bl)) pss_nil)
      (pss_one (ps_ret (pe_or (pe_cmpR op_eq (pe_op op_mod (pv 4) pe_int) pe_int (nomark _)) (pe_one (by exact pe_f g_names_told hr (by decide) (by rfl) (fun σ => passN σ) (pa_cons (pv 0) (pa_cons (pv 1) (pa_cons (pv 2) (pa_cons (pv 3) pa_nil))))))))))))), ?_⟩
    refine ⟨fun σ' H' => σ' = [some (.ref p), some (.ref lr), some (.int W.past), some (.ref lh), some (.int way), none, none] ∧ K7 lh H H' ∧ H7 H' lh (lr :: ts) hs, ?_, ?_⟩
    · refine ⟨_, rfl, _, _, rfl, rfl, ⟨by decide, by decide⟩, _, _, rfl, rfl, (by show (0 : Int) < 3; decide), rfl, _, rfl, ?_⟩
      refine ite2 (fun _ => ?_) (fun _ => ?_)
      · exact ⟨_, rfl, _, rfl, p, W, fp, lr, ts, rfl, hW, R, hl, fun H1 s1 => ⟨_, rfl, iteF ⟨rfl, .same s1, h7.same s1⟩⟩⟩
      · exact iteF ⟨rfl, fun _ _ e _ => e, h7⟩
    rintro σ1 H1 ⟨rfl, k1, h71⟩
    refine ⟨fun σ' H' => σ' = [some (.ref p), some (.ref lr), some (.int W.past), some (.ref lh), some (.int way), none, none] ∧ K7 lh H H' ∧ ∃ hs1, H7 H' lh (lr :: ts) hs1 ∧ hs1.length ≤ hs.length + 1, ?_, ?_⟩
    · refine ⟨_, rfl, _, _, rfl, rfl, (by show (0 : Int) < 2; decide), rfl, _, rfl, ?_⟩
      refine ite2 (fun _ => ?_) (fun _ => ?_)
      · refine ⟨_, rfl, _, rfl, _, rfl, _, rfl, p, W, fp, lr, ts, lh, hs, rfl, k1.w hW eh0, k1.rl R nlh, nlh, h71, hl, by omega, fun H2 e k2 h72 => ⟨_, rfl, iteF ⟨rfl, k1.trans k2, _, h72, by rw [List.length_append]; exact Nat.le_refl _⟩⟩⟩
      · exact iteF ⟨rfl, k1, hs, h71, by omega⟩
    rintro σ2 H2 ⟨rfl, k2, hs2, h72, hl2⟩
    have w2 := k2.w hW eh0
    have R2 := k2.rl R nlh
    have ll : (ts.map V.ref).length = W.rows.length := by rw [List.length_map, R.a.len]
    refine ⟨_, rfl, _, rfl, lr, _, rfl, SqL.of R2.h, fun l1 hl1 => ⟨(by show 2 ≤ sizeLine; decide), fun l2 hl2 => ?_⟩⟩
    have s3 : Same H2 (upd (upd H2 l1 (.lst (ts.map V.ref).reverse)) l2 (.lst [.ref lr, .ref l1])) := (same_upd hl1).trans (same_upd hl2)
    have e1 : upd (upd H2 l1 (.lst (ts.map V.ref).reverse)) l2 (.lst [.ref lr, .ref l1]) l1 = some (.lst (ts.map V.ref).reverse) := by rw [upd_ne (ne_of_none upd_same hl2), upd_same]
    have e2 : upd (upd H2 l1 (.lst (ts.map V.ref).reverse)) l2 (.lst [.ref lr, .ref l1]) l2 = some (.lst [.ref lr, .ref l1]) := upd_same
    generalize upd (upd H2 l1 (.lst (ts.map V.ref).reverse)) l2 (.lst [.ref lr, .ref l1]) = H3 at s3 e1 e2 ⊢
    have R3 := R2.same s3
    obtain ⟨j, hj, hj2⟩ : ∃ j : Nat, way / 2 % 2 = (j : Int) ∧ j < 2 := ⟨(way / 2 % 2).toNat, by omega, by omega⟩
    obtain ⟨la, xs, q1, q2, q3⟩ : ∃ la xs, ([V.ref lr, V.ref l1] : List V)[j]? = some (.ref la) ∧ H3 la = some (.lst xs) ∧ ∀ v ∈ xs, v ∈ ts.map V.ref := by
      rcases (show j = 0 ∨ j = 1 by omega) with rfl | rfl
      · exact ⟨lr, _, rfl, R3.h, fun v hv => hv⟩
      · exact ⟨l1, _, rfl, e1, fun v hv => List.mem_reverse.mp hv⟩
    refine ⟨_, rfl, _, _, rfl, rfl, ⟨by decide, by decide⟩, _, _, rfl, rfl, (by show (0 : Int) < 2; decide), l2, _, _, _, rfl, rfl, SqL.of e2, at_of hj q1, ?_⟩
    refine ⟨la, rfl, ⟨_, SqL.of q2⟩, for_list (K := K) (a := la) (xs := xs) (fun i σ H' => ∃ v5 v6, σ = [some (.ref p), some (.ref lr), some (.int W.past), some (.ref lh), some (.int way), v5, v6] ∧ Same H3 H') ⟨none, none, rfl, Same.refl _⟩ (fun i σ H' _ ⟨_, _, _, e⟩ => SqL.of (e _ _ q2)) ?_ ?_⟩
    · rintro i v σ H' hv ⟨v5, v6, rfl, sm⟩
      obtain ⟨t, ht, rfl⟩ := List.mem_map.mp (q3 v (List.mem_of_getElem? hv))
      obtain ⟨kt, hkt⟩ := List.getElem?_of_mem ht
      have hkl : kt < W.rows.length := by rw [← ll, List.length_map]; exact (List.getElem?_eq_some_iff.mp hkt).1
      have ex : W.rows[kt]? = some W.rows[kt] := by simp [hkl]
      have hm : W.rows[kt] ∈ W.rows := List.getElem_mem hkl
      generalize W.rows[kt] = x at ex hm
      obtain ⟨t', _, y2, y3⟩ := R3.at ex
      rw [hkt] at y2
      cases y2
      refine ⟨_, rfl, by decide, by decide, for_range (lo := 0) (n := (3 : Int).toNat) (fun i σ H' => ∃ v6, σ = [some (.ref p), some (.ref lr), some (.int W.past), some (.ref lh), some (.int way), some (.ref t), v6] ∧ Same H3 H') ⟨_, rfl, sm⟩ ?_ ?_⟩
      · rintro i σ H' hi ⟨v6, rfl, sm⟩
        have hi : i < 3 := hi
        obtain ⟨j, hj, hj2⟩ : ∃ j : Nat, way / 12 % 2 = (j : Int) ∧ j < 2 := ⟨(way / 12 % 2).toNat, by omega, by omega⟩
        obtain ⟨c, c1⟩ : ∃ c : Int, ([V.int 1, V.int 2] : List V)[j]? = some (.int c) := by
          rcases (show j = 0 ∨ j = 1 by omega) with rfl | rfl
          · exact ⟨1, rfl⟩
          · exact ⟨2, rfl⟩
        refine ⟨_, rfl, _, rfl, _, rfl, _, _, rfl, rfl, ⟨by decide, by decide⟩, _, rfl, (by show 2 ≤ sizeLine; decide), fun l3 hl3 => ?_⟩
        have s4 : Same H' (upd H' l3 (.lst [V.int 1, V.int 2])) := same_upd hl3
        refine ⟨_, rfl, _, _, rfl, rfl, ⟨by decide, by decide⟩, _, _, rfl, rfl, (by show (0 : Int) < 2; decide), l3, _, _, _, rfl, rfl, SqL.of upd_same, at_of hj c1, _, _, rfl, rfl, .inl ⟨by omega, by omega⟩, _, _, rfl, rfl, _, _, rfl, rfl, (by show (0 : Int) < 3; decide), ?_⟩
        refine ⟨p, W, fp, t, x, _, rfl, (w2.same (s3.trans sm)).same s4, hm, s4 _ _ (sm _ _ y3), _, rfl, iteF ?_⟩
        exact ⟨_, rfl, sm.trans s4⟩
      · rintro σ H' ⟨v6, rfl, sm⟩
        exact ⟨_, _, rfl, sm⟩
    · rintro σ H4 ⟨v5, v6, rfl, sm⟩
      have s4 := s3.trans sm
      have k4 := k2.trans (.same s4)
      have h74 := h72.same s4
      refine ⟨fun σ' H' => σ' = [some (.ref p), some (.ref lr), some (.int W.past), some (.ref lh), some (.int way), v5, v6] ∧ K7 lh H H' ∧ H7 H' lh (lr :: ts) hs2, ?_, ?_⟩
      · refine ⟨_, rfl, _, _, rfl, rfl, ⟨by decide, by decide⟩, _, _, rfl, rfl, (by show (0 : Int) < 3; decide), rfl, _, rfl, ?_⟩
        refine ite2 (fun _ => ?_) (fun _ => ?_)
        · exact ⟨_, rfl, _, rfl, p, W, fp, lr, ts, rfl, k4.w hW eh0, k4.rl R nlh, hl, fun H1 s1 => ⟨_, rfl, iteF ⟨rfl, k4.trans (.same s1), h74.same s1⟩⟩⟩
        · exact iteF ⟨rfl, k4, h74⟩
      rintro σ5 H5 ⟨rfl, k5, h75⟩
      refine ⟨_, rfl, _, _, rfl, rfl, (by show (0 : Int) < 2; decide), rfl, _, rfl, ?_⟩
      refine ite2 (fun hq => ?_) (fun _ => ?_)
      · exact k _ _ k5 h75 (by omega)
      · refine ⟨_, rfl, _, rfl, _, rfl, _, rfl, p, W, fp, lr, ts, lh, hs2, rfl, k5.w hW eh0, k5.rl R nlh, nlh, h75, hl, by omega, fun H6 e k6 h76 => ?_⟩
        exact k _ _ (k5.trans k6) h76 (by rw [List.length_append]; show _ + 1 ≤ _; omega)
theorem sc_law : FnScope ["_law_script", "_law_first", "_law_many", "_law_wheel", "_law_names", "_law_rows", "_law_held", "_law_past", "_law_k", "_law_cell", "_law_kind", "_law_name", "_law_more", "_law_mixed", "_law_pair"] ["_law_script"] (defScope s_law) := ⟨rfl, rfl, rfl, by decide +kernel, rfl, by decide +kernel, by decide +kernel⟩
theorem ok_law {f : Addr} {fd : FuncData} (F : Fun K "law" "law" s_law f fd) (T : WT K mg CS CW CB CT CN) (L : LT mg) (g_alike : DOk P w K mg base 5 "_law_alike" ["_law_wheel", "_law_rows", "_law_past", "_law_held", "_law_way"] (spAlike CW CS)) (g_cell_at : DOk P w K mg base 1 "_law_cell_at" ["_law_script", "_law_k"] (spCell K)) (g_one : DOk P w K mg base 5 "_law_one" ["_law_wheel", "_law_rows", "_law_past", "_law_name", "_law_kind", "_law_share"] (spOneR CW CS)) (g_turns : DOk P w K mg base 5 "_law_turns" ["_law_wheel", "_law_rows", "_law_past", "_law_many"] (spTurnsR CW CS)) (k_Wheel : KOk P w K mg base 1 "Wheel" CW ["self"] (spWInit CW CS)) (m_W_copied : MOk P w K mg base 4 CW "copied" ["self"] (spCopied CW CS)) (m_W_enter : MOk P w K mg base 3 CW "enter" ["self", "name", "share"] (spEnter CW CS CB CT)) (m_W_wake : MOk P w K mg base 3 CW "wake" ["self", "name"] (spWake CW CS CN)) :
    FnOk P w K mg base CX0 7 f fd ["_law_script"] (spLaw K) := by
  refine F.ok sc_law (fun vs H Q E h => ?_) (fun cdv A outer s H vs Q E hr h => ?_)
  · (first | (obtain ⟨_, rfl, _⟩ := h; rfl) | (obtain ⟨_, _, rfl, _⟩ := h; rfl) | (obtain ⟨_, _, _, rfl, _⟩ := h; rfl) | (obtain ⟨_, _, _, _, rfl, _⟩ := h; rfl) | (obtain ⟨_, _, _, _, _, rfl, _⟩ := h; rfl) | (obtain ⟨_, _, _, _, _, _, rfl, _⟩ := h; rfl) | (obtain ⟨_, _, _, _, _, _, _, rfl, _⟩ := h; rfl) | (obtain ⟨_, _, _, _, _, _, _, _, rfl, _⟩ := h; rfl) | (obtain ⟨_, _, _, _, _, _, _, _, _, rfl, _⟩ := h; rfl) | (obtain ⟨_, _, _, _, _, _, _, _, _, _, rfl, _⟩ := h; rfl) | (obtain ⟨_, _, _, _, _, _, _, _, _, _, _, rfl, _⟩ := h; rfl) | (obtain ⟨_, _, _, _, _, _, _, _, _, _, _, _, rfl, _⟩ := h; rfl) | (obtain ⟨_, _, _, _, _, _, _, _, _, _, _, _, _, rfl, _⟩ := h; rfl) | (obtain ⟨_, _, _, _, _, _, _, _, _, _, _, _, _, _, rfl, _⟩ := h; rfl) | (obtain ⟨_, _, _, _, _, _, _, _, _, _, _, _, _, _, _, rfl, _⟩ := h; rfl))
  · obtain ⟨a, ns, rfl, hS, hlen, kk⟩ := h
    refine ⟨_, (pss_cons (ps_set (i := 1) sc_law.nd rfl (Or.inl rfl) (by exact pe_f g_cell_at hr (by decide) (by rfl) (fun σ => passN σ) (pa_cons (pv 0) (pa_cons pe_int pa_nil))))
      (pss_cons (ps_set (i := 2) sc_law.nd rfl (Or.inl rfl) (pe_op op_add (pe_op op_add pe_int (pe_op op_mod (pv 1) pe_int)) (pe_op op_mul pe_int (pe_callTy call_int1 (by rfl) L.int PyProof.Rows.boot_int (pa_cons (pe_cmpR op_eq (pe_op op_mod (pe_op op_fdiv (pv 1) pe_int) pe_int) pe_int (nomark _)) pa_nil)))))
      (pss_cons (ps_set (i := 3) sc_law.nd rfl (Or.inl rfl) (by exact pe_k0 k_Wheel hr (by decide) (by rfl)))
      (pss_cons (ps_setLc (i := 4) (own := [("_law_k", 8)]) (g := gName 8) (tt := tYes) rfl sc_law.nd rfl rfl (sw_true rfl rfl rfl (by decide +kernel)) (pi_range1 rfl L.range (pa_cons (pv 2) pa_nil)) (blkOk_by (N := ["_law_script", "_law_first", "_law_many", "_law_wheel", "_law_names", "_law_rows", "_law_held", "_law_past", "_law_k", "_law_cell", "_law_kind", "_law_name", "_law_more", "_law_mixed", "_law_pair"]) (sc := defScope s_law) (by decide +kernel)) (fun _ _ _ _ _ => (pg_name (i := 8) sc_law.nd rfl (Or.inl rfl))) (fun _ _ _ _ _ => pts_nil) (fun _ _ _ _ _ => (pe_op op_add_str pe_str (pe_callTy call_str_int (by rfl) L.str PyProof.Rows.boot_str (pa_cons (pv 8) pa_nil)))))
      (C8.pss_cut (ps_if (pt_cmpR op_eq (pe_op op_mod (pv 1) pe_int) pe_int (nomark _)) (pss_one (ps_asg pe_str (pg_sub (pv 4) (pe_op op_mod (pe_op op_fdiv (pv 1) pe_int) (pv 2)) set_list))) pss_nil)
      (pss_cons (ps_set (i := 5) sc_law.nd rfl (Or.inl rfl) (pe_lst pa_nil))
      (pss_cons (ps_set (i := 6) sc_law.nd rfl (Or.inl rfl) (pe_lst pa_nil))
      (pss_cons (ps_set (i := 7) sc_law.nd rfl (Or.inl rfl) pe_int)
      (pss_cons (ps_for PassesOwn.never rfl (pi_range1 rfl L.range (pa_cons (pv 2) pa_nil)) (pg_name (i := 8) sc_law.nd rfl (Or.inl rfl))
        (pss_cons (ps_expr (by exact pe_m m_W_enter T.clW hr (by decide) (fun σ => passN σ) (pv 3) (pa_cons (pe_ix (ix_listK (K0 := K)) (pv 4) (pv 8) (fun _ _ => rfl)) (pa_cons (pe_op op_add pe_int (pe_op op_mod (pe_op op_add (pe_op op_fdiv (pv 1) pe_int) (pe_op op_mul pe_int (pv 8))) pe_int)) pa_nil))))
      (pss_cons (ps_expr (by exact pe_app (K0 := K) (pv 5) (pe_lst (pa_cons (pe_ix (ix_listK (K0 := K)) (pv 4) (pv 8) (fun _ _ => rfl)) (pa_cons (pe_op op_add pe_int (pe_op op_mod (pe_op op_add (pe_op op_fdiv (pv 1) pe_int) (pe_op op_mul pe_int (pv 8))) pe_int)) (pa_cons pe_int (pa_cons pe_bl pa_nil)))))))
      (pss_one (ps_if (pt_cmpR op_gt (pe_op op_mod (pe_op op_add (pe_op op_fdiv (pv 1) pe_int) (pv 8)) pe_int) pe_int (nomark _)) (pss_cons (ps_expr (by exact pe_m m_W_wake T.clW hr (by decide) (fun σ => passN σ) (pv 3) (pa_cons (pe_ix (ix_listK (K0 := K)) (pv 4) (pv 8) (fun _ _ => rfl)) pa_nil)))
      (pss_one (ps_asg pe_bl (pg_sub (pe_ix (ix_listK (K0 := K)) (pv 5) (pv 8) (fun _ _ => rfl)) pe_int set_list)))) pss_nil)))))
      (pss_cons (ps_for PassesOwn.never rfl (pi_list (pe_slice sl_list (pv 0) (po_some pe_int) (po_some pe_int))) (pg_name (i := 9) sc_law.nd rfl (Or.inl rfl))
        (pss_cons (ps_set (i := 10) sc_law.nd rfl (Or.inl rfl) (pe_op op_mod (pv 9) pe_int))
      (pss_cons (ps_set (i := 11) sc_law.nd rfl (Or.inl rfl) (pe_ix (ix_listK (K0 := K)) (pv 4) (pe_op op_mod (pe_op op_fdiv (pv 9) pe_int) (pv 2)) (fun _ _ => rfl)))
      (pss_cons (ps_set (i := 12) sc_law.nd rfl (Or.inl rfl) (pe_op op_fdivN (pe_op op_fdiv (pv 9) pe_int) (pv 2)))
      (C8.pss_cut (ps_if (pt_cmpR op_lt (pv 10) pe_int (nomark _)) (pss_cons (ps_set (i := 7) sc_law.nd rfl (Or.inl rfl) (by exact pe_f g_turns hr (by decide) (by rfl) (fun σ => passN σ) (pa_cons (pv 3) (pa_cons (pv 5) (pa_cons (pv 7) (pa_cons (pe_ifExp (pt_cmpR op_lt (pv 10) pe_int (nomark _)) pe_int (pe_op op_add pe_int (pe_op op_mod (pv 12) pe_int))) pa_nil))))))
      (pss_one (ps_if (pt_cmpR op_isN (pv 7) pe_non (nomark _)) (pss_one (ps_ret pe_bl)) pss_nil))) (pss_one (ps_if (pt_not (pt_val (by exact pe_f g_one hr (by decide) (by rfl) (fun σ => passN σ) (pa_cons (pv 3) (pa_cons (pv 5) (pa_cons (pv 7) (pa_cons (pv 11) (pa_cons (pv 10) (pa_cons (pe_op op_add pe_int (pe_op op_mod (pv 12) pe_int)) pa_nil))))))))) (pss_one (ps_ret pe_bl)) pss_nil)))
      (pss_cons (ps_set (i := 13) sc_law.nd rfl (Or.inl rfl) (pe_op op_mod (pe_op op_mul (pv 9) pe_int) pe_int))
      (C8.pss_cut (ps_if (PW.pt (pw_and (pt_cmpR op_lt (pv 2) pe_int (nomark _)) (pw_and1 (pt_not (pt_val (by exact pe_f g_alike hr (by decide) (by rfl) (fun σ => passN σ) (pa_cons (pv 3) (pa_cons (pv 5) (pa_cons (pv 7) (pa_cons (pv 6) (pa_cons (pv 13) pa_nil))))))))))) (pss_one (ps_ret pe_bl)) pss_nil)
      (pss_one (ps_if (pt_cmpR op_eq (pe_op op_mod (pe_op op_fdiv (pv 13) pe_int) pe_int) pe_int (nomark _)) (pss_one (ps_set (i := 3) sc_law.nd rfl (Or.inl rfl) (by exact pe_m0 m_W_copied T.clW hr (by decide) (fun σ => passN σ) (pv 3)))) pss_nil)))))))))
      (pss_one (ps_ret (pe_and (by exact pe_f g_alike hr (by decide) (by rfl) (fun σ => passN σ) (pa_cons (pv 3) (pa_cons (pv 5) (pa_cons (pv 7) (pa_cons (pv 6) (pa_cons pe_int pa_nil)))))) (pe_one (pe_cmpR (op_eqP (K0 := K) hr.units) (pe_lc (own := [("_law_pair", 14)]) (g := gName 14) rfl sc_law.nd (pi_list (pv 6)) (blkOk_by (N := ["_law_script", "_law_first", "_law_many", "_law_wheel", "_law_names", "_law_rows", "_law_held", "_law_past", "_law_k", "_law_cell", "_law_kind", "_law_name", "_law_more", "_law_mixed", "_law_pair"]) (sc := defScope s_law) (by decide +kernel)) (fun _ _ _ _ _ => (pg_name (i := 14) sc_law.nd rfl (Or.inl rfl))) (fun _ _ _ _ _ => (pts_one (pt_cmpR (op_neP (K0 := K) hr.units) (pe_ix (ix_tupK (K0 := K)) (pv 14) pe_int (fun _ _ => rfl)) (pe_ix (ix_tupK (K0 := K)) (pv 14) pe_int (fun _ _ => rfl)) (nomark _)))) (fun _ _ _ _ _ => (pv 14))) (pe_lst pa_nil) (nomark _)))))))))))))))), ?_⟩
    refine ⟨_, rfl, a, ns, 0, rfl, hS.sq, by decide, fun z0 => ⟨_, rfl, _, _, rfl, rfl, (by show (0 : Int) < 9; decide), _, _, rfl, rfl, _, rfl, _, _, rfl, rfl, ⟨by decide, by decide⟩, _, _, rfl, rfl, (by show (0 : Int) < 7; decide), rfl, .inr ⟨_, rfl, _, _, rfl, rfl, .inl ⟨by decide, by decide⟩, _, _, rfl, rfl, ?_⟩⟩⟩
    obtain ⟨m, hm, m1, m2⟩ : ∃ m : Nat, 1 + z0 % 9 + 40 * (if decide (V.int (z0 / 9 % 7) = V.int 1) = true then 1 else 0) = (m : Int) ∧ 1 ≤ m ∧ m ≤ 49 := by
      refine ⟨(1 + z0 % 9 + 40 * (if decide (V.int (z0 / 9 % 7) = V.int 1) = true then 1 else 0)).toNat, ?_, ?_, ?_⟩ <;> split <;> omega
    show gName 2 (V.int (1 + z0 % 9 + 40 * (if decide (V.int (z0 / 9 % 7) = V.int 1) = true then 1 else 0))) _ _ _
    rw [hm]
    -- the wheel
    intro p dxp hxp hdp _
    refine mk_wheel hxp hdp fun H2 fp0 w2 s2 _ => ⟨rfl, ?_⟩
    -- names
    refine ⟨_, rfl, (m : Int), rfl, by omega, by omega, fun ln hln => ?_⟩
    refine lc_range (lo := 0) (n := m) (fun i H' => H' = upd H2 ln (.lst ((List.range i).map fun k => V.str (nm0 k)))) rfl ?_ ?_
    · rintro i H' hi rfl
      show gName 8 (V.int (0 + (i : Int))) _ _ _
      rw [Int.zero_add]
      refine ⟨rfl, ?_⟩
      refine ⟨_, rfl, _, rfl, Nat.lt_of_le_of_lt (Nat.log2_le_self _) (by show i < 1920; omega), _, _, rfl, rfl, ?_, _, upd_same, small1000 ?_, ?_⟩
      · have e := (nm0_ne i (by omega)).2
        have e2 : (nm0 i).length = ("k" : Str).length + (num i).length := by
          unfold nm0
          rw [← codes_len, codes_app, List.length_append, codes_len, codes_len]
        show ("k" : Str).length + (num i).length ≤ _
        exact Nat.le_of_lt (small1000 (by omega))
      · rw [List.length_map, List.length_range]
        omega
      · rw [upd_upd, range_snoc]
        rfl
    rintro H3 hH3
    have s3 : Same H2 H3 := by rw [hH3]; exact same_upd hln
    have w3 := w2.same s3
    have hS3 : Scr K H3 a (ns.map V.int) := (hS.same s2).same s3
    have hn3 : H3 ln = some (.lst (((List.range m).map nm0).map V.str)) := by rw [hH3, List.map_map]; exact upd_same
    clear hH3
    refine ⟨fun σ' H' => ∃ f : Nat → Str, (∀ j < m, ∀ k < m, f j = f k → j = k) ∧ σ' = [some (.ref a), some (.int z0), some (.int m), some (.ref p), some (.ref ln), none, none, none, none, none, none, none, none, none, none] ∧
      WAt CW CS H' p ⟨0, []⟩ fp0 ∧ H' ln = some (.lst (((List.range m).map f).map V.str)) ∧ Scr K H' a (ns.map V.int), ?_, ?_⟩
    · refine ⟨_, rfl, _, _, rfl, rfl, (by show (0 : Int) < 3; decide), rfl, _, rfl, ?_⟩
      refine ite2 (fun _ => ?_) (fun _ => ?_)
      · obtain ⟨j, hj, hj2⟩ : ∃ j : Nat, z0 / 3 % (m : Int) = (j : Int) ∧ j < m := by
          have a1 := Int.emod_nonneg (z0 / 3) (show (m : Int) ≠ 0 by omega)
          have a2 := Int.emod_lt_of_pos (z0 / 3) (show (0 : Int) < (m : Int) by omega)
          exact ⟨(z0 / 3 % (m : Int)).toNat, by omega, by omega⟩
        refine ⟨_, rfl, _, rfl, _, _, rfl, rfl, ⟨by decide, by decide⟩, _, rfl, _, _, rfl, rfl, (by show (0 : Int) < (m : Int); omega), ln, _, _, j, rfl, rfl, hn3, ?_, ?_⟩
        · show ixN _ (z0 / 3 % (m : Int)) = _
          rw [hj]
          exact ixN_nat (by simp; exact hj2)
        · refine ⟨fun k => if k = j then "" else nm0 k, fun x hx y hy e => ?_, rfl, wl w3 hn3, ?_, hS3.upl hn3⟩
          · by_cases xj : x = j <;> by_cases yj : y = j
            · omega
            · simp only [xj, yj, if_true, if_false] at e
              exact ((nm0_ne y (by omega)).1 e.symm).elim
            · simp only [xj, yj, if_true, if_false] at e
              exact ((nm0_ne x (by omega)).1 e).elim
            · simp only [xj, yj, if_false] at e
              exact nm0_inj x (by omega) y (by omega) e
          · rw [upd_same, ← set_map, ← List.map_set]
      · exact ⟨nm0, fun x hx y hy e => nm0_inj x (by omega) y (by omega) e, rfl, w3, hn3, hS3⟩
    rintro σ1 H4 ⟨f, finj, rfl, w4, hn4, hS4⟩
    have nat : ∀ i, i < m → ((List.range m).map f)[i]? = some (f i) := fun i hi => map_at _ hi
    -- rows, held
    refine ⟨(by show 0 ≤ sizeLine; decide), fun lr hlr => ⟨(by show 0 ≤ sizeLine; decide), fun lh hlh => ?_⟩⟩
    have s5 : Same H4 (upd (upd H4 lr (.lst [])) lh (.lst [])) := (same_upd hlr).trans (same_upd hlh)
    have nhr : lh ≠ lr := (ne_of_none upd_same hlh).symm
    have R5 : Rl (upd (upd H4 lr (.lst [])) lh (.lst [])) lr [] [] := ⟨by rw [upd_ne nhr.symm, upd_same]; rfl, .nil, List.nodup_cons.mpr ⟨fun h => (nomatch h), List.nodup_nil⟩⟩
    have e5 : upd (upd H4 lr (.lst [])) lh (.lst []) lh = some (.lst []) := upd_same
    have hn5 := s5 _ _ hn4
    have nnr : ln ≠ lr := ne_of_none hn4 hlr
    have nnh : ln ≠ lh := fun z => by
      have := same_upd (o := .lst []) hlr _ _ hn4
      rw [z, hlh] at this
      cases this
    have w5 := w4.same s5
    have hS5 := hS4.same s5
    generalize upd (upd H4 lr (.lst [])) lh (.lst []) = H5 at s5 R5 e5 hn5 w5 hS5 ⊢
    -- all enter
    refine ⟨_, rfl, (m : Int), rfl, by omega, by omega, for_range (lo := 0) (n := m) (fun i σ H' => ∃ W fp ts v8, σ = [some (.ref a), some (.int z0), some (.int m), some (.ref p), some (.ref ln), some (.ref lr), some (.ref lh), some (.int 0), v8, none, none, none, none, none, none] ∧
        WAt CW CS H' p W fp ∧ Rl H' lr ts W.rows ∧ W.past = 0 ∧ W.rows.map (·.n) = (List.range i).map f ∧ (H' ln = some (.lst (((List.range m).map f).map V.str)) ∧ ln ∉ lr :: ts) ∧ (H' lh = some (.lst []) ∧ lh ∉ lr :: ts) ∧ Scr K H' a (ns.map V.int))
      ⟨_, fp0, [], none, rfl, w5, R5, rfl, rfl, ⟨hn5, fun h => nnr (List.mem_singleton.mp h)⟩, ⟨e5, fun h => nhr (List.mem_singleton.mp h)⟩, hS5⟩ ?_ ?_⟩
    · rintro i σ H' hi ⟨W, fp, ts, v8, rfl, hW, R, hp0, hnn, ⟨hn, an⟩, ⟨hh, ah⟩, hS'⟩
      obtain ⟨dx, d, hp⟩ := hW.at
      have z0' : (0 : Int) + (i : Int) = (i : Int) := by omega
      have nh : ¬ Has W (f i) := by
        rintro ⟨x, hx, e⟩
        have : x.n ∈ W.rows.map (·.n) := List.mem_map.mpr ⟨x, hx, rfl⟩
        rw [hnn] at this
        obtain ⟨j, hj, ej⟩ := List.mem_map.mp this
        have hj := List.mem_range.mp hj
        have := finj j (by omega) i (by omega) (ej.trans e)
        omega
      have lrw := len_rows hnn
      refine ⟨_, rfl, p, dx, _, rfl, hp, wf_m, _, rfl, _, rfl, ln, _, _, _, rfl, rfl, SqL.of hn, at_of z0' (at_map _ (nat i hi)), _, rfl, _, _, rfl, rfl, ⟨by decide, by decide⟩, _, rfl, _, _, rfl, rfl, .inl ⟨by decide, by decide⟩, _, _, rfl, rfl, _, _, rfl, rfl, (by show (0 : Int) < 12; decide), _, _, rfl, rfl, ?_⟩
      refine ⟨p, W, fp, f i, _, rfl, hW, by omega, .int _, fun z => (nh z).elim, fun _ z => (good_share (by omega) (by omega) z).elim, fun _ s es h1 h2 H6 fp' w' st => ?_⟩
      cases es
      have R6 := R.kept hW st.kept
      have hn6 := kl hW st hn
      have hh6 := kl hW st hh
      have hS6 := hW.scr st.kept hS'
      have hlt : ts.length = i := by rw [R.a.len]; exact lrw
      refine ⟨_, rfl, .inl ⟨rfl, _, SqL.of R6.h⟩, _, rfl, _, rfl, ln, _, _, _, rfl, rfl, SqL.of hn6, at_of z0' (at_map _ (nat i hi)), _, rfl, _, _, rfl, rfl, ⟨by decide, by decide⟩, _, rfl, _, _, rfl, rfl, .inl ⟨by decide, by decide⟩, _, _, rfl, rfl, _, _, rfl, rfl, (by show (0 : Int) < 12; decide), _, _, rfl, rfl, (by show 4 ≤ sizeLine; decide), fun t ht => ?_⟩
      dsimp only
      generalize (1 : Int) + (z0 / 63 + 7 * (0 + (i : Int))) % 12 = sv at h1 h2 w' st ht ⊢
      have s7 : Same H6 (upd H6 t (.lst [V.str (f i), V.int sv, V.int 0, V.bl false])) := same_upd ht
      refine ⟨lr, _, _, rfl, rfl, s7 _ _ R6.h, by rw [List.length_map, hlt]; exact small1000 (by omega), ?_⟩
      have R7 := R6.snoc (y := ⟨f i, sv, 0, false⟩) ht
      have w7 := wl (ys := ts.map V.ref ++ [V.ref t]) (w'.same s7) (s7 _ _ R6.h)
      have hS7 := (hS6.same s7).upl (ys := ts.map V.ref) (v := .lst (ts.map V.ref ++ [V.ref t])) (s7 _ _ R6.h)
      have keep7 : ∀ {l : Addr} {xs : List V}, H6 l = some (.lst xs) → l ∉ lr :: ts → (upd (upd H6 t (.lst [V.str (f i), V.int sv, V.int 0, V.bl false])) lr (.lst (ts.map V.ref ++ [V.ref t]))) l = some (.lst xs) ∧ l ∉ lr :: (ts ++ [t]) := fun {l xs} e n => by
        refine ⟨?_, fun h => ?_⟩
        · rw [upd_ne (fun z => n (by rw [z]; exact List.mem_cons_self))]
          exact s7 _ _ e
        · rcases List.mem_cons.mp h with h | h
          · exact n (by rw [h]; exact List.mem_cons_self)
          · rcases List.mem_append.mp h with h | h
            · exact n (List.mem_cons_of_mem _ h)
            · rw [List.mem_singleton.mp h, ht] at e
              cases e
      have hn7 := keep7 hn6 an
      have hh7 := keep7 hh6 ah
      have hnn7 : (W.rows ++ [(⟨f i, sv, 0, false⟩ : RowS)]).map (·.n) = (List.range (i + 1)).map f := by
        rw [List.map_append, hnn, range_snoc]
        rfl
      rw [show rv ⟨f i, sv, 0, false⟩ = [V.str (f i), V.int sv, V.int 0, V.bl false] from rfl] at R7
      generalize upd (upd H6 t (.lst [V.str (f i), V.int sv, V.int 0, V.bl false])) lr (.lst (ts.map V.ref ++ [V.ref t])) = H7 at R7 w7 hS7 hn7 hh7 ⊢
      have w7 : WAt CW CS H7 p ⟨W.past, W.rows ++ [(⟨f i, sv, 0, false⟩ : RowS)]⟩ fp' := w7
      have hat : (W.rows ++ [(⟨f i, sv, 0, false⟩ : RowS)])[i]? = some ⟨f i, sv, 0, false⟩ := by
        rw [List.getElem?_append_right (by omega), lrw]
        simp
      refine ⟨_, rfl, _, _, rfl, rfl, ⟨by decide, by decide⟩, _, rfl, _, _, rfl, rfl, _, _, rfl, rfl, (by show (0 : Int) < 4; decide), _, _, rfl, rfl, _, rfl, ?_⟩
      refine ite2 (fun _ => ?_) (fun _ => ?_)
      · obtain ⟨dx7, d7, hp7⟩ := w7.at
        have hm7 := List.mem_of_getElem? hat
        refine ⟨_, rfl, p, dx7, _, rfl, hp7, wf_m, _, rfl, _, rfl, ln, _, _, _, rfl, rfl, SqL.of hn7.1, at_of z0' (at_map _ (nat i hi)), p, _, fp', f i, rfl, w7, fun z => (z ⟨⟨f i, sv, 0, false⟩, hm7, rfl⟩).elim, fun x hx hxn H8 w8 st8 => ?_⟩
        have R8 := R7.kept w7 st8.kept
        obtain ⟨t', y1, y2, y3⟩ := R8.at hat
        refine ⟨_, rfl, _, rfl, lr, _, _, _, rfl, rfl, SqL.of R8.h, at_of z0' y1, t', _, _, 3, rfl, rfl, y3, rfl, ?_⟩
        have R9 := R8.set (y := ⟨f i, sv, 0, true⟩) y2
        have nt : ∀ {l}, l ∉ lr :: (ts ++ [t]) → l ≠ t' := fun n z => n (by rw [z]; exact List.mem_cons_of_mem _ (List.mem_of_getElem? y2))
        have hn8 := kl w7 st8 hn7.1
        have hh8 := kl w7 st8 hh7.1
        have rows8 : (Wm.wake (⟨W.past, W.rows ++ [(⟨f i, sv, 0, false⟩ : RowS)]⟩ : WhS) (f i)).rows = (W.rows ++ [(⟨f i, sv, 0, false⟩ : RowS)]).set i ⟨f i, sv, 0, true⟩ := by
          show Wm.upd _ (⟨f i, sv, 0, false⟩ : RowS).n _ = _
          rw [upd_set w7.ok.nd hat, hp0]
          rfl
        refine ⟨_, fp', ts ++ [t], _, rfl, wl w8 y3, by rw [rows8]; exact R9, hp0, ?_, ⟨by rw [upd_ne (nt hn7.2)]; exact hn8, hn7.2⟩, ⟨by rw [upd_ne (nt hh7.2)]; exact hh8, hh7.2⟩, (w7.scr st8.kept hS7).upl y3⟩
        rw [wake_names]
        exact hnn7
      · exact ⟨_, fp', ts ++ [t], _, rfl, w7, R7, hp0, hnn7, hn7, hh7, hS7⟩
    rintro σ H6 ⟨W6, fp6, ts6, v8, rfl, w6, R6, hp6, hnn6, ⟨hn6, an6⟩, ⟨hh6, ah6⟩, hS6⟩
    have h76 : H7 H6 lh (lr :: ts6) [] := ⟨Tl.nil hh6, fun e he => (nomatch he)⟩
    -- the deeds
    refine ⟨_, rfl, _, rfl, _, rfl, a, _, rfl, hS6.sq, fun lq hlq => ?_⟩
    generalize hxs : cutV (ns.map V.int) (some 1) (some 60) = xs
    have hxl : xs.length ≤ 63 := by
      rw [← hxs]
      exact Nat.le_trans (cutV_length _ _ _) (by rw [List.length_map]; exact hlen)
    have hxi : ∀ y ∈ xs, ∃ z : Int, y = .int z := fun y hy => by
      rw [← hxs] at hy
      have h2 := List.mem_of_mem_drop (List.mem_of_mem_take hy)
      obtain ⟨z, _, e⟩ := List.mem_map.mp h2
      exact ⟨z, e.symm⟩
    have s7 : Same H6 (upd H6 lq (.lst xs)) := same_upd hlq
    have nq : lq ∉ lr :: ts6 ∧ lq ≠ lh := by
      refine ⟨fun h => ?_, fun z => ?_⟩
      · obtain ⟨xs, e⟩ := R6.lst lq h
        rw [hlq] at e
        cases e
      · rw [z, hh6] at hlq
        cases hlq
    refine ⟨lq, rfl, ⟨_, SqL.of upd_same⟩, for_list (K := K) (a := lq) (xs := xs) (fun i σ H' => ∃ p W fp ts hs v8 v9 v10 v11 v12 v13, σ = [some (.ref a), some (.int z0), some (.int m), some (.ref p), some (.ref ln), some (.ref lr), some (.ref lh), some (.int W.past), v8, v9, v10, v11, v12, v13, none] ∧
        WAt CW CS H' p W fp ∧ Rl H' lr ts W.rows ∧ W.rows.length ≤ m + i ∧ (H' ln = some (.lst (((List.range m).map f).map V.str)) ∧ ln ∉ lr :: ts) ∧ lh ∉ lr :: ts ∧ H7 H' lh (lr :: ts) hs ∧ hs.length ≤ 2 * i ∧ (H' lq = some (.lst xs) ∧ lq ∉ lr :: ts))
      ⟨p, W6, fp6, ts6, [], v8, none, none, none, none, none, by rw [hp6], w6.same s7, R6.same s7, by rw [len_rows hnn6]; exact Nat.le_refl _, ⟨s7 _ _ hn6, an6⟩, ah6, h76.same s7, Nat.le_refl _, upd_same, nq.1⟩ (fun i σ H' _ ⟨_, _, _, _, _, _, _, _, _, _, _, _, _, _, _, _, _, _, _, e, _⟩ => SqL.of e) ?_ ?_⟩
    · rintro i y σ H' hy ⟨p, W, fp, ts, hs, v8, v9, v10, v11, v12, v13, rfl, hW, R, hl, ⟨hn, an⟩, ah, h7, hhs, hQ, aQ⟩
      obtain ⟨z, rfl⟩ := hxi y (List.mem_of_getElem? hy)
      have hi := (List.getElem?_eq_some_iff.mp hy).1
      refine ⟨_, rfl, _, _, rfl, rfl, (by show (0 : Int) < 9; decide), ?_⟩
      obtain ⟨k, hk, hk2⟩ : ∃ k : Nat, z / 9 % (m : Int) = (k : Int) ∧ k < m := by
        have a1 := Int.emod_nonneg (z / 9) (show (m : Int) ≠ 0 by omega)
        have a2 := Int.emod_lt_of_pos (z / 9) (show (0 : Int) < (m : Int) by omega)
        exact ⟨(z / 9 % (m : Int)).toNat, by omega, by omega⟩
      refine ⟨_, rfl, _, rfl, _, _, rfl, rfl, ⟨by decide, by decide⟩, _, rfl, _, _, rfl, rfl, (by show (0 : Int) < (m : Int); omega), ln, _, _, _, rfl, rfl, SqL.of hn, at_of hk (at_map _ (nat k hk2)), ?_⟩
      refine ⟨_, rfl, _, _, rfl, rfl, ⟨by decide, by decide⟩, _, rfl, _, _, rfl, rfl, ⟨by omega, by omega⟩, ?_⟩
      show gName 12 (V.int _) _ _ _
      generalize Int.fdiv (z / 9) (m : Int) = more
      refine ⟨fun σ' H' => ∃ W fp ts, σ' = [some (.ref a), some (.int z0), some (.int m), some (.ref p), some (.ref ln), some (.ref lr), some (.ref lh), some (.int W.past), v8, some (.int z), some (.int (z % 9)), some (.str (f k)), some (.int more), v13, none] ∧
        WAt CW CS H' p W fp ∧ Rl H' lr ts W.rows ∧ W.rows.length ≤ m + (i + 1) ∧ (H' ln = some (.lst (((List.range m).map f).map V.str)) ∧ ln ∉ lr :: ts) ∧ lh ∉ lr :: ts ∧ H7 H' lh (lr :: ts) hs ∧ (H' lq = some (.lst xs) ∧ lq ∉ lr :: ts), ?_, ?_⟩
      · refine ⟨_, rfl, _, _, rfl, rfl, _, rfl, ?_⟩
        refine ite2 (fun _ => ?_) (fun _ => ?_)
        · have fin : ∀ H2 W2, WAt CW CS H2 p W2 fp → Rl H2 lr ts W2.rows → W2.rows.length = W.rows.length → (∀ b o, H' b = some o → b ∉ fp → b ∉ ts → H2 b = some o) →
              WAt CW CS H2 p W2 fp ∧ Rl H2 lr ts W2.rows ∧ W2.rows.length ≤ m + (i + 1) ∧ (H2 ln = some (.lst (((List.range m).map f).map V.str)) ∧ ln ∉ lr :: ts) ∧ lh ∉ lr :: ts ∧ H7 H2 lh (lr :: ts) hs ∧ (H2 lq = some (.lst xs) ∧ lq ∉ lr :: ts) := fun H2 W2 w2 R2 e2 k2 => by
            have ke : ∀ b o, H' b = some o → b ∉ fp → b ∉ lr :: ts → H2 b = some o := fun b o e h1 h2 => k2 b o e h1 fun h => h2 (List.mem_cons_of_mem _ h)
            have fr : ∀ b ∈ ts, b ∈ ts ∨ ∀ xs, H' b ≠ some (.lst xs) := fun b hb => .inl hb
            have h72 := h7.move hW R ah ke fr
            exact ⟨w2, R2, by omega, mv hW hn an ke fr, ah, h72.1, mv hW hQ aQ ke fr⟩
          refine ⟨_, rfl, _, rfl, _, rfl, _, rfl, _, _, rfl, rfl, _, rfl, ?_⟩
          refine ite2 (fun _ => ?_) (fun _ => ?_)
          · refine ⟨p, W, fp, lr, ts, 1, rfl, hW, R, by decide, by decide, by omega, fun H2 W2 w2 R2 e2 k2 => ?_⟩
            refine ⟨_, rfl, rfl, _, rfl, iteF ⟨W2, fp, ts, rfl, fin H2 W2 w2 R2 e2 k2⟩⟩
          · refine ⟨_, rfl, _, _, rfl, rfl, (by show (0 : Int) < 12; decide), _, _, rfl, rfl, ?_⟩
            refine ⟨p, W, fp, lr, ts, 1 + more % 12, rfl, hW, R, by omega, by omega, by omega, fun H2 W2 w2 R2 e2 k2 => ?_⟩
            refine ⟨_, rfl, rfl, _, rfl, iteF ⟨W2, fp, ts, rfl, fin H2 W2 w2 R2 e2 k2⟩⟩
        · refine ⟨_, rfl, _, rfl, _, rfl, _, rfl, _, rfl, _, rfl, _, _, rfl, rfl, (by show (0 : Int) < 12; decide), _, _, rfl, rfl, ?_⟩
          refine ⟨p, W, fp, lr, ts, f k, z % 9, 1 + more % 12, rfl, hW, R, by omega, by omega, by omega, fun H2 W2 fp2 ts2 w2 R2 ep e2 ke fr => ⟨_, rfl, iteF ?_⟩⟩
          have h72 := h7.move hW R ah ke fr
          exact ⟨W2, fp2, ts2, by rw [ep]; rfl, w2, R2, by omega, mv hW hn an ke fr, h72.2, h72.1, mv hW hQ aQ ke fr⟩
      rintro σ1 H1 ⟨W1, fp1, ts1, rfl, w1, R1, l1, ⟨hn1, an1⟩, ah1, h71, hQ1, aQ1⟩
      obtain ⟨xh1, eh1⟩ := h71.t.lh
      refine ⟨_, rfl, _, _, rfl, rfl, .inr ⟨by decide, by decide⟩, _, _, rfl, rfl, (by show (0 : Int) < 1000003; decide), ?_⟩
      show gName 13 (V.int _) _ _ _
      generalize z * 48271 % 1000003 = mixed
      have nq1 : ln ≠ lh ∧ lq ≠ lh := ⟨nnh, nq.2⟩
      refine ⟨fun σ' H' => σ' = [some (.ref a), some (.int z0), some (.int m), some (.ref p), some (.ref ln), some (.ref lr), some (.ref lh), some (.int W1.past), v8, some (.int z), some (.int (z % 9)), some (.str (f k)), some (.int more), some (.int mixed), none] ∧
        K7 lh H1 H' ∧ ∃ hs', H7 H' lh (lr :: ts1) hs' ∧ hs'.length ≤ hs.length + 2, ?_, ?_⟩
      · refine ⟨_, rfl, _, _, rfl, rfl, _, rfl, ?_⟩
        refine ite2 (fun _ => ?_) (fun _ => ?_)
        · refine ⟨_, rfl, _, rfl, _, rfl, _, rfl, _, rfl, p, W1, fp1, lr, ts1, lh, hs, mixed, rfl, w1, R1, ah1, h71, by omega, by omega, fun H2 hs2 k2 h72 l2 => ⟨_, rfl, iteF ⟨rfl, k2, hs2, h72, l2⟩⟩⟩
        · exact iteF ⟨rfl, fun _ _ e _ => e, hs, h71, by omega⟩
      rintro σ2 H2 ⟨rfl, k2, hs2, h72, l2⟩
      have w2 := k2.w w1 eh1
      have R2 := k2.rl R1 ah1
      have hn2 := k2 _ _ hn1 nq1.1
      have hQ2 := k2 _ _ hQ1 nq1.2
      refine ⟨_, rfl, _, _, rfl, rfl, ⟨by decide, by decide⟩, _, _, rfl, rfl, (by show (0 : Int) < 5; decide), rfl, _, rfl, ?_⟩
      refine ite2 (fun _ => ?_) (fun _ => ?_)
      · obtain ⟨dx, d, hp⟩ := w2.at
        refine ⟨_, rfl, p, dx, _, rfl, hp, wf_m, p, W1, fp1, rfl, w2, by omega, fun p' fp' H3 w3 s3 _ => ?_⟩
        exact ⟨p', W1, fp', ts1, hs2, _, _, _, _, _, _, rfl, w3, R2.same s3, l1, ⟨s3 _ _ hn2, an1⟩, ah1, h72.same s3, by omega, s3 _ _ hQ2, aQ1⟩
      · exact ⟨p, W1, fp1, ts1, hs2, _, _, _, _, _, _, rfl, w2, R2, l1, ⟨hn2, an1⟩, ah1, h72, by omega, hQ2, aQ1⟩
    · rintro σ H' ⟨p, W, fp, ts, hs, v8, v9, v10, v11, v12, v13, rfl, hW, R, hl, ⟨hn, an⟩, ah, h7, hhs, hQ, aQ⟩
      refine ⟨_, rfl, _, rfl, _, rfl, _, rfl, p, W, fp, lr, ts, lh, hs, 1, rfl, hW, R, ah, h7, by omega, by omega, fun H2 hs2 k2 h72 l2 => ⟨_, rfl, iteT ?_⟩⟩
      obtain ⟨us, u1, u2⟩ := id h72.t
      refine ⟨_, rfl, lh, rfl, ⟨_, SqL.of u1⟩, fun D hD => ?_⟩
      refine lc_tf (fun _ => false) h72.t hD (by omega) (fun e he t H3 sm ht Y Z hY hZ => ?_) (fun H3 s3 d3 => ?_)
      · obtain ⟨c1, c2, _, _⟩ := h72.e e he
        refine ⟨rfl, _, rfl, t, _, _, _, rfl, rfl, .inl (.inl ht), at_of (j := 0) rfl rfl, _, rfl, t, _, _, _, rfl, rfl, .inl (.inl ht), at_of (j := 1) rfl rfl, ne_same (Dp.strs (SqL.of (sm _ _ c1))) (Dp.strs (SqL.of (sm _ _ c2))) (Sm.strs _) ⟨_, rfl, iteF (hZ rfl)⟩⟩
      · obtain ⟨es, a1, a2⟩ := d3
        have : (hs2.filter fun _ => false) = [] := List.filter_eq_nil_iff.mpr fun _ _ => by decide
        rw [this] at a2
        cases a2
        refine ⟨(by show 0 ≤ sizeLine; decide), fun l0 hl0 => ⟨.list [], .list [], .lst (SqL.of (same_upd hl0 _ _ a1)) .nil, .lst (SqL.of upd_same) .nil, rfl, rfl, by decide, ?_⟩⟩
        rw [eqv_nils]
        exact kk _
end

end Mine
namespace Mine
open PySem PySem.Spec PyProof.Rows L2
theorem all_mk {P : Program} {w : World} {K : PySem.W.Frag} {h : Heap} {mg : Str → Option Value} {fa CS CW CB CT CN f_g_stands_in f_g_is_whole f_g_step f_k_Sharer f_m_S_copied f_k_Wheel f_m_W_sharer f_m_W_enter f_m_W_leave f_m_W_reshare f_m_W_wake f_m_W_rest f_m_W_whose f_m_W_turn f_m_W_names f_m_W_clock_of f_m_W_share_of f_m_W_is_ready f_m_W_copied f_g_cell_at f_g_truth f_g_turn f_g_turns f_g_one f_g_row_told f_g_whose_told f_g_names_told f_g_alike fL : Addr} (X : K.In h) (G : h.Ns mainGlobals mg) (hfa : mg "law" = some (.ref fa))
    {tR tM : Tok}
    {od_g_stands_in an_g_stands_in : Option Addr} {sl_g_stands_in : Array (Option Value)} {oc_g_stands_in kV_g_stands_in dc_g_stands_in pm_g_stands_in cd_g_stands_in ct_g_stands_in : Value}
    {od_g_is_whole an_g_is_whole : Option Addr} {sl_g_is_whole : Array (Option Value)} {oc_g_is_whole kV_g_is_whole dc_g_is_whole pm_g_is_whole cd_g_is_whole ct_g_is_whole : Value}
    {od_g_step an_g_step : Option Addr} {sl_g_step : Array (Option Value)} {oc_g_step kV_g_step dc_g_step pm_g_step cd_g_step ct_g_step : Value}
    {od_k_Sharer an_k_Sharer : Option Addr} {sl_k_Sharer : Array (Option Value)} {oc_k_Sharer kV_k_Sharer dc_k_Sharer pm_k_Sharer cd_k_Sharer ct_k_Sharer : Value}
    {od_m_S_copied an_m_S_copied : Option Addr} {sl_m_S_copied : Array (Option Value)} {oc_m_S_copied kV_m_S_copied dc_m_S_copied pm_m_S_copied cd_m_S_copied ct_m_S_copied : Value}
    {od_k_Wheel an_k_Wheel : Option Addr} {sl_k_Wheel : Array (Option Value)} {oc_k_Wheel kV_k_Wheel dc_k_Wheel pm_k_Wheel cd_k_Wheel ct_k_Wheel : Value}
    {od_m_W_sharer an_m_W_sharer : Option Addr} {sl_m_W_sharer : Array (Option Value)} {oc_m_W_sharer kV_m_W_sharer dc_m_W_sharer pm_m_W_sharer cd_m_W_sharer ct_m_W_sharer : Value}
    {od_m_W_enter an_m_W_enter : Option Addr} {sl_m_W_enter : Array (Option Value)} {oc_m_W_enter kV_m_W_enter dc_m_W_enter pm_m_W_enter cd_m_W_enter ct_m_W_enter : Value}
    {od_m_W_leave an_m_W_leave : Option Addr} {sl_m_W_leave : Array (Option Value)} {oc_m_W_leave kV_m_W_leave dc_m_W_leave pm_m_W_leave cd_m_W_leave ct_m_W_leave : Value}
    {od_m_W_reshare an_m_W_reshare : Option Addr} {sl_m_W_reshare : Array (Option Value)} {oc_m_W_reshare kV_m_W_reshare dc_m_W_reshare pm_m_W_reshare cd_m_W_reshare ct_m_W_reshare : Value}
    {od_m_W_wake an_m_W_wake : Option Addr} {sl_m_W_wake : Array (Option Value)} {oc_m_W_wake kV_m_W_wake dc_m_W_wake pm_m_W_wake cd_m_W_wake ct_m_W_wake : Value}
    {od_m_W_rest an_m_W_rest : Option Addr} {sl_m_W_rest : Array (Option Value)} {oc_m_W_rest kV_m_W_rest dc_m_W_rest pm_m_W_rest cd_m_W_rest ct_m_W_rest : Value}
    {od_m_W_whose an_m_W_whose : Option Addr} {sl_m_W_whose : Array (Option Value)} {oc_m_W_whose kV_m_W_whose dc_m_W_whose pm_m_W_whose cd_m_W_whose ct_m_W_whose : Value}
    {od_m_W_turn an_m_W_turn : Option Addr} {sl_m_W_turn : Array (Option Value)} {oc_m_W_turn kV_m_W_turn dc_m_W_turn pm_m_W_turn cd_m_W_turn ct_m_W_turn : Value}
    {od_m_W_names an_m_W_names : Option Addr} {sl_m_W_names : Array (Option Value)} {oc_m_W_names kV_m_W_names dc_m_W_names pm_m_W_names cd_m_W_names ct_m_W_names : Value}
    {od_m_W_clock_of an_m_W_clock_of : Option Addr} {sl_m_W_clock_of : Array (Option Value)} {oc_m_W_clock_of kV_m_W_clock_of dc_m_W_clock_of pm_m_W_clock_of cd_m_W_clock_of ct_m_W_clock_of : Value}
    {od_m_W_share_of an_m_W_share_of : Option Addr} {sl_m_W_share_of : Array (Option Value)} {oc_m_W_share_of kV_m_W_share_of dc_m_W_share_of pm_m_W_share_of cd_m_W_share_of ct_m_W_share_of : Value}
    {od_m_W_is_ready an_m_W_is_ready : Option Addr} {sl_m_W_is_ready : Array (Option Value)} {oc_m_W_is_ready kV_m_W_is_ready dc_m_W_is_ready pm_m_W_is_ready cd_m_W_is_ready ct_m_W_is_ready : Value}
    {od_m_W_copied an_m_W_copied : Option Addr} {sl_m_W_copied : Array (Option Value)} {oc_m_W_copied kV_m_W_copied dc_m_W_copied pm_m_W_copied cd_m_W_copied ct_m_W_copied : Value}
    {od_g_cell_at an_g_cell_at : Option Addr} {sl_g_cell_at : Array (Option Value)} {oc_g_cell_at kV_g_cell_at dc_g_cell_at pm_g_cell_at cd_g_cell_at ct_g_cell_at : Value}
    {od_g_truth an_g_truth : Option Addr} {sl_g_truth : Array (Option Value)} {oc_g_truth kV_g_truth dc_g_truth pm_g_truth cd_g_truth ct_g_truth : Value}
    {od_g_turn an_g_turn : Option Addr} {sl_g_turn : Array (Option Value)} {oc_g_turn kV_g_turn dc_g_turn pm_g_turn cd_g_turn ct_g_turn : Value}
    {od_g_turns an_g_turns : Option Addr} {sl_g_turns : Array (Option Value)} {oc_g_turns kV_g_turns dc_g_turns pm_g_turns cd_g_turns ct_g_turns : Value}
    {od_g_one an_g_one : Option Addr} {sl_g_one : Array (Option Value)} {oc_g_one kV_g_one dc_g_one pm_g_one cd_g_one ct_g_one : Value}
    {od_g_row_told an_g_row_told : Option Addr} {sl_g_row_told : Array (Option Value)} {oc_g_row_told kV_g_row_told dc_g_row_told pm_g_row_told cd_g_row_told ct_g_row_told : Value}
    {od_g_whose_told an_g_whose_told : Option Addr} {sl_g_whose_told : Array (Option Value)} {oc_g_whose_told kV_g_whose_told dc_g_whose_told pm_g_whose_told cd_g_whose_told ct_g_whose_told : Value}
    {od_g_names_told an_g_names_told : Option Addr} {sl_g_names_told : Array (Option Value)} {oc_g_names_told kV_g_names_told dc_g_names_told pm_g_names_told cd_g_names_told ct_g_names_told : Value}
    {od_g_alike an_g_alike : Option Addr} {sl_g_alike : Array (Option Value)} {oc_g_alike kV_g_alike dc_g_alike pm_g_alike cd_g_alike ct_g_alike : Value}
    {od_law an_law : Option Addr} {sl_law : Array (Option Value)} {oc_law kV_law dc_law pm_law cd_law ct_law : Value}
    (gS : PySem.W.nsIn K mainGlobals "Sharer" = some (some (.ref CS)))
    (pgS : PySem.W.plainGet K CS Str.empty = true)
    (hdS : PySem.W.hasDictIn K CS = true)
    (poS : PySem.W.plainOver K CS = true)
    (saS : PySem.W.findIn K (.ref CS) "__setattr__" = some (some (.builtin "object.__setattr__")))
    (mkS : PySem.W.makesIn K CS = true)
    (kcS : PySem.W.keepIn K (.ref CS) = true)
    (nSshare : PySem.W.findIn K (.ref CS) "share" = some none)
    (nSclock : PySem.W.findIn K (.ref CS) "clock" = some none)
    (nSready : PySem.W.findIn K (.ref CS) "ready" = some none)
    (gW : PySem.W.nsIn K mainGlobals "Wheel" = some (some (.ref CW)))
    (pgW : PySem.W.plainGet K CW Str.empty = true)
    (hdW : PySem.W.hasDictIn K CW = true)
    (poW : PySem.W.plainOver K CW = true)
    (saW : PySem.W.findIn K (.ref CW) "__setattr__" = some (some (.builtin "object.__setattr__")))
    (mkW : PySem.W.makesIn K CW = true)
    (kcW : PySem.W.keepIn K (.ref CW) = true)
    (nWpast : PySem.W.findIn K (.ref CW) "past" = some none)
    (nW_sharers : PySem.W.findIn K (.ref CW) "_sharers" = some none)
    (gB : PySem.W.nsIn K mainGlobals "BadShare" = some (some (.ref CB)))
    (xB : PySem.W.excIn K CB [.type "ValueError", .type "Exception", .type "BaseException", .type "object"] "ValueError.__new__" = true)
    (kB : PySem.W.keepIn K (.ref CB) = true)
    (bB : PySem.W.subIn K (.ref CB) (.type "BaseException") = some true)
    (tB : PySem.W.typeIn K (.ref CB) = some (.type "type"))
    (gT : PySem.W.nsIn K mainGlobals "Twice" = some (some (.ref CT)))
    (xT : PySem.W.excIn K CT [.type "ValueError", .type "Exception", .type "BaseException", .type "object"] "ValueError.__new__" = true)
    (kT : PySem.W.keepIn K (.ref CT) = true)
    (bT : PySem.W.subIn K (.ref CT) (.type "BaseException") = some true)
    (tT : PySem.W.typeIn K (.ref CT) = some (.type "type"))
    (gN : PySem.W.nsIn K mainGlobals "NoName" = some (some (.ref CN)))
    (xN : PySem.W.excIn K CN [.type "ValueError", .type "Exception", .type "BaseException", .type "object"] "ValueError.__new__" = true)
    (kN : PySem.W.keepIn K (.ref CN) = true)
    (bN : PySem.W.subIn K (.ref CN) (.type "BaseException") = some true)
    (tN : PySem.W.typeIn K (.ref CN) = some (.type "type"))
    (z_len : PySem.W.nsIn K mainGlobals "len" = some none)
    (z_range : PySem.W.nsIn K mainGlobals "range" = some none)
    (z_isinstance : PySem.W.nsIn K mainGlobals "isinstance" = some none)
    (z_int : PySem.W.nsIn K mainGlobals "int" = some none)
    (z_bool : PySem.W.nsIn K mainGlobals "bool" = some none)
    (z_str : PySem.W.nsIn K mainGlobals "str" = some none)
    (z_max : PySem.W.nsIn K mainGlobals "max" = some none)
    (z_min : PySem.W.nsIn K mainGlobals "min" = some none)
    (z_list : PySem.W.nsIn K mainGlobals "list" = some none)
    (z_dict : PySem.W.nsIn K mainGlobals "dict" = some none)
    (z_zip : PySem.W.nsIn K mainGlobals "zip" = some none)
    (z_ValueError : PySem.W.nsIn K mainGlobals "ValueError" = some none)
    (mR : PySem.W.nsIn K mainGlobals "ROUND" = some (some (.int 27720 tR)))
    (mM : PySem.W.nsIn K mainGlobals "MOST" = some (some (.int 12 tM)))
    (a_g_stands_in : PySem.W.nsIn K mainGlobals "stands_in" = some (some (.ref f_g_stands_in)))
    (l_g_stands_in : K.lookup f_g_stands_in = some ⟨oc_g_stands_in, od_g_stands_in, .func (PySem.W.fnOf "stands_in" "stands_in" (defArgs s_stands_in) (defBody s_stands_in) (defScope s_stands_in) .none kV_g_stands_in dc_g_stands_in pm_g_stands_in an_g_stands_in cd_g_stands_in ct_g_stands_in), sl_g_stands_in⟩)
    (c_g_stands_in : PySem.W.codeIn K cd_g_stands_in "stands_in" = true)
    (k_g_stands_in : PySem.W.keepIn K (.ref f_g_stands_in) = true)
    (a_g_is_whole : PySem.W.nsIn K mainGlobals "is_whole" = some (some (.ref f_g_is_whole)))
    (l_g_is_whole : K.lookup f_g_is_whole = some ⟨oc_g_is_whole, od_g_is_whole, .func (PySem.W.fnOf "is_whole" "is_whole" (defArgs s_is_whole) (defBody s_is_whole) (defScope s_is_whole) .none kV_g_is_whole dc_g_is_whole pm_g_is_whole an_g_is_whole cd_g_is_whole ct_g_is_whole), sl_g_is_whole⟩)
    (c_g_is_whole : PySem.W.codeIn K cd_g_is_whole "is_whole" = true)
    (k_g_is_whole : PySem.W.keepIn K (.ref f_g_is_whole) = true)
    (a_g_step : PySem.W.nsIn K mainGlobals "step" = some (some (.ref f_g_step)))
    (l_g_step : K.lookup f_g_step = some ⟨oc_g_step, od_g_step, .func (PySem.W.fnOf "step" "step" (defArgs s_step) (defBody s_step) (defScope s_step) .none kV_g_step dc_g_step pm_g_step an_g_step cd_g_step ct_g_step), sl_g_step⟩)
    (c_g_step : PySem.W.codeIn K cd_g_step "step" = true)
    (k_g_step : PySem.W.keepIn K (.ref f_g_step) = true)
    (a_k_Sharer : PySem.W.findIn K (.ref CS) "__init__" = some (some (.ref f_k_Sharer)))
    (i_k_Sharer : PySem.W.isFn K (.ref f_k_Sharer) = true)
    (l_k_Sharer : K.lookup f_k_Sharer = some ⟨oc_k_Sharer, od_k_Sharer, .func (PySem.W.fnOf "__init__" "Sharer.__init__" (defArgs sSharer_init) (defBody sSharer_init) (defScope sSharer_init) .none kV_k_Sharer dc_k_Sharer pm_k_Sharer an_k_Sharer cd_k_Sharer ct_k_Sharer), sl_k_Sharer⟩)
    (c_k_Sharer : PySem.W.codeIn K cd_k_Sharer "Sharer.__init__" = true)
    (k_k_Sharer : PySem.W.keepIn K (.ref f_k_Sharer) = true)
    (a_m_S_copied : PySem.W.findIn K (.ref CS) "copied" = some (some (.ref f_m_S_copied)))
    (i_m_S_copied : PySem.W.isFn K (.ref f_m_S_copied) = true)
    (l_m_S_copied : K.lookup f_m_S_copied = some ⟨oc_m_S_copied, od_m_S_copied, .func (PySem.W.fnOf "copied" "Sharer.copied" (defArgs sSharer_copied) (defBody sSharer_copied) (defScope sSharer_copied) .none kV_m_S_copied dc_m_S_copied pm_m_S_copied an_m_S_copied cd_m_S_copied ct_m_S_copied), sl_m_S_copied⟩)
    (c_m_S_copied : PySem.W.codeIn K cd_m_S_copied "Sharer.copied" = true)
    (k_m_S_copied : PySem.W.keepIn K (.ref f_m_S_copied) = true)
    (a_k_Wheel : PySem.W.findIn K (.ref CW) "__init__" = some (some (.ref f_k_Wheel)))
    (i_k_Wheel : PySem.W.isFn K (.ref f_k_Wheel) = true)
    (l_k_Wheel : K.lookup f_k_Wheel = some ⟨oc_k_Wheel, od_k_Wheel, .func (PySem.W.fnOf "__init__" "Wheel.__init__" (defArgs sWheel_init) (defBody sWheel_init) (defScope sWheel_init) .none kV_k_Wheel dc_k_Wheel pm_k_Wheel an_k_Wheel cd_k_Wheel ct_k_Wheel), sl_k_Wheel⟩)
    (c_k_Wheel : PySem.W.codeIn K cd_k_Wheel "Wheel.__init__" = true)
    (k_k_Wheel : PySem.W.keepIn K (.ref f_k_Wheel) = true)
    (a_m_W_sharer : PySem.W.findIn K (.ref CW) "_sharer" = some (some (.ref f_m_W_sharer)))
    (i_m_W_sharer : PySem.W.isFn K (.ref f_m_W_sharer) = true)
    (l_m_W_sharer : K.lookup f_m_W_sharer = some ⟨oc_m_W_sharer, od_m_W_sharer, .func (PySem.W.fnOf "_sharer" "Wheel._sharer" (defArgs sWheel_sharer) (defBody sWheel_sharer) (defScope sWheel_sharer) .none kV_m_W_sharer dc_m_W_sharer pm_m_W_sharer an_m_W_sharer cd_m_W_sharer ct_m_W_sharer), sl_m_W_sharer⟩)
    (c_m_W_sharer : PySem.W.codeIn K cd_m_W_sharer "Wheel._sharer" = true)
    (k_m_W_sharer : PySem.W.keepIn K (.ref f_m_W_sharer) = true)
    (a_m_W_enter : PySem.W.findIn K (.ref CW) "enter" = some (some (.ref f_m_W_enter)))
    (i_m_W_enter : PySem.W.isFn K (.ref f_m_W_enter) = true)
    (l_m_W_enter : K.lookup f_m_W_enter = some ⟨oc_m_W_enter, od_m_W_enter, .func (PySem.W.fnOf "enter" "Wheel.enter" (defArgs sWheel_enter) (defBody sWheel_enter) (defScope sWheel_enter) .none kV_m_W_enter dc_m_W_enter pm_m_W_enter an_m_W_enter cd_m_W_enter ct_m_W_enter), sl_m_W_enter⟩)
    (c_m_W_enter : PySem.W.codeIn K cd_m_W_enter "Wheel.enter" = true)
    (k_m_W_enter : PySem.W.keepIn K (.ref f_m_W_enter) = true)
    (a_m_W_leave : PySem.W.findIn K (.ref CW) "leave" = some (some (.ref f_m_W_leave)))
    (i_m_W_leave : PySem.W.isFn K (.ref f_m_W_leave) = true)
    (l_m_W_leave : K.lookup f_m_W_leave = some ⟨oc_m_W_leave, od_m_W_leave, .func (PySem.W.fnOf "leave" "Wheel.leave" (defArgs sWheel_leave) (defBody sWheel_leave) (defScope sWheel_leave) .none kV_m_W_leave dc_m_W_leave pm_m_W_leave an_m_W_leave cd_m_W_leave ct_m_W_leave), sl_m_W_leave⟩)
    (c_m_W_leave : PySem.W.codeIn K cd_m_W_leave "Wheel.leave" = true)
    (k_m_W_leave : PySem.W.keepIn K (.ref f_m_W_leave) = true)
    (a_m_W_reshare : PySem.W.findIn K (.ref CW) "reshare" = some (some (.ref f_m_W_reshare)))
    (i_m_W_reshare : PySem.W.isFn K (.ref f_m_W_reshare) = true)
    (l_m_W_reshare : K.lookup f_m_W_reshare = some ⟨oc_m_W_reshare, od_m_W_reshare, .func (PySem.W.fnOf "reshare" "Wheel.reshare" (defArgs sWheel_reshare) (defBody sWheel_reshare) (defScope sWheel_reshare) .none kV_m_W_reshare dc_m_W_reshare pm_m_W_reshare an_m_W_reshare cd_m_W_reshare ct_m_W_reshare), sl_m_W_reshare⟩)
    (c_m_W_reshare : PySem.W.codeIn K cd_m_W_reshare "Wheel.reshare" = true)
    (k_m_W_reshare : PySem.W.keepIn K (.ref f_m_W_reshare) = true)
    (a_m_W_wake : PySem.W.findIn K (.ref CW) "wake" = some (some (.ref f_m_W_wake)))
    (i_m_W_wake : PySem.W.isFn K (.ref f_m_W_wake) = true)
    (l_m_W_wake : K.lookup f_m_W_wake = some ⟨oc_m_W_wake, od_m_W_wake, .func (PySem.W.fnOf "wake" "Wheel.wake" (defArgs sWheel_wake) (defBody sWheel_wake) (defScope sWheel_wake) .none kV_m_W_wake dc_m_W_wake pm_m_W_wake an_m_W_wake cd_m_W_wake ct_m_W_wake), sl_m_W_wake⟩)
    (c_m_W_wake : PySem.W.codeIn K cd_m_W_wake "Wheel.wake" = true)
    (k_m_W_wake : PySem.W.keepIn K (.ref f_m_W_wake) = true)
    (a_m_W_rest : PySem.W.findIn K (.ref CW) "rest" = some (some (.ref f_m_W_rest)))
    (i_m_W_rest : PySem.W.isFn K (.ref f_m_W_rest) = true)
    (l_m_W_rest : K.lookup f_m_W_rest = some ⟨oc_m_W_rest, od_m_W_rest, .func (PySem.W.fnOf "rest" "Wheel.rest" (defArgs sWheel_rest) (defBody sWheel_rest) (defScope sWheel_rest) .none kV_m_W_rest dc_m_W_rest pm_m_W_rest an_m_W_rest cd_m_W_rest ct_m_W_rest), sl_m_W_rest⟩)
    (c_m_W_rest : PySem.W.codeIn K cd_m_W_rest "Wheel.rest" = true)
    (k_m_W_rest : PySem.W.keepIn K (.ref f_m_W_rest) = true)
    (a_m_W_whose : PySem.W.findIn K (.ref CW) "whose" = some (some (.ref f_m_W_whose)))
    (i_m_W_whose : PySem.W.isFn K (.ref f_m_W_whose) = true)
    (l_m_W_whose : K.lookup f_m_W_whose = some ⟨oc_m_W_whose, od_m_W_whose, .func (PySem.W.fnOf "whose" "Wheel.whose" (defArgs sWheel_whose) (defBody sWheel_whose) (defScope sWheel_whose) .none kV_m_W_whose dc_m_W_whose pm_m_W_whose an_m_W_whose cd_m_W_whose ct_m_W_whose), sl_m_W_whose⟩)
    (c_m_W_whose : PySem.W.codeIn K cd_m_W_whose "Wheel.whose" = true)
    (k_m_W_whose : PySem.W.keepIn K (.ref f_m_W_whose) = true)
    (a_m_W_turn : PySem.W.findIn K (.ref CW) "turn" = some (some (.ref f_m_W_turn)))
    (i_m_W_turn : PySem.W.isFn K (.ref f_m_W_turn) = true)
    (l_m_W_turn : K.lookup f_m_W_turn = some ⟨oc_m_W_turn, od_m_W_turn, .func (PySem.W.fnOf "turn" "Wheel.turn" (defArgs sWheel_turn) (defBody sWheel_turn) (defScope sWheel_turn) .none kV_m_W_turn dc_m_W_turn pm_m_W_turn an_m_W_turn cd_m_W_turn ct_m_W_turn), sl_m_W_turn⟩)
    (c_m_W_turn : PySem.W.codeIn K cd_m_W_turn "Wheel.turn" = true)
    (k_m_W_turn : PySem.W.keepIn K (.ref f_m_W_turn) = true)
    (a_m_W_names : PySem.W.findIn K (.ref CW) "names" = some (some (.ref f_m_W_names)))
    (i_m_W_names : PySem.W.isFn K (.ref f_m_W_names) = true)
    (l_m_W_names : K.lookup f_m_W_names = some ⟨oc_m_W_names, od_m_W_names, .func (PySem.W.fnOf "names" "Wheel.names" (defArgs sWheel_names) (defBody sWheel_names) (defScope sWheel_names) .none kV_m_W_names dc_m_W_names pm_m_W_names an_m_W_names cd_m_W_names ct_m_W_names), sl_m_W_names⟩)
    (c_m_W_names : PySem.W.codeIn K cd_m_W_names "Wheel.names" = true)
    (k_m_W_names : PySem.W.keepIn K (.ref f_m_W_names) = true)
    (a_m_W_clock_of : PySem.W.findIn K (.ref CW) "clock_of" = some (some (.ref f_m_W_clock_of)))
    (i_m_W_clock_of : PySem.W.isFn K (.ref f_m_W_clock_of) = true)
    (l_m_W_clock_of : K.lookup f_m_W_clock_of = some ⟨oc_m_W_clock_of, od_m_W_clock_of, .func (PySem.W.fnOf "clock_of" "Wheel.clock_of" (defArgs sWheel_clock_of) (defBody sWheel_clock_of) (defScope sWheel_clock_of) .none kV_m_W_clock_of dc_m_W_clock_of pm_m_W_clock_of an_m_W_clock_of cd_m_W_clock_of ct_m_W_clock_of), sl_m_W_clock_of⟩)
    (c_m_W_clock_of : PySem.W.codeIn K cd_m_W_clock_of "Wheel.clock_of" = true)
    (k_m_W_clock_of : PySem.W.keepIn K (.ref f_m_W_clock_of) = true)
    (a_m_W_share_of : PySem.W.findIn K (.ref CW) "share_of" = some (some (.ref f_m_W_share_of)))
    (i_m_W_share_of : PySem.W.isFn K (.ref f_m_W_share_of) = true)
    (l_m_W_share_of : K.lookup f_m_W_share_of = some ⟨oc_m_W_share_of, od_m_W_share_of, .func (PySem.W.fnOf "share_of" "Wheel.share_of" (defArgs sWheel_share_of) (defBody sWheel_share_of) (defScope sWheel_share_of) .none kV_m_W_share_of dc_m_W_share_of pm_m_W_share_of an_m_W_share_of cd_m_W_share_of ct_m_W_share_of), sl_m_W_share_of⟩)
    (c_m_W_share_of : PySem.W.codeIn K cd_m_W_share_of "Wheel.share_of" = true)
    (k_m_W_share_of : PySem.W.keepIn K (.ref f_m_W_share_of) = true)
    (a_m_W_is_ready : PySem.W.findIn K (.ref CW) "is_ready" = some (some (.ref f_m_W_is_ready)))
    (i_m_W_is_ready : PySem.W.isFn K (.ref f_m_W_is_ready) = true)
    (l_m_W_is_ready : K.lookup f_m_W_is_ready = some ⟨oc_m_W_is_ready, od_m_W_is_ready, .func (PySem.W.fnOf "is_ready" "Wheel.is_ready" (defArgs sWheel_is_ready) (defBody sWheel_is_ready) (defScope sWheel_is_ready) .none kV_m_W_is_ready dc_m_W_is_ready pm_m_W_is_ready an_m_W_is_ready cd_m_W_is_ready ct_m_W_is_ready), sl_m_W_is_ready⟩)
    (c_m_W_is_ready : PySem.W.codeIn K cd_m_W_is_ready "Wheel.is_ready" = true)
    (k_m_W_is_ready : PySem.W.keepIn K (.ref f_m_W_is_ready) = true)
    (a_m_W_copied : PySem.W.findIn K (.ref CW) "copied" = some (some (.ref f_m_W_copied)))
    (i_m_W_copied : PySem.W.isFn K (.ref f_m_W_copied) = true)
    (l_m_W_copied : K.lookup f_m_W_copied = some ⟨oc_m_W_copied, od_m_W_copied, .func (PySem.W.fnOf "copied" "Wheel.copied" (defArgs sWheel_copied) (defBody sWheel_copied) (defScope sWheel_copied) .none kV_m_W_copied dc_m_W_copied pm_m_W_copied an_m_W_copied cd_m_W_copied ct_m_W_copied), sl_m_W_copied⟩)
    (c_m_W_copied : PySem.W.codeIn K cd_m_W_copied "Wheel.copied" = true)
    (k_m_W_copied : PySem.W.keepIn K (.ref f_m_W_copied) = true)
    (a_g_cell_at : PySem.W.nsIn K mainGlobals "_law_cell_at" = some (some (.ref f_g_cell_at)))
    (l_g_cell_at : K.lookup f_g_cell_at = some ⟨oc_g_cell_at, od_g_cell_at, .func (PySem.W.fnOf "_law_cell_at" "_law_cell_at" (defArgs s_L_cell_at) (defBody s_L_cell_at) (defScope s_L_cell_at) .none kV_g_cell_at dc_g_cell_at pm_g_cell_at an_g_cell_at cd_g_cell_at ct_g_cell_at), sl_g_cell_at⟩)
    (c_g_cell_at : PySem.W.codeIn K cd_g_cell_at "_law_cell_at" = true)
    (k_g_cell_at : PySem.W.keepIn K (.ref f_g_cell_at) = true)
    (a_g_truth : PySem.W.nsIn K mainGlobals "_law_truth" = some (some (.ref f_g_truth)))
    (l_g_truth : K.lookup f_g_truth = some ⟨oc_g_truth, od_g_truth, .func (PySem.W.fnOf "_law_truth" "_law_truth" (defArgs s_L_truth) (defBody s_L_truth) (defScope s_L_truth) .none kV_g_truth dc_g_truth pm_g_truth an_g_truth cd_g_truth ct_g_truth), sl_g_truth⟩)
    (c_g_truth : PySem.W.codeIn K cd_g_truth "_law_truth" = true)
    (k_g_truth : PySem.W.keepIn K (.ref f_g_truth) = true)
    (a_g_turn : PySem.W.nsIn K mainGlobals "_law_turn" = some (some (.ref f_g_turn)))
    (l_g_turn : K.lookup f_g_turn = some ⟨oc_g_turn, od_g_turn, .func (PySem.W.fnOf "_law_turn" "_law_turn" (defArgs s_L_turn) (defBody s_L_turn) (defScope s_L_turn) .none kV_g_turn dc_g_turn pm_g_turn an_g_turn cd_g_turn ct_g_turn), sl_g_turn⟩)
    (c_g_turn : PySem.W.codeIn K cd_g_turn "_law_turn" = true)
    (k_g_turn : PySem.W.keepIn K (.ref f_g_turn) = true)
    (a_g_turns : PySem.W.nsIn K mainGlobals "_law_turns" = some (some (.ref f_g_turns)))
    (l_g_turns : K.lookup f_g_turns = some ⟨oc_g_turns, od_g_turns, .func (PySem.W.fnOf "_law_turns" "_law_turns" (defArgs s_L_turns) (defBody s_L_turns) (defScope s_L_turns) .none kV_g_turns dc_g_turns pm_g_turns an_g_turns cd_g_turns ct_g_turns), sl_g_turns⟩)
    (c_g_turns : PySem.W.codeIn K cd_g_turns "_law_turns" = true)
    (k_g_turns : PySem.W.keepIn K (.ref f_g_turns) = true)
    (a_g_one : PySem.W.nsIn K mainGlobals "_law_one" = some (some (.ref f_g_one)))
    (l_g_one : K.lookup f_g_one = some ⟨oc_g_one, od_g_one, .func (PySem.W.fnOf "_law_one" "_law_one" (defArgs s_L_one) (defBody s_L_one) (defScope s_L_one) .none kV_g_one dc_g_one pm_g_one an_g_one cd_g_one ct_g_one), sl_g_one⟩)
    (c_g_one : PySem.W.codeIn K cd_g_one "_law_one" = true)
    (k_g_one : PySem.W.keepIn K (.ref f_g_one) = true)
    (a_g_row_told : PySem.W.nsIn K mainGlobals "_law_row_told" = some (some (.ref f_g_row_told)))
    (l_g_row_told : K.lookup f_g_row_told = some ⟨oc_g_row_told, od_g_row_told, .func (PySem.W.fnOf "_law_row_told" "_law_row_told" (defArgs s_L_row_told) (defBody s_L_row_told) (defScope s_L_row_told) .none kV_g_row_told dc_g_row_told pm_g_row_told an_g_row_told cd_g_row_told ct_g_row_told), sl_g_row_told⟩)
    (c_g_row_told : PySem.W.codeIn K cd_g_row_told "_law_row_told" = true)
    (k_g_row_told : PySem.W.keepIn K (.ref f_g_row_told) = true)
    (a_g_whose_told : PySem.W.nsIn K mainGlobals "_law_whose_told" = some (some (.ref f_g_whose_told)))
    (l_g_whose_told : K.lookup f_g_whose_told = some ⟨oc_g_whose_told, od_g_whose_told, .func (PySem.W.fnOf "_law_whose_told" "_law_whose_told" (defArgs s_L_whose_told) (defBody s_L_whose_told) (defScope s_L_whose_told) .none kV_g_whose_told dc_g_whose_told pm_g_whose_told an_g_whose_told cd_g_whose_told ct_g_whose_told), sl_g_whose_told⟩)
    (c_g_whose_told : PySem.W.codeIn K cd_g_whose_told "_law_whose_told" = true)
    (k_g_whose_told : PySem.W.keepIn K (.ref f_g_whose_told) = true)
    (a_g_names_told : PySem.W.nsIn K mainGlobals "_law_names_told" = some (some (.ref f_g_names_told)))
    (l_g_names_told : K.lookup f_g_names_told = some ⟨oc_g_names_told, od_g_names_told, .func (PySem.W.fnOf "_law_names_told" "_law_names_told" (defArgs s_L_names_told) (defBody s_L_names_told) (defScope s_L_names_told) .none kV_g_names_told dc_g_names_told pm_g_names_told an_g_names_told cd_g_names_told ct_g_names_told), sl_g_names_told⟩)
    (c_g_names_told : PySem.W.codeIn K cd_g_names_told "_law_names_told" = true)
    (k_g_names_told : PySem.W.keepIn K (.ref f_g_names_told) = true)
    (a_g_alike : PySem.W.nsIn K mainGlobals "_law_alike" = some (some (.ref f_g_alike)))
    (l_g_alike : K.lookup f_g_alike = some ⟨oc_g_alike, od_g_alike, .func (PySem.W.fnOf "_law_alike" "_law_alike" (defArgs s_L_alike) (defBody s_L_alike) (defScope s_L_alike) .none kV_g_alike dc_g_alike pm_g_alike an_g_alike cd_g_alike ct_g_alike), sl_g_alike⟩)
    (c_g_alike : PySem.W.codeIn K cd_g_alike "_law_alike" = true)
    (k_g_alike : PySem.W.keepIn K (.ref f_g_alike) = true)
    (a_law : PySem.W.nsIn K mainGlobals "law" = some (some (.ref fL)))
    (l_law : K.lookup fL = some ⟨oc_law, od_law, .func (PySem.W.fnOf "law" "law" (defArgs s_law) (defBody s_law) (defScope s_law) .none kV_law dc_law pm_law an_law cd_law ct_law), sl_law⟩)
    (c_law : PySem.W.codeIn K cd_law "law" = true)
    (k_law : PySem.W.keepIn K (.ref fL) = true)
    : ∃ fd : FuncData, (∀ (s : Shared) (v : Value), BindsTo s fd ⟨[v], []⟩ [("_law_script", v)]) ∧ ∀ base : Heap, K.In base → base.Ns mainGlobals mg → FnOk P w K mg base CX0 7 fa fd ["_law_script"] (spLaw K) := by
  have e := hfa.symm.trans (PySem.W.mg_of X G a_law)
  cases e
  have T : WT K mg CS CW CB CT CN := ⟨⟨pgS, hdS, poS, saS⟩, ⟨pgW, hdW, poW, saW⟩, nSshare, nSclock, nSready, nWpast, nW_sharers, PySem.W.mg_of X G gB, PySem.W.mg_of X G gT, PySem.W.mg_of X G gN, ⟨xB, kB, bB, tB⟩, ⟨xT, kT, bT, tT⟩, ⟨xN, kN, bN, tN⟩, PySem.W.mg_none_of X G z_isinstance, PySem.W.mg_none_of X G z_int, PySem.W.mg_none_of X G z_bool, PySem.W.mg_none_of X G z_str, PySem.W.mg_none_of X G z_max, PySem.W.mg_none_of X G z_list, ⟨tR, PySem.W.mg_of X G mR⟩, ⟨tM, PySem.W.mg_of X G mM⟩⟩
  have L : LT mg := ⟨PySem.W.mg_none_of X G z_len, PySem.W.mg_none_of X G z_range, PySem.W.mg_none_of X G z_isinstance, PySem.W.mg_none_of X G z_int, PySem.W.mg_none_of X G z_bool, PySem.W.mg_none_of X G z_str, PySem.W.mg_none_of X G z_max, PySem.W.mg_none_of X G z_min, PySem.W.mg_none_of X G z_list, PySem.W.mg_none_of X G z_dict, PySem.W.mg_none_of X G z_zip, PySem.W.mg_none_of X G z_ValueError⟩
  have F_g_stands_in := fun_mk (st := s_stands_in) l_g_stands_in c_g_stands_in k_g_stands_in
  have b_g_stands_in := F_g_stands_in.binds (ps := ["thing", "table"]) fun _ _ _ _ _ _ us hl => match us, hl with | [_, _], _ => rfl
  have F_g_is_whole := fun_mk (st := s_is_whole) l_g_is_whole c_g_is_whole k_g_is_whole
  have b_g_is_whole := F_g_is_whole.binds (ps := ["thing"]) fun _ _ _ _ _ _ us hl => match us, hl with | [_], _ => rfl
  have F_g_step := fun_mk (st := s_step) l_g_step c_g_step k_g_step
  have b_g_step := F_g_step.binds (ps := ["share"]) fun _ _ _ _ _ _ us hl => match us, hl with | [_], _ => rfl
  have F_k_Sharer := fun_mk (st := sSharer_init) l_k_Sharer c_k_Sharer k_k_Sharer
  have b_k_Sharer := F_k_Sharer.binds (ps := ["self", "share"]) fun _ _ _ _ _ _ us hl => match us, hl with | [_, _], _ => rfl
  have F_m_S_copied := fun_mk (st := sSharer_copied) l_m_S_copied c_m_S_copied k_m_S_copied
  have b_m_S_copied := F_m_S_copied.binds (ps := ["self"]) fun _ _ _ _ _ _ us hl => match us, hl with | [_], _ => rfl
  have F_k_Wheel := fun_mk (st := sWheel_init) l_k_Wheel c_k_Wheel k_k_Wheel
  have b_k_Wheel := F_k_Wheel.binds (ps := ["self"]) fun _ _ _ _ _ _ us hl => match us, hl with | [_], _ => rfl
  have F_m_W_sharer := fun_mk (st := sWheel_sharer) l_m_W_sharer c_m_W_sharer k_m_W_sharer
  have b_m_W_sharer := F_m_W_sharer.binds (ps := ["self", "name"]) fun _ _ _ _ _ _ us hl => match us, hl with | [_, _], _ => rfl
  have F_m_W_enter := fun_mk (st := sWheel_enter) l_m_W_enter c_m_W_enter k_m_W_enter
  have b_m_W_enter := F_m_W_enter.binds (ps := ["self", "name", "share"]) fun _ _ _ _ _ _ us hl => match us, hl with | [_, _, _], _ => rfl
  have F_m_W_leave := fun_mk (st := sWheel_leave) l_m_W_leave c_m_W_leave k_m_W_leave
  have b_m_W_leave := F_m_W_leave.binds (ps := ["self", "name"]) fun _ _ _ _ _ _ us hl => match us, hl with | [_, _], _ => rfl
  have F_m_W_reshare := fun_mk (st := sWheel_reshare) l_m_W_reshare c_m_W_reshare k_m_W_reshare
  have b_m_W_reshare := F_m_W_reshare.binds (ps := ["self", "name", "share"]) fun _ _ _ _ _ _ us hl => match us, hl with | [_, _, _], _ => rfl
  have F_m_W_wake := fun_mk (st := sWheel_wake) l_m_W_wake c_m_W_wake k_m_W_wake
  have b_m_W_wake := F_m_W_wake.binds (ps := ["self", "name"]) fun _ _ _ _ _ _ us hl => match us, hl with | [_, _], _ => rfl
  have F_m_W_rest := fun_mk (st := sWheel_rest) l_m_W_rest c_m_W_rest k_m_W_rest
  have b_m_W_rest := F_m_W_rest.binds (ps := ["self", "name"]) fun _ _ _ _ _ _ us hl => match us, hl with | [_, _], _ => rfl
  have F_m_W_whose := fun_mk (st := sWheel_whose) l_m_W_whose c_m_W_whose k_m_W_whose
  have b_m_W_whose := F_m_W_whose.binds (ps := ["self"]) fun _ _ _ _ _ _ us hl => match us, hl with | [_], _ => rfl
  have F_m_W_turn := fun_mk (st := sWheel_turn) l_m_W_turn c_m_W_turn k_m_W_turn
  have b_m_W_turn := F_m_W_turn.binds (ps := ["self"]) fun _ _ _ _ _ _ us hl => match us, hl with | [_], _ => rfl
  have F_m_W_names := fun_mk (st := sWheel_names) l_m_W_names c_m_W_names k_m_W_names
  have b_m_W_names := F_m_W_names.binds (ps := ["self"]) fun _ _ _ _ _ _ us hl => match us, hl with | [_], _ => rfl
  have F_m_W_clock_of := fun_mk (st := sWheel_clock_of) l_m_W_clock_of c_m_W_clock_of k_m_W_clock_of
  have b_m_W_clock_of := F_m_W_clock_of.binds (ps := ["self", "name"]) fun _ _ _ _ _ _ us hl => match us, hl with | [_, _], _ => rfl
  have F_m_W_share_of := fun_mk (st := sWheel_share_of) l_m_W_share_of c_m_W_share_of k_m_W_share_of
  have b_m_W_share_of := F_m_W_share_of.binds (ps := ["self", "name"]) fun _ _ _ _ _ _ us hl => match us, hl with | [_, _], _ => rfl
  have F_m_W_is_ready := fun_mk (st := sWheel_is_ready) l_m_W_is_ready c_m_W_is_ready k_m_W_is_ready
  have b_m_W_is_ready := F_m_W_is_ready.binds (ps := ["self", "name"]) fun _ _ _ _ _ _ us hl => match us, hl with | [_, _], _ => rfl
  have F_m_W_copied := fun_mk (st := sWheel_copied) l_m_W_copied c_m_W_copied k_m_W_copied
  have b_m_W_copied := F_m_W_copied.binds (ps := ["self"]) fun _ _ _ _ _ _ us hl => match us, hl with | [_], _ => rfl
  have F_g_cell_at := fun_mk (st := s_L_cell_at) l_g_cell_at c_g_cell_at k_g_cell_at
  have b_g_cell_at := F_g_cell_at.binds (ps := ["_law_script", "_law_k"]) fun _ _ _ _ _ _ us hl => match us, hl with | [_, _], _ => rfl
  have F_g_truth := fun_mk (st := s_L_truth) l_g_truth c_g_truth k_g_truth
  have b_g_truth := F_g_truth.binds (ps := ["_law_found", "_law_due"]) fun _ _ _ _ _ _ us hl => match us, hl with | [_, _], _ => rfl
  have F_g_turn := fun_mk (st := s_L_turn) l_g_turn c_g_turn k_g_turn
  have b_g_turn := F_g_turn.binds (ps := ["_law_rows", "_law_past"]) fun _ _ _ _ _ _ us hl => match us, hl with | [_, _], _ => rfl
  have F_g_turns := fun_mk (st := s_L_turns) l_g_turns c_g_turns k_g_turns
  have b_g_turns := F_g_turns.binds (ps := ["_law_wheel", "_law_rows", "_law_past", "_law_many"]) fun _ _ _ _ _ _ us hl => match us, hl with | [_, _, _, _], _ => rfl
  have F_g_one := fun_mk (st := s_L_one) l_g_one c_g_one k_g_one
  have b_g_one := F_g_one.binds (ps := ["_law_wheel", "_law_rows", "_law_past", "_law_name", "_law_kind", "_law_share"]) fun _ _ _ _ _ _ us hl => match us, hl with | [_, _, _, _, _, _], _ => rfl
  have F_g_row_told := fun_mk (st := s_L_row_told) l_g_row_told c_g_row_told k_g_row_told
  have b_g_row_told := F_g_row_told.binds (ps := ["_law_wheel", "_law_row", "_law_kind"]) fun _ _ _ _ _ _ us hl => match us, hl with | [_, _, _], _ => rfl
  have F_g_whose_told := fun_mk (st := s_L_whose_told) l_g_whose_told c_g_whose_told k_g_whose_told
  have b_g_whose_told := F_g_whose_told.binds (ps := ["_law_wheel", "_law_rows"]) fun _ _ _ _ _ _ us hl => match us, hl with | [_, _], _ => rfl
  have F_g_names_told := fun_mk (st := s_L_names_told) l_g_names_told c_g_names_told k_g_names_told
  have b_g_names_told := F_g_names_told.binds (ps := ["_law_wheel", "_law_rows", "_law_past", "_law_held"]) fun _ _ _ _ _ _ us hl => match us, hl with | [_, _, _, _], _ => rfl
  have F_g_alike := fun_mk (st := s_L_alike) l_g_alike c_g_alike k_g_alike
  have b_g_alike := F_g_alike.binds (ps := ["_law_wheel", "_law_rows", "_law_past", "_law_held", "_law_way"]) fun _ _ _ _ _ _ us hl => match us, hl with | [_, _, _, _, _], _ => rfl
  have F_law := fun_mk (st := s_law) l_law c_law k_law
  refine ⟨PySem.W.fnOf "law" "law" (defArgs s_law) (defBody s_law) (defScope s_law) .none kV_law dc_law pm_law an_law cd_law ct_law, fun s v => .of_eq rfl, fun base _ _ => ?_⟩
  have g_stands_in : DOk P w K mg base 1 "stands_in" ["thing", "table"] spStands := ⟨_, _, PySem.W.mg_of X G a_g_stands_in, k_g_stands_in, ok_stands F_g_stands_in T, b_g_stands_in⟩
  have g_is_whole : DOk P w K mg base 1 "is_whole" ["thing"] spWhole := ⟨_, _, PySem.W.mg_of X G a_g_is_whole, k_g_is_whole, ok_whole F_g_is_whole T, b_g_is_whole⟩
  have g_step : DOk P w K mg base 2 "step" ["share"] (spStep CB) := ⟨_, _, PySem.W.mg_of X G a_g_step, k_g_step, ok_step F_g_step T g_is_whole, b_g_step⟩
  have k_Sharer : KOk P w K mg base 1 "Sharer" CS ["self", "share"] (spSInit CS) := ⟨_, _, ⟨mkS, a_k_Sharer, i_k_Sharer, kcS⟩, ok_sinit F_k_Sharer T, PySem.W.mg_of X G gS, b_k_Sharer⟩
  have m_S_copied : MOk P w K mg base 3 CS "copied" ["self"] (spSCopied CS) := ⟨_, _, ⟨a_m_S_copied, i_m_S_copied, k_m_S_copied⟩, ok_scopied F_m_S_copied T k_Sharer, b_m_S_copied⟩
  have k_Wheel : KOk P w K mg base 1 "Wheel" CW ["self"] (spWInit CW CS) := ⟨_, _, ⟨mkW, a_k_Wheel, i_k_Wheel, kcW⟩, ok_winit F_k_Wheel T, PySem.W.mg_of X G gW, b_k_Wheel⟩
  have m_W_sharer : MOk P w K mg base 2 CW "_sharer" ["self", "name"] (spSharer CW CS CN) := ⟨_, _, ⟨a_m_W_sharer, i_m_W_sharer, k_m_W_sharer⟩, ok_sharer F_m_W_sharer T g_stands_in, b_m_W_sharer⟩
  have m_W_enter : MOk P w K mg base 3 CW "enter" ["self", "name", "share"] (spEnter CW CS CB CT) := ⟨_, _, ⟨a_m_W_enter, i_m_W_enter, k_m_W_enter⟩, ok_enter F_m_W_enter T g_step k_Sharer, b_m_W_enter⟩
  have m_W_leave : MOk P w K mg base 3 CW "leave" ["self", "name"] (spLeave CW CS CN) := ⟨_, _, ⟨a_m_W_leave, i_m_W_leave, k_m_W_leave⟩, ok_leave F_m_W_leave T m_W_sharer, b_m_W_leave⟩
  have m_W_reshare : MOk P w K mg base 3 CW "reshare" ["self", "name", "share"] (spReshare CW CS CB CN) := ⟨_, _, ⟨a_m_W_reshare, i_m_W_reshare, k_m_W_reshare⟩, ok_reshare F_m_W_reshare T m_W_sharer g_step, b_m_W_reshare⟩
  have m_W_wake : MOk P w K mg base 3 CW "wake" ["self", "name"] (spWake CW CS CN) := ⟨_, _, ⟨a_m_W_wake, i_m_W_wake, k_m_W_wake⟩, ok_wake F_m_W_wake T m_W_sharer, b_m_W_wake⟩
  have m_W_rest : MOk P w K mg base 3 CW "rest" ["self", "name"] (spRest CW CS CN) := ⟨_, _, ⟨a_m_W_rest, i_m_W_rest, k_m_W_rest⟩, ok_rest F_m_W_rest T m_W_sharer, b_m_W_rest⟩
  have m_W_whose : MOk P w K mg base 1 CW "whose" ["self"] (spWhose CW CS) := ⟨_, _, ⟨a_m_W_whose, i_m_W_whose, k_m_W_whose⟩, ok_whose F_m_W_whose T, b_m_W_whose⟩
  have m_W_turn : MOk P w K mg base 3 CW "turn" ["self"] (spTurn CW CS) := ⟨_, _, ⟨a_m_W_turn, i_m_W_turn, k_m_W_turn⟩, ok_turn F_m_W_turn T m_W_whose g_step, b_m_W_turn⟩
  have m_W_names : MOk P w K mg base 1 CW "names" ["self"] (spNames CW CS) := ⟨_, _, ⟨a_m_W_names, i_m_W_names, k_m_W_names⟩, ok_names F_m_W_names T, b_m_W_names⟩
  have m_W_clock_of : MOk P w K mg base 3 CW "clock_of" ["self", "name"] (spAsk CW CS CN fun x => .int x.c) := ⟨_, _, ⟨a_m_W_clock_of, i_m_W_clock_of, k_m_W_clock_of⟩, ok_clock_of F_m_W_clock_of T m_W_sharer, b_m_W_clock_of⟩
  have m_W_share_of : MOk P w K mg base 3 CW "share_of" ["self", "name"] (spAsk CW CS CN fun x => .int x.s) := ⟨_, _, ⟨a_m_W_share_of, i_m_W_share_of, k_m_W_share_of⟩, ok_share_of F_m_W_share_of T m_W_sharer, b_m_W_share_of⟩
  have m_W_is_ready : MOk P w K mg base 3 CW "is_ready" ["self", "name"] (spAsk CW CS CN fun x => .bl x.r) := ⟨_, _, ⟨a_m_W_is_ready, i_m_W_is_ready, k_m_W_is_ready⟩, ok_is_ready F_m_W_is_ready T m_W_sharer, b_m_W_is_ready⟩
  have m_W_copied : MOk P w K mg base 4 CW "copied" ["self"] (spCopied CW CS) := ⟨_, _, ⟨a_m_W_copied, i_m_W_copied, k_m_W_copied⟩, ok_copied F_m_W_copied T k_Wheel m_S_copied, b_m_W_copied⟩
  have g_cell_at : DOk P w K mg base 1 "_law_cell_at" ["_law_script", "_law_k"] (spCell K) := ⟨_, _, PySem.W.mg_of X G a_g_cell_at, k_g_cell_at, ok_L_cell_at F_g_cell_at T L, b_g_cell_at⟩
  have g_truth : DOk P w K mg base 1 "_law_truth" ["_law_found", "_law_due"] spTruth := ⟨_, _, PySem.W.mg_of X G a_g_truth, k_g_truth, ok_L_truth F_g_truth T L, b_g_truth⟩
  have g_turn : DOk P w K mg base 1 "_law_turn" ["_law_rows", "_law_past"] spTurnR := ⟨_, _, PySem.W.mg_of X G a_g_turn, k_g_turn, ok_L_turn F_g_turn T L, b_g_turn⟩
  have g_turns : DOk P w K mg base 5 "_law_turns" ["_law_wheel", "_law_rows", "_law_past", "_law_many"] (spTurnsR CW CS) := ⟨_, _, PySem.W.mg_of X G a_g_turns, k_g_turns, ok_L_turns F_g_turns T L g_turn m_W_turn, b_g_turns⟩
  have g_one : DOk P w K mg base 5 "_law_one" ["_law_wheel", "_law_rows", "_law_past", "_law_name", "_law_kind", "_law_share"] (spOneR CW CS) := ⟨_, _, PySem.W.mg_of X G a_g_one, k_g_one, ok_L_one F_g_one T L g_truth m_W_enter m_W_leave m_W_reshare m_W_rest m_W_wake, b_g_one⟩
  have g_row_told : DOk P w K mg base 4 "_law_row_told" ["_law_wheel", "_law_row", "_law_kind"] (spRowTold CW CS) := ⟨_, _, PySem.W.mg_of X G a_g_row_told, k_g_row_told, ok_L_row_told F_g_row_told T L g_truth m_W_clock_of m_W_is_ready m_W_share_of, b_g_row_told⟩
  have g_whose_told : DOk P w K mg base 4 "_law_whose_told" ["_law_wheel", "_law_rows"] (spWhoseTold CW CS) := ⟨_, _, PySem.W.mg_of X G a_g_whose_told, k_g_whose_told, ok_L_whose_told F_g_whose_told T L g_turn m_W_whose, b_g_whose_told⟩
  have g_names_told : DOk P w K mg base 4 "_law_names_told" ["_law_wheel", "_law_rows", "_law_past", "_law_held"] (spNamesTold CW CS) := ⟨_, _, PySem.W.mg_of X G a_g_names_told, k_g_names_told, ok_L_names_told F_g_names_told T L m_W_names, b_g_names_told⟩
  have g_alike : DOk P w K mg base 5 "_law_alike" ["_law_wheel", "_law_rows", "_law_past", "_law_held", "_law_way"] (spAlike CW CS) := ⟨_, _, PySem.W.mg_of X G a_g_alike, k_g_alike, ok_L_alike F_g_alike T L g_names_told g_row_told g_whose_told, b_g_alike⟩
  exact ok_law F_law T L g_alike g_cell_at g_one g_turns k_Wheel m_W_copied m_W_enter m_W_wake
end Mine
open PySem PySem.W PyProof.Rows
set_option maxRecDepth 100000 in
set_option maxHeartbeats 0 in
theorem PySem.Challenge.cw_sharetime_k07_a_wheel_in_step_holds : PySem.Challenge.rw_sharetime_k07_a_wheel_in_step.Holds := by
  w_on; o_law; k_head; (case hw => w_witness2)
  k_fill
  refine L2.walk_ofK (n := 63) (k := 7) (x := "_law_script") (CX := L2.CX0) (sp := Mine.spLaw) rfl (by decide) rfl ⟨rfl, by decide, by decide⟩ (fun w h Y => PySem.W.kIn_of Y) ?F (fun K H a ns hl hO hS => ⟨a, ns, rfl, Mine.Scr.of hO hS, hl, fun _ => rfl⟩) (fun _ _ _ _ z => z)
  case F =>
    intro w mg fa h KX G hmg
    refine' Mine.all_mk KX G hmg ?gS ?pgS ?hdS ?poS ?saS ?mkS ?kcS ?nSshare ?nSclock ?nSready ?gW ?pgW ?hdW ?poW ?saW ?mkW ?kcW ?nWpast ?nW_sharers ?gB ?xB ?kB ?bB ?tB ?gT ?xT ?kT ?bT ?tT ?gN ?xN ?kN ?bN ?tN ?z_len ?z_range ?z_isinstance ?z_int ?z_bool ?z_str ?z_max ?z_min ?z_list ?z_dict ?z_zip ?z_ValueError ?mR ?mM ?a_g_stands_in ?l_g_stands_in ?c_g_stands_in ?k_g_stands_in ?a_g_is_whole ?l_g_is_whole ?c_g_is_whole ?k_g_is_whole ?a_g_step ?l_g_step ?c_g_step ?k_g_step ?a_k_Sharer ?i_k_Sharer ?l_k_Sharer ?c_k_Sharer ?k_k_Sharer ?a_m_S_copied ?i_m_S_copied ?l_m_S_copied ?c_m_S_copied ?k_m_S_copied ?a_k_Wheel ?i_k_Wheel ?l_k_Wheel ?c_k_Wheel ?k_k_Wheel ?a_m_W_sharer ?i_m_W_sharer ?l_m_W_sharer ?c_m_W_sharer ?k_m_W_sharer ?a_m_W_enter ?i_m_W_enter ?l_m_W_enter ?c_m_W_enter ?k_m_W_enter ?a_m_W_leave ?i_m_W_leave ?l_m_W_leave ?c_m_W_leave ?k_m_W_leave ?a_m_W_reshare ?i_m_W_reshare ?l_m_W_reshare ?c_m_W_reshare ?k_m_W_reshare ?a_m_W_wake ?i_m_W_wake ?l_m_W_wake ?c_m_W_wake ?k_m_W_wake ?a_m_W_rest ?i_m_W_rest ?l_m_W_rest ?c_m_W_rest ?k_m_W_rest ?a_m_W_whose ?i_m_W_whose ?l_m_W_whose ?c_m_W_whose ?k_m_W_whose ?a_m_W_turn ?i_m_W_turn ?l_m_W_turn ?c_m_W_turn ?k_m_W_turn ?a_m_W_names ?i_m_W_names ?l_m_W_names ?c_m_W_names ?k_m_W_names ?a_m_W_clock_of ?i_m_W_clock_of ?l_m_W_clock_of ?c_m_W_clock_of ?k_m_W_clock_of ?a_m_W_share_of ?i_m_W_share_of ?l_m_W_share_of ?c_m_W_share_of ?k_m_W_share_of ?a_m_W_is_ready ?i_m_W_is_ready ?l_m_W_is_ready ?c_m_W_is_ready ?k_m_W_is_ready ?a_m_W_copied ?i_m_W_copied ?l_m_W_copied ?c_m_W_copied ?k_m_W_copied ?a_g_cell_at ?l_g_cell_at ?c_g_cell_at ?k_g_cell_at ?a_g_truth ?l_g_truth ?c_g_truth ?k_g_truth ?a_g_turn ?l_g_turn ?c_g_turn ?k_g_turn ?a_g_turns ?l_g_turns ?c_g_turns ?k_g_turns ?a_g_one ?l_g_one ?c_g_one ?k_g_one ?a_g_row_told ?l_g_row_told ?c_g_row_told ?k_g_row_told ?a_g_whose_told ?l_g_whose_told ?c_g_whose_told ?k_g_whose_told ?a_g_names_told ?l_g_names_told ?c_g_names_told ?k_g_names_told ?a_g_alike ?l_g_alike ?c_g_alike ?k_g_alike ?a_law ?l_law ?c_law ?k_law
    (case gS => k_is)
    (case pgS => k_is)
    (case hdS => k_is)
    (case poS => k_is)
    (case saS => k_is)
    (case mkS => k_is)
    (case kcS => k_is)
    (case nSshare => k_is)
    (case nSclock => k_is)
    (case nSready => k_is)
    (case gW => k_is)
    (case pgW => k_is)
    (case hdW => k_is)
    (case poW => k_is)
    (case saW => k_is)
    (case mkW => k_is)
    (case kcW => k_is)
    (case nWpast => k_is)
    (case nW_sharers => k_is)
    (case gB => k_is)
    (case xB => k_exc)
    (case kB => k_is)
    (case bB => k_is)
    (case tB => k_is)
    (case gT => k_is)
    (case xT => k_exc)
    (case kT => k_is)
    (case bT => k_is)
    (case tT => k_is)
    (case gN => k_is)
    (case xN => k_exc)
    (case kN => k_is)
    (case bN => k_is)
    (case tN => k_is)
    (case z_len => k_is)
    (case z_range => k_is)
    (case z_isinstance => k_is)
    (case z_int => k_is)
    (case z_bool => k_is)
    (case z_str => k_is)
    (case z_max => k_is)
    (case z_min => k_is)
    (case z_list => k_is)
    (case z_dict => k_is)
    (case z_zip => k_is)
    (case z_ValueError => k_is)
    (case mR => k_is)
    (case mM => k_is)
    (case a_g_stands_in => k_is)
    (case l_g_stands_in => k_is)
    (case c_g_stands_in => k_is)
    (case k_g_stands_in => k_is)
    (case a_g_is_whole => k_is)
    (case l_g_is_whole => k_is)
    (case c_g_is_whole => k_is)
    (case k_g_is_whole => k_is)
    (case a_g_step => k_is)
    (case l_g_step => k_is)
    (case c_g_step => k_is)
    (case k_g_step => k_is)
    (case a_k_Sharer => k_is)
    (case i_k_Sharer => k_is)
    (case l_k_Sharer => k_is)
    (case c_k_Sharer => k_is)
    (case k_k_Sharer => k_is)
    (case a_m_S_copied => k_is)
    (case i_m_S_copied => k_is)
    (case l_m_S_copied => k_is)
    (case c_m_S_copied => k_is)
    (case k_m_S_copied => k_is)
    (case a_k_Wheel => k_is)
    (case i_k_Wheel => k_is)
    (case l_k_Wheel => k_is)
    (case c_k_Wheel => k_is)
    (case k_k_Wheel => k_is)
    (case a_m_W_sharer => k_is)
    (case i_m_W_sharer => k_is)
    (case l_m_W_sharer => k_is)
    (case c_m_W_sharer => k_is)
    (case k_m_W_sharer => k_is)
    (case a_m_W_enter => k_is)
    (case i_m_W_enter => k_is)
    (case l_m_W_enter => k_is)
    (case c_m_W_enter => k_is)
    (case k_m_W_enter => k_is)
    (case a_m_W_leave => k_is)
    (case i_m_W_leave => k_is)
    (case l_m_W_leave => k_is)
    (case c_m_W_leave => k_is)
    (case k_m_W_leave => k_is)
    (case a_m_W_reshare => k_is)
    (case i_m_W_reshare => k_is)
    (case l_m_W_reshare => k_is)
    (case c_m_W_reshare => k_is)
    (case k_m_W_reshare => k_is)
    (case a_m_W_wake => k_is)
    (case i_m_W_wake => k_is)
    (case l_m_W_wake => k_is)
    (case c_m_W_wake => k_is)
    (case k_m_W_wake => k_is)
    (case a_m_W_rest => k_is)
    (case i_m_W_rest => k_is)
    (case l_m_W_rest => k_is)
    (case c_m_W_rest => k_is)
    (case k_m_W_rest => k_is)
    (case a_m_W_whose => k_is)
    (case i_m_W_whose => k_is)
    (case l_m_W_whose => k_is)
    (case c_m_W_whose => k_is)
    (case k_m_W_whose => k_is)
    (case a_m_W_turn => k_is)
    (case i_m_W_turn => k_is)
    (case l_m_W_turn => k_is)
    (case c_m_W_turn => k_is)
    (case k_m_W_turn => k_is)
    (case a_m_W_names => k_is)
    (case i_m_W_names => k_is)
    (case l_m_W_names => k_is)
    (case c_m_W_names => k_is)
    (case k_m_W_names => k_is)
    (case a_m_W_clock_of => k_is)
    (case i_m_W_clock_of => k_is)
    (case l_m_W_clock_of => k_is)
    (case c_m_W_clock_of => k_is)
    (case k_m_W_clock_of => k_is)
    (case a_m_W_share_of => k_is)
    (case i_m_W_share_of => k_is)
    (case l_m_W_share_of => k_is)
    (case c_m_W_share_of => k_is)
    (case k_m_W_share_of => k_is)
    (case a_m_W_is_ready => k_is)
    (case i_m_W_is_ready => k_is)
    (case l_m_W_is_ready => k_is)
    (case c_m_W_is_ready => k_is)
    (case k_m_W_is_ready => k_is)
    (case a_m_W_copied => k_is)
    (case i_m_W_copied => k_is)
    (case l_m_W_copied => k_is)
    (case c_m_W_copied => k_is)
    (case k_m_W_copied => k_is)
    (case a_g_cell_at => k_is)
    (case l_g_cell_at => k_is)
    (case c_g_cell_at => k_is)
    (case k_g_cell_at => k_is)
    (case a_g_truth => k_is)
    (case l_g_truth => k_is)
    (case c_g_truth => k_is)
    (case k_g_truth => k_is)
    (case a_g_turn => k_is)
    (case l_g_turn => k_is)
    (case c_g_turn => k_is)
    (case k_g_turn => k_is)
    (case a_g_turns => k_is)
    (case l_g_turns => k_is)
    (case c_g_turns => k_is)
    (case k_g_turns => k_is)
    (case a_g_one => k_is)
    (case l_g_one => k_is)
    (case c_g_one => k_is)
    (case k_g_one => k_is)
    (case a_g_row_told => k_is)
    (case l_g_row_told => k_is)
    (case c_g_row_told => k_is)
    (case k_g_row_told => k_is)
    (case a_g_whose_told => k_is)
    (case l_g_whose_told => k_is)
    (case c_g_whose_told => k_is)
    (case k_g_whose_told => k_is)
    (case a_g_names_told => k_is)
    (case l_g_names_told => k_is)
    (case c_g_names_told => k_is)
    (case k_g_names_told => k_is)
    (case a_g_alike => k_is)
    (case l_g_alike => k_is)
    (case c_g_alike => k_is)
    (case k_g_alike => k_is)
    (case a_law => k_is)
    (case l_law => k_is)
    (case c_law => k_is)
    (case k_law => k_is)
#print axioms PySem.Challenge.cw_sharetime_k07_a_wheel_in_step_holds
