import PyProof.Rows.All
import Wide.All
import OpenK.AllK
import Wide.FinOn
import KE.RegKIsAll
import HandS.Base
import HandS.Call
import HandS.List
import HandS.Comp
import HandS.Ends
import HandS.Dict
import HandS.Iter
import HandS.Exc
import HandS.TryOnly
import HandS.ExcOwn
import HandS.Words
import HandS.WordsList
import HandS.WordsDict
import HandS.WordsExc
import HandS.IsInst
import HandS.ExcIs
import HandS.FStr
import HandS.Small
import HandS.Walk
import HandS.Conv
import HandS.DictComp
import HandS.Style
import HandS.Codes
import HandS.Flow
import HandS.TryMany
import HandS.Deep
import HandS.AnyAll
import HandS.HotCalls
import KE.KEqNest
import HandS.NoneIn
import HandS.EndTab
import KE.KStateDown
import HandS.Defaults
import HandS.Head0
import HandS.Head1
import HandS.Head2
import HandS.HeadEnd
import HandS.HeadHook1
import HandS.HeadHook2
import HandS.HeadHook3
import HandS.HeadHook4
import HandS.HeadWalk
import HandS.NestedK
import KE.DataEq
import KE.DataFind
import PySem.Challenge.RW_sharetime_k09_who_stands_where
set_option Elab.async false
set_option maxRecDepth 100000
set_option maxHeartbeats 4000000
set_option linter.all false
/-! The mirror of a wheel and its mathematics: plain Lean, no Python. Names of any kind with decidable equality. -/
namespace Wm
variable {α : Type} [DecidableEq α]
structure Row (α : Type) where
  n : α
  s : Int
  c : Int
  r : Bool
structure Wh (α : Type) where
  past : Int
  rows : List (Row α)
def stp (s : Int) : Int := Int.fdiv 27720 s
theorem stp_cases {s : Int} (h1 : 1 ≤ s) (h2 : s ≤ 12) : stp s * s = 27720 ∧ 2310 ≤ stp s ∧ stp s ≤ 27720 := by
  have h : s = 1 ∨ s = 2 ∨ s = 3 ∨ s = 4 ∨ s = 5 ∨ s = 6 ∨ s = 7 ∨ s = 8 ∨ s = 9 ∨ s = 10 ∨ s = 11 ∨ s = 12 := by omega
  rcases h with h | h | h | h | h | h | h | h | h | h | h | h <;> (subst h; decide)
theorem stp_ediv {s : Int} (h1 : 1 ≤ s) : stp s = 27720 / s := Int.fdiv_eq_ediv_of_nonneg _ (by omega)
/-! ### who gets the turn -/
/-- the one of two that goes ahead; the left one where they are alike -/
def pick (a : Option (Row α)) (x : Row α) : Option (Row α) := match a with
  | none => if x.r then some x else none
  | some b => if x.r && decide (x.c < b.c) then some x else some b
def best (l : List (Row α)) : Option (Row α) := l.foldl pick none
theorem best_snoc (l : List (Row α)) (x : Row α) : best (l ++ [x]) = pick (best l) x := by
  unfold best
  rw [List.foldl_append]
  rfl
theorem pick_some {a : Option (Row α)} {x b : Row α} (h : pick a x = some b) : a = some b ∨ (b = x ∧ x.r = true) := by
  unfold pick at h
  cases a with
  | none =>
    simp only at h
    split at h
    · next q => exact Or.inr ⟨(Option.some.inj h).symm, q⟩
    · cases h
  | some d =>
    simp only at h
    split at h
    · next q =>
      rw [Bool.and_eq_true] at q
      exact Or.inr ⟨(Option.some.inj h).symm, q.1⟩
    · exact Or.inl h
/-- what best tells, by a list cut into two -/
theorem fold_spec : ∀ (l : List (Row α)) (a : Option (Row α)), (∀ b, a = some b → b.r = true) →
    match l.foldl pick a with
    | none => a = none ∧ ∀ x ∈ l, x.r = false
    | some b => b.r = true ∧ (∀ x ∈ l, x.r = true → b.c ≤ x.c) ∧ (∀ d, a = some d → b.c ≤ d.c) ∧ (a = some b ∨ b ∈ l)
  | [], a, ha => by
    cases a with
    | none => exact ⟨rfl, fun x hx => (nomatch hx)⟩
    | some d => exact ⟨ha d rfl, fun x hx => (nomatch hx), fun e he => (by cases he; exact Int.le_refl _), Or.inl rfl⟩
  | y :: l, a, ha => by
    have ha' : ∀ b, pick a y = some b → b.r = true := fun b hb => by
      rcases pick_some hb with h | ⟨rfl, h⟩
      · exact ha b h
      · exact h
    have ih := fold_spec l (pick a y) ha'
    show match l.foldl pick (pick a y) with
      | none => a = none ∧ ∀ x ∈ y :: l, x.r = false
      | some b => b.r = true ∧ (∀ x ∈ y :: l, x.r = true → b.c ≤ x.c) ∧ (∀ d, a = some d → b.c ≤ d.c) ∧ (a = some b ∨ b ∈ y :: l)
    cases e : l.foldl pick (pick a y) with
    | none =>
      rw [e] at ih
      obtain ⟨h1, h2⟩ := ih
      cases a with
      | none =>
        have hy : y.r = false := by
          unfold pick at h1
          cases q : y.r with
          | false => rfl
          | true => rw [q] at h1; cases h1
        exact ⟨rfl, fun x hx => by
          rcases List.mem_cons.mp hx with rfl | hx
          · exact hy
          · exact h2 x hx⟩
      | some d =>
        exfalso
        unfold pick at h1
        simp only at h1
        split at h1 <;> cases h1
    | some b =>
      rw [e] at ih
      obtain ⟨h1, h2, h3, h4⟩ := ih
      refine ⟨h1, fun x hx hr => ?_, fun d hd => ?_, ?_⟩
      · rcases List.mem_cons.mp hx with rfl | hx
        · -- y itself
          cases a with
          | none =>
            have : pick none x = some x := by unfold pick; simp [hr]
            exact h3 _ this
          | some d =>
            by_cases q : x.c < d.c
            · have : pick (some d) x = some x := by unfold pick; simp [hr, q]
              exact h3 _ this
            · have : pick (some d) x = some d := by unfold pick; simp [q]
              have := h3 _ this
              omega
        · exact h2 x hx hr
      · subst hd
        by_cases q : y.r = true ∧ y.c < d.c
        · have : pick (some d) y = some y := by unfold pick; simp [q.1, q.2]
          have := h3 _ this
          omega
        · have : pick (some d) y = some d := by
            unfold pick
            simp only
            rw [if_neg]
            intro z
            rw [Bool.and_eq_true, decide_eq_true_eq] at z
            exact q z
          exact h3 _ this
      · rcases h4 with h4 | h4
        · rcases pick_some h4 with h | ⟨rfl, _⟩
          · exact Or.inl h
          · exact Or.inr List.mem_cons_self
        · exact Or.inr (List.mem_cons_of_mem _ h4)
theorem best_none {l : List (Row α)} : best l = none ↔ ∀ x ∈ l, x.r = false := by
  have h := fold_spec l none (fun _ e => by cases e)
  unfold best
  constructor
  · intro e
    rw [e] at h
    exact h.2
  · intro q
    cases e : l.foldl pick none with
    | none => rfl
    | some b =>
      rw [e] at h
      obtain ⟨h1, _, _, h4⟩ := h
      rcases h4 with h4 | h4
      · cases h4
      · rw [q b h4] at h1
        cases h1
theorem best_some {l : List (Row α)} {b : Row α} (e : best l = some b) : b.r = true ∧ b ∈ l ∧ ∀ x ∈ l, x.r = true → b.c ≤ x.c := by
  have h := fold_spec l none (fun _ e => by cases e)
  unfold best at e
  rw [e] at h
  obtain ⟨h1, h2, _, h4⟩ := h
  rcases h4 with h4 | h4
  · cases h4
  · exact ⟨h1, h4, h2⟩
/-! ### the deeds -/
/-- every row of that name goes through f -/
def upd (l : List (Row α)) (n : α) (f : Row α → Row α) : List (Row α) := l.map fun x => if x.n = n then f x else x
def enter (W : Wh α) (n : α) (s : Int) : Wh α := { W with rows := W.rows ++ [⟨n, s, 0, false⟩] }
def leave (W : Wh α) (n : α) : Wh α := { W with rows := W.rows.filter fun x => decide (x.n ≠ n) }
def woken (past : Int) (x : Row α) : Row α := if x.r then x else { x with c := if x.c < past then past else x.c, r := true }
def wake (W : Wh α) (n : α) : Wh α := { W with rows := upd W.rows n (woken W.past) }
def rest (W : Wh α) (n : α) : Wh α := { W with rows := upd W.rows n fun x => { x with r := false } }
def shared (past s : Int) (x : Row α) : Row α := { x with s := s, c := if past < x.c then past + Int.fdiv ((x.c - past) * stp s) (stp x.s) else x.c }
def reshare (W : Wh α) (n : α) (s : Int) : Wh α := { W with rows := upd W.rows n (shared W.past s) }
def turned (b : Row α) (x : Row α) : Row α := { x with c := b.c + stp b.s }
def turn (W : Wh α) : Wh α := match best W.rows with
  | none => W
  | some b => ⟨b.c, upd W.rows b.n fun x => { x with c := x.c + stp x.s }⟩
def whose (W : Wh α) : Option α := (best W.rows).map (·.n)
/-! ### points 3 and 8 -/
structure RowOk (past : Int) (x : Row α) : Prop where
  s1 : 1 ≤ x.s
  s2 : x.s ≤ 12
  c0 : 0 ≤ x.c
  up : x.c ≤ past + stp x.s
  lo : x.r = true → past ≤ x.c
structure Ok (W : Wh α) : Prop where
  p0 : 0 ≤ W.past
  rows : ∀ x ∈ W.rows, RowOk W.past x
  nd : (W.rows.map (·.n)).Nodup
theorem mem_upd {l : List (Row α)} {n : α} {f : Row α → Row α} {y : Row α} (h : y ∈ upd l n f) : ∃ x ∈ l, (x.n = n ∧ y = f x) ∨ (x.n ≠ n ∧ y = x) := by
  obtain ⟨x, hx, e⟩ := List.mem_map.mp h
  by_cases q : x.n = n
  · rw [if_pos q] at e
    exact ⟨x, hx, Or.inl ⟨q, e.symm⟩⟩
  · rw [if_neg q] at e
    exact ⟨x, hx, Or.inr ⟨q, e.symm⟩⟩
theorem names_upd {l : List (Row α)} {n : α} {f : Row α → Row α} (hf : ∀ x, (f x).n = x.n) : (upd l n f).map (·.n) = l.map (·.n) := by
  unfold upd
  rw [List.map_map]
  apply List.map_congr_left
  intro x _
  show (if x.n = n then f x else x).n = x.n
  split
  · exact hf x
  · rfl
theorem Ok.new : Ok (⟨0, []⟩ : Wh α) := ⟨Int.le_refl _, fun x h => (nomatch h), List.nodup_nil⟩
theorem nd_snoc {β : Type} {k : β} : ∀ {l : List β}, l.Nodup → ¬ k ∈ l → (l ++ [k]).Nodup
  | [], _, _ => by simp
  | a :: l, h, hk => by
    rw [List.nodup_cons] at h
    rw [List.cons_append, List.nodup_cons]
    refine ⟨fun hm => ?_, nd_snoc h.2 fun q => hk (List.mem_cons_of_mem _ q)⟩
    rcases List.mem_append.mp hm with q | q
    · exact h.1 q
    · exact hk (List.mem_cons.mpr (Or.inl (List.mem_singleton.mp q).symm))
theorem Ok.enter {W : Wh α} (h : Ok W) {n : α} {s : Int} (h1 : 1 ≤ s) (h2 : s ≤ 12) (hn : ¬ n ∈ W.rows.map (·.n)) : Ok (enter W n s) := by
  refine ⟨h.p0, fun x hx => ?_, ?_⟩
  · rcases List.mem_append.mp hx with hx | hx
    · exact h.rows x hx
    · rw [List.mem_singleton.mp hx]
      have := stp_cases h1 h2
      have := h.p0
      exact ⟨h1, h2, Int.le_refl _, by show (0 : Int) ≤ W.past + stp s; omega, fun q => by cases q⟩
  · show ((W.rows ++ [_]).map _).Nodup
    rw [List.map_append]
    exact nd_snoc h.nd hn
theorem Ok.leave {W : Wh α} (h : Ok W) (n : α) : Ok (leave W n) := by
  refine ⟨h.p0, fun x hx => h.rows x (List.mem_filter.mp hx).1, ?_⟩
  exact List.Nodup.sublist (List.Sublist.map _ List.filter_sublist) h.nd
theorem woken_n (p : Int) (x : Row α) : (woken p x).n = x.n := by unfold woken; split <;> rfl
theorem Ok.wake {W : Wh α} (h : Ok W) (n : α) : Ok (wake W n) := by
  refine ⟨h.p0, fun y hy => ?_, ?_⟩
  · obtain ⟨x, hx, ⟨_, rfl⟩ | ⟨_, rfl⟩⟩ := mem_upd hy
    · have k := h.rows x hx
      unfold woken
      by_cases q : x.r = true
      · rw [if_pos q]
        exact k
      · rw [if_neg q]
        have a := stp_cases k.s1 k.s2
        have b := k.up
        have c := k.c0
        have d := h.p0
        by_cases z : x.c < W.past
        · exact ⟨k.s1, k.s2, by simp only [if_pos z]; exact d, by show (if x.c < W.past then _ else _) ≤ W.past + stp x.s; rw [if_pos z]; omega, fun _ => by simp only [if_pos z]; exact Int.le_refl _⟩
        · exact ⟨k.s1, k.s2, by simp only [if_neg z]; exact c, by simp only [if_neg z]; exact b, fun _ => by show W.past ≤ (if x.c < W.past then _ else _); rw [if_neg z]; omega⟩
    · exact h.rows _ hx
  · show ((upd W.rows n (woken W.past)).map (·.n)).Nodup
    rw [names_upd (woken_n _)]
    exact h.nd
theorem Ok.rest {W : Wh α} (h : Ok W) (n : α) : Ok (rest W n) := by
  refine ⟨h.p0, fun y hy => ?_, ?_⟩
  · obtain ⟨x, hx, ⟨_, rfl⟩ | ⟨_, rfl⟩⟩ := mem_upd hy
    · have k := h.rows x hx
      exact ⟨k.s1, k.s2, k.c0, k.up, fun q => by cases q⟩
    · exact h.rows _ hx
  · show ((upd W.rows n _).map (·.n)).Nodup
    rw [names_upd]
    · exact h.nd
    · intro _; rfl
/-- a product of two that are not less than nought, divided: no more than one of them where the other is bounded by the divisor -/
theorem fdiv_le {a b d : Int} (ha : 0 ≤ a) (hd : 0 < d) (h : a ≤ d) (hb : 0 ≤ b) : 0 ≤ Int.fdiv (a * b) d ∧ Int.fdiv (a * b) d ≤ b := by
  rw [Int.fdiv_eq_ediv_of_nonneg _ (Int.le_of_lt hd)]
  refine ⟨Int.ediv_nonneg (Int.mul_nonneg ha hb) (Int.le_of_lt hd), ?_⟩
  have e : a * b ≤ d * b := Int.mul_le_mul_of_nonneg_right h hb
  have f : a * b / d ≤ d * b / d := Int.ediv_le_ediv hd e
  rw [Int.mul_ediv_cancel_left _ (by omega)] at f
  exact f
theorem Ok.reshare {W : Wh α} (h : Ok W) (n : α) {s : Int} (h1 : 1 ≤ s) (h2 : s ≤ 12) : Ok (reshare W n s) := by
  refine ⟨h.p0, fun y hy => ?_, ?_⟩
  · obtain ⟨x, hx, ⟨_, rfl⟩ | ⟨_, rfl⟩⟩ := mem_upd hy
    · have k := h.rows x hx
      have a := stp_cases k.s1 k.s2
      have b := stp_cases h1 h2
      have c := k.up
      have e := k.c0
      have d := h.p0
      by_cases z : W.past < x.c
      · have f := fdiv_le (a := x.c - W.past) (b := stp s) (d := stp x.s) (by omega) (by omega) (by omega) (by omega)
        exact ⟨h1, h2, by show 0 ≤ (if W.past < x.c then _ else _); rw [if_pos z]; omega, by show (if W.past < x.c then _ else _) ≤ W.past + stp s; rw [if_pos z]; omega,
          fun _ => by show W.past ≤ (if W.past < x.c then _ else _); rw [if_pos z]; omega⟩
      · exact ⟨h1, h2, by show 0 ≤ (if W.past < x.c then _ else _); rw [if_neg z]; exact e, by show (if W.past < x.c then _ else _) ≤ W.past + stp s; rw [if_neg z]; omega,
          fun q => by show W.past ≤ (if W.past < x.c then _ else _); rw [if_neg z]; exact k.lo q⟩
    · exact h.rows _ hx
  · show ((upd W.rows n _).map (·.n)).Nodup
    rw [names_upd]
    · exact h.nd
    · intro _; rfl
/-- of rows with unlike names one is told by its name -/
theorem row_of_name : ∀ {l : List (Row α)}, (l.map (·.n)).Nodup → ∀ {x y : Row α}, x ∈ l → y ∈ l → x.n = y.n → x = y
  | [], _, _, _, h, _, _ => (nomatch h)
  | a :: l, hd, x, y, hx, hy, e => by
    rw [List.map_cons, List.nodup_cons] at hd
    rcases List.mem_cons.mp hx with hx | hx
    · rcases List.mem_cons.mp hy with hy | hy
      · rw [hx, hy]
      · rw [hx] at e
        exact (hd.1 (List.mem_map.mpr ⟨y, hy, e.symm⟩)).elim
    · rcases List.mem_cons.mp hy with hy | hy
      · rw [hy] at e
        exact (hd.1 (List.mem_map.mpr ⟨x, hx, e⟩)).elim
      · exact row_of_name hd.2 hx hy e
theorem turn_none {W : Wh α} (e : best W.rows = none) : turn W = W := by
  unfold turn
  rw [e]
theorem turn_some {W : Wh α} {b : Row α} (e : best W.rows = some b) : turn W = ⟨b.c, upd W.rows b.n fun x => { x with c := x.c + stp x.s }⟩ := by
  unfold turn
  rw [e]
theorem Ok.turn {W : Wh α} (h : Ok W) : Ok (turn W) ∧ W.past ≤ (turn W).past := by
  cases e : best W.rows with
  | none =>
    rw [turn_none e]
    exact ⟨h, Int.le_refl _⟩
  | some b =>
    rw [turn_some e]
    obtain ⟨hr, hm, hl⟩ := best_some e
    have kb := h.rows b hm
    have pb := kb.lo hr
    refine ⟨⟨by have := h.p0; show 0 ≤ b.c; omega, fun y hy => ?_, ?_⟩, pb⟩
    · obtain ⟨x, hx, ⟨q, rfl⟩ | ⟨q, rfl⟩⟩ := mem_upd hy
      · have z := row_of_name h.nd hx hm q
        subst z
        have a := stp_cases kb.s1 kb.s2
        have c := kb.c0
        exact ⟨kb.s1, kb.s2, by show 0 ≤ x.c + stp x.s; omega, by show x.c + stp x.s ≤ x.c + stp x.s; omega, fun _ => by show x.c ≤ x.c + stp x.s; omega⟩
      · have k := h.rows _ hx
        have u := k.up
        exact ⟨k.s1, k.s2, k.c0, by show y.c ≤ b.c + stp y.s; omega, fun z => hl _ hx z⟩
    · show ((upd W.rows b.n _).map (·.n)).Nodup
      rw [names_upd]
      · exact h.nd
      · intro _; rfl
/-! ### point 9: of one who was ready all along with one share -/
/-- c0: the clock at the beginning, p0: the past then; n turns since -/
theorem given {s c0 c p0 p n : Int} (hs1 : 1 ≤ s) (hs2 : s ≤ 12) (a0 : p0 ≤ c0) (b0 : c0 ≤ p0 + stp s) (a : p ≤ c) (b : c ≤ p + stp s) (e : c = c0 + stp s * n) :
    stp s * (n - 1) ≤ p - p0 ∧ p - p0 ≤ stp s * (n + 1) := by
  have e1 : stp s * (n - 1) = stp s * n - stp s := by rw [Int.mul_sub, Int.mul_one]
  have e2 : stp s * (n + 1) = stp s * n + stp s := by rw [Int.mul_add, Int.mul_one]
  omega
theorem even_two {s t n m d : Int} (hs1 : 1 ≤ s) (hs2 : s ≤ 12) (ht1 : 1 ≤ t) (ht2 : t ≤ 12) (h1 : stp s * (n - 1) ≤ d) (h2 : d ≤ stp t * (m + 1)) : (n - 1) * t ≤ (m + 1) * s := by
  obtain ⟨es, _, _⟩ := stp_cases hs1 hs2
  obtain ⟨et, _, _⟩ := stp_cases ht1 ht2
  have h : stp s * (n - 1) ≤ stp t * (m + 1) := Int.le_trans h1 h2
  have st : 0 ≤ s * t := Int.mul_nonneg (by omega) (by omega)
  have g := Int.mul_le_mul_of_nonneg_right h st
  have l : stp s * (n - 1) * (s * t) = 27720 * ((n - 1) * t) := by
    rw [← es]
    simp only [Int.mul_assoc, Int.mul_left_comm, Int.mul_comm]
  have r : stp t * (m + 1) * (s * t) = 27720 * ((m + 1) * s) := by
    rw [← et]
    simp only [Int.mul_assoc, Int.mul_left_comm, Int.mul_comm]
  rw [l, r] at g
  omega
end Wm

namespace Mine
open PySem PySem.Spec PyProof.Rows L2
/-! ### short words: defs, methods, classes that keep a promise -/
section
variable (P : Program) (w : World) (K : PySem.W.Frag) (mg : Str → Option Value) (base : Heap)
structure MOk (k : Nat) (C : Addr) (m : Str) (ps : List Str) (sp : Sp) : Prop where
  ex : ∃ f fd, Meth K C m f ∧ FnOk P w K mg base (L2.CX P w) k f fd ps sp ∧ Binds K fd ps []
structure DOk (k : Nat) (x : Str) (ps : List Str) (sp : Sp) : Prop where
  ex : ∃ f fd, mg x = some (.ref f) ∧ PySem.W.keepIn K (.ref f) = true ∧ FnOk P w K mg base (L2.CX P w) k f fd ps sp ∧ Binds K fd ps []
structure KOk (k : Nat) (x : Str) (C : Addr) (ps : List Str) (sp : Sp) : Prop where
  ex : ∃ f fd, Mk K C f ∧ FnOk P w K mg base (L2.CX P w) k f fd ps sp ∧ mg x = some (.ref C) ∧ Binds K fd ps []
end
theorem passN {X : Cx} (σ : L2.St) : PassesAt (L2.CX X.prog X.w) X σ E0 := fun _ _ _ _ _ _ c => by
  obtain ⟨_, _, _, _, _, _, _, _, _, _, _, _, z⟩ := c
  exact z.elim
/-- a def that lets nothing out, told as one that may raise -/
theorem okN {P : Program} {w : World} {K : PySem.W.Frag} {mg : Str → Option Value} {base : Heap} {x qual : Str} {st : Stmt} {f : Addr} {fd : FuncData} {N ps : List Str} {k : Nat} {sp : Sp} (F : Fun K x qual st f fd) (S : FnScope N ps (defScope st))
    (len : ∀ vs H Q E, sp vs H Q E → vs.length = ps.length)
    (body : ∀ (cdv : Value) (A : Around) (outer : List Env) (s : Shared) (H : Hp) (vs : List V) (Q : VK) (E : XK), Room k (A.deeper (envOfC qual (defScope st) s.heap.objs.size f cdv)) → sp vs H Q E →
      ∃ t, PSs (cxOf (L2.CX P w) P w K mg base N qual (defScope st) f cdv A outer s H E).nox (defBody st) t ∧ t ⟨fun _ H' => Q .non H', Q, fun _ _ => False, fun _ _ => False⟩ (start N vs) H) :
    FnOk P w K mg base (L2.CX P w) (k + 1) f fd ps sp :=
  F.okX S len fun cdv A outer s H vs Q E hr h => by
    obtain ⟨t, h1, h2⟩ := body cdv A outer s H vs Q E hr h
    exact ⟨t, h1.nox, h2⟩
/-- o.m(..): what a callee raises is wished for at the slots -/
def tMe (C : Addr) (m : Str) (sp : Sp) (E : L2.St → XK) (ta : TE) (t : TA) : TE := fun σ H Q =>
  ta σ H fun x H1 => ∃ a dx fs, x = .ref a ∧ H1 a = some (.ins C dx fs) ∧ fs.lookup m = none ∧ t σ H1 fun vs H2 => sp (x :: vs) H2 Q (E σ)
section
variable {X : Cx} {j k : Nat} {C : Addr} {x m : Str} {ps : List Str} {sp : Sp} {E : L2.St → XK} {p pos apos : Pos} {e o : Expr} {es : List Expr} {ta : TE} {t : TA}
theorem pe_m {pl : Sem Bool} (c : MOk X.prog X.w X.K X.mg X.base k C m ps sp) (cl : Cls X.K C) (hr : Room j X.A) (hk : k ≤ j) (hx : ∀ σ, PassesAt (L2.CX X.prog X.w) X σ (E σ)) (he : PE X o ta) (ha : PA X (e :: es) t)
    (hst : starEach (e :: es) X.env = (false, eval e X.env) :: starEach es X.env := by rfl) (hpl : (backTo pos (starEach es X.env)).any (·.1) = false := by rfl)
    (ht : eval (.Call (.Attribute o m apos) (e :: es) [] pos) X.env = (do
      let ov ← eval o X.env
      standAt apos.atName
      let (f, first) ← holding [ov] (getMethod ov m pl)
      callWith pos f first (backTo pos (starEach (e :: es) X.env)) (backToKw pos (keywordEach [] X.env))) := by rfl) :
    PE X (.Call (.Attribute o m apos) (e :: es) [] pos) (tMe C m sp E ta t) := by
  obtain ⟨f, fd, hm, F, hb⟩ := c.ex
  refine ⟨fun pins s σ H Q I h => PySem.W.methodCall_KW (pl := pl) (thn (he.run pins s σ H _ I h) ?_) ht⟩
  rintro u s1 ⟨x, H1, I1, rx, a, dx, fs, rfl, ea, l, q⟩
  have eu : u = Value.ref a := rx
  subst eu
  refine getmeth_ok I1 ea cl hm l (PySem.W.callWith_K (first := [.ref a]) (h₀ := X.base) I1.ok.mod.kin hm.kp (thn (ha.run pos pins s1 σ H1 _ I1 q) ?_) hst hpl)
  rintro us s2 ⟨vs, H2, I2, r, q2⟩
  exact ⟨I2.kIn, run_fnS (E := E) (us := .ref a :: us) (vs := .ref a :: vs) F (hr.mono hk) hb (hx σ) I2 (.cons rfl r) q2⟩
theorem pe_m0 {pl : Sem Bool} (c : MOk X.prog X.w X.K X.mg X.base k C m ps sp) (cl : Cls X.K C) (hr : Room j X.A) (hk : k ≤ j) (hx : ∀ σ, PassesAt (L2.CX X.prog X.w) X σ (E σ)) (he : PE X o ta)
    (ht : eval (.Call (.Attribute o m apos) [] [] pos) X.env = (do
      let ov ← eval o X.env
      standAt apos.atName
      let (f, first) ← holding [ov] (getMethod ov m pl)
      callWith pos f first (backTo pos (starEach [] X.env)) (backToKw pos (keywordEach [] X.env))) := by rfl) :
    PE X (.Call (.Attribute o m apos) [] [] pos) (tMe C m sp E ta tNil) := by
  obtain ⟨f, fd, hm, F, hb⟩ := c.ex
  refine ⟨fun pins s σ H Q I h => PySem.W.methodCall_KW (pl := pl) (thn (he.run pins s σ H _ I h) ?_) ht⟩
  rintro u s1 ⟨x, H1, I1, rx, a, dx, fs, rfl, ea, l, q⟩
  have eu : u = Value.ref a := rx
  subst eu
  exact getmeth_ok I1 ea cl hm l (PySem.W.callWith_K0 (first := [.ref a]) I1.kIn hm.kp (run_fnS (E := E) (us := [.ref a]) (vs := [.ref a]) F (hr.mono hk) hb (hx σ) I1 (.cons rfl .nil) q))
theorem pe_f (c : DOk X.prog X.w X.K X.mg X.base k x ps sp) (hr : Room j X.A) (hk : k ≤ j) (hg : Gl X x) (hx : ∀ σ, PassesAt (L2.CX X.prog X.w) X σ (E σ)) (ha : PA X (e :: es) t) (hdb : (x == ("__debug__" : Str)) = false := by decide)
    (he : starEach (e :: es) X.env = (false, eval e X.env) :: starEach es X.env := by rfl) (hpl : (backTo pos (starEach es X.env)).any (·.1) = false := by rfl) : PE X (.Call (.Name x p) (e :: es) [] pos) (tCallS sp E t) := by
  obtain ⟨f, fd, hm, kp, F, hb⟩ := c.ex
  exact pe_callS F (hr.mono hk) hg hm kp hb hx ha hdb he hpl
theorem pe_k (c : KOk X.prog X.w X.K X.mg X.base k x C ps sp) (hr : Room j X.A) (hk : k + 1 ≤ j) (hg : Gl X x) (ha : PA X (e :: es) t) (hdb : (x == ("__debug__" : Str)) = false := by decide)
    (he : starEach (e :: es) X.env = (false, eval e X.env) :: starEach es X.env := by rfl) (hpl : (backTo pos (starEach es X.env)).any (·.1) = false := by rfl) : PE X (.Call (.Name x p) (e :: es) [] pos) (tMake C sp [] E0 t) := by
  obtain ⟨f, fd, M, F, hm, hb⟩ := c.ex
  exact pe_make M F (hr.mono hk) hg hm hb .nil passL ha hdb he hpl
theorem pe_k0 (c : KOk X.prog X.w X.K X.mg X.base k x C ps sp) (hr : Room j X.A) (hk : k + 1 ≤ j) (hg : Gl X x) (hdb : (x == ("__debug__" : Str)) = false := by decide) : PE X (.Call (.Name x p) [] [] pos) (tMake C sp [] E0 tNil) := by
  obtain ⟨f, fd, M, F, hm, hb⟩ := c.ex
  exact pe_make0 M F (hr.mono hk) hg hm hb .nil passL hdb
end
/-! ### own errors -/
structure ExcT (K : PySem.W.Frag) (C : Addr) : Prop where
  x : PySem.W.excIn K C [.type "ValueError", .type "Exception", .type "BaseException", .type "object"] "ValueError.__new__" = true
  k : PySem.W.keepIn K (.ref C) = true
  b : PySem.W.subIn K (.ref C) (.type "BaseException") = some true
  t : PySem.W.typeIn K (.ref C) = some (.type "type")
/-- raise X('..') -/
theorem ps_rs {X : Cx} {W : WX} {C : Addr} {x m : Str} {j : Nat} {p p2 pos pos' : Pos} (hc : X.calm = true) (tk : Takes X W) (T : ExcT X.K C) (gC : X.mg x = some (.ref C)) (hg : Gl X x) (hdb : (x == ("__debug__" : Str)) = false := by decide) :
    PS X (.Raise (some (.Call (.Name x p) [.Constant (.str m) j p2] [] pos)) none pos') (fun _ σ H => W (.ref C) none σ H) :=
  ps_raise hc tk (pmk_own PySem.F.excBase_ValueError T.x gC T.k (raises_own T.b T.t) hg hdb)
/-! ### try, with a name for what it reckons -/
def tTryO (K : PySem.W.Frag) (c : Value) (ts : Addr → Value → Option Addr → TS) (Wout : WX) (tb : WX → TS) : TS := fun D σ H => tb (wOnly K c ts Wout D) D σ H
def tTryA (K : PySem.W.Frag) (c : Value) (i : Nat) (ts : Addr → Value → Option Addr → TS) (Wout : WX) (tb : WX → TS) : TS := fun D σ H => tb (wAs K c i ts Wout D) D σ H
def tTryM (K : PySem.W.Frag) (l : List (Value × (Addr → Value → Option Addr → TS))) (Wout : WX) (tb : WX → TS) : TS := fun D σ H => tb (wMany K Wout D l) D σ H
section
variable {X : Cx} {x n : Str} {c : Value} {i : Nat} {body suite : List Stmt} {b₀ : Stmt} {h₀ : ExceptHandler} {hds : List ExceptHandler} {l : List (Value × (Addr → Value → Option Addr → TS))} {np pos pos' : Pos} {tb : WX → TS} {ts : Addr → Value → Option Addr → TS} {Wout : WX}
theorem pt_only (hs : X.stack = X.env :: X.outer) (hf : X.env.frame = some X.env.locals) (hc : Names X x c) (tk : Takes X Wout)
    (hb : ∀ (W : WX) (pn : List (Addr × Obj)) (xe : Value → Shared → Prop), Takes (X.tr pn xe) W → PassesOwn (model X.prog X.w) X.A X.env xe → PSs (X.tr pn xe) body (tb W))
    (hsu : ∀ (a : Addr) (oe : Obj) (cls : Value) (d : Option Addr) (pn : List (Addr × Obj)), Zc cls d oe → (∃ vs, oe.data = .fields vs) → PSs (X.suite a ((a, oe) :: pn)) (b₀ :: suite) (ts a cls d)) :
    PS X (.Try body [.ExceptHandler (some (.Name x np)) none (b₀ :: suite) pos'] [] [] pos) (tTryO X.K c ts Wout tb) := ps_try_only hs hf hc tk hb hsu
theorem pt_as (hs : X.stack = X.env :: X.outer) (hf : X.env.frame = some X.env.locals) (hN : X.N.Nodup) (hi : X.N[i]? = some n) (hln : X.env.kindOf n = some .local) (hc : Names X x c) (tk : Takes X Wout)
    (hb : ∀ (W : WX) (pn : List (Addr × Obj)) (xe : Value → Shared → Prop), Takes (X.tr pn xe) W → PassesOwn (model X.prog X.w) X.A X.env xe → PSs (X.tr pn xe) body (tb W))
    (hsu : ∀ (a : Addr) (oe : Obj) (cls : Value) (d : Option Addr) (pn : List (Addr × Obj)), Zc cls d oe → (∃ vs, oe.data = .fields vs) → PSs (X.suite a ((a, oe) :: pn)) (b₀ :: suite) (ts a cls d)) :
    PS X (.Try body [.ExceptHandler (some (.Name x np)) (some n) (b₀ :: suite) pos'] [] [] pos) (tTryA X.K c i ts Wout tb) := ps_try_as hs hf hN hi hln hc tk hb hsu
theorem pt_many (hs : X.stack = X.env :: X.outer) (hf : X.env.frame = some X.env.locals) (tk : Takes X Wout)
    (hb : ∀ (W : WX) (pn : List (Addr × Obj)) (xe : Value → Shared → Prop), Takes (X.tr pn xe) W → PassesOwn (model X.prog X.w) X.A X.env xe → PSs (X.tr pn xe) body (tb W))
    (hh : HdsOk X (h₀ :: hds) l) : PS X (.Try body (h₀ :: hds) [] [] pos) (tTryM X.K l Wout tb) := ps_try_many hs hf tk hb hh
end
theorem ix_listK {X : Cx} {K0 : PySem.W.Frag} (hK : X.K = K0 := by rfl) : IxR X (rIxL K0) := by
  subst hK
  exact ix_list
theorem ix_tupK {X : Cx} {K0 : PySem.W.Frag} (hK : X.K = K0 := by rfl) : IxR X (rIxT K0) := by
  subst hK
  exact ix_tup
theorem op_inK {X : Cx} {K0 : PySem.W.Frag} (hK : X.K = K0 := by rfl) : OpR X (compareOp .In) (rIn K0 false) := by
  subst hK
  exact op_in_seq
theorem op_notInK {X : Cx} {K0 : PySem.W.Frag} (hK : X.K = K0 := by rfl) : OpR X (compareOp .NotIn) (rIn K0 true) := by
  subst hK
  exact op_notIn_seq
theorem call_list_ofK {X : Cx} {K0 : PySem.W.Frag} (hK : X.K = K0 := by rfl) : CallR X (.type "list") (fun xs H Q => ∃ p ys, xs = [.ref p] ∧ (SqL K0 H p ys ∨ SqT K0 H p ys) ∧ ∀ l, H l = none → Q (.ref l) (upd H l (.lst ys))) := by
  subst hK
  exact call_list_of
theorem pe_app {X : Cx} {K0 : PySem.W.Frag} {o e : Expr} {to te : TE} {apos cpos : Pos} (ho : PE X o to) (he : PE X e te) (hK : X.K = K0 := by rfl)
    (hbase : attributeBase o "append" X.env (eval o X.env) = eval o X.env := by rfl)
    (hfew : ((backTo cpos (starEach [e] X.env)).all (fun x => !x.1) && (backToKw cpos (keywordEach [] X.env)).all (fun x => x.1.isSome)
      && decide ([e].length + ([] : List Keyword).length + (if ([] : List Keyword).isEmpty then 0 else 1) < 30)) = true := by rfl)
    (hline : (apos.endLine == cpos.line) = true := by rfl) (hs : starEach [e] X.env = (false, eval e X.env) :: starEach [] X.env := by rfl) (hplain : (backTo cpos (starEach [] X.env)).any (·.1) = false := by rfl) :
    PE X (.Call (.Attribute o "append" apos) [e] [] cpos) (tBM K0 "list" rAppend to (tCons te tNil)) := by
  subst hK
  exact pe_bm PySem.F.plainAttrs_list PySem.F.slot_list_append PySem.F.type_list_append mt_append ho (pa_cons he pa_nil hs) hbase hfew hline hs hplain
/-! ### kinds of things -/
inductive Th (H : Hp) : V → Prop where
  | int (i : Int) : Th H (.int i)
  | bl (b : Bool) : Th H (.bl b)
  | non : Th H .non
  | str (z : Str) : Th H (.str z)
  | lst {a : Addr} {xs : List V} (e : H a = some (.lst xs)) : Th H (.ref a)
def isI : V → Bool
  | .int _ => true
  | _ => false
def isB : V → Bool
  | .bl _ => true
  | _ => false
def isS : V → Bool
  | .str _ => true
  | _ => false
def good : V → Bool
  | .int i => decide (1 ≤ i) && decide (i ≤ 12)
  | _ => false
theorem Th.ty {K : PySem.W.Frag} {H : Hp} {x : V} (h : Th H x) : ∃ t, TyX K H x t ∧ PySem.W.kitOne K t (.type "int") = some (isI x || isB x) ∧ PySem.W.kitOne K t (.type "bool") = some (isB x) ∧ PySem.W.kitOne K t (.type "str") = some (isS x) := by
  cases h with
  | int i => exact ⟨_, .base (.int i), kit_ty (by show kitB "int" "int" = some true; decide +kernel), kit_ty (by show kitB "int" "bool" = some false; decide +kernel), kit_ty (by show kitB "int" "str" = some false; decide +kernel)⟩
  | bl b => exact ⟨_, .base (.bl b), kit_ty (by show kitB "bool" "int" = some true; decide +kernel), kit_ty (by show kitB "bool" "bool" = some true; decide +kernel), kit_ty (by show kitB "bool" "str" = some false; decide +kernel)⟩
  | non => exact ⟨_, .base .non, kit_ty (by show kitB "NoneType" "int" = some false; decide +kernel), kit_ty (by show kitB "NoneType" "bool" = some false; decide +kernel), kit_ty (by show kitB "NoneType" "str" = some false; decide +kernel)⟩
  | str z => exact ⟨_, .base (.str z), kit_ty (by show kitB "str" "int" = some false; decide +kernel), kit_ty (by show kitB "str" "bool" = some false; decide +kernel), kit_ty (by show kitB "str" "str" = some true; decide +kernel)⟩
  | lst e => exact ⟨_, .base (.lst e), kit_ty (by show kitB "list" "int" = some false; decide +kernel), kit_ty (by show kitB "list" "bool" = some false; decide +kernel), kit_ty (by show kitB "list" "str" = some false; decide +kernel)⟩
/-! ### heaps: all but what is owned stays -/
def Kept (fp : List Addr) (H H' : Hp) : Prop := ∀ b o, H b = some o → b ∉ fp → H' b = some o
structure Step (fp : List Addr) (H : Hp) (fp' : List Addr) (H' : Hp) : Prop where
  kept : Kept fp H H'
  new : ∀ b ∈ fp', b ∈ fp ∨ H b = none
theorem Step.same {fp : List Addr} {H H' : Hp} (h : Same H H') : Step fp H fp H' := ⟨fun b o e _ => h b o e, fun _ hb => .inl hb⟩
theorem Step.refl (fp : List Addr) (H : Hp) : Step fp H fp H := .same (Same.refl H)
theorem Step.trans {fp fp' fp'' : List Addr} {H H' H'' : Hp} (a : Step fp H fp' H') (b : Step fp' H' fp'' H'') : Step fp H fp'' H'' := by
  refine ⟨fun c o e hc => b.kept c o (a.kept c o e hc) fun hc' => ?_, fun c hc => ?_⟩
  · rcases a.new c hc' with h | h
    · exact hc h
    · rw [h] at e
      cases e
  · rcases b.new c hc with h | h
    · exact a.new c h
    · by_cases hf : c ∈ fp
      · exact .inl hf
      · right
        cases e : H c with
        | none => rfl
        | some o =>
          rw [a.kept c o e hf] at h
          cases h
/-- what stands apart stays apart -/
theorem Step.apart {fp fp' gp : List Addr} {H H' : Hp} (a : Step fp H fp' H') (hg : ∀ b ∈ gp, ∃ o, H b = some o) (h : ∀ b ∈ gp, b ∉ fp) : ∀ b ∈ gp, b ∉ fp' := fun b hb hb' => by
  rcases a.new b hb' with z | z
  · exact h b hb z
  · obtain ⟨o, e⟩ := hg b hb
    rw [z] at e
    cases e
theorem same_upd {H : Hp} {a : Addr} {o : HO} (h : H a = none) : Same H (upd H a o) := fun b u e => by
  rw [upd_ne (ne_of_none e h)]
  exact e
theorem same_made {H : Hp} {x dx C : Addr} {fs : List (Str × V)} (hx : H x = none) (hd : H dx = none) : Same H (upd (upd H dx (.own x)) x (.ins C dx fs)) := fun b u e => by
  rw [upd_ne (ne_of_none e hx), upd_ne (ne_of_none e hd)]
  exact e
theorem upd_self {H : Hp} {a : Addr} {o : HO} (h : H a = some o) : upd H a o = H := by
  funext b
  by_cases q : b = a
  · rw [q, upd_same, h]
  · rw [upd_ne q]
/-! ### attributes -/
theorem lk_same (f : Str) (v : V) (r : List (Str × V)) : List.lookup f ((f, v) :: r) = some v := by
  rw [List.lookup_cons]
  simp
theorem lk_ne {f g : Str} (h : ¬ f = g) (v : V) (r : List (Str × V)) : List.lookup f ((g, v) :: r) = List.lookup f r := by
  rw [List.lookup_cons]
  have : (f == g) = false := beq_eq_false_iff_ne.mpr h
  rw [this]
theorem pf_same (f : Str) (v u : V) (r : List (Str × V)) : putF f v ((f, u) :: r) = (f, v) :: r := by
  show (if f = f then (f, v) :: r else _) = _
  rw [if_pos rfl]
theorem pf_ne {f g : Str} (h : ¬ g = f) (v u : V) (r : List (Str × V)) : putF f v ((g, u) :: r) = (g, u) :: putF f v r := by
  show (if g = f then _ else (g, u) :: putF f v r) = _
  rw [if_neg h]
theorem pf_nil (f : Str) (v : V) : putF f v [] = [(f, v)] := rfl
/-- a dict comprehension over what is walked -/
theorem dc_it {J : It} {n : Nat} {G : Hp → Prop} {Y : Nat → Hp → V → Hp → Prop} (w : Walk J n G Y) {g : TG} {tt : TT} {tk tv : TE} {vs : List Nat} {σ : L2.St} {H1 : Hp} {D : Addr} {Qd : Hp → Prop} (Pv : Nat → Hp → Prop) (h0 : Pv 0 (upd H1 D (.dK []))) (hG : ∀ i H, i ≤ n → Pv i H → G H)
    (hs : ∀ i x H H', i < n → Pv i H → Y i H x H' → g x (wipe σ vs) H' fun σ2 H2 => wipe σ2 vs = wipe σ vs ∧ tt σ2 H2 fun b H3 =>
      if b = true then tk σ2 H3 fun y H4 => tv σ2 H4 fun z H5 => ∃ ks k, y = kV k ∧ H5 D = some (.dK ks) ∧ ks.length < sizeLine ∧ Pv (i + 1) (upd H5 D (.dK (putK ks k z))) else Pv (i + 1) H3)
    (hd : ∀ H, Pv n H → Qd H) :
    ∃ W : Nat → Nat → Hp → Prop, (∃ m, W 0 m (upd H1 D (.dK []))) ∧ ∀ i m H, W i m H →
      (J.stop i H ∧ Qd H) ∨ (J.go i H ∧ ∃ Nx : Hp → Prop, (∀ H', Nx H' → ∃ m', m' < m ∧ W (i + 1) m' H') ∧ ∀ x H', J.yld i H x H' → g x (wipe σ vs) H' fun σ2 H2 => wipe σ2 vs = wipe σ vs ∧ tt σ2 H2 fun b H3 =>
        if b = true then tk σ2 H3 fun y H4 => tv σ2 H4 fun z H5 => ∃ ks k, y = kV k ∧ H5 D = some (.dK ks) ∧ ks.length < sizeLine ∧ Nx (upd H5 D (.dK (putK ks k z))) else Nx H3) := by
  refine ⟨fun i m H => i ≤ n ∧ m = n - i ∧ Pv i H, ⟨n, Nat.zero_le _, by simp, h0⟩, fun i m H ⟨hi, hm, p⟩ => ?_⟩
  subst hm
  rcases Nat.lt_or_ge i n with hlt | hge
  · exact .inr ⟨w.goes i H hlt (hG i H hi p), Pv (i + 1), fun H' p' => ⟨n - (i + 1), by omega, hlt, rfl, p'⟩, fun x H' y => hs i x H H' hlt p (w.yields i H x H' hlt (hG i H hi p) y)⟩
  · have e : i = n := by omega
    rw [e] at p ⊢
    exact .inl ⟨w.stops H (hG n H (Nat.le_refl _) p), hd H p⟩
/-- built-in names that no module's name hides -/
structure LT (mg : Str → Option Value) : Prop where
  len : mg "len" = none
  range : mg "range" = none
  isi : mg "isinstance" = none
  int : mg "int" = none
  bool : mg "bool" = none
  str : mg "str" = none
  max : mg "max" = none
  min : mg "min" = none
  list : mg "list" = none
  dict : mg "dict" = none
  zip : mg "zip" = none
  ValueError : mg "ValueError" = none

/-! ### wheels: how they lie in the heap -/
abbrev WhS := Wm.Wh Str
abbrev RowS := Wm.Row Str
abbrev En := RowS × Addr
theorem n_cs : ¬ (("clock" : Str) = "share") := by decide +kernel
theorem n_sc : ¬ (("share" : Str) = "clock") := by decide +kernel
theorem n_rs : ¬ (("ready" : Str) = "share") := by decide +kernel
theorem n_sr : ¬ (("share" : Str) = "ready") := by decide +kernel
theorem n_rc : ¬ (("ready" : Str) = "clock") := by decide +kernel
theorem n_cr : ¬ (("clock" : Str) = "ready") := by decide +kernel
theorem n_ps : ¬ (("past" : Str) = "_sharers") := by decide +kernel
theorem n_sp : ¬ (("_sharers" : Str) = "past") := by decide +kernel
def sf (s c : Int) (r : Bool) : List (Str × V) := [("share", .int s), ("clock", .int c), ("ready", .bl r)]
def wf (q : Int) (d : Addr) : List (Str × V) := [("past", .int q), ("_sharers", .ref d)]
theorem sf_share (s c : Int) (r : Bool) : (sf s c r).lookup ("share" : Str) = some (.int s) := lk_same _ _ _
theorem sf_clock (s c : Int) (r : Bool) : (sf s c r).lookup ("clock" : Str) = some (.int c) := (lk_ne n_cs _ _).trans (lk_same _ _ _)
theorem sf_ready (s c : Int) (r : Bool) : (sf s c r).lookup ("ready" : Str) = some (.bl r) := (lk_ne n_rs _ _).trans ((lk_ne n_rc _ _).trans (lk_same _ _ _))
theorem sf_no (s c : Int) (r : Bool) {m : Str} (h1 : ¬ m = "share") (h2 : ¬ m = "clock") (h3 : ¬ m = "ready") : (sf s c r).lookup m = none := (lk_ne h1 _ _).trans ((lk_ne h2 _ _).trans ((lk_ne h3 _ _).trans rfl))
theorem sf_pshare (s c : Int) (r : Bool) (t : Int) : putF "share" (.int t) (sf s c r) = sf t c r := pf_same _ _ _ _
theorem sf_pclock (s c : Int) (r : Bool) (t : Int) : putF "clock" (.int t) (sf s c r) = sf s t r := (pf_ne n_sc _ _ _).trans (congrArg _ (pf_same _ _ _ _))
theorem sf_pready (s c : Int) (r t : Bool) : putF "ready" (.bl t) (sf s c r) = sf s c t := (pf_ne n_sr _ _ _).trans (congrArg _ ((pf_ne n_cr _ _ _).trans (congrArg _ (pf_same _ _ _ _))))
theorem wf_past (q : Int) (d : Addr) : (wf q d).lookup ("past" : Str) = some (.int q) := lk_same _ _ _
theorem wf_sh (q : Int) (d : Addr) : (wf q d).lookup ("_sharers" : Str) = some (.ref d) := (lk_ne n_sp _ _).trans (lk_same _ _ _)
theorem wf_no (q : Int) (d : Addr) {m : Str} (h1 : ¬ m = "past") (h2 : ¬ m = "_sharers") : (wf q d).lookup m = none := (lk_ne h1 _ _).trans ((lk_ne h2 _ _).trans rfl)
theorem wf_ppast (q : Int) (d : Addr) (t : Int) : putF "past" (.int t) (wf q d) = wf t d := pf_same _ _ _ _
theorem wf_psh (q : Int) (d e : Addr) : putF "_sharers" (.ref e) (wf q d) = wf q e := (pf_ne n_ps _ _ _).trans (congrArg _ (pf_same _ _ _ _))
/-- the dict's pairs -/
def kvs (es : List En) : List (Key × V) := es.map fun e => (Sum.inr e.1.n, V.ref e.2)
theorem kvs_len (es : List En) : (kvs es).length = es.length := List.length_map _
theorem kvs_some {n : Str} {v : V} : ∀ {es : List En}, valV (kvs es) (Sum.inr n : Key) = some v → ∃ e ∈ es, e.1.n = n ∧ v = .ref e.2
  | [], h => by cases h
  | e :: es, h => by
    by_cases q : e.1.n = n
    · have : valV (kvs (e :: es)) (Sum.inr n : Key) = some (.ref e.2) := valV_pos (p := (Sum.inr e.1.n, V.ref e.2)) (congrArg Sum.inr q)
      rw [this] at h
      exact ⟨e, List.mem_cons_self, q, (Option.some.inj h).symm⟩
    · have : valV (kvs (e :: es)) (Sum.inr n : Key) = valV (kvs es) (Sum.inr n : Key) := valV_neg (p := (Sum.inr e.1.n, V.ref e.2)) fun z => q (Sum.inr.inj z)
      rw [this] at h
      obtain ⟨e', h1, h2⟩ := kvs_some h
      exact ⟨e', List.mem_cons_of_mem _ h1, h2⟩
theorem kvs_none {n : Str} : ∀ {es : List En}, valV (kvs es) (Sum.inr n : Key) = none → ∀ e ∈ es, e.1.n ≠ n
  | [], _, _, h => (nomatch h)
  | e :: es, h, e', he => by
    by_cases q : e.1.n = n
    · have : valV (kvs (e :: es)) (Sum.inr n : Key) = some (.ref e.2) := valV_pos (p := (Sum.inr e.1.n, V.ref e.2)) (congrArg Sum.inr q)
      rw [this] at h
      cases h
    · have : valV (kvs (e :: es)) (Sum.inr n : Key) = valV (kvs es) (Sum.inr n : Key) := valV_neg (p := (Sum.inr e.1.n, V.ref e.2)) fun z => q (Sum.inr.inj z)
      rw [this] at h
      rcases List.mem_cons.mp he with rfl | he
      · exact q
      · exact kvs_none h e' he
theorem kvs_at {es : List En} {e : En} (nd : (es.map (·.1.n)).Nodup) (h : e ∈ es) : valV (kvs es) (Sum.inr e.1.n : Key) = some (.ref e.2) := by
  cases q : valV (kvs es) (Sum.inr e.1.n : Key) with
  | none => exact absurd rfl (kvs_none q e h)
  | some v =>
    obtain ⟨e', h', en, rfl⟩ := kvs_some q
    have : e' = e := by
      clear q
      induction es with
      | nil => cases h
      | cons a es ih =>
        rw [List.map_cons, List.nodup_cons] at nd
        rcases List.mem_cons.mp h with rfl | h1
        · rcases List.mem_cons.mp h' with rfl | h2
          · rfl
          · exact (nd.1 (List.mem_map.mpr ⟨e', h2, en⟩)).elim
        · rcases List.mem_cons.mp h' with rfl | h2
          · exact (nd.1 (List.mem_map.mpr ⟨e, h1, en.symm⟩)).elim
          · exact ih nd.2 h1 h2
    rw [this]
theorem kvs_drop (es : List En) (n : Str) : dropK (kvs es) (Sum.inr n : Key) = kvs (es.filter fun e => decide (e.1.n ≠ n)) := by
  unfold dropK kvs
  rw [List.filter_map]
  congr 1
  apply List.filter_congr
  intro e _
  show decide ((Sum.inr e.1.n : Key) ≠ Sum.inr n) = decide (e.1.n ≠ n)
  exact decide_eq_decide.mpr ⟨fun z q => z (congrArg Sum.inr q), fun z q => z (Sum.inr.inj q)⟩
/-- the entries, one row changed -/
def updE (es : List En) (n : Str) (f : RowS → RowS) : List En := es.map fun e => if e.1.n = n then (f e.1, e.2) else e
theorem updE_rows (es : List En) (n : Str) (f : RowS → RowS) : (updE es n f).map (·.1) = Wm.upd (es.map (·.1)) n f := by
  unfold updE Wm.upd
  rw [List.map_map, List.map_map]
  apply List.map_congr_left
  intro e _
  show (if e.1.n = n then (f e.1, e.2) else e).1 = if e.1.n = n then f e.1 else e.1
  by_cases q : e.1.n = n
  · rw [if_pos q, if_pos q]
  · rw [if_neg q, if_neg q]
theorem updE_addrs (es : List En) (n : Str) (f : RowS → RowS) : (updE es n f).map (·.2) = es.map (·.2) := by
  unfold updE
  rw [List.map_map]
  apply List.map_congr_left
  intro e _
  show (if e.1.n = n then (f e.1, e.2) else e).2 = e.2
  by_cases q : e.1.n = n
  · rw [if_pos q]
  · rw [if_neg q]
theorem updE_kvs (es : List En) (n : Str) (f : RowS → RowS) (hf : ∀ x, (f x).n = x.n) : kvs (updE es n f) = kvs es := by
  unfold updE kvs
  rw [List.map_map]
  apply List.map_congr_left
  intro e _
  show ((Sum.inr (if e.1.n = n then (f e.1, e.2) else e).1.n : Key), V.ref (if e.1.n = n then (f e.1, e.2) else e).2) = (Sum.inr e.1.n, V.ref e.2)
  by_cases q : e.1.n = n
  · rw [if_pos q, hf]
  · rw [if_neg q]
/-- entries with unlike addresses are told by them -/
theorem en_inj : ∀ {l : List En}, (l.map (·.2)).Nodup → ∀ {x y : En}, x ∈ l → y ∈ l → x.2 = y.2 → x = y
  | [], _, _, _, hx, _, _ => (nomatch hx)
  | a :: l, hd, x, y, hx, hy, exy => by
    rw [List.map_cons, List.nodup_cons] at hd
    rcases List.mem_cons.mp hx with ex | hx
    · rcases List.mem_cons.mp hy with ey | hy
      · rw [ex, ey]
      · rw [ex] at exy
        exact (hd.1 (List.mem_map.mpr ⟨y, hy, exy.symm⟩)).elim
    · rcases List.mem_cons.mp hy with ey | hy
      · rw [ey] at exy
        exact (hd.1 (List.mem_map.mpr ⟨x, hx, exy⟩)).elim
      · exact en_inj hd.2 hx hy exy
/-- a wheel at p, its dict at d, with these entries -/
structure WIn (CW CS : Addr) (H : Hp) (p d : Addr) (q : Int) (es : List En) : Prop where
  ob : ∃ dx, H p = some (.ins CW dx (wf q d))
  dc : H d = some (.dK (kvs es))
  sh : ∀ e ∈ es, ∃ dx, H e.2 = some (.ins CS dx (sf e.1.s e.1.c e.1.r))
  nd : (es.map (·.2)).Nodup
/-- .. as the mirror W has it; fp: all its objects -/
def WAt (CW CS : Addr) (H : Hp) (p : Addr) (W : WhS) (fp : List Addr) : Prop :=
  ∃ d es, W.rows = es.map (·.1) ∧ fp = p :: d :: es.map (·.2) ∧ WIn CW CS H p d W.past es ∧ Wm.Ok W
section
variable {CW CS : Addr} {H H' : Hp} {p d : Addr} {q : Int} {es : List En} {W : WhS} {fp gp : List Addr}
theorem WIn.ne_pd (h : WIn CW CS H p d q es) : p ≠ d := by
  obtain ⟨dx, e⟩ := h.ob
  exact ne_of e h.dc (by intro z; cases z)
theorem WIn.ne_ps (h : WIn CW CS H p d q es) {e : En} (he : e ∈ es) : p ≠ e.2 := by
  obtain ⟨dx, e1⟩ := h.ob
  obtain ⟨dy, e2⟩ := h.sh e he
  refine ne_of e1 e2 fun z => ?_
  injection z with _ _ z
  injection z with z _
  injection z with z _
  exact absurd z (by decide +kernel)
theorem WIn.ne_ds (h : WIn CW CS H p d q es) {e : En} (he : e ∈ es) : d ≠ e.2 := by
  obtain ⟨dy, e2⟩ := h.sh e he
  exact ne_of h.dc e2 (by intro z; cases z)
theorem WIn.keep (h : WIn CW CS H p d q es) (k : ∀ b ∈ p :: d :: es.map (·.2), ∀ o, H b = some o → H' b = some o) : WIn CW CS H' p d q es := by
  refine ⟨?_, k d (by simp) _ h.dc, fun e he => ?_, h.nd⟩
  · obtain ⟨dx, e⟩ := h.ob
    exact ⟨dx, k p (by simp) _ e⟩
  · obtain ⟨dx, e1⟩ := h.sh e he
    exact ⟨dx, k _ (by simp only [List.mem_cons, List.mem_map]; exact .inr (.inr ⟨e, he, rfl⟩)) _ e1⟩
theorem WIn.fpt (h : WIn CW CS H p d q es) : ∀ b ∈ p :: d :: es.map (·.2), ∃ o, H b = some o := by
  intro b hb
  rcases List.mem_cons.mp hb with rfl | hb
  · obtain ⟨dx, e⟩ := h.ob
    exact ⟨_, e⟩
  rcases List.mem_cons.mp hb with rfl | hb
  · exact ⟨_, h.dc⟩
  obtain ⟨e, he, rfl⟩ := List.mem_map.mp hb
  obtain ⟨dx, e1⟩ := h.sh e he
  exact ⟨_, e1⟩
theorem WAt.keep (h : WAt CW CS H p W fp) (k : ∀ b ∈ fp, ∀ o, H b = some o → H' b = some o) : WAt CW CS H' p W fp := by
  obtain ⟨d, es, h1, rfl, h3, h4⟩ := h
  exact ⟨d, es, h1, rfl, h3.keep k, h4⟩
theorem WAt.same (h : WAt CW CS H p W fp) (k : Same H H') : WAt CW CS H' p W fp := h.keep fun b _ o e => k b o e
theorem WAt.kept (h : WAt CW CS H p W fp) (k : Kept gp H H') (a : ∀ b ∈ fp, b ∉ gp) : WAt CW CS H' p W fp := h.keep fun b hb o e => k b o e (a b hb)
theorem WAt.fpt (h : WAt CW CS H p W fp) : ∀ b ∈ fp, ∃ o, H b = some o := by
  obtain ⟨d, es, h1, rfl, h3, h4⟩ := h
  exact h3.fpt
theorem WAt.ok (h : WAt CW CS H p W fp) : Wm.Ok W := by
  obtain ⟨d, es, h1, rfl, h3, h4⟩ := h
  exact h4
theorem WAt.mem (h : WAt CW CS H p W fp) : p ∈ fp := by
  obtain ⟨d, es, h1, rfl, h3, h4⟩ := h
  exact List.mem_cons_self
theorem WAt.at (h : WAt CW CS H p W fp) : ∃ dx d, H p = some (.ins CW dx (wf W.past d)) := by
  obtain ⟨d, es, h1, rfl, ⟨⟨dx, e⟩, _, _, _⟩, h4⟩ := h
  exact ⟨dx, d, e⟩
/-- what is neither an instance nor a dict is none of a wheel's -/
theorem WAt.notin (h : WAt CW CS H p W fp) {b : Addr} {o : HO} (e : H b = some o) (h1 : ∀ C dx fs, o ≠ .ins C dx fs) (h2 : ∀ k, o ≠ .dK k) : b ∉ fp := by
  obtain ⟨d, es, _, rfl, h3, _⟩ := h
  intro hb
  rcases List.mem_cons.mp hb with rfl | hb
  · obtain ⟨dx, e1⟩ := h3.ob
    rw [e] at e1
    exact h1 _ _ _ (Option.some.inj e1)
  rcases List.mem_cons.mp hb with rfl | hb
  · have e1 := h3.dc
    rw [e] at e1
    exact h2 _ (Option.some.inj e1)
  obtain ⟨x, hx, rfl⟩ := List.mem_map.mp hb
  obtain ⟨dx, e1⟩ := h3.sh x hx
  rw [e] at e1
  exact h1 _ _ _ (Option.some.inj e1)
theorem WAt.lst (h : WAt CW CS H p W fp) {b : Addr} {xs : List V} (e : H b = some (.lst xs)) : b ∉ fp := h.notin e (fun _ _ _ z => by cases z) fun _ z => by cases z
theorem WAt.tup (h : WAt CW CS H p W fp) {b : Addr} {xs : List V} (e : H b = some (.tup xs)) : b ∉ fp := h.notin e (fun _ _ _ z => by cases z) fun _ z => by cases z
theorem WAt.frz (h : WAt CW CS H p W fp) {b : Addr} {x : Obj} {u : HO} (e : H b = some (.frz x u)) : b ∉ fp := h.notin e (fun _ _ _ z => by cases z) fun _ z => by cases z
/-- a list or the script stands as before -/
theorem WAt.seq (h : WAt CW CS H p W fp) (k : Kept fp H H') {K : PySem.W.Frag} {a : Addr} {xs : List V} (e : SqL K H a xs) : SqL K H' a xs := by
  rcases e with (e | ⟨o, e⟩) | e
  · exact .inl (.inl (k _ _ e (h.lst e)))
  · exact .inl (.inr ⟨o, k _ _ e (h.frz e)⟩)
  · exact .inr e
/-- one sharer is written -/
theorem WIn.set (h : WIn CW CS H p d q es) {e : En} (he : e ∈ es) (nn : (es.map (·.1.n)).Nodup) (f : RowS → RowS) (hf : ∀ x, (f x).n = x.n) (dx : Addr) :
    WIn CW CS (upd H e.2 (.ins CS dx (sf (f e.1).s (f e.1).c (f e.1).r))) p d q (updE es e.1.n f) := by
  refine ⟨?_, ?_, fun x hx => ?_, ?_⟩
  · obtain ⟨dy, e1⟩ := h.ob
    exact ⟨dy, by rw [upd_ne (h.ne_ps he)]; exact e1⟩
  · rw [upd_ne (h.ne_ds he), updE_kvs _ _ _ hf]
    exact h.dc
  · obtain ⟨y, hy, rfl⟩ := List.mem_map.mp hx
    by_cases qn : y.1.n = e.1.n
    · have : y = e := by
        have a1 := kvs_at nn hy
        have a2 := kvs_at nn he
        rw [qn, a2] at a1
        have a3 : e.2 = y.2 := V.ref.inj (Option.some.inj a1)
        exact en_inj h.nd hy he a3.symm
      subst this
      rw [if_pos qn]
      exact ⟨dx, upd_same⟩
    · rw [if_neg qn]
      obtain ⟨dy, e1⟩ := h.sh y hy
      refine ⟨dy, ?_⟩
      rw [upd_ne]
      · exact e1
      · intro z
        apply qn
        rw [en_inj h.nd hy he z]
  · rw [updE_addrs]
    exact h.nd
end
theorem names_nd {W : WhS} {es : List En} (h : Wm.Ok W) (e : W.rows = es.map (·.1)) : (es.map (·.1.n)).Nodup := by
  have := h.nd
  rw [e, List.map_map] at this
  exact this

/-! ### the text by places -/
def top (i : Nat) : Stmt := PySem.Challenge.pw_sharetime_k09_who_stands_where.main.body.getD i (.Pass ⟨0, 0, 0, 0⟩)
abbrev s_wall : Stmt := top 0
abbrev s_is_name : Stmt := top 14
abbrev s_stands_in : Stmt := top 15
abbrev s_is_whole : Stmt := top 19
abbrev s_step : Stmt := top 20
abbrev sSharer_init : Stmt := inClass (top 22) 0
abbrev sSharer_copied : Stmt := inClass (top 22) 1
abbrev sWheel_init : Stmt := inClass (top 23) 0
abbrev sWheel_enter : Stmt := inClass (top 23) 1
abbrev sWheel_leave : Stmt := inClass (top 23) 2
abbrev sWheel_reshare : Stmt := inClass (top 23) 3
abbrev sWheel_wake : Stmt := inClass (top 23) 4
abbrev sWheel_rest : Stmt := inClass (top 23) 5
abbrev sWheel_turn : Stmt := inClass (top 23) 6
abbrev sWheel_whose : Stmt := inClass (top 23) 7
abbrev sWheel_names : Stmt := inClass (top 23) 8
abbrev sWheel_clock_of : Stmt := inClass (top 23) 9
abbrev sWheel_share_of : Stmt := inClass (top 23) 10
abbrev sWheel_is_ready : Stmt := inClass (top 23) 11
abbrev sWheel_copied : Stmt := inClass (top 23) 12
abbrev sWheel_sharer : Stmt := inClass (top 23) 13
abbrev sHouse_init : Stmt := inClass (top 26) 0
abbrev sHouse_team : Stmt := inClass (top 26) 1
abbrev sHouse_hand : Stmt := inClass (top 26) 2
abbrev sHouse_leave : Stmt := inClass (top 26) 3
abbrev sHouse_reshare : Stmt := inClass (top 26) 4
abbrev sHouse_wake : Stmt := inClass (top 26) 5
abbrev sHouse_rest : Stmt := inClass (top 26) 6
abbrev sHouse_deal : Stmt := inClass (top 26) 7
abbrev sHouse_coming : Stmt := inClass (top 26) 8
abbrev sHouse_wheel_of : Stmt := inClass (top 26) 9
abbrev sHouse_settle : Stmt := inClass (top 26) 10
abbrev sHouse_need_team : Stmt := inClass (top 26) 11
abbrev sHouse_need_name : Stmt := inClass (top 26) 12
abbrev sHouse_need_hand : Stmt := inClass (top 26) 13
abbrev sHouse_wheel_around : Stmt := inClass (top 26) 14
abbrev sHouse_copied : Stmt := inClass (top 26) 15
abbrev s_L_names_by : Stmt := top 28
abbrev s_L_refusal : Stmt := top 29
abbrev s_L_done : Stmt := top 30
abbrev s_L_is_share : Stmt := top 31
abbrev s_L_due : Stmt := top 32
abbrev s_L_wheel_good : Stmt := top 33
abbrev s_law : Stmt := top 34
/-! ### where an error is handled: a list walked to its end, a list comprehension -/
theorem list_end_hot {prog : Program} {w : World} {A : Around} {s : Shared} {it l x1 : Addr} {i : Nat} {items : Array Value} {Q : Option Value → Shared → Prop} {E : Value → Shared → Prop} (hot : HotX.HotAt A x1 s.heap) (ni : x1 ≠ it)
    (sit : s.heap.IsListIter it l i) (sl : s.heap.IsList l items) (gone : items[i]? = none) (q : ∀ g, (∀ b o, b ≠ it → s.heap.get? b = some o → g.get? b = some o) → Q none { s with heap := g }) :
    wpAny (model prog w) A (pyNext (.ref it)) Q E s := by
  obtain ⟨hh, o1, vs1, g1, d1, c1⟩ := hot
  obtain ⟨oi, gi, ci, di⟩ := id sit
  obtain ⟨ol, gl, _, nl, dl⟩ := sl
  have fr1 : s.heap.objs.size ≠ it := Nat.ne_of_gt (Heap.lt_size gi)
  unfold pyNext
  refine wpAny_bind (wpAny_attempt (wpAny_callSpecial?_slot (name := Str.ofString "__next__") sit.typeIs slot_listiter_next ?next))
  case next =>
  refine wpAny_call_entry slot_listiter_next sit.typeIs entry_listiter_next ?walk (args_listiter_next _)
  case walk =>
  change wpAny _ _ (field (.ref it) 0 >>= _) _ _ _
  refine wpAny_bind (wpAny_field gi di (x := .ref l) rfl ?_)
  change wpAny _ _ (if (Value.ref l == Value.none) = true then _ else _) _ _ _
  rw [if_neg (show ¬ (Value.ref l == Value.none) = true from Bool.false_ne_true)]
  change wpAny _ _ (field (.ref it) 1 >>= _) _ _ _
  refine wpAny_bind (wpAny_field gi di (x := .int i 0) rfl ?_)
  change wpAny _ _ (seqItems? (.ref l) >>= _) _ _ _
  refine wpAny_bind (wpAny_seqItems gl dl ?_)
  simp only [Int.toNat_natCast, gone]
  refine wpAny_bind (wpAny_rule (wpAny_bind (wpAny_setField gi di (by simp) ?_)))
  have g1' : (s.heap.update it (Obj.mapFields (·.setIfInBounds 0 Value.none))).get? x1 = some o1 := (Heap.get?_update_other _ _ ni.symm).trans g1
  change wpAny _ _ (newExc (.type "StopIteration") [] >>= _) _ _ _
  refine wpAny_bind ?_
  simp only [newExc, newTuple]
  refine wpAny_bind (wpAny_newObj_type ?_ (by size_fits))
  refine wpAny_bind (m := firstArgMember _ _) (wpAny_of_eq (a := .none) (by first | (simp only [firstArgMember]; rfl) | rfl) ?_)
  refine wpAny_newObj_type ?_ (by size_fits)
  have keep : ∀ {g : Heap} {b : Addr} {o u1 u2 : Obj}, g.get? b = some o → ((g.push u1).push u2).get? b = some o := fun e => Heap.get?_push_of_some _ (Heap.get?_push_of_some _ e)
  refine HotX.raiseNew_hot (A := A.in1) ⟨hh, o1, vs1, keep g1', d1, c1⟩ (Nat.ne_of_lt (Heap.lt_size (Heap.get?_push_of_some _ g1'))) (Heap.get?_push_size _ rfl) rfl (by first | (simp only [Array.size_append]; simp; omega) | (simp; done) | (simp; omega)) ?_
  refine wpAny_bind (wpAny_isInstance (b := true) (T := "StopIteration") ⟨_, Heap.get?_update_self _ (Heap.get?_push_size _ rfl) rfl, rfl⟩ isSubtype_stop (wpAny_pure (q _ fun b o nb e => ?_)))
  have e1 : (s.heap.update it (Obj.mapFields (·.setIfInBounds 0 Value.none))).get? b = some o := (Heap.get?_update_other _ _ nb.symm).trans e
  rw [Heap.get?_update_other _ _ (Nat.ne_of_gt (Heap.lt_size (Heap.get?_push_of_some _ e1)))]
  exact keep e1
/-- [elt for tg in src if ..], src a list, where an error is handled that has no context -/
theorem pe_lcH {X : Cx} {elt tg src : Expr} {ifs : List Expr} {scope : Scope} {own : List (Str × Nat)} {pos : Pos} {tl : L2.TE} {g : TG} {tt : TT} {te : L2.TE} (hot : L2H.HotC X) (nd : X.N.Nodup) (hl : PE X src tl) (ok : BlkOk X.N X.env.scope scope own)
    (hg : ∀ (s : Shared) (H : Hp) (C : Addr) (cl : List (Str × Addr)) (fp : List Addr), PG (X.blk s H scope (compEnvC scope cl C X.env) fp) tg g)
    (ht : ∀ (s : Shared) (H : Hp) (C : Addr) (cl : List (Str × Addr)) (fp : List Addr), PTs (X.blk s H scope (compEnvC scope cl C X.env) fp) ifs tt)
    (he : ∀ (s : Shared) (H : Hp) (C : Addr) (cl : List (Str × Addr)) (fp : List Addr), PE (X.blk s H scope (compEnvC scope cl C X.env) fp) elt te) (plain : ∀ x, foldedSetIterable src X.env x = pure x := by intro _; rfl) :
    PE X (.ListComp elt [⟨tg, src, ifs, 0⟩] scope pos) (tLc (iList X.K tl) g tt te (own.map (·.2))) := by
  refine ⟨fun pins s σ H Q I h => ?_⟩
  rw [eval_ListComp]
  obtain ⟨⟨x1, o1⟩, ⟨hh, vs1, d1, c1⟩, inp⟩ := hot
  refine wpAny_comprehension_free (use := none) rfl plain (closure_ok fun y hy e => ?free) ok.kind (fun y hy e => by rw [ok.uniq y hy, e]) (thn (hl.run pins s σ H _ I h) ?walk)
  case free => exact (ok.free y hy e).elim (fun k => I.ok.has _ (.inl k)) fun k => I.ok.has _ (.inr k)
  case walk =>
  rintro v s1 ⟨x, H1, I1, r1, a, rfl, ⟨xs0, sq0⟩, q⟩
  cases r1
  obtain ⟨its0, rv0, il0, _⟩ := I1.list sq0
  refine wpAny_pyIter_list il0.isList ?_
  have f2 : FpOk X pins H1 s1.heap.objs.size := I1.fpOk (Nat.le_refl _) (I1.hok.fresh (Nat.le_refl _))
  obtain ⟨s2, e2, I2, st2⟩ : ∃ s2 : Shared, s2 = { s1 with heap := s1.heap.push { cls := .type "list_iterator", data := .fields #[.ref a, .int 0 0] } } ∧ Inv X pins σ H1 s2 ∧ s2.heap.IsListIter s1.heap.objs.size a 0 :=
    ⟨_, rfl, I1.kept (t' := s1.toks) fun b o e => Heap.get?_push_of_some _ e, _, Heap.get?_push_size _ rfl, rfl, rfl⟩
  rw [← e2]
  generalize s1.heap.objs.size = it at f2 st2 ⊢
  refine wpAny_newObj_type (newEnv_comp ?_) (by show 0 ≤ sizeLine; decide)
  obtain ⟨W, ⟨m0, w0⟩, turn⟩ := q s2.heap.objs.size (I2.hok.fresh (Nat.le_refl _))
  obtain ⟨s3, e3, I3, k3⟩ : ∃ s3 : Shared, s3 = { s2 with heap := s2.heap.push { cls := .type "list", data := .seq ([] : List Value).toArray } } ∧ Inv X pins σ (upd H1 s2.heap.objs.size (.lst [])) s3 ∧ ∀ b o, s2.heap.get? b = some o → s3.heap.get? b = some o :=
    ⟨_, rfl, I2.laid (t' := s2.toks) (fun b o e => Heap.get?_push_of_some _ e) (Nat.le_refl _) ⟨Nat.zero_le _, [], 0, .nil, Heap.get?_push_size _ rfl⟩, fun b o e => Heap.get?_push_of_some _ e⟩
  rw [← e3]
  have lt2 : it < s2.heap.objs.size := by
    obtain ⟨o, e, _⟩ := st2
    exact Heap.lt_size e
  have f3 : FpOk X pins (upd H1 s2.heap.objs.size (.lst [])) it := ⟨by rw [upd_ne (Nat.ne_of_lt lt2)]; exact f2.1, f2.2⟩
  have st3 : s3.heap.IsListIter it a 0 := by
    obtain ⟨o, e, r⟩ := st2
    exact ⟨o, k3 _ _ e, r⟩
  have lt3 : it < s3.heap.objs.size := by
    obtain ⟨o, e, _⟩ := st3
    exact Heap.lt_size e
  clear e2 e3
  generalize s2.heap.objs.size = D at I3 w0 turn f3 ⊢
  generalize upd H1 D (.lst []) = H3 at I3 w0 f3 ⊢
  have I4 := block_start (fp := [it]) I3 ok nd fun b hb => by
    cases List.mem_singleton.mp hb
    exact ⟨f3, lt3⟩
  obtain ⟨p1, p2, p3, p4, p5⟩ := I3.pin (x1, o1) (List.mem_append_left _ inp)
  have nit : x1 ≠ it := f3.2.2.2.2.2 (x1, o1) (List.mem_append_left _ inp)
  have kc : ∀ b o, s3.heap.get? b = some o → (pushCells (s3.heap.push { cls := .type "dict", data := .dict #[] }) scope.names).get? b = some o := fun b o e => pushCells_keeps _ _ _ _ (Heap.get?_push_of_some _ e)
  have pg := hg s3 H3 s3.heap.objs.size (cellsFrom (s3.heap.objs.size + 1) scope.names (cloFrom X.env.cells scope.names [])) [it]
  have pt := ht s3 H3 s3.heap.objs.size (cellsFrom (s3.heap.objs.size + 1) scope.names (cloFrom X.env.cells scope.names [])) [it]
  have pe := he s3 H3 s3.heap.objs.size (cellsFrom (s3.heap.objs.size + 1) scope.names (cloFrom X.env.cells scope.names [])) [it]
  show codeAny _ _ (.compStart (.ListComp elt [⟨tg, src, ifs, 0⟩] scope pos) 0 (.ref it) (.ref D) (compEnvC scope (cellsFrom (s3.heap.objs.size + 1) scope.names (cloFrom X.env.cells scope.names [])) s3.heap.objs.size X.env)) (compPost (model X.prog X.w) X.A X.xe none (EP X pins σ Q) (.ref D) s3.heap.objs.size) _
  have I5 := I4.pins_of (pins' := [(x1, o1)]) fun p hp => by
    cases List.mem_singleton.mp hp
    exact ⟨kc _ _ p1, p2, Nat.ne_of_lt (Heap.lt_size p1), fun z => (List.mem_cons.mp (I3.stkSub x1 z)).elim p3 p4, p5⟩
  have st4 : (pushCells (s3.heap.push { cls := .type "dict", data := .dict #[] }) scope.names).IsListIter it a 0 := by
    obtain ⟨o, e, r⟩ := st3
    exact ⟨o, kc _ _ e, r⟩
  clear I4
  generalize hce : compEnvC scope (cellsFrom (s3.heap.objs.size + 1) scope.names (cloFrom X.env.cells scope.names [])) s3.heap.objs.size X.env = ce at I5 pg pt pe ⊢
  have cL : ce.locals = s3.heap.objs.size := by rw [← hce]; rfl
  have stat : ∀ {σ' : L2.St} {H' : Hp} {s' : Shared}, Inv (X.blk s3 H3 scope ce [it]) [(x1, o1)] σ' H' s' → H' it = none → ∀ b ∈ [it], FpOk (X.blk s3 H3 scope ce [it]) [(x1, o1)] H' b := fun J n b hb => by
    cases List.mem_singleton.mp hb
    refine ⟨n, (J.ok.exf it hb).1, J.ok.exfs it hb, .inl hb, fun x c e => (J.ok.exf it hb).2 x c e, fun p hp => ?_⟩
    cases List.mem_singleton.mp hp
    exact nit
  have loop : codeAny (model X.prog X.w) X.A (.compLoop (.ListComp elt [⟨tg, src, ifs, 0⟩] scope pos) 0 (.ref it) (.ref D) ce) (compPost (model X.prog X.w) X.A X.xe none (EP X pins σ Q) (.ref D) s3.heap.objs.size) { s3 with heap := pushCells (s3.heap.push { cls := .type "dict", data := .dict #[] }) scope.names } := by
    refine compLoop_any (fun n s' => ∃ i H', Inv (X.blk s3 H3 scope ce [it]) [(x1, o1)] (wipe σ (own.map (·.2))) H' s' ∧ s'.heap.IsListIter it a i ∧ H' it = none ∧ W i n H') ?_ m0 ⟨0, H3, I5, st4, f3.1, w0⟩
    rintro n s5 ⟨i, H5, J5, st5, n5, w5⟩
    obtain ⟨b0, b1, b2, b3, b4, b5⟩ := stat J5 n5 it List.mem_cons_self
    have hx1 := (J5.pin (x1, o1) List.mem_cons_self).1
    rcases turn i n H5 w5 with ⟨⟨xs, sq, le⟩, qq⟩ | ⟨⟨xs, x, sq, hx⟩, Nx, hNx, step⟩
    · obtain ⟨its, rv, il, _⟩ := J5.list sq
      have len := rv.length
      refine list_end_hot ⟨hh, o1, vs1, hx1, d1, c1⟩ nit st5 il.isList (by simp; omega) fun g kp => ?_
      have J6 : Inv (X.blk s3 H3 scope ce [it]) [(x1, o1)] (wipe σ (own.map (·.2))) H5 { s5 with heap := g } := J5.turned (t' := s5.toks) kp b0 b1 b3 b4 b5
      have home : Inv X pins σ H5 { s5 with heap := g } := I3.call' (ch := [it]) J6.os J6.base J6.hok J6.bare fun b hb => by
        cases List.mem_singleton.mp hb
        exact ⟨f3.2.2.2.1, f3.2.1, f3.2.2.2.2.1, f3.2.2.2.2.2⟩
      obtain ⟨m, ns, _⟩ := J6.loc
      have ns : g.Ns ce.locals m := ns
      have nC : H5 ce.locals = none := J6.free
      rw [cL] at ns nC
      obtain ⟨z0, z1, z2, z3, z4, z5⟩ := I3.fpOk (Nat.le_refl _) nC
      exact ⟨m, ns, fun g' sb => ⟨.ref D, H5, home.turned (t' := s5.toks) (fun b o nb e => (sb.2 b nb).trans e) z0 z1 z3 z4 z5, rfl, qq⟩⟩
    · obtain ⟨its, rv, il, _⟩ := J5.list sq
      obtain ⟨u, hu, ru⟩ := rv.get hx
      refine wpAny_pyNext_list_item st5 il.isList (x := u) (by simpa using hu) fun g st6 sb => ?_
      have J6 : Inv (X.blk s3 H3 scope ce [it]) [(x1, o1)] (wipe σ (own.map (·.2))) H5 { s5 with heap := g } := J5.turned (t' := s5.toks) (fun b o nb e => (sb.2 b nb).trans e) b0 b1 b3 b4 b5
      obtain ⟨oi, ei, ci, di⟩ := id st6
      refine go_of (s := { s5 with heap := g }) ei ci di (by decide) ?_
      have J7 := J6.pinned (stat J6 n5) fun b hb => by
        cases List.mem_singleton.mp hb
        exact ⟨oi, ei, fun v z => by rw [di] at z; cases z⟩
      refine thnF (pg.run _ _ _ H5 x u _ J7 ru (step x H5 ⟨rfl, fun ys hy => by rw [J5.list_inj hy sq]; exact hx⟩)) ?_
      rintro _ s8 ⟨σ8, H8, J8, w8, q8⟩
      refine thnF (pt.run _ _ _ _ _ J8 q8) ?_
      rintro b s9 ⟨H9, J9, q9⟩
      -- the turn's end
      have next : ∀ {s' : Shared} {H' : Hp}, Inv (X.blk s3 H3 scope ce [it]) ([(x1, o1)] ++ pinsAt [it] g) σ8 H' s' → Nx H' → ∃ m, m < n ∧ ∃ i H', Inv (X.blk s3 H3 scope ce [it]) [(x1, o1)] (wipe σ (own.map (·.2))) H' s' ∧ s'.heap.IsListIter it a i ∧ H' it = none ∧ W i m H' := fun {s' H'} J nx => by
        obtain ⟨m', lt', w'⟩ := hNx H' nx
        obtain ⟨g1, g2, _⟩ := J.pin (it, oi) (List.mem_append_right _ (List.mem_append_right _ (mem_pinsAt List.mem_cons_self ei)))
        refine ⟨m', lt', i + 1, H', J.unpinned.weak (by rw [← w8, wipe_length]) fun j v e => ?_, ⟨oi, g1, ci, di⟩, g2, w'⟩
        rw [← w8] at e
        exact (wipe_some e).1
      cases b with
      | false => exact next J9 (by simpa using q9)
      | true =>
        simp only [if_true] at q9 ⊢
        refine thnF (pe.run _ _ _ _ _ J9 q9) ?_
        rintro z s10 ⟨y, H10, J10, r10, acc, hD, small, nx⟩
        exact app_ok (X := X.blk s3 H3 scope ce [it]) J10 hD small r10 fun s11 J11 => next J11 nx
  exact codeAny_compStart_list loop (wpAny_pyIter_listiter st4 loop)

/-! ### errors that are known to have no context -/
structure MOkN (P : Program) (w : World) (K : PySem.W.Frag) (mg : Str → Option Value) (base : Heap) (k : Nat) (C : Addr) (m : Str) (ps : List Str) (sp : Sp) : Prop where
  ex : ∃ f fd, Meth K C m f ∧ FnOk P w K mg base (L2N.CX P w) k f fd ps sp ∧ Binds K fd ps []
theorem okXN {P : Program} {w : World} {K : PySem.W.Frag} {mg : Str → Option Value} {base : Heap} {x qual : Str} {st : Stmt} {f : Addr} {fd : FuncData} {N ps : List Str} {k : Nat} {sp : Sp} (F : Fun K x qual st f fd) (S : FnScope N ps (defScope st))
    (len : ∀ vs H Q E, sp vs H Q E → vs.length = ps.length)
    (body : ∀ (cdv : Value) (A : Around) (outer : List Env) (s : Shared) (H : Hp) (vs : List V) (Q : VK) (E : XK), Room k (A.deeper (envOfC qual (defScope st) s.heap.objs.size f cdv)) → sp vs H Q E →
      ∃ t, PSs (cxOf (L2N.CX P w) P w K mg base N qual (defScope st) f cdv A outer s H E) (defBody st) t ∧ t ⟨fun _ H' => Q .non H', Q, fun _ _ => False, fun _ _ => False⟩ (start N vs) H) :
    FnOk P w K mg base (L2N.CX P w) (k + 1) f fd ps sp := by
  obtain ⟨_, _, _, _, _, _, cdv, _, _, rfl, there, code⟩ := F.ex
  exact fn_of there code S len fun A outer s H vs Q E hr want => body cdv A outer s H vs Q E hr want
section
variable {X : Cx} {j k : Nat} {C : Addr} {x m : Str} {ps : List Str} {sp : Sp} {E : L2.St → XK} {p pos apos : Pos} {e o : Expr} {es : List Expr} {ta : L2.TE} {t : TA}
theorem pe_mN {pl : Sem Bool} (c : MOkN X.prog X.w X.K X.mg X.base k C m ps sp) (cl : Cls X.K C) (hr : Room j X.A) (hk : k ≤ j) (hx : ∀ σ, PassesAt (L2N.CX X.prog X.w) X σ (E σ)) (he : PE X o ta) (ha : PA X (e :: es) t)
    (hst : starEach (e :: es) X.env = (false, eval e X.env) :: starEach es X.env := by rfl) (hpl : (backTo pos (starEach es X.env)).any (·.1) = false := by rfl)
    (ht : eval (.Call (.Attribute o m apos) (e :: es) [] pos) X.env = (do
      let ov ← eval o X.env
      standAt apos.atName
      let (f, first) ← holding [ov] (getMethod ov m pl)
      callWith pos f first (backTo pos (starEach (e :: es) X.env)) (backToKw pos (keywordEach [] X.env))) := by rfl) :
    PE X (.Call (.Attribute o m apos) (e :: es) [] pos) (tMe C m sp E ta t) := by
  obtain ⟨f, fd, meth, F, binds⟩ := c.ex
  refine ⟨fun pins s σ H Q I h => PySem.W.methodCall_KW (pl := pl) (thn (he.run pins s σ H _ I h) ?_) ht⟩
  rintro u s1 ⟨x, H1, I1, rx, a, dx, fs, rfl, ea, l, q⟩
  have eu : u = Value.ref a := rx
  subst eu
  refine getmeth_ok I1 ea cl meth l (PySem.W.callWith_K (first := [.ref a]) (h₀ := X.base) I1.ok.mod.kin meth.kp (thn (ha.run pos pins s1 σ H1 _ I1 q) ?_) hst hpl)
  rintro us s2 ⟨vs, H2, I2, r, q2⟩
  exact ⟨I2.kIn, run_fnS (E := E) (us := .ref a :: us) (vs := .ref a :: vs) F (hr.mono hk) binds (hx σ) I2 (.cons rfl r) q2⟩
end
theorem ps_rsN {X : Cx} {W : WX} {C : Addr} {x m : Str} {j : Nat} {p p2 pos pos' : Pos} (hc : X.calm = true) (tk : L2N.Takes X W) (T : ExcT X.K C) (gC : X.mg x = some (.ref C)) (hg : Gl X x) (hdb : (x == ("__debug__" : Str)) = false := by decide) :
    PS X (.Raise (some (.Call (.Name x p) [.Constant (.str m) j p2] [] pos)) none pos') (fun _ σ H => W (.ref C) none σ H) :=
  L2N.ps_raise hc tk (L2N.pmk_own PySem.F.excBase_ValueError T.x gC T.k (raises_own T.b T.t) hg hdb)
theorem takes0N {X : Cx} : L2N.Takes X (fun _ _ _ _ => False) := fun _ _ ⟨_, _, _, _, _, _, _, _, _, _, _, _, _, _, _, _, z⟩ => z.elim
theorem pt_onlyN {X : Cx} {x : Str} {c : Value} {body suite : List Stmt} {b₀ : Stmt} {np pos pos' : Pos} {tb : WX → TS} {ts : Addr → Value → Option Addr → TS} {Wout : WX} (hs : X.stack = X.env :: X.outer) (hf : X.env.frame = some X.env.locals) (hc : Names X x c) (tk : L2N.Takes X Wout)
    (hb : ∀ (W : WX) (pn : List (Addr × Obj)) (xe : Value → Shared → Prop), L2N.Takes (X.tr pn xe) W → PassesOwn (model X.prog X.w) X.A X.env xe → PSs (X.tr pn xe) body (tb W))
    (hsu : ∀ (a : Addr) (oe : Obj) (cls : Value) (d : Option Addr) (pn : List (Addr × Obj)), L2N.Zn cls d oe → (∃ vs, oe.data = .fields vs) → PSs (X.suite a ((a, oe) :: pn)) (b₀ :: suite) (ts a cls d)) :
    PS X (.Try body [.ExceptHandler (some (.Name x np)) none (b₀ :: suite) pos'] [] [] pos) (tTryM X.K [(c, ts)] Wout tb) := L2N.ps_try_many hs hf tk hb (.cons hc hsu .nil)
/-- in the suite the error is known, with no context -/
theorem hot_of {Y : Cx} {a : Addr} {oe : Obj} {pn : List (Addr × Obj)} {cls : Value} {d : Option Addr} (hz : L2N.Zn cls d oe) (hf : ∃ vs, oe.data = .fields vs) : L2H.HotC (Y.suite a ((a, oe) :: pn)) := by
  obtain ⟨vs, e⟩ := hf
  exact ⟨(a, oe), ⟨rfl, vs, e, hz.2.2 vs e⟩, List.mem_cons_self⟩
theorem units65 {k : Nat} {A : Around} (r : Room k A) : A.units + 65 < cLine := by
  have := r.un
  omega
theorem op_inDK {X : Cx} {K0 : PySem.W.Frag} (hu : X.A.units + 65 < cLine) (hK : X.K = K0 := by rfl) : OpR X (compareOp .In) (rInD K0) := by
  subst hK
  exact op_inD hu
theorem op_notInDK {X : Cx} {K0 : PySem.W.Frag} (hu : X.A.units + 65 < cLine) (hK : X.K = K0 := by rfl) : OpR X (compareOp .NotIn) (rNotInD K0) := by
  subst hK
  exact op_notInD hu
theorem hot_at {X : Cx} {a : Addr} {oe : Obj} {cls : Value} {d : Option Addr} (hA : X.A.handled = some (.ref a)) (hp : (a, oe) ∈ X.pn) (hz : L2N.Zn cls d oe) (hf : ∃ vs, oe.data = .fields vs) : L2H.HotC X := by
  obtain ⟨vs, e⟩ := hf
  exact ⟨(a, oe), ⟨hA, vs, e, hz.2.2 vs e⟩, hp⟩
/-- as pe_lcH, the fragment named -/
theorem pe_lcHK {X : Cx} {K0 : PySem.W.Frag} {elt tg src : Expr} {ifs : List Expr} {scope : Scope} {own : List (Str × Nat)} {pos : Pos} {tl : L2.TE} {g : TG} {tt : TT} {te : L2.TE} (hot : L2H.HotC X) (nd : X.N.Nodup) (hl : PE X src tl) (ok : BlkOk X.N X.env.scope scope own)
    (hg : ∀ (s : Shared) (H : Hp) (C : Addr) (cl : List (Str × Addr)) (fp : List Addr), PG (X.blk s H scope (compEnvC scope cl C X.env) fp) tg g)
    (ht : ∀ (s : Shared) (H : Hp) (C : Addr) (cl : List (Str × Addr)) (fp : List Addr), PTs (X.blk s H scope (compEnvC scope cl C X.env) fp) ifs tt)
    (he : ∀ (s : Shared) (H : Hp) (C : Addr) (cl : List (Str × Addr)) (fp : List Addr), PE (X.blk s H scope (compEnvC scope cl C X.env) fp) elt te) (hK : X.K = K0 := by rfl) (plain : ∀ x, foldedSetIterable src X.env x = pure x := by intro _; rfl) :
    PE X (.ListComp elt [⟨tg, src, ifs, 0⟩] scope pos) (tLc (iList K0 tl) g tt te (own.map (·.2))) := by
  subst hK
  exact pe_lcH hot nd hl ok hg ht he plain

/-! ### what the top has written of the wheels -/
structure WT (K : PySem.W.Frag) (mg : Str → Option Value) (CS CW CB CT CN : Addr) : Prop where
  clS : Cls K CS
  clW : Cls K CW
  aShare : NoAttr K CS "share"
  aClock : NoAttr K CS "clock"
  aReady : NoAttr K CS "ready"
  aPast : NoAttr K CW "past"
  aSh : NoAttr K CW "_sharers"
  gB : mg "BadShare" = some (.ref CB)
  gT : mg "Twice" = some (.ref CT)
  gN : mg "NoName" = some (.ref CN)
  eB : ExcT K CB
  eT : ExcT K CT
  eN : ExcT K CN
  isi : mg "isinstance" = none
  int : mg "int" = none
  bool : mg "bool" = none
  str : mg "str" = none
  max : mg "max" = none
  list : mg "list" = none
  mR : ∃ t, mg "ROUND" = some (.int 27720 t)
  mM : ∃ t, mg "MOST" = some (.int 12 t)
/-! ### what each def promises -/
def spStands : Sp := fun vs H Q _ => ∃ x d ks, vs = [x, .ref d] ∧ Th H x ∧ H d = some (.dK ks) ∧ (∀ z, x = .str z → Q (.bl (valV ks (Sum.inr z : Key)).isSome) H) ∧ (isS x = false → Q (.bl false) H)
def spWhole : Sp := fun vs H Q _ => ∃ x, vs = [x] ∧ Th H x ∧ Q (.bl (isI x)) H
def spStep (CB : Addr) : Sp := fun vs H Q E => ∃ x, vs = [x] ∧ Th H x ∧ (∀ i, x = .int i → 1 ≤ i → i ≤ 12 → Q (.int (Wm.stp i)) H) ∧ (good x = false → E (.ref CB) none H)
def spSInit (CS : Addr) : Sp := fun vs H Q _ => ∃ p dx s, vs = [.ref p, .int s] ∧ H p = some (.ins CS dx []) ∧ Q .non (upd H p (.ins CS dx (sf s 0 false)))
def spSCopied (CS : Addr) : Sp := fun vs H Q _ => ∃ a dx s c r, vs = [.ref a] ∧ H a = some (.ins CS dx (sf s c r)) ∧ ∀ b dy H', H b = none → Same H H' → H' b = some (.ins CS dy (sf s c r)) → Q (.ref b) H'
def spWInit (CW CS : Addr) : Sp := fun vs H Q _ => ∃ p dx, vs = [.ref p] ∧ H p = some (.ins CW dx []) ∧ ∀ d H', H d = none → WIn CW CS H' p d 0 [] → (∀ b o, H b = some o → b ≠ p → H' b = some o) → Q .non H'
def spSharer (CW CS CN : Addr) : Sp := fun vs H Q E => ∃ p d q es n, vs = [.ref p, .str n] ∧ WIn CW CS H p d q es ∧ (∀ e ∈ es, e.1.n = n → Q (.ref e.2) H) ∧ ((∀ e ∈ es, e.1.n ≠ n) → E (.ref CN) none H)
/-- is the name there -/
def Has (W : WhS) (n : Str) : Prop := ∃ x ∈ W.rows, x.n = n
def spEnter (CW CS CB CT : Addr) : Sp := fun vs H Q E => ∃ p W fp n x, vs = [.ref p, .str n, x] ∧ WAt CW CS H p W fp ∧ W.rows.length ≤ 1000 ∧ Th H x ∧ (Has W n → E (.ref CT) none H) ∧ (¬ Has W n → good x = false → E (.ref CB) none H) ∧
  (¬ Has W n → ∀ s, x = .int s → 1 ≤ s → s ≤ 12 → ∀ H' fp', WAt CW CS H' p (Wm.enter W n s) fp' → Step fp H fp' H' → Q .non H')
def spLeave (CW CS CN : Addr) : Sp := fun vs H Q E => ∃ p W fp n, vs = [.ref p, .str n] ∧ WAt CW CS H p W fp ∧ (¬ Has W n → E (.ref CN) none H) ∧ (Has W n → ∀ H' fp', WAt CW CS H' p (Wm.leave W n) fp' → Step fp H fp' H' → Q .non H')
def spReshare (CW CS CB CN : Addr) : Sp := fun vs H Q E => ∃ p W fp n x, vs = [.ref p, .str n, x] ∧ WAt CW CS H p W fp ∧ Th H x ∧ (¬ Has W n → E (.ref CN) none H) ∧ (Has W n → good x = false → E (.ref CB) none H) ∧
  (Has W n → ∀ s, x = .int s → 1 ≤ s → s ≤ 12 → ∀ H', WAt CW CS H' p (Wm.reshare W n s) fp → Step fp H fp H' → Q .non H')
def spWake (CW CS CN : Addr) : Sp := fun vs H Q E => ∃ p W fp n, vs = [.ref p, .str n] ∧ WAt CW CS H p W fp ∧ (¬ Has W n → E (.ref CN) none H) ∧
  (∀ x ∈ W.rows, x.n = n → ∀ H', WAt CW CS H' p (Wm.wake W n) fp → Step fp H fp H' → Q (.bl (!x.r)) H')
def spRest (CW CS CN : Addr) : Sp := fun vs H Q E => ∃ p W fp n, vs = [.ref p, .str n] ∧ WAt CW CS H p W fp ∧ (¬ Has W n → E (.ref CN) none H) ∧
  (∀ x ∈ W.rows, x.n = n → ∀ H', WAt CW CS H' p (Wm.rest W n) fp → Step fp H fp H' → Q (.bl x.r) H')
/-- a name, or None -/
def optN : Option Str → V
  | none => .non
  | some n => .str n
def spWhose (CW CS : Addr) : Sp := fun vs H Q _ => ∃ p W fp, vs = [.ref p] ∧ WAt CW CS H p W fp ∧ ∀ H', Same H H' → Q (optN (Wm.whose W)) H'
def spTurn (CW CS : Addr) : Sp := fun vs H Q _ => ∃ p W fp, vs = [.ref p] ∧ WAt CW CS H p W fp ∧ ∀ H', WAt CW CS H' p (Wm.turn W) fp → Step fp H fp H' → Q (optN (Wm.whose W)) H'
def spNames (CW CS : Addr) : Sp := fun vs H Q _ => ∃ p W fp, vs = [.ref p] ∧ WAt CW CS H p W fp ∧ ∀ l, H l = none → Q (.ref l) (upd H l (.lst (W.rows.map fun x => V.str x.n)))
def spAsk (CW CS CN : Addr) (g : RowS → V) : Sp := fun vs H Q E => ∃ p W fp n, vs = [.ref p, .str n] ∧ WAt CW CS H p W fp ∧ (¬ Has W n → E (.ref CN) none H) ∧ (∀ x ∈ W.rows, x.n = n → Q (g x) H)
def spCopied (CW CS : Addr) : Sp := fun vs H Q _ => ∃ p W fp, vs = [.ref p] ∧ WAt CW CS H p W fp ∧ W.rows.length ≤ 1000 ∧ ∀ p' fp' H', WAt CW CS H' p' W fp' → Same H H' → (∀ b ∈ fp', H b = none) → Q (.ref p') H'
/-- a new wheel, made -/
theorem mk_wheel {CW CS : Addr} {E : XK} {H : Hp} {Q : VK} {x dx : Addr} (hx : H x = none) (hdx : H dx = none) (k : ∀ H' fp, WAt CW CS H' x ⟨0, []⟩ fp → Same H H' → (∀ b ∈ fp, H b = none) → Q .non H') :
    spWInit CW CS [.ref x] (upd (upd H dx (.own x)) x (.ins CW dx [])) Q E := by
  refine ⟨x, dx, rfl, upd_same, fun d H' hd w k' => k H' [x, d] ⟨d, [], rfl, rfl, w, Wm.Ok.new⟩ (fun b o e => k' b o ?_ (ne_of_none e hx)) fun b hb => ?_⟩
  · rw [upd_ne (ne_of_none e hx), upd_ne (ne_of_none e hdx)]
    exact e
  · rcases List.mem_cons.mp hb with rfl | hb
    · exact hx
    · have e := List.mem_singleton.mp hb
      subst e
      cases q : H b with
      | none => rfl
      | some o =>
        have := same_made (C := CW) (fs := []) hx hdx b o q
        rw [hd] at this
        cases this
section
variable {P : Program} {w : World} {K : PySem.W.Frag} {mg : Str → Option Value} {base : Heap} {CS CW CB CT CN : Addr}
theorem has_of {W : WhS} {es : List En} (e : W.rows = es.map (·.1)) {n : Str} : Has W n ↔ ∃ x ∈ es, x.1.n = n := by
  unfold Has
  rw [e]
  constructor
  · rintro ⟨x, hx, h⟩
    obtain ⟨y, hy, rfl⟩ := List.mem_map.mp hx
    exact ⟨y, hy, h⟩
  · rintro ⟨y, hy, h⟩
    exact ⟨y.1, List.mem_map.mpr ⟨y, hy, rfl⟩, h⟩
theorem sc_stands : FnScope ["thing", "table"] ["thing", "table"] (defScope s_stands_in) := ⟨rfl, rfl, rfl, by decide +kernel, rfl, by decide +kernel, by decide +kernel⟩
theorem ok_stands {f : Addr} {fd : FuncData} (F : Fun K "stands_in" "stands_in" s_stands_in f fd) (T : WT K mg CS CW CB CT CN) : FnOk P w K mg base (L2.CX P w) 1 f fd ["thing", "table"] spStands := by
  refine okN F sc_stands (fun vs H Q E h => ?_) (fun cdv A outer s H vs Q E hr h => ?_)
  · obtain ⟨x, d, ks, rfl, _⟩ := h
    rfl
  · obtain ⟨x, d, ks, rfl, hx, hd, k1, k2⟩ := h
    have hu := hu_of hr
    refine ⟨_, pss_one (ps_ret (pe_and (pe_callB call_isi (by rfl) T.isi boot_isinstance (pa_cons (pv 0) (pa_cons (pe_bltn (v := .ty "str") (by rfl) T.str PyProof.Rows.boot_str rfl) pa_nil))) (pe_one (pe_cmp (pc_din hu (pv 0) (pv 1)))))), ?_⟩
    obtain ⟨t, ty, _, _, e3⟩ := hx.ty (K := K)
    refine ⟨_, rfl, _, _, t, _, _, rfl, .ty _, ty, e3, _, rfl, ?_⟩
    cases hx with
    | int i => exact iteF (k2 rfl)
    | bl b => exact iteF (k2 rfl)
    | non => exact iteF (k2 rfl)
    | lst e => exact iteF (k2 rfl)
    | str z => exact iteT ⟨_, rfl, _, rfl, d, _, rfl, DGet.k (k := Sum.inr z) hd, k1 z rfl⟩
theorem sc_whole : FnScope ["thing"] ["thing"] (defScope s_is_whole) := ⟨rfl, rfl, rfl, by decide +kernel, rfl, by decide +kernel, by decide +kernel⟩
theorem ok_whole {f : Addr} {fd : FuncData} (F : Fun K "is_whole" "is_whole" s_is_whole f fd) (T : WT K mg CS CW CB CT CN) : FnOk P w K mg base (L2.CX P w) 1 f fd ["thing"] spWhole := by
  refine okN F sc_whole (fun vs H Q E h => ?_) (fun cdv A outer s H vs Q E hr h => ?_)
  · obtain ⟨x, rfl, _⟩ := h
    rfl
  · obtain ⟨x, rfl, hx, k⟩ := h
    refine ⟨_, pss_one (ps_ret (pe_and (pe_callB call_isi (by rfl) T.isi boot_isinstance (pa_cons (pv 0) (pa_cons (pe_bltn (v := .ty "int") (by rfl) T.int PyProof.Rows.boot_int rfl) pa_nil)))
      (pe_one (pe_not (pe_callB call_isi (by rfl) T.isi boot_isinstance (pa_cons (pv 0) (pa_cons (pe_bltn (v := .ty "bool") (by rfl) T.bool PyProof.Rows.boot_bool rfl) pa_nil))))))), ?_⟩
    obtain ⟨t, ty, e1, e2, _⟩ := hx.ty (K := K)
    refine ⟨_, rfl, _, _, t, _, _, rfl, .ty _, ty, e1, _, rfl, ?_⟩
    have k2 : isI x = false → Q (.bl false) H := fun z => by rw [← z]; exact k
    cases hx with
    | int i => exact iteT ⟨_, rfl, _, _, t, _, _, rfl, .ty _, ty, e2, _, rfl, k⟩
    | bl b => exact iteT ⟨_, rfl, _, _, t, _, _, rfl, .ty _, ty, e2, _, rfl, k⟩
    | non => exact iteF (k2 rfl)
    | str z => exact iteF (k2 rfl)
    | lst e => exact iteF (k2 rfl)
theorem sc_step : FnScope ["share"] ["share"] (defScope s_step) := ⟨rfl, rfl, rfl, by decide +kernel, rfl, by decide +kernel, by decide +kernel⟩
theorem ok_step {f : Addr} {fd : FuncData} (F : Fun K "step" "step" s_step f fd) (T : WT K mg CS CW CB CT CN) (GW : DOk P w K mg base 1 "is_whole" ["thing"] spWhole) : FnOk P w K mg base (L2.CX P w) 2 f fd ["share"] (spStep CB) := by
  refine F.okX sc_step (fun vs H Q E h => ?_) (fun cdv A outer s H vs Q E hr h => ?_)
  · obtain ⟨x, rfl, _⟩ := h
    rfl
  · obtain ⟨x, rfl, hx, k, e⟩ := h
    obtain ⟨tR, mR⟩ := T.mR
    obtain ⟨tM, mM⟩ := T.mM
    refine ⟨_, pss_cons (ps_if (PW.pt (pw_or (pt_not (pt_val (pe_f GW hr (Nat.le_refl _) (by rfl) (fun σ => passN σ) (pa_cons (pv 0) pa_nil)))) (pw_or1 (pt_not (pt_chain op_le op_le pe_int (pv 0) (pe_glob (v := .int 12) rfl mM ⟨_, rfl⟩))))))
        (pss_one (ps_raise rfl (takes_of rfl rfl rfl rfl) (pmk_ownA PySem.F.excBase_ValueError T.eB.x T.gB T.eB.k (raises_own T.eB.b T.eB.t) (by exact rfl)
          (pa_cons (pe_joined (.cons pe_str (.cons (pe_fmt (pe_glob (v := .int 12) rfl mM ⟨_, rfl⟩)) .nil))) pa_nil)))) pss_nil)
      (pss_one (ps_ret (pe_op op_fdivN (pe_glob (v := .int 27720) rfl mR ⟨_, rfl⟩) (pv 0)))), ?_⟩
    refine ⟨_, rfl, x, rfl, hx, _, rfl, ?_⟩
    have bad : good x = false → tJs [tC (.str "a share is a whole number from 1 to "), tFmt (tC (.int 12))] Str.empty [some x] H fun out H1 => (1 ≤ sizeLine ∧ E (.ref CB) none H1) := fun z => by
      refine ⟨_, rfl, (by decide +kernel), .inr ⟨12, rfl, by decide +kernel, _, rfl, (by decide +kernel), by decide, e z⟩⟩
    cases hx with
    | int i =>
      refine iteF ⟨_, rfl, _, _, rfl, rfl, _, rfl, ?_⟩
      by_cases h1 : (1 : Int) ≤ i
      · rw [if_pos (decide_eq_true h1)]
        refine ⟨_, _, rfl, rfl, _, rfl, ?_⟩
        by_cases h2 : i ≤ 12
        · rw [decide_eq_true h2]
          refine iteF ?_
          exact ⟨_, rfl, _, _, rfl, rfl, ⟨by omega, by omega⟩, k i rfl h1 h2⟩
        · rw [decide_eq_false h2]
          refine iteT ?_
          exact bad (by show (decide (1 ≤ i) && decide (i ≤ 12)) = false; rw [decide_eq_false h2, Bool.and_false])
      · rw [if_neg (by rw [decide_eq_false h1]; exact Bool.false_ne_true)]
        refine ⟨_, rfl, ?_⟩
        refine iteT ?_
        exact bad (by show (decide (1 ≤ i) && decide (i ≤ 12)) = false; rw [decide_eq_false h1, Bool.false_and])
    | bl b => exact iteT (iteT (bad rfl))
    | non => exact iteT (iteT (bad rfl))
    | str z => exact iteT (iteT (bad rfl))
    | lst e => exact iteT (iteT (bad rfl))
theorem sc_sinit : FnScope ["self", "share"] ["self", "share"] (defScope sSharer_init) := ⟨rfl, rfl, rfl, by decide +kernel, rfl, by decide +kernel, by decide +kernel⟩
theorem ok_sinit {f : Addr} {fd : FuncData} (F : Fun K "__init__" "Sharer.__init__" sSharer_init f fd) (T : WT K mg CS CW CB CT CN) : FnOk P w K mg base (L2.CX P w) 1 f fd ["self", "share"] (spSInit CS) := by
  refine okN F sc_sinit (fun vs H Q E h => ?_) (fun cdv A outer s H vs Q E hr h => ?_)
  · obtain ⟨p, dx, z, rfl, _⟩ := h
    rfl
  · obtain ⟨p, dx, z, rfl, hp, k⟩ := h
    refine ⟨_, pss_cons (ps_fld (pv 0) (pv 1) rfl) (pss_cons (ps_fld (pv 0) pe_int rfl) (pss_one (ps_fld (pv 0) pe_bl rfl))), ?_⟩
    refine ⟨_, rfl, _, rfl, p, CS, dx, [], rfl, hp, T.clS, T.aShare, (by show 0 < 1000; decide), _, rfl, p, CS, dx, _, rfl, upd_same, T.clS, T.aClock, (by show 1 < 1000; decide), _, rfl, p, CS, dx, _, rfl, upd_same, T.clS, T.aReady, ?_, ?_⟩
    · rw [pf_nil, pf_ne n_sc, pf_nil]
      show 2 < 1000
      decide
    · rw [upd_upd, upd_upd, pf_nil, pf_ne n_sc, pf_nil, pf_ne n_sr, pf_ne n_cr, pf_nil]
      exact k
theorem sc_scopied : FnScope ["self", "other"] ["self"] (defScope sSharer_copied) := ⟨rfl, rfl, rfl, by decide +kernel, rfl, by decide +kernel, by decide +kernel⟩
theorem ok_scopied {f : Addr} {fd : FuncData} (F : Fun K "copied" "Sharer.copied" sSharer_copied f fd) (T : WT K mg CS CW CB CT CN) (MS : KOk P w K mg base 1 "Sharer" CS ["self", "share"] (spSInit CS)) : FnOk P w K mg base (L2.CX P w) 3 f fd ["self"] (spSCopied CS) := by
  refine okN F sc_scopied (fun vs H Q E h => ?_) (fun cdv A outer s H vs Q E hr h => ?_)
  · obtain ⟨p, dx, z, c, r, rfl, _⟩ := h
    rfl
  · obtain ⟨p, dx, z, c, r, rfl, hp, k⟩ := h
    refine ⟨_, pss_cons (ps_set (i := 1) sc_scopied.nd rfl (Or.inl rfl) (pe_k MS hr (Nat.le_refl _) (by rfl) (pa_cons (pe_fld (pv 0) rfl) pa_nil)))
      (pss_cons (ps_fld (pv 1) (pe_fld (pv 0) rfl) rfl) (pss_cons (ps_fld (pv 1) (pe_fld (pv 0) rfl) rfl) (pss_one (ps_ret (pv 1))))), ?_⟩
    refine ⟨_, rfl, p, CS, dx, _, _, rfl, hp, T.clS, T.aShare, sf_share _ _ _, fun x dy hx hdy ne => ?_⟩
    refine ⟨x, dy, z, rfl, upd_same, rfl, ?_⟩
    rw [upd_upd]
    have npx : p ≠ x := ne_of_none hp hx
    have npd : p ≠ dy := ne_of_none hp hdy
    have g : ∀ o, (upd (upd H dy (.own x)) x o) p = some (.ins CS dx (sf z c r)) := fun o => by
      rw [upd_ne npx, upd_ne npd]
      exact hp
    refine ⟨_, rfl, p, CS, dx, _, _, rfl, g _, T.clS, T.aClock, sf_clock _ _ _, _, rfl, x, CS, dy, _, rfl, upd_same, T.clS, T.aClock, (by show 3 < 1000; decide), ?_⟩
    rw [upd_upd, sf_pclock]
    refine ⟨_, rfl, p, CS, dx, _, _, rfl, g _, T.clS, T.aReady, sf_ready _ _ _, _, rfl, x, CS, dy, _, rfl, upd_same, T.clS, T.aReady, (by show 3 < 1000; decide), ?_⟩
    rw [upd_upd, sf_pready]
    refine ⟨_, rfl, ?_⟩
    exact k x dy _ hx (same_made hx hdy) upd_same
theorem sc_winit : FnScope ["self"] ["self"] (defScope sWheel_init) := ⟨rfl, rfl, rfl, by decide +kernel, rfl, by decide +kernel, by decide +kernel⟩
theorem ok_winit {f : Addr} {fd : FuncData} (F : Fun K "__init__" "Wheel.__init__" sWheel_init f fd) (T : WT K mg CS CW CB CT CN) : FnOk P w K mg base (L2.CX P w) 1 f fd ["self"] (spWInit CW CS) := by
  refine okN F sc_winit (fun vs H Q E h => ?_) (fun cdv A outer s H vs Q E hr h => ?_)
  · obtain ⟨p, dx, rfl, _⟩ := h
    rfl
  · obtain ⟨p, dx, rfl, hp, k⟩ := h
    refine ⟨_, pss_cons (ps_fld (pv 0) pe_int rfl) (pss_one (ps_fld (pv 0) pe_dnewK rfl)), ?_⟩
    refine ⟨_, rfl, p, CW, dx, [], rfl, hp, T.clW, T.aPast, (by show 0 < 1000; decide), fun d hd => ?_⟩
    have npd : p ≠ d := ne_of_none upd_same hd
    rw [upd_ne npd.symm] at hd
    refine ⟨_, rfl, p, CW, dx, _, rfl, (by rw [upd_ne npd]; exact upd_same), T.clW, T.aSh, (by show 1 < 1000; decide), ?_⟩
    refine k d _ hd ⟨⟨dx, ?_⟩, by rw [upd_ne npd.symm]; exact upd_same, fun e he => (nomatch he), List.nodup_nil⟩ fun b o e hb => ?_
    · rw [upd_same, pf_nil, pf_ne n_ps, pf_nil]
      rfl
    · rw [upd_ne hb, upd_ne (ne_of_none e hd), upd_ne hb]
      exact e
theorem sc_sharer : FnScope ["self", "name"] ["self", "name"] (defScope sWheel_sharer) := ⟨rfl, rfl, rfl, by decide +kernel, rfl, by decide +kernel, by decide +kernel⟩
theorem ok_sharer {f : Addr} {fd : FuncData} (F : Fun K "_sharer" "Wheel._sharer" sWheel_sharer f fd) (T : WT K mg CS CW CB CT CN) (GS : DOk P w K mg base 1 "stands_in" ["thing", "table"] spStands) : FnOk P w K mg base (L2.CX P w) 2 f fd ["self", "name"] (spSharer CW CS CN) := by
  refine F.okX sc_sharer (fun vs H Q E h => ?_) (fun cdv A outer s H vs Q E hr h => ?_)
  · obtain ⟨p, d, q, es, n, rfl, _⟩ := h
    rfl
  · obtain ⟨p, d, q, es, n, rfl, I, k1, k2⟩ := h
    have hu := hu_of hr
    obtain ⟨dx, hp⟩ := I.ob
    refine ⟨_, pss_cons (ps_if (pt_not (pt_val (pe_f GS hr (Nat.le_refl _) (by rfl) (fun σ => passN σ) (pa_cons (pv 1) (pa_cons (pe_fld (pv 0) rfl) pa_nil))))) (pss_one (ps_rs rfl (takes_of rfl rfl rfl rfl) T.eN T.gN (by rfl))) pss_nil)
      (pss_one (ps_ret (pe_dget hu (pe_fld (pv 0) rfl) (pv 1) (fun _ _ => rfl)))), ?_⟩
    refine ⟨_, rfl, _, rfl, p, CW, dx, _, _, rfl, hp, T.clW, T.aSh, wf_sh _ _, .str n, d, _, rfl, .str n, I.dc, fun z ez => ?_, fun z => by cases z⟩
    cases ez
    refine ⟨_, rfl, ?_⟩
    cases e : valV (kvs es) (Sum.inr n : Key) with
    | none =>
      refine iteT ?_
      exact k2 (kvs_none e)
    | some v =>
      obtain ⟨x, hx, hn, rfl⟩ := kvs_some e
      refine iteF ?_
      refine ⟨_, rfl, p, CW, dx, _, _, rfl, hp, T.clW, T.aSh, wf_sh _ _, _, rfl, d, _, rfl, ?_, k1 x hx hn⟩
      have g := DGet.k (k := Sum.inr n) I.dc
      rw [e] at g
      exact g
theorem sc_enter : FnScope ["self", "name", "share"] ["self", "name", "share"] (defScope sWheel_enter) := ⟨rfl, rfl, rfl, by decide +kernel, rfl, by decide +kernel, by decide +kernel⟩
theorem ok_enter {f : Addr} {fd : FuncData} (F : Fun K "enter" "Wheel.enter" sWheel_enter f fd) (T : WT K mg CS CW CB CT CN) (GS : DOk P w K mg base 2 "step" ["share"] (spStep CB)) (MS : KOk P w K mg base 1 "Sharer" CS ["self", "share"] (spSInit CS)) :
    FnOk P w K mg base (L2.CX P w) 3 f fd ["self", "name", "share"] (spEnter CW CS CB CT) := by
  refine F.okX sc_enter (fun vs H Q E h => ?_) (fun cdv A outer s H vs Q E hr h => ?_)
  · obtain ⟨p, W, fp, n, x, rfl, _⟩ := h
    rfl
  · obtain ⟨p, W, fp, n, x, rfl, ⟨d, es, hrows, rfl, I, ok⟩, hlen, hx, k1, k2, k3⟩ := h
    have hu := hu_of hr
    obtain ⟨dx, hp⟩ := I.ob
    have hl : es.length ≤ 1000 := by
      rw [hrows, List.length_map] at hlen
      exact hlen
    refine ⟨_, pss_cons (ps_if (pt_cmp (pc_din hu (pv 1) (pe_fld (pv 0) rfl))) (pss_one (ps_rs rfl (takes_of rfl rfl rfl rfl) T.eT T.gT (by rfl))) pss_nil)
      (pss_cons (ps_expr (pe_f GS hr (Nat.le_refl _) (by rfl) (fun σ => passAt (takes_of rfl rfl rfl rfl) σ) (pa_cons (pv 2) pa_nil)))
      (pss_one (ps_dput hu (pe_fld (pv 0) rfl) (pv 1) (pe_k MS hr (Nat.le_refl _) (by rfl) (pa_cons (pv 2) pa_nil)) rfl))), ?_⟩
    refine ⟨_, rfl, _, rfl, p, CW, dx, _, _, rfl, hp, T.clW, T.aSh, wf_sh _ _, d, _, rfl, DGet.k (k := Sum.inr n) I.dc, _, rfl, ?_⟩
    cases e : valV (kvs es) (Sum.inr n : Key) with
    | some v =>
      obtain ⟨y, hy, hn, rfl⟩ := kvs_some e
      exact iteT (k1 ((has_of hrows).mpr ⟨y, hy, hn⟩))
    | none =>
      have nn := kvs_none e
      have nh : ¬ Has W n := fun z => by
        obtain ⟨y, hy, hn⟩ := (has_of hrows).mp z
        exact nn y hy hn
      refine iteF ?_
      refine ⟨_, rfl, x, rfl, hx, fun i ei h1 h2 => ?_, fun z => k2 nh z⟩
      subst ei
      -- the new one
      refine ⟨_, rfl, fun a dy ha hdy ne => ⟨a, dy, i, rfl, upd_same, rfl, ?_⟩⟩
      rw [upd_upd]
      have sm : Same H (upd (upd H dy (.own a)) a (.ins CS dy (sf i 0 false))) := same_made ha hdy
      refine ⟨_, rfl, p, CW, dx, _, _, rfl, sm _ _ hp, T.clW, T.aSh, wf_sh _ _, _, rfl, d, _, rfl, DPut.k (k := Sum.inr n) (sm _ _ I.dc) (small1000 (by rw [kvs_len]; exact hl)), ?_⟩
      have epl : putK (kvs es) (Sum.inr n : Key) (V.ref a) = kvs (es ++ [((⟨n, i, 0, false⟩ : RowS), a)]) := by
        rw [putK_new _ e]
        unfold kvs
        rw [List.map_append]
        rfl
      rw [epl]
      have npd := I.ne_pd
      have nda : d ≠ a := ne_of_none I.dc ha
      refine k3 nh i rfl h1 h2 _ (p :: d :: (es ++ [((⟨n, i, 0, false⟩ : RowS), a)]).map (·.2)) ⟨d, es ++ [(⟨n, i, 0, false⟩, a)], ?_, rfl, ⟨⟨dx, ?_⟩, upd_same, fun y hy => ?_, ?_⟩, ok.enter h1 h2 fun z => ?_⟩ ⟨fun b o eb hb => ?_, fun b hb => ?_⟩
      · show W.rows ++ [_] = _
        rw [hrows, List.map_append]
        rfl
      · rw [upd_ne npd]
        exact sm _ _ hp
      · rcases List.mem_append.mp hy with hy | hy
        · obtain ⟨dz, ez⟩ := I.sh y hy
          exact ⟨dz, by rw [upd_ne (I.ne_ds hy).symm]; exact sm _ _ ez⟩
        · rw [List.mem_singleton.mp hy]
          exact ⟨dy, by rw [upd_ne nda.symm]; exact upd_same⟩
      · rw [List.map_append]
        refine Wm.nd_snoc I.nd fun z => ?_
        obtain ⟨y, hy, ey⟩ := List.mem_map.mp z
        obtain ⟨dz, ez⟩ := I.sh y hy
        rw [ey, ha] at ez
        cases ez
      · obtain ⟨y, hy, hn⟩ := List.mem_map.mp z
        exact nh ⟨y, hy, hn⟩
      · rw [upd_ne (fun z => hb (by rw [z]; simp))]
        exact sm _ _ eb
      · rw [List.map_append] at hb
        rcases List.mem_cons.mp hb with rfl | hb
        · exact .inl List.mem_cons_self
        rcases List.mem_cons.mp hb with rfl | hb
        · exact .inl (List.mem_cons_of_mem _ List.mem_cons_self)
        rcases List.mem_append.mp hb with hb | hb
        · exact .inl (List.mem_cons_of_mem _ (List.mem_cons_of_mem _ hb))
        · rw [List.mem_singleton.mp hb]
          exact .inr ha
theorem sc_leave : FnScope ["self", "name"] ["self", "name"] (defScope sWheel_leave) := ⟨rfl, rfl, rfl, by decide +kernel, rfl, by decide +kernel, by decide +kernel⟩
theorem ok_leave {f : Addr} {fd : FuncData} (F : Fun K "leave" "Wheel.leave" sWheel_leave f fd) (T : WT K mg CS CW CB CT CN) (GS : MOk P w K mg base 2 CW "_sharer" ["self", "name"] (spSharer CW CS CN)) : FnOk P w K mg base (L2.CX P w) 3 f fd ["self", "name"] (spLeave CW CS CN) := by
  refine F.okX sc_leave (fun vs H Q E h => ?_) (fun cdv A outer s H vs Q E hr h => ?_)
  · obtain ⟨p, W, fp, n, rfl, _⟩ := h
    rfl
  · obtain ⟨p, W, fp, n, rfl, ⟨d, es, hrows, rfl, I, ok⟩, k1, k2⟩ := h
    obtain ⟨dx, hp⟩ := I.ob
    refine ⟨_, pss_cons (ps_expr (pe_m GS T.clW hr (Nat.le_refl _) (fun σ => passAt (takes_of rfl rfl rfl rfl) σ) (pv 0) (pa_cons (pv 1) pa_nil))) (pss_one (ps_ddel (pe_fld (pv 0) rfl) (pv 1))), ?_⟩
    refine ⟨_, rfl, p, dx, _, rfl, hp, wf_no _ _ (by decide +kernel) (by decide +kernel), _, rfl, p, d, _, es, n, rfl, I, fun x hx hn => ?_, fun z => k1 fun h => ?_⟩
    · refine ⟨_, rfl, p, CW, dx, _, _, rfl, hp, T.clW, T.aSh, wf_sh _ _, _, rfl, d, _, Sum.inr n, rfl, I.dc, rfl, ?_, ?_⟩
      · rw [← hn, kvs_at (names_nd ok hrows) hx]
        rfl
      · rw [kvs_drop]
        refine k2 ((has_of hrows).mpr ⟨x, hx, hn⟩) _ (p :: d :: (es.filter fun e => decide (e.1.n ≠ n)).map (·.2)) ⟨d, _, ?_, rfl, ⟨⟨dx, ?_⟩, upd_same, fun y hy => ?_, ?_⟩, ok.leave n⟩ ⟨fun b o eb hb => ?_, fun b hb => ?_⟩
        · show W.rows.filter _ = _
          rw [hrows, List.filter_map]
          rfl
        · rw [upd_ne I.ne_pd]
          exact hp
        · have hy' := (List.mem_filter.mp hy).1
          obtain ⟨dz, ez⟩ := I.sh y hy'
          exact ⟨dz, by rw [upd_ne (I.ne_ds hy').symm]; exact ez⟩
        · exact List.Nodup.sublist (List.Sublist.map _ List.filter_sublist) I.nd
        · rw [upd_ne (fun z => hb (by rw [z]; simp))]
          exact eb
        · left
          rcases List.mem_cons.mp hb with rfl | hb
          · exact List.mem_cons_self
          rcases List.mem_cons.mp hb with rfl | hb
          · exact List.mem_cons_of_mem _ List.mem_cons_self
          obtain ⟨y, hy, rfl⟩ := List.mem_map.mp hb
          exact List.mem_cons_of_mem _ (List.mem_cons_of_mem _ (List.mem_map.mpr ⟨y, (List.mem_filter.mp hy).1, rfl⟩))
    · obtain ⟨y, hy, hn⟩ := (has_of hrows).mp h
      exact z y hy hn

theorem WIn.past {CW CS : Addr} {H : Hp} {p d : Addr} {q q' : Int} {es : List En} (h : WIn CW CS H p d q es) (dx : Addr) : WIn CW CS (upd H p (.ins CW dx (wf q' d))) p d q' es := by
  refine ⟨⟨dx, upd_same⟩, by rw [upd_ne h.ne_pd.symm]; exact h.dc, fun e he => ?_, h.nd⟩
  obtain ⟨dy, e1⟩ := h.sh e he
  exact ⟨dy, by rw [upd_ne (h.ne_ps he).symm]; exact e1⟩
theorem step_upd {fp : List Addr} {H : Hp} {a : Addr} {o : HO} (h : a ∈ fp) : Step fp H fp (upd H a o) := ⟨fun b u e hb => by
  rw [upd_ne (fun z => hb (by rw [z]; exact h))]
  exact e, fun _ hb => .inl hb⟩
theorem fp_s {p d : Addr} {es : List En} {e : En} (he : e ∈ es) : e.2 ∈ p :: d :: es.map (·.2) := List.mem_cons_of_mem _ (List.mem_cons_of_mem _ (List.mem_map.mpr ⟨e, he, rfl⟩))
/-- the row of a name is told by it -/
theorem en_of {W : WhS} {es : List En} (ok : Wm.Ok W) (hr : W.rows = es.map (·.1)) {e : En} (he : e ∈ es) {x : RowS} (hx : x ∈ W.rows) (hn : x.n = e.1.n) : x = e.1 :=
  Wm.row_of_name ok.nd hx (by rw [hr]; exact List.mem_map.mpr ⟨e, he, rfl⟩) hn
theorem sc_reshare : FnScope ["self", "name", "share", "sharer", "new", "beyond"] ["self", "name", "share"] (defScope sWheel_reshare) := ⟨rfl, rfl, rfl, by decide +kernel, rfl, by decide +kernel, by decide +kernel⟩
theorem ok_reshare {f : Addr} {fd : FuncData} (F : Fun K "reshare" "Wheel.reshare" sWheel_reshare f fd) (T : WT K mg CS CW CB CT CN) (GS : MOk P w K mg base 2 CW "_sharer" ["self", "name"] (spSharer CW CS CN)) (GP : DOk P w K mg base 2 "step" ["share"] (spStep CB)) :
    FnOk P w K mg base (L2.CX P w) 3 f fd ["self", "name", "share"] (spReshare CW CS CB CN) := by
  refine F.okX sc_reshare (fun vs H Q E h => ?_) (fun cdv A outer s H vs Q E hr h => ?_)
  · obtain ⟨p, W, fp, n, x, rfl, _⟩ := h
    rfl
  · obtain ⟨p, W, fp, n, x, rfl, ⟨d, es, hrows, rfl, I, ok⟩, hx, k1, k2, k3⟩ := h
    obtain ⟨dx, hp⟩ := I.ob
    refine ⟨_, pss_cons (ps_set (i := 3) sc_reshare.nd rfl (Or.inl rfl) (pe_m GS T.clW hr (Nat.le_refl _) (fun σ => passAt (takes_of rfl rfl rfl rfl) σ) (pv 0) (pa_cons (pv 1) pa_nil)))
      (pss_cons (ps_set (i := 4) sc_reshare.nd rfl (Or.inl rfl) (pe_f GP hr (Nat.le_refl _) (by rfl) (fun σ => passAt (takes_of rfl rfl rfl rfl) σ) (pa_cons (pv 2) pa_nil)))
      (pss_cons (ps_set (i := 5) sc_reshare.nd rfl (Or.inl rfl) (pe_op op_sub (pe_fld (pv 3) rfl) (pe_fld (pv 0) rfl)))
      (pss_cons (ps_if (pt_cmpR op_gt (pv 5) pe_int (nomark _))
        (pss_one (ps_fld (pv 3) (pe_op op_add (pe_fld (pv 0) rfl) (pe_op op_fdivN (pe_op op_mul (pv 5) (pv 4)) (pe_f GP hr (Nat.le_refl _) (by rfl) (fun σ => passAt (takes_of rfl rfl rfl rfl) σ) (pa_cons (pe_fld (pv 3) rfl) pa_nil)))) rfl)) pss_nil)
      (pss_one (ps_fld (pv 3) (pv 2) rfl))))), ?_⟩
    refine ⟨_, rfl, p, dx, _, rfl, hp, wf_no _ _ (by decide +kernel) (by decide +kernel), _, rfl, p, d, _, es, n, rfl, I, fun e he hn => ?_, fun z => k1 fun h => ?_⟩
    · have hh : Has W n := (has_of hrows).mpr ⟨e, he, hn⟩
      refine ⟨_, rfl, x, rfl, hx, fun i ei h1 h2 => ?_, fun z => k2 hh z⟩
      subst ei
      obtain ⟨dy, ha⟩ := I.sh e he
      refine ⟨_, rfl, e.2, CS, dy, _, _, rfl, ha, T.clS, T.aClock, sf_clock _ _ _, _, rfl, p, CW, dx, _, _, rfl, hp, T.clW, T.aPast, wf_past _ _, _, _, rfl, rfl, ?_⟩
      have ro := ok.rows e.1 (by rw [hrows]; exact List.mem_map.mpr ⟨e, he, rfl⟩)
      have c1 := Wm.stp_cases h1 h2
      have c2 := Wm.stp_cases ro.s1 ro.s2
      have W1 := I.set he (names_nd ok hrows) (Wm.shared W.past i) (fun _ => rfl) dy
      rw [hn] at W1
      have fin : WAt CW CS (upd H e.2 (.ins CS dy (sf (Wm.shared W.past i e.1).s (Wm.shared W.past i e.1).c (Wm.shared W.past i e.1).r))) p (Wm.reshare W n i) (p :: d :: es.map (·.2)) :=
        ⟨d, _, by rw [updE_rows, ← hrows]; rfl, by rw [updE_addrs], W1, ok.reshare n h1 h2⟩
      refine ⟨_, rfl, _, _, rfl, rfl, _, rfl, ?_⟩
      by_cases hb : W.past < e.1.c
      · rw [decide_eq_true (show (0 : Int) < e.1.c - W.past by omega)]
        refine iteT ?_
        refine ⟨_, rfl, p, CW, dx, _, _, rfl, hp, T.clW, T.aPast, wf_past _ _, _, rfl, _, rfl, _, _, rfl, rfl, .inr ⟨by omega, by omega⟩, _, rfl, e.2, CS, dy, _, _, rfl, ha, T.clS, T.aShare, sf_share _ _ _, .int e.1.s, rfl, .int _, fun i' ei' _ _ => ?_, fun z => ?_⟩
        · cases ei'
          refine ⟨_, _, rfl, rfl, ⟨by omega, by omega⟩, _, _, rfl, rfl, _, rfl, e.2, CS, dy, _, rfl, ha, T.clS, T.aClock, (by show 3 < 1000; decide), ?_⟩
          rw [sf_pclock]
          refine ⟨_, rfl, _, rfl, e.2, CS, dy, _, rfl, upd_same, T.clS, T.aShare, (by show 3 < 1000; decide), ?_⟩
          rw [upd_upd, sf_pshare]
          have ec : (Wm.shared W.past i e.1).c = W.past + Int.fdiv ((e.1.c - W.past) * Wm.stp i) (Wm.stp e.1.s) := by
            show (if W.past < e.1.c then _ else _) = _
            rw [if_pos hb]
          have es' : (Wm.shared W.past i e.1).s = i := rfl
          rw [ec] at fin
          exact k3 hh i rfl h1 h2 _ fin (step_upd (fp_s he))
        · exfalso
          have : (decide (1 ≤ e.1.s) && decide (e.1.s ≤ 12)) = false := z
          rw [decide_eq_true ro.s1, decide_eq_true ro.s2] at this
          cases this
      · rw [decide_eq_false (show ¬ (0 : Int) < e.1.c - W.past by omega)]
        refine iteF ?_
        refine ⟨_, rfl, _, rfl, e.2, CS, dy, _, rfl, ha, T.clS, T.aShare, (by show 3 < 1000; decide), ?_⟩
        rw [sf_pshare]
        have ec : (Wm.shared W.past i e.1).c = e.1.c := by
          show (if W.past < e.1.c then _ else _) = _
          rw [if_neg hb]
        rw [ec] at fin
        exact k3 hh i rfl h1 h2 _ fin (step_upd (fp_s he))
    · obtain ⟨y, hy, hn⟩ := (has_of hrows).mp h
      exact z y hy hn
theorem sc_wake : FnScope ["self", "name", "sharer"] ["self", "name"] (defScope sWheel_wake) := ⟨rfl, rfl, rfl, by decide +kernel, rfl, by decide +kernel, by decide +kernel⟩
theorem ok_wake {f : Addr} {fd : FuncData} (F : Fun K "wake" "Wheel.wake" sWheel_wake f fd) (T : WT K mg CS CW CB CT CN) (GS : MOk P w K mg base 2 CW "_sharer" ["self", "name"] (spSharer CW CS CN)) :
    FnOk P w K mg base (L2.CX P w) 3 f fd ["self", "name"] (spWake CW CS CN) := by
  refine F.okX sc_wake (fun vs H Q E h => ?_) (fun cdv A outer s H vs Q E hr h => ?_)
  · obtain ⟨p, W, fp, n, rfl, _⟩ := h
    rfl
  · obtain ⟨p, W, fp, n, rfl, ⟨d, es, hrows, rfl, I, ok⟩, k1, k2⟩ := h
    obtain ⟨dx, hp⟩ := I.ob
    refine ⟨_, pss_cons (ps_set (i := 2) sc_wake.nd rfl (Or.inl rfl) (pe_m GS T.clW hr (Nat.le_refl _) (fun σ => passAt (takes_of rfl rfl rfl rfl) σ) (pv 0) (pa_cons (pv 1) pa_nil)))
      (pss_cons (ps_if (pt_val (pe_fld (pv 2) rfl)) (pss_one (ps_ret pe_bl)) pss_nil)
      (pss_cons (ps_fld (pv 2) pe_bl rfl)
      (pss_cons (ps_fld (pv 2) (pe_callB (call_max2 rfl) (by rfl) T.max (by decide +kernel) (pa_cons (pe_fld (pv 2) rfl) (pa_cons (pe_fld (pv 0) rfl) pa_nil))) rfl)
      (pss_one (ps_ret pe_bl))))), ?_⟩
    refine ⟨_, rfl, p, dx, _, rfl, hp, wf_no _ _ (by decide +kernel) (by decide +kernel), _, rfl, p, d, _, es, n, rfl, I, fun e he hn => ?_, fun z => k1 fun h => ?_⟩
    · obtain ⟨dy, ha⟩ := I.sh e he
      have hm : e.1 ∈ W.rows := by rw [hrows]; exact List.mem_map.mpr ⟨e, he, rfl⟩
      have W1 := I.set he (names_nd ok hrows) (Wm.woken W.past) (Wm.woken_n _) dy
      rw [hn] at W1
      have fin : WAt CW CS (upd H e.2 (.ins CS dy (sf (Wm.woken W.past e.1).s (Wm.woken W.past e.1).c (Wm.woken W.past e.1).r))) p (Wm.wake W n) (p :: d :: es.map (·.2)) :=
        ⟨d, _, by rw [updE_rows, ← hrows]; rfl, by rw [updE_addrs], W1, ok.wake n⟩
      refine ⟨_, rfl, e.2, CS, dy, _, _, rfl, ha, T.clS, T.aReady, sf_ready _ _ _, _, rfl, ?_⟩
      cases er : e.1.r with
      | true =>
        refine iteT ?_
        have ew : Wm.woken W.past e.1 = e.1 := by
          unfold Wm.woken
          rw [if_pos er]
        rw [ew, upd_self ha] at fin
        have := k2 e.1 hm hn H fin (Step.refl _ _)
        rw [er] at this
        exact this
      | false =>
        refine iteF ?_
        rw [er] at ha
        refine ⟨_, rfl, e.2, CS, dy, _, rfl, ha, T.clS, T.aReady, (by show 3 < 1000; decide), ?_⟩
        rw [sf_pready]
        refine ⟨_, rfl, e.2, CS, dy, _, _, rfl, upd_same, T.clS, T.aClock, sf_clock _ _ _, _, rfl, p, CW, dx, _, _, rfl, (by rw [upd_ne (I.ne_ps he)]; exact hp), T.clW, T.aPast, wf_past _ _, _, _, rfl, _, rfl, e.2, CS, dy, _, rfl, upd_same, T.clS, T.aClock, (by show 3 < 1000; decide), ?_⟩
        rw [upd_upd, sf_pclock]
        have ew : Wm.woken W.past e.1 = { e.1 with c := if e.1.c < W.past then W.past else e.1.c, r := true } := by
          unfold Wm.woken
          rw [if_neg (by rw [er]; exact Bool.false_ne_true)]
        rw [ew] at fin
        have := k2 e.1 hm hn _ fin (step_upd (fp_s he))
        rw [er] at this
        exact this
    · obtain ⟨y, hy, hn⟩ := (has_of hrows).mp h
      exact z y hy hn
theorem sc_rest : FnScope ["self", "name", "sharer", "changed"] ["self", "name"] (defScope sWheel_rest) := ⟨rfl, rfl, rfl, by decide +kernel, rfl, by decide +kernel, by decide +kernel⟩
theorem ok_rest {f : Addr} {fd : FuncData} (F : Fun K "rest" "Wheel.rest" sWheel_rest f fd) (T : WT K mg CS CW CB CT CN) (GS : MOk P w K mg base 2 CW "_sharer" ["self", "name"] (spSharer CW CS CN)) :
    FnOk P w K mg base (L2.CX P w) 3 f fd ["self", "name"] (spRest CW CS CN) := by
  refine F.okX sc_rest (fun vs H Q E h => ?_) (fun cdv A outer s H vs Q E hr h => ?_)
  · obtain ⟨p, W, fp, n, rfl, _⟩ := h
    rfl
  · obtain ⟨p, W, fp, n, rfl, ⟨d, es, hrows, rfl, I, ok⟩, k1, k2⟩ := h
    obtain ⟨dx, hp⟩ := I.ob
    refine ⟨_, pss_cons (ps_set (i := 2) sc_rest.nd rfl (Or.inl rfl) (pe_m GS T.clW hr (Nat.le_refl _) (fun σ => passAt (takes_of rfl rfl rfl rfl) σ) (pv 0) (pa_cons (pv 1) pa_nil)))
      (pss_cons (ps_set (i := 3) sc_rest.nd rfl (Or.inl rfl) (pe_fld (pv 2) rfl))
      (pss_cons (ps_fld (pv 2) pe_bl rfl) (pss_one (ps_ret (pv 3))))), ?_⟩
    refine ⟨_, rfl, p, dx, _, rfl, hp, wf_no _ _ (by decide +kernel) (by decide +kernel), _, rfl, p, d, _, es, n, rfl, I, fun e he hn => ?_, fun z => k1 fun h => ?_⟩
    · obtain ⟨dy, ha⟩ := I.sh e he
      have hm : e.1 ∈ W.rows := by rw [hrows]; exact List.mem_map.mpr ⟨e, he, rfl⟩
      have W1 := I.set he (names_nd ok hrows) (fun x => { x with r := false }) (fun _ => rfl) dy
      rw [hn] at W1
      have fin : WAt CW CS (upd H e.2 (.ins CS dy (sf e.1.s e.1.c false))) p (Wm.rest W n) (p :: d :: es.map (·.2)) :=
        ⟨d, _, by rw [updE_rows, ← hrows]; rfl, by rw [updE_addrs], W1, ok.rest n⟩
      refine ⟨_, rfl, e.2, CS, dy, _, _, rfl, ha, T.clS, T.aReady, sf_ready _ _ _, _, rfl, e.2, CS, dy, _, rfl, ha, T.clS, T.aReady, (by show 3 < 1000; decide), ?_⟩
      rw [sf_pready]
      exact ⟨_, rfl, k2 e.1 hm hn _ fin (step_upd (fp_s he))⟩
    · obtain ⟨y, hy, hn⟩ := (has_of hrows).mp h
      exact z y hy hn
/-! ### who gets the turn -/
theorem best_take {l : List RowS} {i : Nat} {x : RowS} (h : l[i]? = some x) : Wm.best (l.take (i + 1)) = Wm.pick (Wm.best (l.take i)) x := by
  rw [List.take_succ, h]
  exact Wm.best_snoc _ _
def optC : Option RowS → Int
  | none => 0
  | some b => b.c
theorem sc_whose : FnScope ["self", "first", "least", "name", "sharer"] ["self"] (defScope sWheel_whose) := ⟨rfl, rfl, rfl, by decide +kernel, rfl, by decide +kernel, by decide +kernel⟩
theorem ok_whose {f : Addr} {fd : FuncData} (F : Fun K "whose" "Wheel.whose" sWheel_whose f fd) (T : WT K mg CS CW CB CT CN) : FnOk P w K mg base (L2.CX P w) 1 f fd ["self"] (spWhose CW CS) := by
  refine okN F sc_whose (fun vs H Q E h => ?_) (fun cdv A outer s H vs Q E hr h => ?_)
  · obtain ⟨p, W, fp, rfl, _⟩ := h
    rfl
  · obtain ⟨p, W, fp, rfl, ⟨d, es, hrows, rfl, I, ok⟩, k⟩ := h
    obtain ⟨dx, hp⟩ := I.ob
    refine ⟨_, pss_cons (ps_set (i := 1) sc_whose.nd rfl (Or.inl rfl) pe_non) (pss_cons (ps_set (i := 2) sc_whose.nd rfl (Or.inl rfl) pe_int)
      (pss_cons (ps_lock (ps_for PassesOwn.never rfl (pi_items (pe_fld (pv 0) rfl)) (pg_tup rfl (pgs_cons (pg_name (i := 3) sc_whose.nd rfl (Or.inl rfl)) (pgs_cons (pg_name (i := 4) sc_whose.nd rfl (Or.inl rfl)) pgs_nil)))
        (pss_one (ps_if (PW.pt (pw_and (pt_val (pe_fld (pv 4) rfl)) (pw_and1 (PW.pt (pw_or (pt_cmpR op_isN (pv 1) pe_non (nomark _)) (pw_or1 (pt_cmpR op_lt (pe_fld (pv 4) rfl) (pv 2) (nomark _))))))))
          (pss_cons (ps_set (i := 1) sc_whose.nd rfl (Or.inl rfl) (pv 3)) (pss_one (ps_set (i := 2) sc_whose.nd rfl (Or.inl rfl) (pe_fld (pv 4) rfl)))) pss_nil))))
      (pss_one (ps_ret (pv 1))))), ?_⟩
    refine ⟨d, .dK (kvs es), I.dc, trivial, fun od => ?_⟩
    have hp' : (upd H d (.frz od (.dK (kvs es)))) p = some (.ins CW dx (wf W.past d)) := by rw [upd_ne I.ne_pd]; exact hp
    refine ⟨_, rfl, p, CW, dx, _, _, rfl, hp', T.clW, T.aSh, wf_sh _ _, d, od, kvs es, rfl, upd_same, ?_⟩
    refine for_it (walk_items (d := d) (o := od) (kvs := kvs es)) (fun i σ H' => ∃ v3 v4, σ = [some (.ref p), some (optN ((Wm.best (W.rows.take i)).map (·.n))), some (.int (optC (Wm.best (W.rows.take i)))), v3, v4] ∧ Same (upd H d (.frz od (.dK (kvs es)))) H')
      ⟨none, none, rfl, Same.refl _⟩ (fun i σ H' _ ⟨_, _, _, sm⟩ => sm _ _ upd_same) ?_ ?_
    · rintro i y σ H1 H2 hi ⟨v3, v4, rfl, sm⟩ ⟨U, x, z, rfl, hU, rfl, e1, e2⟩
      have hi' : i < es.length := by rw [kvs_len] at hi; exact hi
      have ei : es[i]? = some es[i] := by simp [hi']
      generalize es[i] = en at ei
      have hen : en ∈ es := List.mem_of_getElem? ei
      have ek : (kvs es)[i]? = some (Sum.inr en.1.n, V.ref en.2) := by
        unfold kvs
        rw [List.getElem?_map, ei]
        rfl
      simp only [ek] at e1 e2
      have ex : x = .str en.1.n := (Option.some.inj e1).symm
      have ez : z = .ref en.2 := (Option.some.inj e2).symm
      subst ex ez
      obtain ⟨dy, ha⟩ := I.sh en hen
      have hr1 : W.rows[i]? = some en.1 := by rw [hrows, List.getElem?_map, ei]; rfl
      have sm2 : Same (upd H d (.frz od (.dK (kvs es)))) (upd H1 U (.tup [.str en.1.n, .ref en.2])) := sm.trans (same_upd hU)
      have ha' : ∀ {H3 : Hp}, Same (upd H d (.frz od (.dK (kvs es)))) H3 → H3 en.2 = some (.ins CS dy (sf en.1.s en.1.c en.1.r)) := fun sm => sm _ _ (by rw [upd_ne (I.ne_ds hen).symm]; exact ha)
      refine ⟨U, [.str en.1.n, .ref en.2], rfl, SqT.of upd_same, rfl, _, _, rfl, _, _, rfl, rfl, ?_⟩
      refine ⟨_, rfl, en.2, CS, dy, _, _, rfl, ha' sm2, T.clS, T.aReady, sf_ready _ _ _, _, rfl, ?_⟩
      have eb := best_take hr1
      generalize Wm.best (W.rows.take (i + 1)) = B1 at eb
      generalize Wm.best (W.rows.take i) = B0 at eb
      subst eb
      cases er : en.1.r with
      | false =>
        refine iteF (iteF ?_)
        have : Wm.pick B0 en.1 = B0 := by
          unfold Wm.pick
          cases B0 with
          | none => simp [er]
          | some b => simp [er]
        rw [this]
        exact ⟨_, _, rfl, sm2⟩
      | true =>
        refine iteT ⟨_, rfl, rfl, _, rfl, ?_⟩
        cases B0 with
        | none =>
          refine iteT (iteT ?_)
          have : Wm.pick none en.1 = some en.1 := by
            unfold Wm.pick
            simp [er]
          rw [this]
          refine ⟨_, rfl, _, rfl, en.2, CS, dy, _, _, rfl, ha' sm2, T.clS, T.aClock, sf_clock _ _ _, ?_⟩
          exact ⟨_, _, rfl, sm2⟩
        | some b =>
          refine iteF ⟨_, rfl, en.2, CS, dy, _, _, rfl, ha' sm2, T.clS, T.aClock, sf_clock _ _ _, _, rfl, _, _, rfl, rfl, _, rfl, ?_⟩
          have hp : Wm.pick (some b) en.1 = if en.1.c < b.c then some en.1 else some b := by
            unfold Wm.pick
            simp [er]
          show if decide (en.1.c < b.c) = true then _ else _
          by_cases q : en.1.c < b.c
          · rw [decide_eq_true q]
            refine iteT ?_
            rw [hp, if_pos q]
            refine ⟨_, rfl, _, rfl, en.2, CS, dy, _, _, rfl, ha' sm2, T.clS, T.aClock, sf_clock _ _ _, ?_⟩
            exact ⟨_, _, rfl, sm2⟩
          · rw [decide_eq_false q]
            refine iteF ?_
            rw [hp, if_neg q]
            exact ⟨_, _, rfl, sm2⟩
    · rintro σ H1 ⟨v3, v4, rfl, sm⟩
      refine ⟨sm _ _ upd_same, _, rfl, ?_⟩
      have : W.rows.take (kvs es).length = W.rows := by
        rw [kvs_len, List.take_of_length_le]
        rw [hrows, List.length_map]
        exact Nat.le_refl _
      rw [this]
      refine k _ fun b o e => ?_
      by_cases q : b = d
      · rw [q] at e ⊢
        rw [I.dc] at e
        cases e
        exact upd_same
      · rw [upd_ne q]
        exact sm _ _ (by rw [upd_ne q]; exact e)
theorem sc_turn : FnScope ["self", "name", "sharer"] ["self"] (defScope sWheel_turn) := ⟨rfl, rfl, rfl, by decide +kernel, rfl, by decide +kernel, by decide +kernel⟩
theorem ok_turn {f : Addr} {fd : FuncData} (F : Fun K "turn" "Wheel.turn" sWheel_turn f fd) (T : WT K mg CS CW CB CT CN) (GW : MOk P w K mg base 1 CW "whose" ["self"] (spWhose CW CS)) (GP : DOk P w K mg base 2 "step" ["share"] (spStep CB)) :
    FnOk P w K mg base (L2.CX P w) 3 f fd ["self"] (spTurn CW CS) := by
  refine okN F sc_turn (fun vs H Q E h => ?_) (fun cdv A outer s H vs Q E hr h => ?_)
  · obtain ⟨p, W, fp, rfl, _⟩ := h
    rfl
  · obtain ⟨p, W, fp, rfl, hW, k⟩ := h
    obtain ⟨d, es, hrows, rfl, I, ok⟩ := id hW
    obtain ⟨dx, hp⟩ := I.ob
    have hu := hu_of hr
    refine ⟨_, pss_cons (ps_set (i := 1) sc_turn.nd rfl (Or.inl rfl) (pe_m0 GW T.clW hr (by decide) (fun σ => passN σ) (pv 0)))
      (pss_cons (ps_if (pt_cmpR op_notN (pv 1) pe_non (nomark _))
        (pss_cons (ps_set (i := 2) sc_turn.nd rfl (Or.inl rfl) (pe_dget hu (pe_fld (pv 0) rfl) (pv 1) (fun _ _ => rfl)))
        (pss_cons (ps_fld (pv 0) (pe_fld (pv 2) rfl) rfl)
        (pss_one (ps_fldaug (pv 2) (pe_f GP hr (Nat.le_refl _) (by rfl) (fun σ => passN σ) (pa_cons (pe_fld (pv 2) rfl) pa_nil)) in_add)))) pss_nil)
      (pss_one (ps_ret (pv 1)))), ?_⟩
    refine ⟨_, rfl, p, dx, _, rfl, hp, wf_no _ _ (by decide +kernel) (by decide +kernel), p, W, _, rfl, hW, fun H1 sm => ?_⟩
    refine ⟨_, rfl, rfl, _, rfl, ?_⟩
    have I1 : WIn CW CS H1 p d W.past es := I.keep fun b _ o e => sm b o e
    cases eb : Wm.best W.rows with
    | none =>
      have ew : Wm.whose W = none := by
        unfold Wm.whose
        rw [eb]
        rfl
      rw [ew]
      refine iteF ⟨_, rfl, ?_⟩
      have := k H1 (by rw [Wm.turn_none eb]; exact hW.same sm) (.same sm)
      rw [ew] at this
      exact this
    | some b =>
      have ew : Wm.whose W = some b.n := by
        unfold Wm.whose
        rw [eb]
        rfl
      rw [ew]
      obtain ⟨_, hb, _⟩ := Wm.best_some eb
      have hb' := hb
      rw [hrows] at hb'
      obtain ⟨e, he, eq⟩ := List.mem_map.mp hb'
      subst eq
      obtain ⟨dy, ha⟩ := I1.sh e he
      have ro := ok.rows e.1 hb
      refine iteT ?_
      have g := DGet.k (k := Sum.inr e.1.n) I1.dc
      have g2 : valV (kvs es) (Sum.inr e.1.n : Key) = some (.ref e.2) := kvs_at (names_nd ok hrows) he
      rw [g2] at g
      refine ⟨_, rfl, p, CW, dx, _, _, rfl, sm _ _ hp, T.clW, T.aSh, wf_sh _ _, _, rfl, d, _, rfl, g, ?_⟩
      refine ⟨_, rfl, e.2, CS, dy, _, _, rfl, ha, T.clS, T.aClock, sf_clock _ _ _, _, rfl, p, CW, dx, _, rfl, sm _ _ hp, T.clW, T.aPast, (by show 2 < 1000; decide), ?_⟩
      rw [wf_ppast]
      have ha2 : (upd H1 p (.ins CW dx (wf e.1.c d))) e.2 = some (.ins CS dy (sf e.1.s e.1.c e.1.r)) := by rw [upd_ne (I1.ne_ps he).symm]; exact ha
      refine ⟨_, rfl, e.2, CS, dy, _, _, rfl, ha2, T.clS, T.aClock, sf_clock _ _ _, _, rfl, e.2, CS, dy, _, _, rfl, ha2, T.clS, T.aShare, sf_share _ _ _, .int e.1.s, rfl, .int _, fun i ei _ _ => ?_, fun z => ?_⟩
      · cases ei
        refine ⟨_, _, rfl, rfl, dy, _, ha2, (by show 3 < 1000; decide), ?_⟩
        rw [sf_pclock]
        refine ⟨_, rfl, ?_⟩
        have I2 := (I1.past (q' := e.1.c) dx).set he (names_nd ok hrows) (fun x => { x with c := x.c + Wm.stp x.s }) (fun _ => rfl) dy
        have := k _ ⟨d, updE es e.1.n (fun x => { x with c := x.c + Wm.stp x.s }), by rw [Wm.turn_some eb, updE_rows, ← hrows], by rw [updE_addrs], by rw [Wm.turn_some eb]; exact I2, (ok.turn).1⟩ ((Step.same sm).trans ((step_upd List.mem_cons_self).trans (step_upd (fp_s he))))
        rw [ew] at this
        exact this
      · exfalso
        have : (decide (1 ≤ e.1.s) && decide (e.1.s ≤ 12)) = false := z
        rw [decide_eq_true ro.s1, decide_eq_true ro.s2] at this
        cases this
theorem sc_names : FnScope ["self"] ["self"] (defScope sWheel_names) := ⟨rfl, rfl, rfl, by decide +kernel, rfl, by decide +kernel, by decide +kernel⟩
theorem ok_names {f : Addr} {fd : FuncData} (F : Fun K "names" "Wheel.names" sWheel_names f fd) (T : WT K mg CS CW CB CT CN) : FnOk P w K mg base (L2.CX P w) 1 f fd ["self"] (spNames CW CS) := by
  refine okN F sc_names (fun vs H Q E h => ?_) (fun cdv A outer s H vs Q E hr h => ?_)
  · obtain ⟨p, W, fp, rfl, _⟩ := h
    rfl
  · obtain ⟨p, W, fp, rfl, ⟨d, es, hrows, rfl, I, ok⟩, k⟩ := h
    obtain ⟨dx, hp⟩ := I.ob
    refine ⟨_, pss_one (ps_ret (pe_callTy (call_list_dK rfl) (by rfl) T.list (by decide +kernel) (pa_cons (pe_fld (pv 0) rfl) pa_nil))), ?_⟩
    refine ⟨_, rfl, p, CW, dx, _, _, rfl, hp, T.clW, T.aSh, wf_sh _ _, d, _, rfl, I.dc, fun l hl => ?_⟩
    have := k l hl
    rw [hrows, List.map_map] at this
    unfold kvs
    rw [List.map_map]
    exact this
theorem sc_clock_of : FnScope ["self", "name"] ["self", "name"] (defScope sWheel_clock_of) := ⟨rfl, rfl, rfl, by decide +kernel, rfl, by decide +kernel, by decide +kernel⟩
theorem ok_clock_of {f : Addr} {fd : FuncData} (F : Fun K "clock_of" "Wheel.clock_of" sWheel_clock_of f fd) (T : WT K mg CS CW CB CT CN) (GS : MOk P w K mg base 2 CW "_sharer" ["self", "name"] (spSharer CW CS CN)) :
    FnOk P w K mg base (L2.CX P w) 3 f fd ["self", "name"] (spAsk CW CS CN fun x => .int x.c) := by
  refine F.okX sc_clock_of (fun vs H Q E h => ?_) (fun cdv A outer s H vs Q E hr h => ?_)
  · obtain ⟨p, W, fp, n, rfl, _⟩ := h
    rfl
  · obtain ⟨p, W, fp, n, rfl, ⟨d, es, hrows, rfl, I, ok⟩, k1, k2⟩ := h
    obtain ⟨dx, hp⟩ := I.ob
    refine ⟨_, pss_one (ps_ret (pe_fld (pe_m GS T.clW hr (Nat.le_refl _) (fun σ => passAt (takes_of rfl rfl rfl rfl) σ) (pv 0) (pa_cons (pv 1) pa_nil)) rfl)), ?_⟩
    refine ⟨_, rfl, p, dx, _, rfl, hp, wf_no _ _ (by decide +kernel) (by decide +kernel), _, rfl, p, d, _, es, n, rfl, I, fun e he hn => ?_, fun z => k1 fun h => ?_⟩
    · obtain ⟨dy, ha⟩ := I.sh e he
      exact ⟨e.2, CS, dy, _, _, rfl, ha, T.clS, T.aClock, sf_clock _ _ _, k2 e.1 (by rw [hrows]; exact List.mem_map.mpr ⟨e, he, rfl⟩) hn⟩
    · obtain ⟨y, hy, hn⟩ := (has_of hrows).mp h
      exact z y hy hn
theorem sc_share_of : FnScope ["self", "name"] ["self", "name"] (defScope sWheel_share_of) := ⟨rfl, rfl, rfl, by decide +kernel, rfl, by decide +kernel, by decide +kernel⟩
theorem ok_share_of {f : Addr} {fd : FuncData} (F : Fun K "share_of" "Wheel.share_of" sWheel_share_of f fd) (T : WT K mg CS CW CB CT CN) (GS : MOk P w K mg base 2 CW "_sharer" ["self", "name"] (spSharer CW CS CN)) :
    FnOk P w K mg base (L2.CX P w) 3 f fd ["self", "name"] (spAsk CW CS CN fun x => .int x.s) := by
  refine F.okX sc_share_of (fun vs H Q E h => ?_) (fun cdv A outer s H vs Q E hr h => ?_)
  · obtain ⟨p, W, fp, n, rfl, _⟩ := h
    rfl
  · obtain ⟨p, W, fp, n, rfl, ⟨d, es, hrows, rfl, I, ok⟩, k1, k2⟩ := h
    obtain ⟨dx, hp⟩ := I.ob
    refine ⟨_, pss_one (ps_ret (pe_fld (pe_m GS T.clW hr (Nat.le_refl _) (fun σ => passAt (takes_of rfl rfl rfl rfl) σ) (pv 0) (pa_cons (pv 1) pa_nil)) rfl)), ?_⟩
    refine ⟨_, rfl, p, dx, _, rfl, hp, wf_no _ _ (by decide +kernel) (by decide +kernel), _, rfl, p, d, _, es, n, rfl, I, fun e he hn => ?_, fun z => k1 fun h => ?_⟩
    · obtain ⟨dy, ha⟩ := I.sh e he
      exact ⟨e.2, CS, dy, _, _, rfl, ha, T.clS, T.aShare, sf_share _ _ _, k2 e.1 (by rw [hrows]; exact List.mem_map.mpr ⟨e, he, rfl⟩) hn⟩
    · obtain ⟨y, hy, hn⟩ := (has_of hrows).mp h
      exact z y hy hn
theorem sc_is_ready : FnScope ["self", "name"] ["self", "name"] (defScope sWheel_is_ready) := ⟨rfl, rfl, rfl, by decide +kernel, rfl, by decide +kernel, by decide +kernel⟩
theorem ok_is_ready {f : Addr} {fd : FuncData} (F : Fun K "is_ready" "Wheel.is_ready" sWheel_is_ready f fd) (T : WT K mg CS CW CB CT CN) (GS : MOk P w K mg base 2 CW "_sharer" ["self", "name"] (spSharer CW CS CN)) :
    FnOk P w K mg base (L2.CX P w) 3 f fd ["self", "name"] (spAsk CW CS CN fun x => .bl x.r) := by
  refine F.okX sc_is_ready (fun vs H Q E h => ?_) (fun cdv A outer s H vs Q E hr h => ?_)
  · obtain ⟨p, W, fp, n, rfl, _⟩ := h
    rfl
  · obtain ⟨p, W, fp, n, rfl, ⟨d, es, hrows, rfl, I, ok⟩, k1, k2⟩ := h
    obtain ⟨dx, hp⟩ := I.ob
    refine ⟨_, pss_one (ps_ret (pe_fld (pe_m GS T.clW hr (Nat.le_refl _) (fun σ => passAt (takes_of rfl rfl rfl rfl) σ) (pv 0) (pa_cons (pv 1) pa_nil)) rfl)), ?_⟩
    refine ⟨_, rfl, p, dx, _, rfl, hp, wf_no _ _ (by decide +kernel) (by decide +kernel), _, rfl, p, d, _, es, n, rfl, I, fun e he hn => ?_, fun z => k1 fun h => ?_⟩
    · obtain ⟨dy, ha⟩ := I.sh e he
      exact ⟨e.2, CS, dy, _, _, rfl, ha, T.clS, T.aReady, sf_ready _ _ _, k2 e.1 (by rw [hrows]; exact List.mem_map.mpr ⟨e, he, rfl⟩) hn⟩
    · obtain ⟨y, hy, hn⟩ := (has_of hrows).mp h
      exact z y hy hn
theorem sc_copied : FnScope ["self", "other", "name", "sharer"] ["self"] (defScope sWheel_copied) := ⟨rfl, rfl, rfl, by decide +kernel, rfl, by decide +kernel, by decide +kernel⟩
theorem ok_copied {f : Addr} {fd : FuncData} (F : Fun K "copied" "Wheel.copied" sWheel_copied f fd) (T : WT K mg CS CW CB CT CN) (MW : KOk P w K mg base 1 "Wheel" CW ["self"] (spWInit CW CS)) (GC : MOk P w K mg base 3 CS "copied" ["self"] (spSCopied CS)) :
    FnOk P w K mg base (L2.CX P w) 4 f fd ["self"] (spCopied CW CS) := by
  refine okN F sc_copied (fun vs H Q E h => ?_) (fun cdv A outer s H vs Q E hr h => ?_)
  · obtain ⟨p, W, fp, rfl, _⟩ := h
    rfl
  · obtain ⟨p, W, fp, rfl, ⟨d, es, hrows, rfl, I, ok⟩, hlen, k⟩ := h
    obtain ⟨dx, hp⟩ := I.ob
    refine ⟨_, pss_cons (ps_set (i := 1) sc_copied.nd rfl (Or.inl rfl) (pe_k0 MW hr (by decide) rfl))
      (pss_cons (ps_fld (pv 1) (pe_fld (pv 0) rfl) rfl)
      (pss_cons (ps_fld (pv 1) (pe_lock (pe_dc (own := [("name", 2), ("sharer", 3)]) (g := gTup K 2 (gCons (gName 2) (gCons (gName 3) gNil))) (tt := tYes) (tk := tVar 2) (tv := tMe CS "copied" (spSCopied CS) (fun _ => E0) (tVar 3) tNil) rfl sc_copied.nd (pi_items (pe_fld (pv 0) rfl))
          (blkOk_by (N := ["self", "other", "name", "sharer"]) (sc := defScope sWheel_copied) (by decide +kernel)) (fun _ _ _ _ _ => pg_tup rfl (pgs_cons (pg_name (i := 2) sc_copied.nd rfl (Or.inl rfl)) (pgs_cons (pg_name (i := 3) sc_copied.nd rfl (Or.inl rfl)) pgs_nil))) (fun _ _ _ _ _ => pts_nil) (fun _ _ _ _ _ => pv 2)
          (fun _ _ _ _ _ => by exact pe_m0 GC T.clS hr (Nat.le_refl _) (fun σ => passN σ) (pv 3)))) rfl)
      (pss_one (ps_ret (pv 1))))), ?_⟩
    intro p2 dxw hxw hdw _
    refine mk_wheel hxw hdw fun H1 fp2 w1 s1 n1 => ⟨rfl, ?_⟩
    obtain ⟨d2, es2, hr2, rfl, I2, _⟩ := w1
    have e2 : es2 = [] := by
      cases es2 with
      | nil => rfl
      | cons a l => cases hr2
    subst e2
    obtain ⟨dx2, hp2⟩ := I2.ob
    refine ⟨_, rfl, p, CW, dx, _, _, rfl, s1 _ _ hp, T.clW, T.aPast, wf_past _ _, _, rfl, p2, CW, dx2, _, rfl, hp2, T.clW, T.aPast, (by show 2 < 1000; decide), ?_⟩
    rw [wf_ppast]
    have np2 : H p2 = none := n1 p2 List.mem_cons_self
    have nd2 : H d2 = none := n1 d2 (List.mem_cons_of_mem _ List.mem_cons_self)
    generalize hH2 : upd H1 p2 (.ins CW dx2 (wf W.past d2)) = H2
    have s2 : Same H H2 := fun b o e => by
      rw [← hH2, upd_ne (ne_of_none e np2)]
      exact s1 b o e
    have hp2' : H2 p2 = some (.ins CW dx2 (wf W.past d2)) := by rw [← hH2]; exact upd_same
    have I3 : WIn CW CS H2 p d W.past es := I.keep fun b _ o e => s2 b o e
    have n2d : p2 ≠ d := fun z => by
      have := I.dc
      rw [← z, np2] at this
      cases this
    refine ⟨d, .dK (kvs es), I3.dc, trivial, fun od => ?_⟩
    generalize hHb : upd H2 d (.frz od (.dK (kvs es))) = Hb
    have hpb : Hb p = some (.ins CW dx (wf W.past d)) := by rw [← hHb, upd_ne I.ne_pd]; exact s2 _ _ hp
    have hdb : Hb d = some (.frz od (.dK (kvs es))) := by rw [← hHb]; exact upd_same
    have h2b : Hb p2 = some (.ins CW dx2 (wf W.past d2)) := by rw [← hHb, upd_ne n2d]; exact hp2'
    have fresh : ∀ {b : Addr}, Hb b = none → H b = none := fun {b} e => by
      cases q : H b with
      | none => rfl
      | some o =>
        by_cases z : b = d
        · rw [z, hdb] at e
          cases e
        · rw [← hHb, upd_ne z, s2 _ _ q] at e
          cases e
    refine ⟨_, rfl, p, CW, dx, _, _, rfl, hpb, T.clW, T.aSh, wf_sh _ _, d, od, kvs es, rfl, hdb, fun D hD => ?_⟩
    have nn := names_nd ok hrows
    refine dc_it (walk_items (d := d) (o := od) (kvs := kvs es)) (fun i H' => Same Hb H' ∧ ∃ es' : List En, H' D = some (.dK (kvs es')) ∧ es'.map (·.1) = (es.map (·.1)).take i ∧ (∀ e ∈ es', Hb e.2 = none ∧ e.2 ≠ D ∧ ∃ dy, H' e.2 = some (.ins CS dy (sf e.1.s e.1.c e.1.r))) ∧ (es'.map (·.2)).Nodup)
      ⟨same_upd hD, [], upd_same, rfl, fun e he => (nomatch he), List.nodup_nil⟩ (fun i H' _ h => h.1 _ _ hdb) ?_ ?_
    · rintro i y H3 H4 hi ⟨sm, es', hD', hrow, hsh, hnd⟩ ⟨U, x, z, rfl, hU, rfl, e1, e2⟩
      have hi' : i < es.length := by rw [kvs_len] at hi; exact hi
      have ei : es[i]? = some es[i] := by simp [hi']
      generalize es[i] = en at ei
      have hen : en ∈ es := List.mem_of_getElem? ei
      have ek : (kvs es)[i]? = some (Sum.inr en.1.n, V.ref en.2) := by
        unfold kvs
        rw [List.getElem?_map, ei]
        rfl
      simp only [ek] at e1 e2
      have ex : x = .str en.1.n := (Option.some.inj e1).symm
      have ez : z = .ref en.2 := (Option.some.inj e2).symm
      subst ex ez
      obtain ⟨dy, ha⟩ := I3.sh en hen
      have hab : Hb en.2 = some (.ins CS dy (sf en.1.s en.1.c en.1.r)) := by rw [← hHb, upd_ne (I.ne_ds hen).symm]; exact ha
      have nUa : en.2 ≠ U := ne_of_none (sm _ _ hab) hU
      refine ⟨U, [.str en.1.n, .ref en.2], rfl, SqT.of upd_same, rfl, _, _, rfl, _, _, rfl, rfl, rfl, ?_⟩
      refine ⟨_, rfl, _, rfl, en.2, dy, _, rfl, (by rw [upd_ne nUa]; exact sm _ _ hab), sf_no _ _ _ (by decide +kernel) (by decide +kernel) (by decide +kernel), ?_⟩
      refine ⟨en.2, dy, _, _, _, rfl, (by rw [upd_ne nUa]; exact sm _ _ hab), fun b dz H5 hb s5 eb => ?_⟩
      have sU := same_upd (o := .tup [V.str en.1.n, V.ref en.2]) hU
      have nbU : b ≠ U := fun z => by
        rw [z, upd_same] at hb
        cases hb
      have hb3 : H3 b = none := by
        rw [upd_ne nbU] at hb
        exact hb
      have hbb : Hb b = none := sm.free hb3
      have nbD : b ≠ D := fun z => by
        rw [z, hD'] at hb3
        cases hb3
      have hl : es'.length ≤ es.length := by
        have := congrArg List.length hrow
        rw [List.length_map, List.length_take, List.length_map] at this
        omega
      have hle : es.length ≤ 1000 := by
        rw [hrows, List.length_map] at hlen
        exact hlen
      refine ⟨kvs es', Sum.inr en.1.n, rfl, s5 _ _ (sU _ _ hD'), small1000 (by rw [kvs_len]; omega), fun c o e => ?_, es' ++ [(en.1, b)], ?_, ?_, fun e he => ?_, ?_⟩
      · by_cases q : c = D
        · rw [q, hD] at e
          cases e
        · rw [upd_ne q]
          exact s5 _ _ (sU _ _ (sm _ _ e))
      · rw [upd_same]
        have nk : valV (kvs es') (Sum.inr en.1.n : Key) = none := by
          cases q : valV (kvs es') (Sum.inr en.1.n : Key) with
          | none => rfl
          | some v =>
            exfalso
            obtain ⟨e', he', hn', _⟩ := kvs_some q
            have : e'.1 ∈ (es.map (·.1)).take i := by rw [← hrow]; exact List.mem_map.mpr ⟨e', he', rfl⟩
            obtain ⟨j, hj⟩ := List.getElem?_of_mem this
            rw [List.getElem?_take] at hj
            have hj2 : j < i := by
              rcases Nat.lt_or_ge j i with q2 | q2
              · exact q2
              · rw [if_neg (by omega)] at hj
                cases hj
            rw [if_pos hj2] at hj
            have a1 : (es.map (·.1.n))[j]? = some en.1.n := by
              rw [← hn', show (es.map (·.1.n)) = (es.map (·.1)).map (·.n) by rw [List.map_map]; rfl, List.getElem?_map, hj]
              rfl
            have a2 : (es.map (·.1.n))[i]? = some en.1.n := by rw [List.getElem?_map, ei]; rfl
            have := nd_ix nn a1 a2
            omega
        rw [putK_new _ nk]
        unfold kvs
        rw [List.map_append]
        rfl
      · rw [List.map_append, hrow, List.take_succ, List.getElem?_map, ei]
        rfl
      · rcases List.mem_append.mp he with he | he
        · obtain ⟨g1, g2, dw, g3⟩ := hsh e he
          exact ⟨g1, g2, dw, by rw [upd_ne g2]; exact s5 _ _ (sU _ _ g3)⟩
        · rw [List.mem_singleton.mp he]
          exact ⟨hbb, nbD, dz, by rw [upd_ne nbD]; exact eb⟩
      · rw [List.map_append]
        refine Wm.nd_snoc hnd fun z => ?_
        obtain ⟨e', he', eq⟩ := List.mem_map.mp z
        obtain ⟨_, _, dw, g3⟩ := hsh e' he'
        rw [eq, hb3] at g3
        cases g3
    · rintro H3 ⟨sm, es', hD', hrow, hsh, hnd⟩
      refine ⟨sm _ _ hdb, _, rfl, p2, CW, dx2, _, rfl, (by rw [upd_ne n2d]; exact sm _ _ h2b), T.clW, T.aSh, (by show 2 < 1000; decide), ?_⟩
      rw [wf_psh]
      refine ⟨_, rfl, ?_⟩
      have full : es'.map (·.1) = es.map (·.1) := by
        rw [hrow, List.take_of_length_le]
        rw [kvs_len, List.length_map]
        exact Nat.le_refl _
      have nDd : D ≠ d := fun z => by
        rw [z, hdb] at hD
        cases hD
      have nDp : D ≠ p2 := fun z => by
        rw [z, h2b] at hD
        cases hD
      have nep : ∀ e ∈ es', e.2 ≠ p2 ∧ e.2 ≠ d := fun e he => by
        obtain ⟨g1, _⟩ := hsh e he
        refine ⟨fun z => ?_, fun z => ?_⟩
        · rw [z, h2b] at g1
          cases g1
        · rw [z, hdb] at g1
          cases g1
      refine k p2 (p2 :: D :: es'.map (·.2)) _ ⟨D, es', by rw [full]; exact hrows, rfl, ⟨⟨dx2, upd_same⟩, ?_, fun e he => ?_, hnd⟩, ok⟩ (fun b o e => ?_) fun b hb => ?_
      · rw [upd_ne nDp, upd_ne nDd]
        exact hD'
      · obtain ⟨g1, g2⟩ := nep e he
        obtain ⟨_, _, dw, g3⟩ := hsh e he
        exact ⟨dw, by rw [upd_ne g1, upd_ne g2]; exact g3⟩
      · rw [upd_ne (ne_of_none e np2)]
        by_cases q : b = d
        · rw [q] at e ⊢
          rw [upd_same, ← e]
          exact I.dc.symm
        · rw [upd_ne q]
          exact sm _ _ (by rw [← hHb, upd_ne q]; exact s2 _ _ e)
      · rcases List.mem_cons.mp hb with rfl | hb
        · exact np2
        rcases List.mem_cons.mp hb with rfl | hb
        · exact fresh hD
        obtain ⟨e, he, rfl⟩ := List.mem_map.mp hb
        exact fresh (hsh e he).1
end

/-! ### rows by their place -/
theorem upd_set {l : List RowS} (nd : (l.map (·.n)).Nodup) {k : Nat} {x : RowS} (h : l[k]? = some x) (f : RowS → RowS) : Wm.upd l x.n f = l.set k (f x) := by
  unfold Wm.upd
  apply List.ext_getElem?
  intro j
  rw [List.getElem?_map, List.getElem?_set]
  by_cases q : k = j
  · subst q
    rw [h, if_pos rfl]
    obtain ⟨hk, _⟩ := List.getElem?_eq_some_iff.mp h
    rw [if_pos hk]
    show some (if x.n = x.n then f x else x) = _
    rw [if_pos rfl]
  · rw [if_neg q]
    cases e : l[j]? with
    | none => rfl
    | some y =>
      show some (if y.n = x.n then f y else y) = some y
      rw [if_neg]
      intro z
      apply q
      have a1 : (l.map (·.n))[k]? = some x.n := by rw [List.getElem?_map, h]; rfl
      have a2 : (l.map (·.n))[j]? = some x.n := by rw [List.getElem?_map, e]; exact congrArg some z
      exact nd_ix nd a1 a2
theorem set_at {α : Type} {l : List α} {k : Nat} {x : α} (h : l[k]? = some x) : l.set k x = l := by
  apply List.ext_getElem?
  intro j
  rw [List.getElem?_set]
  by_cases q : k = j
  · subst q
    obtain ⟨hk, _⟩ := List.getElem?_eq_some_iff.mp h
    rw [if_pos rfl, if_pos hk, h]
  · rw [if_neg q]
theorem map_set {α β : Type} (g : α → β) (l : List α) (k : Nat) (x : α) : (l.set k x).map g = (l.map g).set k (g x) := List.map_set
theorem at_map {α β : Type} {l : List α} {k : Nat} {x : α} (g : α → β) (h : l[k]? = some x) : (l.map g)[k]? = some (g x) := by
  rw [List.getElem?_map, h]
  rfl
/-- the rows of W have these names, by places -/
theorem row_at {l : List RowS} {nm : Nat → Str} {m : Nat} (h : l.map (·.n) = (List.range m).map nm) {k : Nat} (hk : k < m) : ∃ x, l[k]? = some x ∧ x.n = nm k := by
  have a : (l.map (·.n))[k]? = some (nm k) := by
    rw [h, List.getElem?_map, List.getElem?_range hk]
    rfl
  rw [List.getElem?_map] at a
  cases e : l[k]? with
  | none =>
    rw [e] at a
    cases a
  | some x =>
    rw [e] at a
    exact ⟨x, rfl, Option.some.inj a⟩
theorem len_rows {l : List RowS} {nm : Nat → Str} {m : Nat} (h : l.map (·.n) = (List.range m).map nm) : l.length = m := by
  have := congrArg List.length h
  rw [List.length_map, List.length_map, List.length_range] at this
  exact this
theorem map_at {β : Type} {m k : Nat} (f : Nat → β) (hk : k < m) : ((List.range m).map f)[k]? = some (f k) := by
  rw [List.getElem?_map, List.getElem?_range hk]
  rfl
theorem range_snoc {β : Type} (f : Nat → β) (i : Nat) : (List.range (i + 1)).map f = (List.range i).map f ++ [f i] := by
  rw [List.range_succ, List.map_append]
  rfl
theorem small5000 {n : Nat} (h : n ≤ 5000) : n < sizeLine := Nat.lt_of_le_of_lt h (by decide)
/-! ### a text so many times -/
theorem foldl_app (xs : Array Nat) : ∀ (n : Nat) (acc : Array Nat), ((List.replicate n xs).foldl (fun x y => x ++ y) acc).toList = acc.toList ++ (List.replicate n xs.toList).flatten
  | 0, acc => by simp
  | n + 1, acc => by
    rw [List.replicate_succ, List.foldl_cons, foldl_app xs n (acc ++ xs), List.replicate_succ, List.flatten_cons, Array.toList_append, List.append_assoc]
theorem mul_codes (z : Str) (i : Int) : (Txt.mul z i).cps.toList = (List.replicate i.toNat z.cps.toList).flatten := by
  unfold Txt.mul
  by_cases h1 : i < 1
  · rw [if_pos h1]
    have : i.toNat = 0 := by omega
    rw [this]
    rfl
  · rw [if_neg h1]
    by_cases h2 : (i == 1 || z.length == 0) = true
    · rw [if_pos h2]
      rw [Bool.or_eq_true] at h2
      rcases h2 with h2 | h2
      · have : i = 1 := by simpa using h2
        subst this
        simp
      · have : z.cps.size = 0 := by
          have : z.length = 0 := by simpa using h2
          exact this
        have e : z.cps.toList = [] := by
          rw [← List.length_eq_zero_iff, Array.length_toList]
          exact this
        rw [e]
        induction i.toNat with
        | zero => rfl
        | succ n ih => rw [List.replicate_succ, List.flatten_cons, ← ih]; rfl
    · rw [if_neg h2]
      show ((List.replicate i.toNat z.cps).foldl (fun x y => x ++ y) #[]).toList = _
      rw [foldl_app]
      rfl
theorem op_mul_str {X : Cx} : OpR X (binaryOp .Mult) (fun x y H Q => ∃ z i, x = .str z ∧ y = .int i ∧ z.length ≤ 16 ∧ 0 ≤ i ∧ i ≤ 1048576 ∧ Q (.str (Txt.mul z i)) H) := by
  intro pins s σ H x y v u Q I rx ry h
  obtain ⟨z, i, rfl, rfl, h1, h2, h3, q⟩ := h
  obtain ⟨t, rfl⟩ := rx
  obtain ⟨t', rfl⟩ := ry
  refine SB.mul (mulOk_of 16 1048576 h1 h3 (by omega) (by decide) (by decide)) fun t2 k => ⟨.str (Txt.mul z i), H, I.tok k, ⟨t2, rfl⟩, q⟩
theorem ext_codes {x y : Str} (h : x.cps.toList = y.cps.toList) : x = y := by
  cases x
  cases y
  congr 1
  exact Array.toList_inj.mp h
theorem codes_app (x y : Str) : (x ++ y).cps.toList = x.cps.toList ++ y.cps.toList := by
  show (x.cps ++ y.cps).toList = _
  rw [Array.toList_append]
theorem codes_len (x : Str) : x.cps.toList.length = x.length := Array.length_toList
theorem mul_len (z : Str) (i : Nat) : (Txt.mul z (i : Int)).length = i * z.length := by
  rw [← codes_len, mul_codes, Int.toNat_natCast]
  induction i with
  | zero => simp
  | succ n ih => rw [List.replicate_succ, List.flatten_cons, List.length_append, ih, codes_len, Nat.succ_mul, Nat.add_comm]
/-! ### what all laws share -/
/-- any whole number comes -/
def spCell (K : PySem.W.Frag) : Sp := fun vs H Q _ => ∃ (a : Addr) (ns : List Int) (k : Int), vs = [.ref a, .int k] ∧ SqL K H a (ns.map V.int) ∧ 0 ≤ k ∧ ∀ z : Int, Q (.int z) H
def spTruth : Sp := fun vs H Q _ => ∃ b c, vs = [.bl b, .bl c] ∧ Q (.bl (decide (b = c))) H
/-- the script: a list that is locked, or of the written part -/
def Scr (K : PySem.W.Frag) (H : Hp) (a : Addr) (xs : List V) : Prop :=
  (∃ o, H a = some (.frz o (.lst xs))) ∨ (∃ (o : Obj) (its : Array Value) (n : Nat), K.lookup a = some o ∧ o.cls = .type "list" ∧ o.dict = none ∧ o.data = .seq its n ∧ its.size ≤ sizeLine ∧ Vals xs its.toList)
theorem Scr.sq {K : PySem.W.Frag} {H : Hp} {a : Addr} {xs : List V} (h : Scr K H a xs) : SqL K H a xs := by
  rcases h with h | h
  · exact .inl (.inr h)
  · exact .inr h
theorem Scr.of {K : PySem.W.Frag} {H : Hp} {a : Addr} {xs : List V} (hO : Only H) (h : SqL K H a xs) : Scr K H a xs := by
  rcases h with (h | h) | h
  · rcases hO a with q | ⟨o, ys, q⟩
    · rw [h] at q
      cases q
    · rw [h] at q
      cases q
  · exact .inl h
  · exact .inr h
theorem Scr.same {K : PySem.W.Frag} {H H' : Hp} {a : Addr} {xs : List V} (h : Scr K H a xs) (s : Same H H') : Scr K H' a xs := by
  rcases h with ⟨o, h⟩ | h
  · exact .inl ⟨o, s _ _ h⟩
  · exact .inr h
/-- through the store of what is no locked thing -/
theorem Scr.upd {K : PySem.W.Frag} {H : Hp} {a l : Addr} {xs : List V} {u v : HO} (h : Scr K H a xs) (e : H l = some u) (n : ∀ o w, u ≠ .frz o w) : Scr K (upd H l v) a xs := by
  rcases h with ⟨o, h⟩ | h
  · exact .inl ⟨o, by rw [upd_ne (fun z => by rw [z, e] at h; exact n _ _ (Option.some.inj h))]; exact h⟩
  · exact .inr h
theorem Scr.upl {K : PySem.W.Frag} {H : Hp} {a l : Addr} {xs ys : List V} {v : HO} (h : Scr K H a xs) (e : H l = some (.lst ys)) : Scr K (L2.upd H l v) a xs := h.upd e fun _ _ z => by cases z
theorem WAt.scr {CW CS : Addr} {H H' : Hp} {p : Addr} {W : WhS} {fp : List Addr} (h : WAt CW CS H p W fp) (k : Kept fp H H') {K : PySem.W.Frag} {a : Addr} {xs : List V} (e : Scr K H a xs) : Scr K H' a xs := by
  rcases e with ⟨o, e⟩ | e
  · exact .inl ⟨o, k _ _ e (h.frz e)⟩
  · exact .inr e
def spLaw (K : PySem.W.Frag) : Sp := fun vs H Q _ => ∃ (a : Addr) (ns : List Int), vs = [.ref a] ∧ Scr K H a (ns.map V.int) ∧ ns.length ≤ 63 ∧ ∀ H', Q (.bl true) H'
theorem ty_bl {K : PySem.W.Frag} {H : Hp} (b : Bool) : TyX K H (.bl b) (.type "bool") := .base (.bl b)
theorem ty_int {K : PySem.W.Frag} {H : Hp} (i : Int) : TyX K H (.int i) (.type "int") := .base (.int i)
theorem ty_str {K : PySem.W.Frag} {H : Hp} (z : Str) : TyX K H (.str z) (.type "str") := .base (.str z)
theorem kbb {K : PySem.W.Frag} : PySem.W.kitOne K (.type "bool") (.type "bool") = some true := kit_ty (by show kitB "bool" "bool" = some true; decide +kernel)
theorem kib {K : PySem.W.Frag} : PySem.W.kitOne K (.type "int") (.type "bool") = some false := kit_ty (by show kitB "int" "bool" = some false; decide +kernel)
theorem kii {K : PySem.W.Frag} : PySem.W.kitOne K (.type "int") (.type "int") = some true := kit_ty (by show kitB "int" "int" = some true; decide +kernel)
theorem kss {K : PySem.W.Frag} : PySem.W.kitOne K (.type "str") (.type "str") = some true := kit_ty (by show kitB "str" "str" = some true; decide +kernel)
section
variable {P : Program} {w : World} {K : PySem.W.Frag} {mg : Str → Option Value} {base : Heap} {CS CW CB CT CN : Addr}
end
theorem ixN_nat {n k : Nat} (h : k < n) : ixN n (k : Int) = some k := by
  unfold ixN
  rw [if_pos (by omega), if_pos (by omega)]
  rfl
theorem rep_flat {α : Type} (x : α) (n : Nat) : (List.replicate n [x]).flatten = List.replicate n x := by
  induction n with
  | zero => rfl
  | succ n ih => rw [List.replicate_succ, List.flatten_cons, ih, List.replicate_succ]; rfl
/-- only one is ready: it gets the turn -/
theorem best_own {l : List RowS} {k : Nat} {x : RowS} (h : l[k]? = some x) (hr : x.r = true) (ho : ∀ (j : Nat) (y : RowS), l[j]? = some y → y.r = true → j = k) : Wm.best l = some x := by
  cases e : Wm.best l with
  | none =>
    have := Wm.best_none.mp e x (List.mem_of_getElem? h)
    rw [hr] at this
    cases this
  | some b =>
    obtain ⟨h1, h2, _⟩ := Wm.best_some e
    obtain ⟨j, hj⟩ := List.getElem?_of_mem h2
    have := ho j b hj h1
    subst this
    rw [hj] at h
    exact h
theorem whose_some {W : WhS} {b : RowS} (e : Wm.best W.rows = some b) : Wm.whose W = some b.n := by
  unfold Wm.whose
  rw [e]
  rfl
theorem whose_none {W : WhS} (e : Wm.best W.rows = none) : Wm.whose W = none := by
  unfold Wm.whose
  rw [e]
  rfl
/-- a list stands through what a wheel does -/
theorem kl {CW CS : Addr} {H H' : Hp} {p l : Addr} {W : WhS} {fp fp' : List Addr} {xs : List V} (hW : WAt CW CS H p W fp) (st : Step fp H fp' H') (h : H l = some (.lst xs)) : H' l = some (.lst xs) := st.kept _ _ h (hW.lst h)
/-- a wheel stands through a list's store -/
theorem wl {CW CS : Addr} {H : Hp} {p l : Addr} {W : WhS} {fp : List Addr} {xs ys : List V} (hW : WAt CW CS H p W fp) (h : H l = some (.lst xs)) : WAt CW CS (upd H l (.lst ys)) p W fp :=
  hW.keep fun b hb o e => by
    rw [upd_ne]
    · exact e
    · intro z
      rw [z] at hb
      exact hW.lst h hb
theorem wf_m {q : Int} {d : Addr} {m : Str} (h1 : ¬ m = "past" := by decide +kernel) (h2 : ¬ m = "_sharers" := by decide +kernel) : (wf q d).lookup m = none := wf_no q d h1 h2
/-- a name among the names -/
theorem inV_names {W : WhS} {n : Str} : inV (.str n) (W.rows.map fun x => V.str x.n) = true ↔ Has W n := by
  unfold inV Has
  rw [List.any_map, List.any_eq_true]
  constructor
  · rintro ⟨x, hx, e⟩
    refine ⟨x, hx, ?_⟩
    have e : (x.n == n) = true := e
    exact eq_of_beq e
  · rintro ⟨x, hx, e⟩
    refine ⟨x, hx, ?_⟩
    show (x.n == n) = true
    rw [e]
    exact beq_self_eq_true _
theorem inV_strs {l : List Str} {n : Str} : inV (.str n) (l.map V.str) = true ↔ n ∈ l := by
  unfold inV
  rw [List.any_map, List.any_eq_true]
  constructor
  · rintro ⟨x, hx, e⟩
    have e : (x == n) = true := e
    rw [← eq_of_beq e]
    exact hx
  · intro h
    refine ⟨n, h, ?_⟩
    show (n == n) = true
    exact beq_self_eq_true _
theorem flat_strs (l : List Str) : (l.map V.str).all flatV = true := by
  rw [List.all_map, List.all_eq_true]
  intro x _
  rfl
theorem flat_names (l : List RowS) : (l.map fun x => V.str x.n).all flatV = true := by
  rw [List.all_map, List.all_eq_true]
  intro x _
  rfl
theorem upd_len (l : List RowS) (n : Str) (f : RowS → RowS) : (Wm.upd l n f).length = l.length := List.length_map _
theorem turn_len (W : WhS) : (Wm.turn W).rows.length = W.rows.length := by
  cases e : Wm.best W.rows with
  | none => rw [Wm.turn_none e]
  | some b => rw [Wm.turn_some e]; exact upd_len _ _ _
theorem turn_names (W : WhS) : (Wm.turn W).rows.map (·.n) = W.rows.map (·.n) := by
  cases e : Wm.best W.rows with
  | none => rw [Wm.turn_none e]
  | some b => rw [Wm.turn_some e]; exact Wm.names_upd fun _ => rfl
theorem rest_names (W : WhS) (n : Str) : (Wm.rest W n).rows.map (·.n) = W.rows.map (·.n) := Wm.names_upd (f := fun x => { x with r := false }) fun _ => rfl
theorem reshare_names (W : WhS) (n : Str) (s : Int) : (Wm.reshare W n s).rows.map (·.n) = W.rows.map (·.n) := Wm.names_upd (f := Wm.shared W.past s) fun _ => rfl
theorem wake_names (W : WhS) (n : Str) : (Wm.wake W n).rows.map (·.n) = W.rows.map (·.n) := Wm.names_upd (Wm.woken_n _)
theorem has_n {W : WhS} {n : Str} : Has W n ↔ n ∈ W.rows.map (·.n) := by
  unfold Has
  rw [List.mem_map]
theorem good_share {i : Int} (h1 : 1 ≤ i) (h2 : i ≤ 12) (h : good (.int i) = false) : False := by
  have : (decide (1 ≤ i) && decide (i ≤ 12)) = false := h
  rw [decide_eq_true h1, decide_eq_true h2] at this
  cases this
/-- a text's number -/
def num (k : Nat) : Str := Str.ofString (toString ((k : Nat) : Int))
theorem Th.same {H H' : Hp} {x : V} (h : Th H x) (s : Same H H') : Th H' x := by
  cases h with
  | lst e => exact .lst (s _ _ e)
  | int i => exact .int i
  | bl b => exact .bl b
  | non => exact .non
  | str z => exact .str z
/-! ### isinstance of a caught error, of any class of ours -/
def rIsA (K : PySem.W.Frag) (a : Addr) (cls : Value) (d : Option Addr) : List V → Hp → VK → Prop := fun xs H Q => ∃ D, ExcC K D ∧ cls = .ref D ∧ d = none ∧ rIsE K D a xs H Q
theorem call_isA {X : Cx} {a : Addr} {oe : Obj} {pn : List (Addr × Obj)} {cls : Value} {d : Option Addr} (hz : Zc cls d oe) (hf : ∃ vs, oe.data = .fields vs) :
    CallR (X.suite a ((a, oe) :: pn)) (.builtin "isinstance") (rIsA X.K a cls d) := by
  intro pins s σ H xs us Q I r h
  obtain ⟨D, C, rfl, rfl, h⟩ := h
  exact call_isE C hz hf pins s σ H xs us Q I r h
structure InsT (K : PySem.W.Frag) (C : Addr) : Prop where
  ha : PySem.W.findIn K (.ref C) "__class__" = some (some (.builtin "object.__class__"))
  hn : PySem.W.specialIn K (.builtin "object.__class__") "__get__" = some (some (.builtin "getset_descriptor.__get__"))
  ht : PySem.W.takesIn K (.builtin "object.__class__") = some true
  hm : PySem.W.mroIn K C (.type "object") = some true
theorem InsT.ty {K : PySem.W.Frag} {C a dx : Addr} {H : Hp} {fs : List (Str × V)} (h : InsT K C) (cl : Cls K C) (e : H a = some (.ins C dx fs)) : TyX K H (.ref a) (.ref C) := .base (.ins e cl h.ha h.hn h.ht h.hm)
/-! ### data compared -/
def rEqP (K : PySem.W.Frag) : R2 := fun x y H Q => ∃ d e, Dp K H x d ∧ Dp K H y e ∧ d.plain = true ∧ e.plain = true ∧ d.depth ≤ 64 ∧ Q (.bl (PyData.eqv d e)) H
def rNeP (K : PySem.W.Frag) : R2 := fun x y H Q => ∃ d e, Dp K H x d ∧ Dp K H y e ∧ d.plain = true ∧ e.plain = true ∧ d.depth ≤ 64 ∧ Q (.bl (!PyData.eqv d e)) H
theorem room64 {A : Around} {d e : PyData} (h : d.depth ≤ 64) (hu : A.units + 64 < cLine) : A.units + min d.depth e.depth < cLine := by
  have := Nat.min_le_left d.depth e.depth
  omega
theorem op_eqP {X : Cx} {K0 : PySem.W.Frag} (hu : X.A.units + 64 < cLine) (hK : X.K = K0 := by rfl) : OpR X (compareOp .Eq) (rEqP K0) := by
  subst hK
  intro pins s σ H x y v u Q I rx ry h
  obtain ⟨d, e, hd, he, sd, se, dd, q⟩ := h
  obtain ⟨as, r1⟩ := Dp.reads I d x v hd rx
  obtain ⟨bs, r2⟩ := Dp.reads I e y u he ry
  exact SeqAt.eq_plain r1 r2 sd se (room64 dd hu) ⟨.bl _, H, I, rfl, q⟩
theorem op_neP {X : Cx} {K0 : PySem.W.Frag} (hu : X.A.units + 64 < cLine) (hK : X.K = K0 := by rfl) : OpR X (compareOp .NotEq) (rNeP K0) := by
  subst hK
  intro pins s σ H x y v u Q I rx ry h
  obtain ⟨d, e, hd, he, sd, se, dd, q⟩ := h
  obtain ⟨as, r1⟩ := Dp.reads I d x v hd rx
  obtain ⟨bs, r2⟩ := Dp.reads I e y u he ry
  exact SeqAt.ne_plain r1 r2 sd se (room64 dd hu) ⟨.bl _, H, I, rfl, q⟩
theorem plain_all : ∀ {ds : List PyData}, (∀ d ∈ ds, d.plain = true) → PyData.plainAll ds = true
  | [], _ => rfl
  | d :: ds, h => by
    show (d.plain && PyData.plainAll ds) = true
    rw [h d List.mem_cons_self, plain_all fun x hx => h x (List.mem_cons_of_mem _ hx)]
    rfl
theorem dep_all {k : Nat} : ∀ {ds : List PyData}, (∀ d ∈ ds, d.depth ≤ k) → PyData.depthAll ds ≤ k
  | [], _ => Nat.zero_le _
  | d :: ds, h => by
    show max d.depth (PyData.depthAll ds) ≤ k
    exact Nat.max_le.mpr ⟨h d List.mem_cons_self, dep_all fun x hx => h x (List.mem_cons_of_mem _ hx)⟩
/-- a list of small data -/
def Sm (k : Nat) (d : PyData) : Prop := d.plain = true ∧ d.depth ≤ k
theorem Sm.list {k : Nat} {ds : List PyData} (h : ∀ d ∈ ds, Sm k d) : Sm (k + 1) (.list ds) := ⟨plain_all fun d hd => (h d hd).1, Nat.succ_le_succ (dep_all fun d hd => (h d hd).2)⟩
theorem Sm.tup {k : Nat} {ds : List PyData} (h : ∀ d ∈ ds, Sm k d) : Sm (k + 1) (.tuple ds) := ⟨plain_all fun d hd => (h d hd).1, Nat.succ_le_succ (dep_all fun d hd => (h d hd).2)⟩
theorem Sm.str (k : Nat) (s : Str) : Sm k (.str s) := ⟨rfl, Nat.zero_le _⟩
theorem Sm.int (k : Nat) (s : Int) : Sm k (.int s) := ⟨rfl, Nat.zero_le _⟩
theorem Sm.bl (k : Nat) (s : Bool) : Sm k (.bool s) := ⟨rfl, Nat.zero_le _⟩
theorem Sm.up {j k : Nat} {d : PyData} (h : Sm j d) (e : j ≤ k) : Sm k d := ⟨h.1, Nat.le_trans h.2 e⟩
theorem Sm.strs {k : Nat} (ss : List Str) : Sm (k + 1) (.list (ss.map PyData.str)) := Sm.list fun d hd => by
  obtain ⟨s, _, rfl⟩ := List.mem_map.mp hd
  exact .str _ _
theorem DpAll.map {α : Type} {K : PySem.W.Frag} {H : Hp} {f : α → V} {g : α → PyData} : ∀ {l : List α}, (∀ x ∈ l, Dp K H (f x) (g x)) → DpAll K H (l.map f) (l.map g)
  | [], _ => .nil
  | a :: l, h => .cons (h a List.mem_cons_self) (DpAll.map fun x hx => h x (List.mem_cons_of_mem _ hx))
theorem DpAll.app {K : PySem.W.Frag} {H : Hp} : ∀ {xs ys : List V} {ds es : List PyData}, DpAll K H xs ds → DpAll K H ys es → DpAll K H (xs ++ ys) (ds ++ es)
  | _, _, _, _, .nil, h => h
  | _, _, _, _, .cons a b, h => .cons a (DpAll.app b h)
/-- by places -/
theorem DpAll.of {K : PySem.W.Frag} {H : Hp} : ∀ {xs : List V} {ds : List PyData}, xs.length = ds.length → (∀ (i : Nat) (x : V) (d : PyData), xs[i]? = some x → ds[i]? = some d → Dp K H x d) → DpAll K H xs ds
  | [], [], _, _ => .nil
  | [], _ :: _, h, _ => by simp at h
  | _ :: _, [], h, _ => by simp at h
  | x :: xs, d :: ds, h, f => .cons (f 0 x d rfl rfl) (DpAll.of (by simpa using h) fun i y e h1 h2 => f (i + 1) y e (by simpa using h1) (by simpa using h2))
theorem Dp.strs {K : PySem.W.Frag} {H : Hp} {l : Addr} {ss : List Str} (h : SqL K H l (ss.map V.str)) : Dp K H (.ref l) (.list (ss.map PyData.str)) := .lst h (DpAll.map fun x _ => .str x)
/-- x == y of the same data -/
theorem eq_same {K : PySem.W.Frag} {H : Hp} {x y : V} {d : PyData} {Q : VK} (h1 : Dp K H x d) (h2 : Dp K H y d) (h : Sm 64 d) (q : Q (.bl true) H) : rEqP K x y H Q := ⟨d, d, h1, h2, h.1, h.1, h.2, by rw [SeqAt.eqv_refl_plain d h.1]; exact q⟩
theorem ne_same {K : PySem.W.Frag} {H : Hp} {x y : V} {d : PyData} {Q : VK} (h1 : Dp K H x d) (h2 : Dp K H y d) (h : Sm 64 d) (q : Q (.bl false) H) : rNeP K x y H Q := ⟨d, d, h1, h2, h.1, h.1, h.2, by rw [SeqAt.eqv_refl_plain d h.1]; exact q⟩
theorem names_v {l : List RowS} {nl : List Str} (h : l.map (·.n) = nl) : (l.map fun x => V.str x.n) = nl.map V.str := by
  rw [← h, List.map_map]
  rfl
/-! ### lists of tuples -/
inductive TA2 (H : Hp) : List Addr → List (List V) → Prop
  | nil : TA2 H [] []
  | cons {t : Addr} {vs : List V} {ts : List Addr} {vss : List (List V)} : H t = some (.tup vs) → TA2 H ts vss → TA2 H (t :: ts) (vs :: vss)
theorem TA2.mono {H H' : Hp} (k : ∀ t vs, H t = some (.tup vs) → H' t = some (.tup vs)) : ∀ {ts : List Addr} {vss : List (List V)}, TA2 H ts vss → TA2 H' ts vss
  | _, _, .nil => .nil
  | _, _, .cons a b => .cons (k _ _ a) (b.mono k)
theorem TA2.len {H : Hp} : ∀ {ts : List Addr} {vss : List (List V)}, TA2 H ts vss → ts.length = vss.length
  | _, _, .nil => rfl
  | _, _, .cons _ b => congrArg (· + 1) b.len
theorem TA2.app {H : Hp} : ∀ {ts us : List Addr} {vss wss : List (List V)}, TA2 H ts vss → TA2 H us wss → TA2 H (ts ++ us) (vss ++ wss)
  | _, _, _, _, .nil, h => h
  | _, _, _, _, .cons a b, h => .cons a (b.app h)
theorem TA2.at {H : Hp} : ∀ {ts : List Addr} {vss : List (List V)} {i : Nat} {vs : List V}, TA2 H ts vss → vss[i]? = some vs → ∃ t, ts[i]? = some t ∧ H t = some (.tup vs)
  | _, _, 0, _, .cons a _, h => by
    cases h
    exact ⟨_, rfl, a⟩
  | _, _, i + 1, _, .cons _ b, h => b.at (i := i) (by simpa using h)
  | _, _, _, _, .nil, h => by simp at h
theorem TA2.dp {α : Type} {K : PySem.W.Frag} {H : Hp} {f : α → List V} {g : α → List PyData} (fg : ∀ x, DpAll K H (f x) (g x)) : ∀ {l : List α} {ts : List Addr}, TA2 H ts (l.map f) → DpAll K H (ts.map V.ref) (l.map fun x => PyData.tuple (g x))
  | [], [], .nil => .nil
  | x :: l, t :: ts, .cons a b => .cons (.tup (.inl (.inl a)) (fg x)) (TA2.dp fg b)
/-- a list of tuples -/
def Tl (H : Hp) (l : Addr) (vss : List (List V)) : Prop := ∃ ts, H l = some (.lst (ts.map V.ref)) ∧ TA2 H ts vss
theorem Tl.same {H H' : Hp} {l : Addr} {vss : List (List V)} (h : Tl H l vss) (s : Same H H') : Tl H' l vss := by
  obtain ⟨ts, a, b⟩ := h
  exact ⟨ts, s _ _ a, b.mono fun t vs e => s _ _ e⟩
theorem Tl.kept {CW CS : Addr} {H H' : Hp} {p l : Addr} {W : WhS} {fp : List Addr} {vss : List (List V)} (h : Tl H l vss) (hW : WAt CW CS H p W fp) (k : Kept fp H H') : Tl H' l vss := by
  obtain ⟨ts, a, b⟩ := h
  exact ⟨ts, k _ _ a (hW.lst a), b.mono fun t vs e => k _ _ e (hW.tup e)⟩
theorem Tl.nil {H : Hp} {l : Addr} (h : H l = some (.lst [])) : Tl H l [] := ⟨[], h, .nil⟩
theorem Tl.at {H : Hp} {l : Addr} {vss : List (List V)} {i : Nat} {vs : List V} (h : Tl H l vss) (e : vss[i]? = some vs) : ∃ xs t, H l = some (.lst xs) ∧ xs[i]? = some (.ref t) ∧ H t = some (.tup vs) := by
  obtain ⟨ts, a, b⟩ := h
  obtain ⟨t, t1, t2⟩ := b.at e
  exact ⟨_, t, a, by rw [List.getElem?_map, t1]; rfl, t2⟩
theorem Tl.len {H : Hp} {l : Addr} {vss : List (List V)} (h : Tl H l vss) : ∃ xs, H l = some (.lst xs) ∧ xs.length = vss.length := by
  obtain ⟨ts, a, b⟩ := h
  exact ⟨_, a, by rw [List.length_map, b.len]⟩
/-- one more tuple at the end, in place -/
theorem Tl.snoc {H : Hp} {l t : Addr} {vss : List (List V)} {vs : List V} (h : Tl H l vss) (ht : H t = none) : ∃ xs, H l = some (.lst xs) ∧ xs.length = vss.length ∧ Tl (upd (upd H t (.tup vs)) l (.lst (xs ++ [.ref t]))) l (vss ++ [vs]) := by
  obtain ⟨ts, a, b⟩ := h
  refine ⟨_, a, by rw [List.length_map, b.len], ts ++ [t], by rw [upd_same, List.map_append]; rfl, TA2.app (b.mono fun u us e => ?_) (.cons ?_ .nil)⟩
  · rw [upd_ne (fun z => by rw [z, a] at e; cases e), upd_ne (ne_of_none e ht)]
    exact e
  · rw [upd_ne (ne_of_none a ht).symm, upd_same]
theorem Tl.dp {α : Type} {K : PySem.W.Frag} {H : Hp} {l : Addr} {f : α → List V} {g : α → List PyData} (fg : ∀ x, DpAll K H (f x) (g x)) {as : List α} (h : Tl H l (as.map f)) : Dp K H (.ref l) (.list (as.map fun x => PyData.tuple (g x))) := by
  obtain ⟨ts, a, b⟩ := h
  exact .lst (SqL.of a) (b.dp fg)
theorem TA2.take {H : Hp} {α : Type} {f : α → List V} {ps : List α} {ts : List Addr} (h : TA2 H ts (ps.map f)) {i : Nat} {x : α} (e : ps[i]? = some x) : ∃ t, ts[i]? = some t ∧ H t = some (.tup (f x)) :=
  h.at (by rw [List.getElem?_map, e]; rfl)
theorem take_snoc {α : Type} {l : List α} {i : Nat} {x : α} (e : l[i]? = some x) : l.take (i + 1) = l.take i ++ [x] := by
  rw [List.take_add_one, e]
  rfl
/-- a comprehension over a list of tuples, with a test: the tuples themselves -/
theorem lc_tf {K : PySem.W.Frag} {α : Type} {f : α → List V} {ps : List α} {a : Addr} {g : TG} {tt : TT} {te : TE} {vs : List Nat} {σ : L2.St} {H : Hp} {D : Addr} {Qd : Hp → Prop} (pr : α → Bool) (h : Tl H a (ps.map f)) (hD : H D = none) (hlen : ps.length ≤ 1000)
    (hs : ∀ x ∈ ps, ∀ t H', Same H H' → H' t = some (.tup (f x)) → ∀ (Y : V → Hp → Prop) (Z : Hp → Prop), (pr x = true → Y (.ref t) H') → (pr x = false → Z H') →
      g (.ref t) (wipe σ vs) H' fun σ2 H2 => wipe σ2 vs = wipe σ vs ∧ tt σ2 H2 fun b H3 => if b = true then te σ2 H3 Y else Z H3)
    (hd : ∀ H', Same H H' → Tl H' D ((ps.filter pr).map f) → Qd H') :
    ∃ W : Nat → Nat → Hp → Prop, (∃ m, W 0 m (upd H D (.lst []))) ∧ ∀ i m H, W i m H →
      ((Itl K a).stop i H ∧ Qd H) ∨ ((Itl K a).go i H ∧ ∃ Nx : Hp → Prop, (∀ H', Nx H' → ∃ m', m' < m ∧ W (i + 1) m' H') ∧ ∀ x H', (Itl K a).yld i H x H' → g x (wipe σ vs) H' fun σ2 H2 => wipe σ2 vs = wipe σ vs ∧ tt σ2 H2 fun b H3 =>
        if b = true then te σ2 H3 fun y H4 => ∃ acc, H4 D = some (.lst acc) ∧ acc.length < sizeLine ∧ Nx (upd H4 D (.lst (acc ++ [y]))) else Nx H3) := by
  obtain ⟨ts, h1, h2⟩ := h
  have hl : (ts.map V.ref).length = ps.length := by rw [List.length_map, h2.len, List.length_map]
  refine lc_list (K := K) (a := a) (xs := ts.map V.ref) (fun i H' => Same H H' ∧ ∃ us, H' D = some (.lst (us.map V.ref)) ∧ TA2 H' us (((ps.take i).filter pr).map f)) ⟨same_upd hD, [], upd_same, .nil⟩ (fun i H' _ e => SqL.of (e.1 _ _ h1)) ?_ ?_
  · rintro i v H' hv ⟨s, us, u1, u2⟩
    have hi : i < ps.length := by rw [← hl]; exact (List.getElem?_eq_some_iff.mp hv).1
    have ex : ps[i]? = some ps[i] := by simp [hi]
    generalize ps[i] = x at ex
    obtain ⟨t, t1, t2⟩ := h2.take ex
    rw [List.getElem?_map, t1] at hv
    cases hv
    refine hs x (List.mem_of_getElem? ex) t H' s (s _ _ t2) _ _ (fun e => ?_) (fun e => ?_)
    · refine ⟨us.map V.ref, u1, ?_, fun b o e2 => ?_, us ++ [t], by rw [upd_same, List.map_append]; rfl, ?_⟩
      · rw [List.length_map, u2.len, List.length_map]
        refine small1000 (Nat.le_trans (List.length_filter_le _ _) ?_)
        rw [List.length_take]
        omega
      · rw [upd_ne (fun z => by rw [z, hD] at e2; cases e2)]
        exact s _ _ e2
      · rw [take_snoc ex, List.filter_append, List.map_append]
        have : [x].filter pr = [x] := by simp [e]
        rw [this]
        exact TA2.app (u2.mono fun z w e2 => by rw [upd_ne (fun q => by rw [q, u1] at e2; cases e2)]; exact e2) (.cons (by rw [upd_ne (fun q => by rw [q] at t2; rw [hD] at t2; cases t2)]; exact s _ _ t2) .nil)
    · refine ⟨s, us, u1, ?_⟩
      rw [take_snoc ex, List.filter_append]
      have : [x].filter pr = [] := by simp [e]
      rw [this, List.append_nil]
      exact u2
  · rintro H' ⟨s, us, u1, u2⟩
    rw [hl, List.take_length] at u2
    exact hd H' s ⟨us, u1, u2⟩
/-- a comprehension over a list of tuples, without a test: flat values -/
theorem lc_tm {K : PySem.W.Frag} {α : Type} {f : α → List V} {ps : List α} {a : Addr} {g : TG} {tt : TT} {te : TE} {vs : List Nat} {σ : L2.St} {H : Hp} {D : Addr} {Qd : Hp → Prop} (fv : α → V) (h : Tl H a (ps.map f)) (hD : H D = none) (hlen : ps.length ≤ 1000)
    (hs : ∀ x ∈ ps, ∀ t H', Same H H' → H' t = some (.tup (f x)) → ∀ (Y : V → Hp → Prop) (Z : Hp → Prop), Y (fv x) H' →
      g (.ref t) (wipe σ vs) H' fun σ2 H2 => wipe σ2 vs = wipe σ vs ∧ tt σ2 H2 fun b H3 => if b = true then te σ2 H3 Y else Z H3)
    (hd : ∀ H', Same H H' → H' D = some (.lst (ps.map fv)) → Qd H') :
    ∃ W : Nat → Nat → Hp → Prop, (∃ m, W 0 m (upd H D (.lst []))) ∧ ∀ i m H, W i m H →
      ((Itl K a).stop i H ∧ Qd H) ∨ ((Itl K a).go i H ∧ ∃ Nx : Hp → Prop, (∀ H', Nx H' → ∃ m', m' < m ∧ W (i + 1) m' H') ∧ ∀ x H', (Itl K a).yld i H x H' → g x (wipe σ vs) H' fun σ2 H2 => wipe σ2 vs = wipe σ vs ∧ tt σ2 H2 fun b H3 =>
        if b = true then te σ2 H3 fun y H4 => ∃ acc, H4 D = some (.lst acc) ∧ acc.length < sizeLine ∧ Nx (upd H4 D (.lst (acc ++ [y]))) else Nx H3) := by
  obtain ⟨ts, h1, h2⟩ := h
  have hl : (ts.map V.ref).length = ps.length := by rw [List.length_map, h2.len, List.length_map]
  refine lc_list (K := K) (a := a) (xs := ts.map V.ref) (fun i H' => Same H H' ∧ H' D = some (.lst ((ps.take i).map fv))) ⟨same_upd hD, upd_same⟩ (fun i H' _ e => SqL.of (e.1 _ _ h1)) ?_ ?_
  · rintro i v H' hv ⟨s, u1⟩
    have hi : i < ps.length := by rw [← hl]; exact (List.getElem?_eq_some_iff.mp hv).1
    have ex : ps[i]? = some ps[i] := by simp [hi]
    generalize ps[i] = x at ex
    obtain ⟨t, t1, t2⟩ := h2.take ex
    rw [List.getElem?_map, t1] at hv
    cases hv
    refine hs x (List.mem_of_getElem? ex) t H' s (s _ _ t2) _ _ ?_
    refine ⟨_, u1, ?_, fun b o e2 => ?_, ?_⟩
    · rw [List.length_map]
      refine small1000 ?_
      rw [List.length_take]
      omega
    · rw [upd_ne (fun z => by rw [z, hD] at e2; cases e2)]
      exact s _ _ e2
    · rw [upd_same, take_snoc ex, List.map_append]
      rfl
  · rintro H' ⟨s, u1⟩
    rw [hl, List.take_length] at u1
    exact hd H' s u1
theorem eqv_nils : PyData.eqv (.list []) (.list []) = true := SeqAt.eqv_refl_plain _ rfl
theorem eqv_cons_nil (d : PyData) (ds : List PyData) : PyData.eqv (.list (d :: ds)) (.list []) = false := by
  show PyData.eqvAll (d :: ds) [] = false
  rw [PyData.eqvAll]
/-- a list of tuples != [] -/
theorem ne_empty {K : PySem.W.Frag} {α : Type} {H : Hp} {l l0 : Addr} {f : α → List V} {g : α → List PyData} {as : List α} {Q : VK} (fg : ∀ x, DpAll K H (f x) (g x)) (h : Tl H l (as.map f)) (h0 : H l0 = some (.lst [])) (gs : ∀ x, ∀ d ∈ g x, Sm 60 d) (q : Q (.bl (!as.isEmpty)) H) : rNeP K (.ref l) (.ref l0) H Q := by
  have sm : Sm 64 (.list (as.map fun x => PyData.tuple (g x))) := Sm.up (j := 62) (Sm.list fun d hd => by
    obtain ⟨x, _, rfl⟩ := List.mem_map.mp hd
    exact Sm.tup (gs x)) (by decide)
  refine ⟨_, _, h.dp fg, .lst (SqL.of h0) .nil, sm.1, rfl, sm.2, ?_⟩
  cases as with
  | nil => rw [List.map_nil, eqv_nils]; exact q
  | cons x as => rw [List.map_cons, eqv_cons_nil]; exact q
theorem TA2.set {H : Hp} : ∀ {ts : List Addr} {vss : List (List V)} {k : Nat} {t : Addr} {vs : List V}, TA2 H ts vss → H t = some (.tup vs) → TA2 H (ts.set k t) (vss.set k vs)
  | _, _, _, _, _, .nil, _ => .nil
  | _, _, 0, _, _, .cons _ b, h => .cons h b
  | _, _, k + 1, _, _, .cons a b, h => .cons a (b.set (k := k) h)
/-- one tuple set anew -/
theorem Tl.set {H : Hp} {l t : Addr} {vss : List (List V)} {k : Nat} {vs : List V} (h : Tl H l vss) (hk : k < vss.length) (ht : H t = none) :
    ∃ xs, H l = some (.lst xs) ∧ ixN xs.length (k : Int) = some k ∧ Tl (upd (upd H t (.tup vs)) l (.lst (xs.set k (.ref t)))) l (vss.set k vs) := by
  obtain ⟨ts, a, b⟩ := h
  have hl := b.len
  refine ⟨_, a, ixN_nat (by rw [List.length_map, hl]; exact hk), ts.set k t, by rw [upd_same, List.map_set], TA2.set (b.mono fun u us e => ?_) ?_⟩
  · rw [upd_ne (fun z => by rw [z, a] at e; cases e), upd_ne (ne_of_none e ht)]
    exact e
  · rw [upd_ne (ne_of_none a ht).symm, upd_same]
/-- a list of tuples stands while another list is stored to -/
theorem Tl.upl {H : Hp} {l l' : Addr} {vss : List (List V)} {xs ys : List V} (h : Tl H l vss) (e : H l' = some (.lst xs)) (ne : l ≠ l') : Tl (upd H l' (.lst ys)) l vss := by
  obtain ⟨ts, a, b⟩ := h
  exact ⟨ts, by rw [upd_ne ne]; exact a, b.mono fun t vs h2 => by rw [upd_ne (fun z => by rw [z, e] at h2; cases h2)]; exact h2⟩
/-- a comprehension over names: tuples of what was told of each -/
theorem lc_nt {K : PySem.W.Frag} {rows : List RowS} {ln : Addr} {g : TG} {tt : TT} {te : TE} {vs : List Nat} {σ : L2.St} {H : Hp} {D : Addr} {Qd : Hp → Prop} (tv : RowS → List V) (hn : H ln = some (.lst (rows.map fun x => V.str x.n))) (hD : H D = none) (hlen : rows.length ≤ 1000)
    (hs : ∀ x ∈ rows, ∀ H', Same H H' → ∀ (Y : V → Hp → Prop) (Z : Hp → Prop), (∀ t, H' t = none → Y (.ref t) (upd H' t (.tup (tv x)))) →
      g (.str x.n) (wipe σ vs) H' fun σ2 H2 => wipe σ2 vs = wipe σ vs ∧ tt σ2 H2 fun b H3 => if b = true then te σ2 H3 Y else Z H3)
    (hd : ∀ H', Same H H' → Tl H' D (rows.map tv) → Qd H') :
    ∃ W : Nat → Nat → Hp → Prop, (∃ m, W 0 m (upd H D (.lst []))) ∧ ∀ i m H, W i m H →
      ((Itl K ln).stop i H ∧ Qd H) ∨ ((Itl K ln).go i H ∧ ∃ Nx : Hp → Prop, (∀ H', Nx H' → ∃ m', m' < m ∧ W (i + 1) m' H') ∧ ∀ x H', (Itl K ln).yld i H x H' → g x (wipe σ vs) H' fun σ2 H2 => wipe σ2 vs = wipe σ vs ∧ tt σ2 H2 fun b H3 =>
        if b = true then te σ2 H3 fun y H4 => ∃ acc, H4 D = some (.lst acc) ∧ acc.length < sizeLine ∧ Nx (upd H4 D (.lst (acc ++ [y]))) else Nx H3) := by
  have hl : (rows.map fun x => V.str x.n).length = rows.length := List.length_map _
  refine lc_list (K := K) (a := ln) (xs := rows.map fun x => V.str x.n) (fun i H' => Same H H' ∧ Tl H' D ((rows.take i).map tv)) ⟨same_upd hD, Tl.nil upd_same⟩ (fun i H' _ e => SqL.of (e.1 _ _ hn)) ?_ ?_
  · rintro i v H' hv ⟨s, u1⟩
    have hi : i < rows.length := by rw [← hl]; exact (List.getElem?_eq_some_iff.mp hv).1
    have ex : rows[i]? = some rows[i] := by simp [hi]
    generalize rows[i] = x at ex
    rw [List.getElem?_map, ex] at hv
    cases hv
    refine hs x (List.mem_of_getElem? ex) H' s _ _ fun t ht => ?_
    obtain ⟨xs, x1, x2, x3⟩ := u1.snoc (vs := tv x) ht
    refine ⟨xs, ?_, ?_, fun b o e2 => ?_, ?_⟩
    · rw [upd_ne (ne_of_none x1 ht)]
      exact x1
    · rw [x2, List.length_map, List.length_take]
      exact small1000 (by omega)
    · rw [upd_ne (fun z => by rw [z, hD] at e2; cases e2)]
      exact same_upd ht _ _ (s _ _ e2)
    · rw [take_snoc ex, List.map_append]
      exact x3
  · rintro H' ⟨s, u1⟩
    rw [hl, List.take_length] at u1
    exact hd H' s u1
/-- the place of the one who gets the turn -/
def bestV (rows : List RowS) (v : V) : Prop := (Wm.best rows = none ∧ v = .non) ∨ ∃ (k : Nat) (b : RowS), rows[k]? = some b ∧ Wm.best rows = some b ∧ v = .int (k : Int)
theorem bestV_keep {l : List RowS} {x : RowS} {v : V} (h : bestV l v) (e : Wm.pick (Wm.best l) x = Wm.best l) : bestV (l ++ [x]) v := by
  rcases h with ⟨a, b⟩ | ⟨k, b, h1, h2, h3⟩
  · exact .inl ⟨by rw [Wm.best_snoc, e]; exact a, b⟩
  · refine .inr ⟨k, b, ?_, by rw [Wm.best_snoc, e]; exact h2, h3⟩
    rw [List.getElem?_append_left (List.getElem?_eq_some_iff.mp h1).1]
    exact h1
theorem bestV_new {l : List RowS} {x : RowS} (e : Wm.pick (Wm.best l) x = some x) : bestV (l ++ [x]) (.int (l.length : Int)) :=
  .inr ⟨l.length, x, by simp, by rw [Wm.best_snoc, e], rfl⟩
theorem scal_optN (o : Option Str) : scal (optN o) (optN o) = true := by cases o <;> rfl
theorem ne_self {H : Hp} {x : V} {Q : VK} (h : scal x x = true) (q : Q (.bl false) H) : rNe x x H Q := ⟨h, by rw [decide_eq_true rfl]; exact q⟩

/-! ### the mirror of a house -/
section
variable {β : Type}
def keys (l : List (Str × β)) : List Str := l.map (·.1)
def lk : List (Str × β) → Str → Option β
  | [], _ => none
  | e :: r, n => if e.1 = n then some e.2 else lk r n
def pt (l : List (Str × β)) (n : Str) (v : β) : List (Str × β) := l.map fun e => if e.1 = n then (e.1, v) else e
def dp (l : List (Str × β)) (n : Str) : List (Str × β) := l.filter fun e => decide (e.1 ≠ n)
theorem lk_mem : ∀ {l : List (Str × β)} {n : Str} {v : β}, lk l n = some v → (n, v) ∈ l
  | [], _, _, h => by cases h
  | e :: r, n, v, h => by
    unfold lk at h
    by_cases q : e.1 = n
    · rw [if_pos q] at h
      cases h
      subst q
      exact List.mem_cons_self
    · rw [if_neg q] at h
      exact List.mem_cons_of_mem _ (lk_mem h)
theorem lk_none_iff : ∀ {l : List (Str × β)} {n : Str}, lk l n = none ↔ n ∉ keys l
  | [], _ => by simp [lk, keys]
  | e :: r, n => by
    unfold lk keys
    by_cases q : e.1 = n
    · rw [if_pos q]
      simp [q]
    · rw [if_neg q, lk_none_iff]
      simp [keys, Ne.symm q, eq_comm, q]
theorem lk_of : ∀ {l : List (Str × β)} {n : Str} {v : β}, (keys l).Nodup → (n, v) ∈ l → lk l n = some v
  | [], _, _, _, h => (nomatch h)
  | e :: r, n, v, nd, h => by
    unfold keys at nd
    rw [List.map_cons, List.nodup_cons] at nd
    unfold lk
    rcases List.mem_cons.mp h with h | h
    · rw [← h, if_pos rfl]
    · have : e.1 ≠ n := fun z => nd.1 (by rw [z]; exact List.mem_map.mpr ⟨_, h, rfl⟩)
      rw [if_neg this]
      exact lk_of nd.2 h
theorem lk_some_key {l : List (Str × β)} {n : Str} {v : β} (h : lk l n = some v) : n ∈ keys l := List.mem_map.mpr ⟨_, lk_mem h, rfl⟩
theorem key_lk {l : List (Str × β)} {n : Str} (h : n ∈ keys l) : ∃ v, lk l n = some v := by
  cases e : lk l n with
  | none => exact (lk_none_iff.mp e h).elim
  | some v => exact ⟨v, rfl⟩
theorem keys_pt (l : List (Str × β)) (n : Str) (v : β) : keys (pt l n v) = keys l := by
  unfold keys pt
  rw [List.map_map]
  refine List.map_congr_left fun e _ => ?_
  by_cases q : e.1 = n <;> simp [Function.comp, q]
theorem lk_pt_ne : ∀ {l : List (Str × β)} {n m : Str} {v : β}, m ≠ n → lk (pt l n v) m = lk l m
  | [], _, _, _, _ => rfl
  | e :: r, n, m, v, h => by
    show lk ((if e.1 = n then (e.1, v) else e) :: pt r n v) m = lk (e :: r) m
    unfold lk
    by_cases q : e.1 = n
    · rw [if_pos q]
      have : e.1 ≠ m := fun z => h (by rw [← z, q])
      rw [if_neg this, if_neg this]
      exact lk_pt_ne h
    · rw [if_neg q]
      by_cases q2 : e.1 = m
      · rw [if_pos q2, if_pos q2]
      · rw [if_neg q2, if_neg q2]
        exact lk_pt_ne h
theorem lk_pt : ∀ {l : List (Str × β)} {n : Str} {v u : β}, lk l n = some u → lk (pt l n v) n = some v
  | [], _, _, _, h => by cases h
  | e :: r, n, v, u, h => by
    show lk ((if e.1 = n then (e.1, v) else e) :: pt r n v) n = some v
    unfold lk at h ⊢
    by_cases q : e.1 = n
    · rw [if_pos q]
      rw [if_pos q]
    · rw [if_neg q] at h
      rw [if_neg q, if_neg q]
      exact lk_pt h
theorem lk_app {l : List (Str × β)} {n m : Str} {v : β} : lk (l ++ [(m, v)]) n = match lk l n with
    | some u => some u
    | none => if m = n then some v else none := by
  induction l with
  | nil => rfl
  | cons e r ih =>
    show lk (e :: (r ++ [(m, v)])) n = _
    unfold lk
    by_cases q : e.1 = n
    · rw [if_pos q, if_pos q]
    · rw [if_neg q, if_neg q]
      exact ih
theorem lk_app_old {l : List (Str × β)} {n m : Str} {v : β} (h : n ≠ m) : lk (l ++ [(m, v)]) n = lk l n := by
  rw [lk_app]
  cases lk l n with
  | some u => rfl
  | none => rw [if_neg (Ne.symm h)]
theorem lk_app_new {l : List (Str × β)} {m : Str} {v : β} (h : lk l m = none) : lk (l ++ [(m, v)]) m = some v := by
  rw [lk_app, h]
  dsimp only
  rw [if_pos rfl]
theorem lk_dp_ne : ∀ {l : List (Str × β)} {n m : Str}, m ≠ n → lk (dp l n) m = lk l m
  | [], _, _, _ => rfl
  | e :: r, n, m, h => by
    unfold dp
    by_cases q : e.1 = n
    · rw [List.filter_cons, if_neg (by simp [q])]
      have : e.1 ≠ m := fun z => h (by rw [← z, q])
      show lk (dp r n) m = (if e.1 = m then some e.2 else lk r m)
      rw [if_neg this]
      exact lk_dp_ne h
    · rw [List.filter_cons, if_pos (by simpa using q)]
      show (if e.1 = m then some e.2 else lk (dp r n) m) = (if e.1 = m then some e.2 else lk r m)
      by_cases q2 : e.1 = m
      · rw [if_pos q2, if_pos q2]
      · rw [if_neg q2, if_neg q2]
        exact lk_dp_ne h
theorem lk_dp {l : List (Str × β)} {n : Str} : lk (dp l n) n = none := lk_none_iff.mpr fun h => by
  obtain ⟨e, he, q⟩ := List.mem_map.mp h
  exact of_decide_eq_true (List.mem_filter.mp he).2 q
theorem keys_dp_nd {l : List (Str × β)} (nd : (keys l).Nodup) (n : Str) : (keys (dp l n)).Nodup := nd.sublist (List.Sublist.map _ List.filter_sublist)
theorem keys_app_nd {l : List (Str × β)} (nd : (keys l).Nodup) {n : Str} (v : β) (h : lk l n = none) : (keys (l ++ [(n, v)])).Nodup := by
  unfold keys
  rw [List.map_append]
  exact Wm.nd_snoc nd (lk_none_iff.mp h)
end
structure Hs where
  ab : List (Str × Str)
  wh : List (Str × WhS)
def setW (h : Hs) (t : Str) (W : WhS) : Hs := { h with wh := pt h.wh t W }
structure HOk (h : Hs) : Prop where
  k1 : (keys h.ab).Nodup
  k2 : (keys h.wh).Nodup
  top : ∃ W, lk h.wh "" = some W
  nt : lk h.ab "" = none
  wt : ∀ t W, lk h.wh t = some W → t = "" ∨ ∃ a, lk h.ab t = some a
  rk : ∃ (rk : Str → Nat) (N : Nat), ∀ n a, lk h.ab n = some a → rk a < rk n ∧ rk n ≤ N
  aw : ∀ n a, lk h.ab n = some a → ∃ W, lk h.wh a = some W
  ok : ∀ t W, lk h.wh t = some W → Wm.Ok W
  sub : ∀ t W n, lk h.wh t = some W → (Has W n ↔ lk h.ab n = some t)
/-- somebody is ready -/
def Rdy (W : WhS) : Prop := ∃ x ∈ W.rows, x.r = true
theorem rdy_best {W : WhS} : Rdy W ↔ Wm.best W.rows ≠ none := by
  constructor
  · rintro ⟨x, hx, e⟩ q
    have := Wm.best_none.mp q x hx
    rw [e] at this
    cases this
  · intro q
    cases e : Wm.best W.rows with
    | none => exact (q e).elim
    | some b => exact ⟨b, (Wm.best_some e).2.1, (Wm.best_some e).1⟩
/-- a team is ready where it stands just where somebody is ready in it; but perhaps for one -/
def Rd (h : Hs) (ex : Str) : Prop := ∀ t W a Wa, lk h.wh t = some W → t ≠ "" → t ≠ ex → lk h.ab t = some a → lk h.wh a = some Wa → ∀ x ∈ Wa.rows, x.n = t → (x.r = true ↔ Rdy W)
theorem HOk.ne_above {h : Hs} (o : HOk h) {n a : Str} (e : lk h.ab n = some a) : n ≠ a := fun z => by
  obtain ⟨rk, N, q⟩ := o.rk
  have := (q n a e).1
  rw [z] at this
  omega
theorem HOk.ne_top {h : Hs} (o : HOk h) {n a : Str} (e : lk h.ab n = some a) : n ≠ "" := fun z => by
  rw [z, o.nt] at e
  cases e
theorem HOk.setW {h : Hs} (o : HOk h) {t : Str} {W W' : WhS} (e : lk h.wh t = some W) (ok' : Wm.Ok W') (hn : ∀ n, Has W' n ↔ Has W n) : HOk (setW h t W') := by
  have look : ∀ u U, lk (pt h.wh t W') u = some U → (u = t ∧ U = W') ∨ (u ≠ t ∧ lk h.wh u = some U) := fun u U q => by
    by_cases z : u = t
    · subst z
      rw [lk_pt e] at q
      cases q
      exact .inl ⟨rfl, rfl⟩
    · rw [lk_pt_ne z] at q
      exact .inr ⟨z, q⟩
  have back : ∀ u U, lk h.wh u = some U → ∃ U', lk (pt h.wh t W') u = some U' := fun u U q => by
    by_cases z : u = t
    · subst z
      exact ⟨_, lk_pt e⟩
    · exact ⟨U, by rw [lk_pt_ne z]; exact q⟩
  refine ⟨o.k1, ?_, ?_, o.nt, fun u U q => ?_, o.rk, fun n a q => ?_, fun u U q => ?_, fun u U n q => ?_⟩
  · show (keys (pt h.wh t W')).Nodup
    rw [keys_pt]
    exact o.k2
  · obtain ⟨W0, q⟩ := o.top
    exact back _ _ q
  · rcases look u U q with ⟨rfl, rfl⟩ | ⟨_, q⟩
    · exact o.wt _ _ e
    · exact o.wt _ _ q
  · obtain ⟨Wa, q2⟩ := o.aw n a q
    exact back _ _ q2
  · rcases look u U q with ⟨rfl, rfl⟩ | ⟨_, q⟩
    · exact ok'
    · exact o.ok _ _ q
  · rcases look u U q with ⟨rfl, rfl⟩ | ⟨_, q⟩
    · rw [hn]
      exact o.sub _ _ n e
    · exact o.sub _ _ n q
/-- what does not change names and readiness leaves the teams as ready as they are -/
theorem Rd.keep {h : Hs} {ex : Str} (r : Rd h ex) {t : Str} {W W' : WhS} (e : lk h.wh t = some W) (hr : ∀ x', x' ∈ W'.rows → ∃ x ∈ W.rows, x.n = x'.n ∧ x.r = x'.r) (hr2 : ∀ x ∈ W.rows, ∃ x' ∈ W'.rows, x.n = x'.n ∧ x.r = x'.r) : Rd (setW h t W') ex := by
  have look : ∀ u U, lk (pt h.wh t W') u = some U → ∃ U0, lk h.wh u = some U0 ∧ (∀ x', x' ∈ U.rows → ∃ x ∈ U0.rows, x.n = x'.n ∧ x.r = x'.r) ∧ (∀ x ∈ U0.rows, ∃ x' ∈ U.rows, x.n = x'.n ∧ x.r = x'.r) := fun u U q => by
    by_cases z : u = t
    · subst z
      rw [lk_pt e] at q
      cases q
      exact ⟨W, e, hr, hr2⟩
    · rw [lk_pt_ne z] at q
      exact ⟨U, q, fun x hx => ⟨x, hx, rfl, rfl⟩, fun x hx => ⟨x, hx, rfl, rfl⟩⟩
  intro u U a Ua q1 n1 n2 q2 q3 x hx xn
  obtain ⟨U0, u1, u2, u3⟩ := look u U q1
  obtain ⟨A0, a1, a2, a3⟩ := look a Ua q3
  obtain ⟨y, hy, y1, y2⟩ := a2 x hx
  rw [← y2]
  refine (r u U0 a A0 u1 n1 n2 q2 a1 y hy (y1.trans xn)).trans ?_
  constructor
  · rintro ⟨z, hz, e⟩
    obtain ⟨z', hz', _, e'⟩ := u3 z hz
    exact ⟨z', hz', by rw [← e']; exact e⟩
  · rintro ⟨z, hz, e⟩
    obtain ⟨z', hz', _, e'⟩ := u2 z hz
    exact ⟨z', hz', by rw [e']; exact e⟩
/-- one wakes or rests: a deed at its own row alone -/
theorem Rd.stir {h : Hs} (o : HOk h) {n a : Str} {W W' : WhS} (r : Rd h n) (ea : lk h.ab n = some a) (e : lk h.wh a = some W) (v : Bool) (own : ∀ x ∈ W'.rows, x.n = n → x.r = v) (oth : ∀ x, x.n ≠ n → (x ∈ W'.rows ↔ x ∈ W.rows))
    (hn : ∀ Wn, lk h.wh n = some Wn → (v = true ↔ Rdy Wn)) : Rd (setW h a W') a := by
  have na := o.ne_above ea
  intro u U b Ub q1 n1 n2 q2 q3 x hx xn
  have p1 : lk h.wh u = some U := by
    rw [← lk_pt_ne (n := a) (v := W') n2]
    exact q1
  by_cases hb : b = a
  · subst hb
    have : Ub = W' := by
      have := lk_pt (v := W') e
      rw [show (setW h b W').wh = pt h.wh b W' from rfl, this] at q3
      exact (Option.some.inj q3).symm
    subst this
    by_cases hu : u = n
    · subst hu
      rw [own x hx xn]
      exact hn U p1
    · exact r u U b W p1 n1 hu q2 e x ((oth x (by rw [xn]; exact hu)).mp hx) xn
  · have p3 : lk h.wh b = some Ub := by
      rw [← lk_pt_ne (n := a) (v := W') hb]
      exact q3
    have hu : u ≠ n := fun z => hb (by
      have q2 : lk h.ab u = some b := q2
      rw [z, ea] at q2
      exact (Option.some.inj q2).symm)
    exact r u U b Ub p1 n1 hu q2 p3 x hx xn
/-- nobody's name is let out -/
theorem Rd.all {h : Hs} {ex : Str} (r : Rd h ex) (he : ex = "" ∨ ∀ W a Wa, lk h.wh ex = some W → lk h.ab ex = some a → lk h.wh a = some Wa → ∀ x ∈ Wa.rows, x.n = ex → (x.r = true ↔ Rdy W)) : Rd h "" := by
  intro u U b Ub q1 n1 _ q2 q3 x hx xn
  by_cases hu : u = ex
  · rcases he with he | he
    · exact (n1 (hu.trans he)).elim
    · subst hu
      exact he U b Ub q1 q2 q3 x hx xn
  · exact r u U b Ub q1 n1 hu q2 q3 x hx xn
theorem Rd.weak {h : Hs} {ex : Str} (r : Rd h "") : Rd h ex := fun u U b Ub q1 n1 _ q2 q3 x hx xn => r u U b Ub q1 n1 n1 q2 q3 x hx xn
/-- up from one on: a deed in each wheel above, as long as `go` of the wheel ahead and behind -/
inductive Up (f : WhS → Str → WhS) (go : WhS → WhS → Prop) : Hs → Str → Hs → Prop
  | stop {h : Hs} {n a : Str} {W : WhS} : lk h.ab n = some a → lk h.wh a = some W → (a = "" ∨ ¬ go W (f W n)) → Up f go h n (setW h a (f W n))
  | next {h h' : Hs} {n a : Str} {W : WhS} : lk h.ab n = some a → lk h.wh a = some W → a ≠ "" → go W (f W n) → Up f go (setW h a (f W n)) a h' → Up f go h n h'
theorem Up.det {f : WhS → Str → WhS} {go : WhS → WhS → Prop} {h h1 h2 : Hs} {n : Str} (a : Up f go h n h1) (b : Up f go h n h2) : h1 = h2 := by
  induction a generalizing h2 with
  | stop e1 e2 e3 =>
    cases b with
    | stop d1 d2 d3 =>
      rw [e1] at d1
      cases d1
      rw [e2] at d2
      cases d2
      rfl
    | next d1 d2 d3 d4 d5 =>
      rw [e1] at d1
      cases d1
      rw [e2] at d2
      cases d2
      rcases e3 with e3 | e3
      · exact (d3 e3).elim
      · exact (e3 d4).elim
  | next e1 e2 e3 e4 e5 ih =>
    cases b with
    | stop d1 d2 d3 =>
      rw [e1] at d1
      cases d1
      rw [e2] at d2
      cases d2
      rcases d3 with d3 | d3
      · exact (e3 d3).elim
      · exact (d3 e4).elim
    | next d1 d2 d3 d4 d5 =>
      rw [e1] at d1
      cases d1
      rw [e2] at d2
      cases d2
      exact ih d5
def WakeUp : Hs → Str → Hs → Prop := Up Wm.wake fun W _ => ¬ Rdy W
def RestUp : Hs → Str → Hs → Prop := Up Wm.rest fun _ W' => ¬ Rdy W'
/-- what holds behind a deed that goes up -/
theorem wake_own {W : WhS} {n : Str} : (∀ x ∈ (Wm.wake W n).rows, x.n = n → x.r = true) ∧ ∀ x, x.n ≠ n → (x ∈ (Wm.wake W n).rows ↔ x ∈ W.rows) := by
  refine ⟨fun x hx e => ?_, fun x e => ?_⟩
  · obtain ⟨y, hy, ⟨_, rfl⟩ | ⟨q, rfl⟩⟩ := Wm.mem_upd hx
    · unfold Wm.woken
      split
      · next q => exact q
      · rfl
    · exact (q e).elim
  · constructor
    · intro hx
      obtain ⟨y, hy, ⟨q, rfl⟩ | ⟨_, rfl⟩⟩ := Wm.mem_upd hx
      · exact (e (by rw [Wm.woken_n]; exact q)).elim
      · exact hy
    · intro hx
      exact List.mem_map.mpr ⟨x, hx, by rw [if_neg e]⟩
theorem rest_own {W : WhS} {n : Str} : (∀ x ∈ (Wm.rest W n).rows, x.n = n → x.r = false) ∧ ∀ x, x.n ≠ n → (x ∈ (Wm.rest W n).rows ↔ x ∈ W.rows) := by
  refine ⟨fun x hx e => ?_, fun x e => ?_⟩
  · obtain ⟨y, hy, ⟨_, rfl⟩ | ⟨q, rfl⟩⟩ := Wm.mem_upd hx
    · rfl
    · exact (q e).elim
  · constructor
    · intro hx
      obtain ⟨y, hy, ⟨q, rfl⟩ | ⟨_, rfl⟩⟩ := Wm.mem_upd hx
      · exact (e q).elim
      · exact hy
    · intro hx
      exact List.mem_map.mpr ⟨x, hx, by rw [if_neg e]⟩
theorem has_names {W W' : WhS} (h : W'.rows.map (·.n) = W.rows.map (·.n)) (n : Str) : Has W' n ↔ Has W n := by
  rw [has_n, has_n, h]
/-- waking up from n, of which is known that somebody is ready in it -/
theorem wake_up {h h' : Hs} {n : Str} (u : WakeUp h n h') (o : HOk h) (r : Rd h n) (hn : ∀ Wn, lk h.wh n = some Wn → Rdy Wn) : HOk h' ∧ Rd h' "" ∧ h'.ab = h.ab ∧ keys h'.wh = keys h.wh := by
  induction u with
  | @stop h n a W e1 e2 e3 =>
    have o' : HOk (setW h a (Wm.wake W n)) := o.setW e2 ((o.ok _ _ e2).wake n) (has_names (wake_names W n))
    have r' := r.stir o e1 e2 true wake_own.1 wake_own.2 fun Wn q => ⟨fun _ => hn Wn q, fun _ => rfl⟩
    refine ⟨o', r'.all ?_, rfl, keys_pt _ _ _⟩
    rcases e3 with e3 | e3
    · exact .inl e3
    · right
      intro U b Ub q1 q2 q3 x hx xn
      have q1' := q1
      rw [show (setW h a (Wm.wake W n)).wh = pt h.wh a (Wm.wake W n) from rfl, lk_pt e2] at q1
      cases q1
      have hrd : Rdy W := Classical.byContradiction fun z => e3 z
      have na := o.ne_above e1
      have nb := o.ne_above (n := a) (a := b) q2
      have q3 : lk h.wh b = some Ub := by
        rw [← lk_pt_ne (n := a) (v := Wm.wake W n) nb.symm]
        exact q3
      have old := r a W b Ub e2 (fun z => o.ne_top (n := a) q2 z) (fun z => na z.symm) q2 q3 x hx xn
      rw [old]
      refine ⟨fun _ => ?_, fun _ => hrd⟩
      obtain ⟨y, hy, e⟩ := hrd
      by_cases hyn : y.n = n
      · have : Has (Wm.wake W n) n := (has_names (wake_names W n) n).mpr ⟨y, hy, hyn⟩
        obtain ⟨z, hz, en⟩ := this
        exact ⟨z, hz, wake_own.1 z hz en⟩
      · exact ⟨y, (wake_own.2 y hyn).mpr hy, e⟩
  | @next h h' n a W e1 e2 e3 e4 e5 ih =>
    have o' : HOk (setW h a (Wm.wake W n)) := o.setW e2 ((o.ok _ _ e2).wake n) (has_names (wake_names W n))
    have r' := r.stir o e1 e2 true wake_own.1 wake_own.2 fun Wn q => ⟨fun _ => hn Wn q, fun _ => rfl⟩
    obtain ⟨i1, i2, i3, i4⟩ := ih o' r' fun Wa q => by
      rw [show (setW h a (Wm.wake W n)).wh = pt h.wh a (Wm.wake W n) from rfl, lk_pt e2] at q
      cases q
      have : Has (Wm.wake W n) n := (has_names (wake_names W n) n).mpr ((o.sub _ _ n e2).mpr e1)
      obtain ⟨z, hz, en⟩ := this
      exact ⟨z, hz, wake_own.1 z hz en⟩
    exact ⟨i1, i2, i3, i4.trans (keys_pt _ _ _)⟩
/-- resting up from n, in which nobody is ready -/
theorem rest_up {h h' : Hs} {n : Str} (u : RestUp h n h') (o : HOk h) (r : Rd h n) (hn : ∀ Wn, lk h.wh n = some Wn → ¬ Rdy Wn) : HOk h' ∧ Rd h' "" ∧ h'.ab = h.ab ∧ keys h'.wh = keys h.wh := by
  induction u with
  | @stop h n a W e1 e2 e3 =>
    have o' : HOk (setW h a (Wm.rest W n)) := o.setW e2 ((o.ok _ _ e2).rest n) (has_names (rest_names W n))
    have r' := r.stir o e1 e2 false rest_own.1 rest_own.2 fun Wn q => ⟨(by intro z; cases z), fun z => (hn Wn q z).elim⟩
    refine ⟨o', r'.all ?_, rfl, keys_pt _ _ _⟩
    rcases e3 with e3 | e3
    · exact .inl e3
    · right
      intro U b Ub q1 q2 q3 x hx xn
      rw [show (setW h a (Wm.rest W n)).wh = pt h.wh a (Wm.rest W n) from rfl, lk_pt e2] at q1
      cases q1
      have hrd : Rdy (Wm.rest W n) := Classical.byContradiction fun z => e3 z
      have na := o.ne_above e1
      have nb := o.ne_above (n := a) (a := b) q2
      have q3 : lk h.wh b = some Ub := by
        rw [← lk_pt_ne (n := a) (v := Wm.rest W n) nb.symm]
        exact q3
      have old := r a W b Ub e2 (fun z => o.ne_top (n := a) q2 z) (fun z => na z.symm) q2 q3 x hx xn
      rw [old]
      refine ⟨fun _ => hrd, fun _ => ?_⟩
      obtain ⟨y, hy, e⟩ := hrd
      by_cases hyn : y.n = n
      · rw [rest_own.1 y hy hyn] at e
        cases e
      · exact ⟨y, (rest_own.2 y hyn).mp hy, e⟩
  | @next h h' n a W e1 e2 e3 e4 e5 ih =>
    have o' : HOk (setW h a (Wm.rest W n)) := o.setW e2 ((o.ok _ _ e2).rest n) (has_names (rest_names W n))
    have r' := r.stir o e1 e2 false rest_own.1 rest_own.2 fun Wn q => ⟨(by intro z; cases z), fun z => (hn Wn q z).elim⟩
    obtain ⟨i1, i2, i3, i4⟩ := ih o' r' fun Wa q => by
      rw [show (setW h a (Wm.rest W n)).wh = pt h.wh a (Wm.rest W n) from rfl, lk_pt e2] at q
      cases q
      exact e4
    exact ⟨i1, i2, i3, i4.trans (keys_pt _ _ _)⟩
/-! coming and going -/
def enterH (h : Hs) (n a : Str) (W : WhS) (s : Int) : Hs := ⟨h.ab ++ [(n, a)], pt h.wh a (Wm.enter W n s)⟩
def enterT (h : Hs) (n a : Str) (W : WhS) (s : Int) : Hs := ⟨h.ab ++ [(n, a)], pt h.wh a (Wm.enter W n s) ++ [(n, ⟨0, []⟩)]⟩
def leaveN (h : Hs) (n a : Str) (W : WhS) : Hs := ⟨dp h.ab n, pt (dp h.wh n) a (Wm.leave W n)⟩
theorem has_enter {W : WhS} {n m : Str} {s : Int} : Has (Wm.enter W n s) m ↔ Has W m ∨ m = n := by
  rw [has_n, has_n]
  show m ∈ (W.rows ++ [_]).map _ ↔ _
  rw [List.map_append, List.mem_append]
  simp
theorem has_leave {W : WhS} {n m : Str} : Has (Wm.leave W n) m ↔ Has W m ∧ m ≠ n := by
  unfold Has
  constructor
  · rintro ⟨x, hx, e⟩
    obtain ⟨h1, h2⟩ := List.mem_filter.mp hx
    exact ⟨⟨x, h1, e⟩, by rw [← e]; exact of_decide_eq_true h2⟩
  · rintro ⟨⟨x, hx, e⟩, h⟩
    exact ⟨x, List.mem_filter.mpr ⟨hx, decide_eq_true (by rw [e]; exact h)⟩, e⟩
theorem HOk.no_team {h : Hs} (o : HOk h) {n : Str} (e : lk h.ab n = none) (hn : n ≠ "") : lk h.wh n = none := by
  cases q : lk h.wh n with
  | none => rfl
  | some W =>
    rcases o.wt n W q with z | ⟨a, z⟩
    · exact (hn z).elim
    · rw [e] at z
      cases z
theorem HOk.enterH {h : Hs} (o : HOk h) {n a : Str} {W : WhS} {s : Int} (e : lk h.ab n = none) (hn : n ≠ "") (ea : lk h.wh a = some W) (s1 : 1 ≤ s) (s2 : s ≤ 12) : HOk (enterH h n a W s) := by
  have nt := o.no_team e hn
  have na : a ≠ n := fun z => by rw [z, nt] at ea; cases ea
  have nh : ¬ Has W n := fun z => by
    have := (o.sub a W n ea).mp z
    rw [e] at this
    cases this
  have ab : ∀ m b, lk (h.ab ++ [(n, a)]) m = some b → (m = n ∧ b = a) ∨ (m ≠ n ∧ lk h.ab m = some b) := fun m b q => by
    by_cases z : m = n
    · subst z
      rw [lk_app_new e] at q
      cases q
      exact .inl ⟨rfl, rfl⟩
    · rw [lk_app_old z] at q
      exact .inr ⟨z, q⟩
  have look : ∀ u U, lk (pt h.wh a (Wm.enter W n s)) u = some U → (u = a ∧ U = Wm.enter W n s) ∨ (u ≠ a ∧ lk h.wh u = some U) := fun u U q => by
    by_cases z : u = a
    · subst z
      rw [lk_pt ea] at q
      cases q
      exact .inl ⟨rfl, rfl⟩
    · rw [lk_pt_ne z] at q
      exact .inr ⟨z, q⟩
  have back : ∀ u U, lk h.wh u = some U → ∃ U', lk (pt h.wh a (Wm.enter W n s)) u = some U' := fun u U q => by
    by_cases z : u = a
    · subst z
      exact ⟨_, lk_pt ea⟩
    · exact ⟨U, by rw [lk_pt_ne z]; exact q⟩
  have old : ∀ m b, lk h.ab m = some b → lk (h.ab ++ [(n, a)]) m = some b := fun m b q => by
    rw [lk_app_old (fun z => by rw [z, e] at q; cases q)]
    exact q
  obtain ⟨rk, N, hrk⟩ := o.rk
  refine ⟨keys_app_nd o.k1 _ e, ?_, ?_, ?_, fun t U q => ?_, ⟨fun m => if m = n then max N (rk a) + 1 else rk m, max N (rk a) + 1, fun m b q => ?_⟩, fun m b q => ?_, fun t U q => ?_, fun t U m q => ?_⟩
  · show (keys (pt h.wh a _)).Nodup
    rw [keys_pt]
    exact o.k2
  · obtain ⟨W0, q⟩ := o.top
    exact back _ _ q
  · show lk (h.ab ++ [(n, a)]) "" = none
    rw [lk_app_old (Ne.symm hn)]
    exact o.nt
  · rcases look t U q with ⟨rfl, _⟩ | ⟨_, q⟩
    · rcases o.wt _ _ ea with z | ⟨b, z⟩
      · exact .inl z
      · exact .inr ⟨b, old _ _ z⟩
    · rcases o.wt _ _ q with z | ⟨b, z⟩
      · exact .inl z
      · exact .inr ⟨b, old _ _ z⟩
  · rcases ab m b q with ⟨rfl, rfl⟩ | ⟨z, q⟩
    · dsimp only
      rw [if_pos rfl, if_neg na]
      omega
    · have := hrk m b q
      have zb : b ≠ n := fun y => by
        obtain ⟨U, u⟩ := o.aw m b q
        rw [y, nt] at u
        cases u
      dsimp only
      rw [if_neg z, if_neg zb]
      omega
  · rcases ab m b q with ⟨rfl, rfl⟩ | ⟨z, q⟩
    · exact back _ _ ea
    · obtain ⟨U, u⟩ := o.aw m b q
      exact back _ _ u
  · rcases look t U q with ⟨rfl, rfl⟩ | ⟨_, q⟩
    · exact (o.ok _ _ ea).enter s1 s2 fun z => nh (has_n.mpr z)
    · exact o.ok _ _ q
  · rcases look t U q with ⟨rfl, rfl⟩ | ⟨zt, q⟩
    · rw [has_enter, o.sub _ _ m ea]
      constructor
      · rintro (z | rfl)
        · exact old _ _ z
        · exact lk_app_new e
      · intro z
        rcases ab _ _ z with ⟨rfl, _⟩ | ⟨_, z⟩
        · exact .inr rfl
        · exact .inl z
    · rw [o.sub _ _ m q]
      constructor
      · exact fun z => old _ _ z
      · intro z
        rcases ab _ _ z with ⟨_, z⟩ | ⟨_, z⟩
        · exact (zt z).elim
        · exact z
theorem HOk.addT {h : Hs} (o : HOk h) {n a : Str} (e : lk h.ab n = some a) (en : lk h.wh n = none) (no : ∀ m, lk h.ab m ≠ some n) : HOk ⟨h.ab, h.wh ++ [(n, ⟨0, []⟩)]⟩ := by
  have look : ∀ u U, lk (h.wh ++ [(n, (⟨0, []⟩ : WhS))]) u = some U → (u = n ∧ U = ⟨0, []⟩) ∨ lk h.wh u = some U := fun u U q => by
    by_cases z : u = n
    · subst z
      rw [lk_app_new en] at q
      cases q
      exact .inl ⟨rfl, rfl⟩
    · rw [lk_app_old z] at q
      exact .inr q
  have back : ∀ u U, lk h.wh u = some U → lk (h.wh ++ [(n, (⟨0, []⟩ : WhS))]) u = some U := fun u U q => by
    rw [lk_app_old (fun z => by rw [z, en] at q; cases q)]
    exact q
  refine ⟨o.k1, keys_app_nd o.k2 _ en, ?_, o.nt, fun t U q => ?_, o.rk, fun m b q => ?_, fun t U q => ?_, fun t U m q => ?_⟩
  · obtain ⟨W0, q⟩ := o.top
    exact ⟨W0, back _ _ q⟩
  · rcases look t U q with ⟨rfl, rfl⟩ | q
    · exact .inr ⟨a, e⟩
    · exact o.wt _ _ q
  · obtain ⟨U, u⟩ := o.aw m b q
    exact ⟨U, back _ _ u⟩
  · rcases look t U q with ⟨rfl, rfl⟩ | q
    · exact Wm.Ok.new
    · exact o.ok _ _ q
  · rcases look t U q with ⟨rfl, rfl⟩ | q
    · exact ⟨fun ⟨x, hx, _⟩ => (nomatch hx), fun z => (no m z).elim⟩
    · exact o.sub _ _ m q
theorem HOk.leaveN {h : Hs} (o : HOk h) {n a : Str} {W : WhS} (e : lk h.ab n = some a) (ea : lk h.wh a = some W) (no : ∀ m, lk h.ab m ≠ some n) : HOk (leaveN h n a W) := by
  have na := o.ne_above e
  have nt := o.ne_top e
  have ea' : lk (dp h.wh n) a = some W := by rw [lk_dp_ne na.symm]; exact ea
  have ab : ∀ m b, lk (dp h.ab n) m = some b → m ≠ n ∧ lk h.ab m = some b := fun m b q => by
    by_cases z : m = n
    · rw [z, lk_dp] at q
      cases q
    · rw [lk_dp_ne z] at q
      exact ⟨z, q⟩
  have look : ∀ u U, lk (pt (dp h.wh n) a (Wm.leave W n)) u = some U → (u = a ∧ U = Wm.leave W n) ∨ (u ≠ a ∧ u ≠ n ∧ lk h.wh u = some U) := fun u U q => by
    by_cases z : u = a
    · subst z
      rw [lk_pt ea'] at q
      cases q
      exact .inl ⟨rfl, rfl⟩
    · rw [lk_pt_ne z] at q
      by_cases z2 : u = n
      · rw [z2, lk_dp] at q
        cases q
      · rw [lk_dp_ne z2] at q
        exact .inr ⟨z, z2, q⟩
  have back : ∀ u U, u ≠ n → lk h.wh u = some U → ∃ U', lk (pt (dp h.wh n) a (Wm.leave W n)) u = some U' := fun u U z2 q => by
    by_cases z : u = a
    · subst z
      exact ⟨_, lk_pt ea'⟩
    · exact ⟨U, by rw [lk_pt_ne z, lk_dp_ne z2]; exact q⟩
  obtain ⟨rk, N, hrk⟩ := o.rk
  refine ⟨keys_dp_nd o.k1 _, ?_, ?_, ?_, fun t U q => ?_, ⟨rk, N, fun m b q => hrk m b (ab m b q).2⟩, fun m b q => ?_, fun t U q => ?_, fun t U m q => ?_⟩
  · show (keys (pt (dp h.wh n) a _)).Nodup
    rw [keys_pt]
    exact keys_dp_nd o.k2 _
  · obtain ⟨W0, q⟩ := o.top
    exact back _ _ (Ne.symm nt) q
  · show lk (dp h.ab n) "" = none
    rw [lk_dp_ne (Ne.symm nt)]
    exact o.nt
  · have step : ∀ u U, u ≠ n → lk h.wh u = some U → u = "" ∨ ∃ b, lk (dp h.ab n) u = some b := fun u U z q => by
      rcases o.wt _ _ q with y | ⟨b, y⟩
      · exact .inl y
      · exact .inr ⟨b, by rw [lk_dp_ne z]; exact y⟩
    rcases look t U q with ⟨rfl, _⟩ | ⟨_, z, q⟩
    · exact step _ _ na.symm ea
    · exact step _ _ z q
  · obtain ⟨z, q⟩ := ab m b q
    obtain ⟨U, u⟩ := o.aw m b q
    exact back _ _ (fun y => no m (by rw [q, y])) u
  · rcases look t U q with ⟨rfl, rfl⟩ | ⟨_, _, q⟩
    · exact (o.ok _ _ ea).leave n
    · exact o.ok _ _ q
  · rcases look t U q with ⟨rfl, rfl⟩ | ⟨zt, zn, q⟩
    · rw [has_leave, o.sub _ _ m ea]
      constructor
      · rintro ⟨z, y⟩
        show lk (dp h.ab n) m = some t
        rw [lk_dp_ne y]
        exact z
      · intro z
        obtain ⟨y, z⟩ := ab _ _ z
        exact ⟨z, y⟩
    · rw [o.sub _ _ m q]
      constructor
      · intro z
        show lk (dp h.ab n) m = some t
        rw [lk_dp_ne (fun y => zt (by rw [y, e] at z; exact (Option.some.inj z).symm))]
        exact z
      · exact fun z => (ab _ _ z).2
theorem Rd.enterH {h : Hs} (o : HOk h) (r : Rd h "") {n a : Str} {W : WhS} {s : Int} (e : lk h.ab n = none) (hn : n ≠ "") (ea : lk h.wh a = some W) : Rd (enterH h n a W s) "" := by
  have nt := o.no_team e hn
  have look : ∀ u U, lk (pt h.wh a (Wm.enter W n s)) u = some U → ∃ U0, lk h.wh u = some U0 ∧ (Rdy U ↔ Rdy U0) ∧ ∀ x ∈ U.rows, x.n ≠ n → x ∈ U0.rows := fun u U q => by
    by_cases z : u = a
    · subst z
      rw [lk_pt ea] at q
      cases q
      refine ⟨W, ea, ⟨?_, ?_⟩, fun x hx hxn => ?_⟩
      · rintro ⟨x, hx, er⟩
        rcases List.mem_append.mp hx with hx | hx
        · exact ⟨x, hx, er⟩
        · rw [List.mem_singleton.mp hx] at er
          cases er
      · rintro ⟨x, hx, er⟩
        exact ⟨x, List.mem_append.mpr (.inl hx), er⟩
      · rcases List.mem_append.mp hx with hx | hx
        · exact hx
        · exact (hxn (by rw [List.mem_singleton.mp hx])).elim
    · rw [lk_pt_ne z] at q
      exact ⟨U, q, Iff.rfl, fun x hx _ => hx⟩
  intro u U b Ub q1 n1 n2 q2 q3 x hx xn
  obtain ⟨U0, u1, u2, _⟩ := look u U q1
  obtain ⟨A0, a1, _, a3⟩ := look b Ub q3
  have un : u ≠ n := fun z => by rw [z, nt] at u1; cases u1
  have q2 : lk h.ab u = some b := by
    rw [← lk_app_old (m := n) (v := a) un]
    exact q2
  rw [u2]
  exact r u U0 b A0 u1 n1 n2 q2 a1 x (a3 x hx (by rw [xn]; exact un)) xn
theorem Rd.addT {h : Hs} (r : Rd h "") {n a : Str} {W : WhS} (e : lk h.ab n = some a) (ea : lk h.wh a = some W) (en : lk h.wh n = none) (nr : ∀ x ∈ W.rows, x.n = n → x.r = false) : Rd ⟨h.ab, h.wh ++ [(n, ⟨0, []⟩)]⟩ "" := by
  have look : ∀ u U, lk (h.wh ++ [(n, (⟨0, []⟩ : WhS))]) u = some U → (u = n ∧ U = ⟨0, []⟩) ∨ lk h.wh u = some U := fun u U q => by
    by_cases z : u = n
    · subst z
      rw [lk_app_new en] at q
      cases q
      exact .inl ⟨rfl, rfl⟩
    · rw [lk_app_old z] at q
      exact .inr q
  intro u U b Ub q1 n1 n2 q2 q3 x hx xn
  rcases look b Ub q3 with ⟨rfl, rfl⟩ | p3
  · exact (nomatch hx)
  · clear q3
    have q3 := p3
    clear p3
    rcases look u U q1 with ⟨rfl, rfl⟩ | q1
    · have q2 : lk h.ab u = some b := q2
      rw [e] at q2
      cases q2
      rw [ea] at q3
      cases q3
      rw [nr x hx xn]
      exact ⟨(by intro z; cases z), fun ⟨y, hy, _⟩ => (nomatch hy)⟩
    · exact r u U b Ub q1 n1 n2 q2 q3 x hx xn
theorem Rd.leaveN {h : Hs} (o : HOk h) (r : Rd h "") {n a : Str} {W : WhS} (e : lk h.ab n = some a) (ea : lk h.wh a = some W) (nr : ∀ x ∈ W.rows, x.n = n → x.r = false) : Rd (leaveN h n a W) "" := by
  have na := o.ne_above e
  have ea' : lk (dp h.wh n) a = some W := by rw [lk_dp_ne na.symm]; exact ea
  have look : ∀ u U, lk (pt (dp h.wh n) a (Wm.leave W n)) u = some U → u ≠ n ∧ ∃ U0, lk h.wh u = some U0 ∧ (Rdy U ↔ Rdy U0) ∧ ∀ x ∈ U.rows, x ∈ U0.rows := fun u U q => by
    by_cases z : u = a
    · subst z
      rw [lk_pt ea'] at q
      cases q
      refine ⟨na.symm, W, ea, ⟨?_, ?_⟩, fun x hx => (List.mem_filter.mp hx).1⟩
      · rintro ⟨x, hx, er⟩
        exact ⟨x, (List.mem_filter.mp hx).1, er⟩
      · rintro ⟨x, hx, er⟩
        refine ⟨x, List.mem_filter.mpr ⟨hx, decide_eq_true fun y => ?_⟩, er⟩
        rw [nr x hx y] at er
        cases er
    · rw [lk_pt_ne z] at q
      by_cases z2 : u = n
      · rw [z2, lk_dp] at q
        cases q
      · rw [lk_dp_ne z2] at q
        exact ⟨z2, U, q, Iff.rfl, fun x hx => hx⟩
  intro u U b Ub q1 n1 n2 q2 q3 x hx xn
  obtain ⟨un, U0, u1, u2, _⟩ := look u U q1
  obtain ⟨_, A0, a1, _, a3⟩ := look b Ub q3
  have q2 : lk h.ab u = some b := by
    rw [← lk_dp_ne (n := n) un]
    exact q2
  rw [u2]
  exact r u U0 b A0 u1 n1 n2 q2 a1 x (a3 x hx) xn
/-! a deal -/
inductive Deal : Hs → Str → List Str → Hs → Prop
  | none {h : Hs} {t : Str} {W : WhS} : lk h.wh t = some W → Wm.best W.rows = none → Deal h t [] (setW h t (Wm.turn W))
  | hand {h : Hs} {t : Str} {W : WhS} {b : RowS} : lk h.wh t = some W → Wm.best W.rows = some b → lk h.wh b.n = none → Deal h t [b.n] (setW h t (Wm.turn W))
  | team {h h' : Hs} {t : Str} {W U : WhS} {b : RowS} {l : List Str} : lk h.wh t = some W → Wm.best W.rows = some b → lk h.wh b.n = some U → Deal (setW h t (Wm.turn W)) b.n l h' → Deal h t (b.n :: l) h'
theorem turn_keep (W : WhS) : (∀ x', x' ∈ (Wm.turn W).rows → ∃ x ∈ W.rows, x.n = x'.n ∧ x.r = x'.r) ∧ ∀ x ∈ W.rows, ∃ x' ∈ (Wm.turn W).rows, x.n = x'.n ∧ x.r = x'.r := by
  cases e : Wm.best W.rows with
  | none =>
    rw [Wm.turn_none e]
    exact ⟨fun x hx => ⟨x, hx, rfl, rfl⟩, fun x hx => ⟨x, hx, rfl, rfl⟩⟩
  | some b =>
    rw [Wm.turn_some e]
    refine ⟨fun x hx => ?_, fun x hx => ?_⟩
    · obtain ⟨y, hy, ⟨_, rfl⟩ | ⟨_, rfl⟩⟩ := Wm.mem_upd hx
      · exact ⟨y, hy, rfl, rfl⟩
      · exact ⟨x, hy, rfl, rfl⟩
    · refine ⟨_, List.mem_map.mpr ⟨x, hx, rfl⟩, ?_⟩
      by_cases q : x.n = b.n
      · rw [if_pos q]
        exact ⟨rfl, rfl⟩
      · rw [if_neg q]
        exact ⟨rfl, rfl⟩
theorem turn_setW {h : Hs} (o : HOk h) {t : Str} {W : WhS} (e : lk h.wh t = some W) : HOk (setW h t (Wm.turn W)) := o.setW e (o.ok _ _ e).turn.1 (has_names (turn_names W))
theorem Deal.ok {h h' : Hs} {t : Str} {l : List Str} (d : Deal h t l h') : HOk h → Rd h "" → HOk h' ∧ Rd h' "" ∧ h'.ab = h.ab ∧ keys h'.wh = keys h.wh := by
  induction d with
  | none e _ => exact fun o r => ⟨turn_setW o e, r.keep e (turn_keep _).1 (turn_keep _).2, rfl, keys_pt _ _ _⟩
  | hand e _ _ => exact fun o r => ⟨turn_setW o e, r.keep e (turn_keep _).1 (turn_keep _).2, rfl, keys_pt _ _ _⟩
  | team e _ _ _ ih =>
    intro o r
    obtain ⟨a, b, c, d⟩ := ih (turn_setW o e) (r.keep e (turn_keep _).1 (turn_keep _).2)
    exact ⟨a, b, c, d.trans (keys_pt _ _ _)⟩
theorem Deal.det {h h1 h2 : Hs} {t : Str} {l1 l2 : List Str} (a : Deal h t l1 h1) (b : Deal h t l2 h2) : l1 = l2 ∧ h1 = h2 := by
  induction a generalizing l2 h2 with
  | none e1 e2 =>
    cases b with
    | none d1 d2 => rw [e1] at d1; cases d1; exact ⟨rfl, rfl⟩
    | hand d1 d2 d3 => rw [e1] at d1; cases d1; rw [e2] at d2; cases d2
    | team d1 d2 d3 d4 => rw [e1] at d1; cases d1; rw [e2] at d2; cases d2
  | hand e1 e2 e3 =>
    cases b with
    | none d1 d2 => rw [e1] at d1; cases d1; rw [e2] at d2; cases d2
    | hand d1 d2 d3 => rw [e1] at d1; cases d1; rw [e2] at d2; cases d2; exact ⟨rfl, rfl⟩
    | team d1 d2 d3 d4 => rw [e1] at d1; cases d1; rw [e2] at d2; cases d2; rw [e3] at d3; cases d3
  | team e1 e2 e3 e4 ih =>
    cases b with
    | none d1 d2 => rw [e1] at d1; cases d1; rw [e2] at d2; cases d2
    | hand d1 d2 d3 => rw [e1] at d1; cases d1; rw [e2] at d2; cases d2; rw [e3] at d3; cases d3
    | team d1 d2 d3 d4 =>
      rw [e1] at d1
      cases d1
      rw [e2] at d2
      cases d2
      obtain ⟨a, b⟩ := ih d4
      exact ⟨by rw [a], b⟩
/-- what is left to do when waking goes on at a team -/
def RemW (h : Hs) (t : Str) (h'' : Hs) : Prop := (t = "" ∧ h'' = h) ∨ (t ≠ "" ∧ ∃ a Wa x, lk h.ab t = some a ∧ lk h.wh a = some Wa ∧ x ∈ Wa.rows ∧ x.n = t ∧ ((x.r = true ∧ h'' = h) ∨ (x.r = false ∧ WakeUp h t h'')))
theorem remW_up {h h'' : Hs} {n a : Str} {W : WhS} (o : HOk h) (r : Rd h n) (ea : lk h.ab n = some a) (e : lk h.wh a = some W) (m : RemW (setW h a (Wm.wake W n)) a h'') : WakeUp h n h'' := by
  rcases m with ⟨z, rfl⟩ | ⟨na, b, Wb, x, b1, b2, hx, xn, c⟩
  · exact .stop ea e (.inl z)
  · have nb := o.ne_above (n := a) (a := b) b1
    have b2 : lk h.wh b = some Wb := by
      rw [← lk_pt_ne (n := a) (v := Wm.wake W n) nb.symm]
      exact b2
    have iff := r a W b Wb e na (fun z => o.ne_above ea z.symm) b1 b2 x hx xn
    rcases c with ⟨xr, rfl⟩ | ⟨xr, u⟩
    · exact .stop ea e (.inr fun z => z (iff.mp xr))
    · exact .next ea e na (fun z => by rw [iff.mpr z] at xr; cases xr) u
/-- what is left to do when resting goes on at a team -/
def RemR (h : Hs) (t : Str) (h'' : Hs) : Prop := (t = "" ∧ h'' = h) ∨ (t ≠ "" ∧ ∃ W, lk h.wh t = some W ∧ ((Rdy W ∧ h'' = h) ∨ (¬ Rdy W ∧ RestUp h t h'')))
theorem remR_up {h h'' : Hs} {n a : Str} {W : WhS} (ea : lk h.ab n = some a) (e : lk h.wh a = some W) (m : RemR (setW h a (Wm.rest W n)) a h'') : RestUp h n h'' := by
  rcases m with ⟨z, rfl⟩ | ⟨na, W', b1, c⟩
  · exact .stop ea e (.inl z)
  · rw [show (setW h a (Wm.rest W n)).wh = pt h.wh a (Wm.rest W n) from rfl, lk_pt e] at b1
    cases b1
    rcases c with ⟨xr, rfl⟩ | ⟨xr, u⟩
    · exact .stop ea e (.inr fun z => z xr)
    · exact .next ea e na xr u
theorem pt_self {β : Type} {l : List (Str × β)} {t : Str} {v : β} (nd : (keys l).Nodup) (h : lk l t = some v) : pt l t v = l := by
  unfold pt
  have : ∀ e ∈ l, (if e.1 = t then (e.1, v) else e) = e := fun e he => by
    by_cases q : e.1 = t
    · rw [if_pos q]
      have := lk_of nd (show (e.1, e.2) ∈ l from he)
      rw [q, h] at this
      cases this
      rfl
    · rw [if_neg q]
  rw [List.map_congr_left this, List.map_id']
theorem upd_same_rows {l : List RowS} {n : Str} {f : RowS → RowS} (h : ∀ x ∈ l, x.n = n → f x = x) : Wm.upd l n f = l := by
  unfold Wm.upd
  have : ∀ e ∈ l, (if e.n = n then f e else e) = e := fun e he => by
    by_cases q : e.n = n
    · rw [if_pos q, h e he q]
    · rw [if_neg q]
  rw [List.map_congr_left this, List.map_id']
theorem reshare_keep (W : WhS) (n : Str) (s : Int) : (∀ x', x' ∈ (Wm.reshare W n s).rows → ∃ x ∈ W.rows, x.n = x'.n ∧ x.r = x'.r) ∧ ∀ x ∈ W.rows, ∃ x' ∈ (Wm.reshare W n s).rows, x.n = x'.n ∧ x.r = x'.r := by
  refine ⟨fun x hx => ?_, fun x hx => ?_⟩
  · obtain ⟨y, hy, ⟨_, rfl⟩ | ⟨_, rfl⟩⟩ := Wm.mem_upd hx
    · exact ⟨y, hy, rfl, rfl⟩
    · exact ⟨x, hy, rfl, rfl⟩
  · refine ⟨_, List.mem_map.mpr ⟨x, hx, rfl⟩, ?_⟩
    by_cases q : x.n = n
    · rw [if_pos q]
      exact ⟨rfl, rfl⟩
    · rw [if_neg q]
      exact ⟨rfl, rfl⟩
/-- what is left of a deal when b has got a turn -/
def RemD (h : Hs) (b : Str) (l : List Str) (h'' : Hs) : Prop := (lk h.wh b = none ∧ l = [] ∧ h'' = h) ∨ (∃ U, lk h.wh b = some U ∧ Deal h b l h'')
theorem remD_up {h h'' : Hs} {t : Str} {W : WhS} {b : RowS} {l : List Str} (e : lk h.wh t = some W) (eb : Wm.best W.rows = some b) (nb : b.n ≠ t) (m : RemD (setW h t (Wm.turn W)) b.n l h'') : Deal h t (b.n :: l) h'' := by
  have lkb : lk (setW h t (Wm.turn W)).wh b.n = lk h.wh b.n := lk_pt_ne nb
  rcases m with ⟨z, rfl, rfl⟩ | ⟨U, z, d⟩
  · exact .hand e eb (by rw [← lkb]; exact z)
  · exact .team e eb (by rw [← lkb]; exact z) d
theorem nodup_sub {α : Type} [BEq α] [LawfulBEq α] : ∀ (l1 l2 : List α), l1.Nodup → (∀ x ∈ l1, x ∈ l2) → l1.length ≤ l2.length
  | [], _, _, _ => Nat.zero_le _
  | x :: l1, l2, nd, h => by
    rw [List.nodup_cons] at nd
    have hx := h x List.mem_cons_self
    have := nodup_sub l1 (l2.erase x) nd.2 fun y hy => (List.mem_erase_of_ne fun z => nd.1 (by rw [← z]; exact hy)).mpr (h y (List.mem_cons_of_mem _ hy))
    rw [List.length_erase_of_mem hx] at this
    have : 0 < l2.length := List.length_pos_of_mem hx
    show l1.length + 1 ≤ l2.length
    omega
theorem dp_none {β : Type} {l : List (Str × β)} {n : Str} (h : lk l n = none) : dp l n = l := List.filter_eq_self.mpr fun e he => decide_eq_true fun q => lk_none_iff.mp h (List.mem_map.mpr ⟨e, he, q⟩)
theorem up_keep {f : WhS → Str → WhS} {go : WhS → WhS → Prop} {h h' : Hs} {n : Str} (u : Up f go h n h') (rk : Str → Nat) (hrk : ∀ n a, lk h.ab n = some a → rk a < rk n) : ∀ t, rk n ≤ rk t → lk h'.wh t = lk h.wh t := by
  induction u with
  | stop e1 e2 e3 =>
    intro t ht
    have := hrk _ _ e1
    exact lk_pt_ne fun z => by rw [z] at ht; omega
  | next e1 e2 e3 e4 e5 ih =>
    intro t ht
    have := hrk _ _ e1
    rw [ih hrk t (by omega)]
    exact lk_pt_ne fun z => by rw [z] at ht; omega
theorem rest_at {h h' : Hs} {n a : Str} {W : WhS} (u : RestUp h n h') (o : HOk h) (ea : lk h.ab n = some a) (ew : lk h.wh a = some W) : lk h'.wh a = some (Wm.rest W n) := by
  obtain ⟨rk, N, hrk⟩ := o.rk
  cases u with
  | stop e1 e2 e3 =>
    rw [ea] at e1
    cases e1
    rw [ew] at e2
    cases e2
    exact lk_pt ew
  | next e1 e2 e3 e4 e5 =>
    rw [ea] at e1
    cases e1
    rw [ew] at e2
    cases e2
    rw [up_keep e5 rk (fun n a z => (hrk n a z).1) a (Nat.le_refl _)]
    exact lk_pt ew

/-! ### a house in the heap -/
theorem n_aw : ¬ (("_above" : Str) = "_wheels") := by decide +kernel
theorem n_wa : ¬ (("_wheels" : Str) = "_above") := by decide +kernel
def hf (da dw : Addr) : List (Str × V) := [("_above", .ref da), ("_wheels", .ref dw)]
theorem hf_ab (da dw : Addr) : (hf da dw).lookup ("_above" : Str) = some (.ref da) := lk_same _ _ _
theorem hf_wh (da dw : Addr) : (hf da dw).lookup ("_wheels" : Str) = some (.ref dw) := (lk_ne n_wa _ _).trans (lk_same _ _ _)
theorem hf_no (da dw : Addr) {m : Str} (h1 : ¬ m = "_above" := by decide +kernel) (h2 : ¬ m = "_wheels" := by decide +kernel) : (hf da dw).lookup m = none := (lk_ne h1 _ _).trans ((lk_ne h2 _ _).trans rfl)
/-- a team: its name, its wheel, where it lies, its places -/
structure TE where
  t : Str
  W : WhS
  q : Addr
  fp : List Addr
/-- dicts by names -/
def kvn {β : Type} (f : β → V) (l : List (Str × β)) : List (Key × V) := l.map fun e => (Sum.inr e.1, f e.2)
theorem kvn_val {β : Type} {f : β → V} : ∀ {l : List (Str × β)} {n : Str}, valV (kvn f l) (Sum.inr n : Key) = (lk l n).map f
  | [], _ => rfl
  | e :: r, n => by
    unfold lk
    by_cases q : e.1 = n
    · have : valV (kvn f (e :: r)) (Sum.inr n : Key) = some (f e.2) := valV_pos (p := (Sum.inr e.1, f e.2)) (congrArg Sum.inr q)
      rw [this, if_pos q]
      rfl
    · have : valV (kvn f (e :: r)) (Sum.inr n : Key) = valV (kvn f r) (Sum.inr n : Key) := valV_neg (p := (Sum.inr e.1, f e.2)) fun z => q (Sum.inr.inj z)
      rw [this, if_neg q, kvn_val]
theorem kvn_drop {β : Type} (f : β → V) (l : List (Str × β)) (n : Str) : dropK (kvn f l) (Sum.inr n : Key) = kvn f (dp l n) := by
  unfold dropK kvn dp
  rw [List.filter_map]
  congr 1
  refine List.filter_congr fun e _ => ?_
  show decide (¬ (Sum.inr e.1 : Key) = Sum.inr n) = decide (e.1 ≠ n)
  exact decide_eq_decide.mpr ⟨fun z q => z (congrArg Sum.inr q), fun z q => z (Sum.inr.inj q)⟩
theorem kvn_new {β : Type} {f : β → V} {l : List (Str × β)} {n : Str} (v : β) (h : lk l n = none) : putK (kvn f l) (Sum.inr n : Key) (f v) = kvn f (l ++ [(n, v)]) := by
  have : ¬ ((kvn f l).any fun kv => decide (kv.1 = (Sum.inr n : Key))) = true := fun z => by
    rw [List.any_eq_true] at z
    obtain ⟨kv, hkv, e⟩ := z
    obtain ⟨x, hx, rfl⟩ := List.mem_map.mp hkv
    exact lk_none_iff.mp h (List.mem_map.mpr ⟨x, hx, Sum.inr.inj (of_decide_eq_true e)⟩)
  unfold putK
  rw [if_neg this]
  unfold kvn
  rw [List.map_append]
  rfl
theorem kvn_len {β : Type} (f : β → V) (l : List (Str × β)) : (kvn f l).length = l.length := List.length_map _
def qs (es : List TE) : List (Str × Addr) := es.map fun e => (e.t, e.q)
def ws (es : List TE) : List (Str × WhS) := es.map fun e => (e.t, e.W)
structure HIn (CH CW CS : Addr) (H : Hp) (p da dw : Addr) (ab : List (Str × Str)) (es : List TE) : Prop where
  ob : ∃ dx, H p = some (.ins CH dx (hf da dw))
  hda : H da = some (.dK (kvn V.str ab))
  hdw : H dw = some (.dK (kvn V.ref (qs es)))
  hws : ∀ e ∈ es, WAt CW CS H e.q e.W e.fp
  dj : es.Pairwise fun e f => ∀ b ∈ e.fp, b ∉ f.fp
  own : ∀ e ∈ es, p ∉ e.fp ∧ da ∉ e.fp ∧ dw ∉ e.fp
  ne : da ≠ dw
def hfp (p da dw : Addr) (es : List TE) : List Addr := p :: da :: dw :: es.flatMap (·.fp)
def HAt (CH CW CS : Addr) (H : Hp) (p : Addr) (h : Hs) (fp : List Addr) : Prop := ∃ da dw es, h.wh = ws es ∧ fp = hfp p da dw es ∧ HIn CH CW CS H p da dw h.ab es ∧ HOk h
section
variable {CH CW CS : Addr} {H H' : Hp} {p da dw : Addr} {ab : List (Str × Str)} {es : List TE} {h : Hs} {fp gp : List Addr}
theorem lk_qs {t : Str} : ∀ {es : List TE} {W : WhS}, lk (ws es) t = some W → ∃ e ∈ es, e.t = t ∧ e.W = W ∧ lk (qs es) t = some e.q
  | [], _, h => by cases h
  | e :: r, W, h => by
    have h : (if e.t = t then some e.W else lk (Mine.ws r) t) = some W := h
    show ∃ e' ∈ e :: r, e'.t = t ∧ e'.W = W ∧ (if e.t = t then some e.q else lk (qs r) t) = some e'.q
    by_cases q : e.t = t
    · rw [if_pos q] at h
      exact ⟨e, List.mem_cons_self, q, Option.some.inj h, by rw [if_pos q]⟩
    · rw [if_neg q] at h
      obtain ⟨e', h1, h2, h3, h4⟩ := lk_qs h
      exact ⟨e', List.mem_cons_of_mem _ h1, h2, h3, by rw [if_neg q]; exact h4⟩
theorem lk_qs_none {t : Str} : ∀ {es : List TE}, lk (ws es) t = none → lk (qs es) t = none
  | [], _ => rfl
  | e :: r, h => by
    have h : (if e.t = t then some e.W else lk (Mine.ws r) t) = none := h
    show (if e.t = t then some e.q else lk (qs r) t) = none
    by_cases q : e.t = t
    · rw [if_pos q] at h
      cases h
    · rw [if_neg q] at h ⊢
      exact lk_qs_none h
theorem mem_hfp {b : Addr} {e : TE} (he : e ∈ es) (hb : b ∈ e.fp) : b ∈ hfp p da dw es := List.mem_cons_of_mem _ (List.mem_cons_of_mem _ (List.mem_cons_of_mem _ (List.mem_flatMap.mpr ⟨e, he, hb⟩)))
theorem HIn.keep (i : HIn CH CW CS H p da dw ab es) (k : ∀ b ∈ hfp p da dw es, ∀ o, H b = some o → H' b = some o) : HIn CH CW CS H' p da dw ab es := by
  refine ⟨?_, k _ (by simp [hfp]) _ i.hda, k _ (by simp [hfp]) _ i.hdw, fun e he => (i.hws e he).keep fun b hb o q => k b (mem_hfp he hb) o q, i.dj, i.own, i.ne⟩
  obtain ⟨dx, e⟩ := i.ob
  exact ⟨dx, k _ (by simp [hfp]) _ e⟩
theorem HAt.keep (a : HAt CH CW CS H p h fp) (k : ∀ b ∈ fp, ∀ o, H b = some o → H' b = some o) : HAt CH CW CS H' p h fp := by
  obtain ⟨da, dw, es, h1, rfl, h3, h4⟩ := a
  exact ⟨da, dw, es, h1, rfl, h3.keep k, h4⟩
theorem HAt.same (a : HAt CH CW CS H p h fp) (k : Same H H') : HAt CH CW CS H' p h fp := a.keep fun b _ o e => k b o e
theorem HAt.kept (a : HAt CH CW CS H p h fp) (k : Kept gp H H') (n : ∀ b ∈ fp, b ∉ gp) : HAt CH CW CS H' p h fp := a.keep fun b hb o e => k b o e (n b hb)
theorem HIn.fpt (i : HIn CH CW CS H p da dw ab es) : ∀ b ∈ hfp p da dw es, ∃ o, H b = some o := by
  intro b hb
  rcases List.mem_cons.mp hb with rfl | hb
  · obtain ⟨dx, e⟩ := i.ob
    exact ⟨_, e⟩
  rcases List.mem_cons.mp hb with rfl | hb
  · exact ⟨_, i.hda⟩
  rcases List.mem_cons.mp hb with rfl | hb
  · exact ⟨_, i.hdw⟩
  obtain ⟨e, he, hb⟩ := List.mem_flatMap.mp hb
  exact (i.hws e he).fpt b hb
theorem HAt.fpt (a : HAt CH CW CS H p h fp) : ∀ b ∈ fp, ∃ o, H b = some o := by
  obtain ⟨da, dw, es, h1, rfl, h3, h4⟩ := a
  exact h3.fpt
theorem HAt.ok (a : HAt CH CW CS H p h fp) : HOk h := by
  obtain ⟨_, _, _, _, _, _, h4⟩ := a
  exact h4
theorem HAt.notin (a : HAt CH CW CS H p h fp) {b : Addr} {o : HO} (e : H b = some o) (h1 : ∀ C dx fs, o ≠ .ins C dx fs) (h2 : ∀ k, o ≠ .dK k) : b ∉ fp := by
  obtain ⟨da, dw, es, _, rfl, i, _⟩ := a
  intro hb
  rcases List.mem_cons.mp hb with rfl | hb
  · obtain ⟨dx, e1⟩ := i.ob
    rw [e] at e1
    exact h1 _ _ _ (Option.some.inj e1)
  rcases List.mem_cons.mp hb with rfl | hb
  · have e1 := i.hda
    rw [e] at e1
    exact h2 _ (Option.some.inj e1)
  rcases List.mem_cons.mp hb with rfl | hb
  · have e1 := i.hdw
    rw [e] at e1
    exact h2 _ (Option.some.inj e1)
  obtain ⟨x, hx, hb⟩ := List.mem_flatMap.mp hb
  exact (i.hws x hx).notin e h1 h2 hb
theorem HAt.lst (a : HAt CH CW CS H p h fp) {b : Addr} {xs : List V} (e : H b = some (.lst xs)) : b ∉ fp := a.notin e (fun _ _ _ z => by cases z) fun _ z => by cases z
theorem HAt.tup (a : HAt CH CW CS H p h fp) {b : Addr} {xs : List V} (e : H b = some (.tup xs)) : b ∉ fp := a.notin e (fun _ _ _ z => by cases z) fun _ z => by cases z
theorem HAt.frz (a : HAt CH CW CS H p h fp) {b : Addr} {x : Obj} {u : HO} (e : H b = some (.frz x u)) : b ∉ fp := a.notin e (fun _ _ _ z => by cases z) fun _ z => by cases z
/-- the team's entry, moved -/
def mvE (es : List TE) (t : Str) (W' : WhS) (fp' : List Addr) : List TE := es.map fun e => if e.t = t then { e with W := W', fp := fp' } else e
theorem mvE_qs (es : List TE) (t : Str) (W' : WhS) (fp' : List Addr) : qs (mvE es t W' fp') = qs es := by
  unfold qs mvE
  rw [List.map_map]
  refine List.map_congr_left fun e _ => ?_
  by_cases q : e.t = t <;> simp [Function.comp, q]
theorem mvE_ws (es : List TE) (t : Str) (W' : WhS) (fp' : List Addr) : ws (mvE es t W' fp') = pt (ws es) t W' := by
  unfold ws mvE pt
  rw [List.map_map, List.map_map]
  refine List.map_congr_left fun e _ => ?_
  by_cases q : e.t = t <;> simp [Function.comp, q]
theorem te_inj : ∀ {es : List TE}, (keys (ws es)).Nodup → ∀ {e f : TE}, e ∈ es → f ∈ es → e.t = f.t → e = f
  | [], _, _, _, h, _, _ => (nomatch h)
  | x :: r, nd, e, f, he, hf, q => by
    have nd : (x.t :: keys (Mine.ws r)).Nodup := nd
    rw [List.nodup_cons] at nd
    have mem : ∀ g ∈ r, g.t ∈ keys (Mine.ws r) := fun g hg => List.mem_map.mpr ⟨(g.t, g.W), List.mem_map.mpr ⟨g, hg, rfl⟩, rfl⟩
    rcases List.mem_cons.mp he with he | he
    · rcases List.mem_cons.mp hf with hf | hf
      · rw [he, hf]
      · exact (nd.1 (by rw [← he, q]; exact mem f hf)).elim
    · rcases List.mem_cons.mp hf with hf | hf
      · exact (nd.1 (by rw [← hf, ← q]; exact mem e he)).elim
      · exact te_inj nd.2 he hf q
/-- one team's wheel moves: the house is as before but for it -/
theorem HIn.move (i : HIn CH CW CS H p da dw ab es) (nd : (keys (ws es)).Nodup) {e : TE} (he : e ∈ es) {W' : WhS} {fp' : List Addr} (w' : WAt CW CS H' e.q W' fp') (st : Step e.fp H fp' H') :
    HIn CH CW CS H' p da dw ab (mvE es e.t W' fp') ∧ Step (hfp p da dw es) H (hfp p da dw (mvE es e.t W' fp')) H' := by
  obtain ⟨o1, o2, o3⟩ := i.own e he
  have old : ∀ f ∈ es, f.t ≠ e.t → ∀ b ∈ f.fp, b ∉ e.fp := fun f hf q b hb hb' => by
    have : ∀ {l : List TE}, l.Pairwise (fun e f => ∀ b ∈ e.fp, b ∉ f.fp) → ∀ x ∈ l, ∀ y ∈ l, x.t ≠ y.t → ∀ b ∈ x.fp, b ∉ y.fp := by
      intro l pw
      induction l with
      | nil => exact fun x hx => (nomatch hx)
      | cons a l ih =>
        rw [List.pairwise_cons] at pw
        intro x hx y hy q b hb hb'
        rcases List.mem_cons.mp hx with ex | mx
        · rcases List.mem_cons.mp hy with ey | my
          · exact q (by rw [ex, ey])
          · exact pw.1 y my b (by rw [← ex]; exact hb) hb'
        · rcases List.mem_cons.mp hy with ey | my
          · exact pw.1 x mx b (by rw [← ey]; exact hb') hb
          · exact ih pw.2 x mx y my q b hb hb'
    exact this i.dj f hf e he q b hb hb'
  have apart : ∀ f ∈ es, f.t ≠ e.t → ∀ b ∈ f.fp, b ∉ fp' := fun f hf q => st.apart (i.hws f hf).fpt (old f hf q)
  have alloc : ∀ {b : Addr} {o : HO}, H b = some o → b ∉ e.fp → b ∉ fp' := fun {b o} q n => st.apart (gp := [b]) (fun c hc => by rw [List.mem_singleton.mp hc]; exact ⟨_, q⟩) (fun c hc => by rw [List.mem_singleton.mp hc]; exact n) b List.mem_cons_self
  obtain ⟨dx, eob⟩ := i.ob
  have cases_ : ∀ g ∈ mvE es e.t W' fp', (g.t = e.t ∧ g.q = e.q ∧ g.W = W' ∧ g.fp = fp') ∨ (g ∈ es ∧ g.t ≠ e.t) := fun g hg => by
    obtain ⟨f, hf, rfl⟩ := List.mem_map.mp hg
    by_cases q : f.t = e.t
    · rw [if_pos q]
      have := te_inj nd hf he q
      subst this
      exact .inl ⟨rfl, rfl, rfl, rfl⟩
    · rw [if_neg q]
      exact .inr ⟨hf, q⟩
  refine ⟨⟨⟨dx, st.kept _ _ eob o1⟩, st.kept _ _ i.hda o2, by rw [mvE_qs]; exact st.kept _ _ i.hdw o3, fun g hg => ?_, ?_, fun g hg => ?_, i.ne⟩, ⟨fun b o q hb => st.kept _ _ q fun z => hb (mem_hfp he z), fun b hb => ?_⟩⟩
  · rcases cases_ g hg with ⟨_, g2, g3, g4⟩ | ⟨g1, g2⟩
    · rw [g2, g3, g4]
      exact w'
    · exact (i.hws g g1).kept st.kept (old g g1 g2)
  · unfold mvE
    rw [List.pairwise_map]
    refine List.Pairwise.imp_of_mem ?_ (List.Pairwise.and i.dj ((List.nodup_iff_pairwise_ne.mp nd) |> fun h => by
      unfold keys Mine.ws at h
      rw [List.map_map, List.pairwise_map] at h
      exact h))
    intro f g hf hg ⟨d1, d2⟩ b hb hb'
    have d2 : f.t ≠ g.t := d2
    by_cases qf : f.t = e.t
    · rw [if_pos qf] at hb
      rw [if_neg (fun z => d2 (qf.trans z.symm))] at hb'
      exact apart g hg (fun z => d2 (qf.trans z.symm)) b hb' hb
    · rw [if_neg qf] at hb
      by_cases qg : g.t = e.t
      · rw [if_pos qg] at hb'
        exact apart f hf qf b hb hb'
      · rw [if_neg qg] at hb'
        exact d1 b hb hb'
  · rcases cases_ g hg with ⟨_, _, _, g4⟩ | ⟨g1, g2⟩
    · rw [g4]
      exact ⟨alloc eob o1, alloc i.hda o2, alloc i.hdw o3⟩
    · exact i.own g g1
  · rcases List.mem_cons.mp hb with rfl | hb
    · exact .inl (by simp [hfp])
    rcases List.mem_cons.mp hb with rfl | hb
    · exact .inl (by simp [hfp])
    rcases List.mem_cons.mp hb with rfl | hb
    · exact .inl (by simp [hfp])
    obtain ⟨g, hg, hb⟩ := List.mem_flatMap.mp hb
    rcases cases_ g hg with ⟨_, _, _, g4⟩ | ⟨g1, g2⟩
    · rw [g4] at hb
      rcases st.new b hb with z | z
      · exact .inl (mem_hfp he z)
      · exact .inr z
    · exact .inl (mem_hfp g1 hb)
end
theorem mvE_self {es : List TE} (nd : (keys (ws es)).Nodup) {e : TE} (he : e ∈ es) : mvE es e.t e.W e.fp = es := by
  unfold mvE
  have : ∀ f ∈ es, (if f.t = e.t then { f with W := e.W, fp := e.fp } else f) = f := fun f hf => by
    by_cases q : f.t = e.t
    · rw [if_pos q]
      have := te_inj nd hf he q
      subst this
      rfl
    · rw [if_neg q]
  rw [List.map_congr_left this, List.map_id']
/-- a team's wheel in a house moves -/
theorem HAt.move {CH CW CS : Addr} {H H' : Hp} {p da dw : Addr} {h : Hs} {es : List TE} (e1 : h.wh = ws es) (i : HIn CH CW CS H p da dw h.ab es) (o : HOk h) {e : TE} (he : e ∈ es) {W' : WhS} {fp' : List Addr} (w' : WAt CW CS H' e.q W' fp') (st : Step e.fp H fp' H')
    (hn : W'.rows.map (·.n) = e.W.rows.map (·.n)) : HAt CH CW CS H' p (setW h e.t W') (hfp p da dw (mvE es e.t W' fp')) ∧ Step (hfp p da dw es) H (hfp p da dw (mvE es e.t W' fp')) H' := by
  have nd : (keys (ws es)).Nodup := by rw [← e1]; exact o.k2
  obtain ⟨a, b⟩ := i.move nd he w' st
  have el : lk h.wh e.t = some e.W := by
    rw [e1]
    exact lk_of nd (List.mem_map.mpr ⟨e, he, rfl⟩)
  refine ⟨⟨da, dw, _, ?_, rfl, a, o.setW el w'.ok (has_names hn)⟩, b⟩
  show pt h.wh e.t W' = _
  rw [mvE_ws, e1]
theorem HAt.stay {CH CW CS : Addr} {H H' : Hp} {p da dw : Addr} {h : Hs} {es : List TE} (e1 : h.wh = ws es) (i : HIn CH CW CS H p da dw h.ab es) (o : HOk h) {e : TE} (he : e ∈ es) (w' : WAt CW CS H' e.q e.W e.fp) (st : Step e.fp H e.fp H') :
    HAt CH CW CS H' p h (hfp p da dw es) ∧ Step (hfp p da dw es) H (hfp p da dw es) H' := by
  have nd : (keys (ws es)).Nodup := by rw [← e1]; exact o.k2
  have el : lk h.wh e.t = some e.W := by
    rw [e1]
    exact lk_of nd (List.mem_map.mpr ⟨e, he, rfl⟩)
  have a := HAt.move e1 i o he w' st rfl
  rw [mvE_self nd he] at a
  have : setW h e.t e.W = h := by
    unfold setW
    rw [pt_self o.k2 el]
  rw [this] at a
  exact a
theorem wake_self {W : WhS} (ok : Wm.Ok W) {y : RowS} (hy : y ∈ W.rows) (hr : y.r = true) : Wm.wake W y.n = W := by
  unfold Wm.wake
  rw [upd_same_rows fun x hx e => by
    cases Wm.row_of_name ok.nd hx hy e
    unfold Wm.woken
    rw [if_pos hr]]
theorem rest_self {W : WhS} (ok : Wm.Ok W) {y : RowS} (hy : y ∈ W.rows) (hr : y.r = false) : Wm.rest W y.n = W := by
  unfold Wm.rest
  rw [upd_same_rows fun x hx e => by
    cases Wm.row_of_name ok.nd hx hy e
    cases y
    cases hr
    rfl]
def dropE (es : List TE) (n : Str) : List TE := es.filter fun e => decide (e.t ≠ n)
theorem dropE_qs (es : List TE) (n : Str) : qs (dropE es n) = dp (qs es) n := by
  unfold qs dropE dp
  rw [List.filter_map]
  rfl
theorem dropE_ws (es : List TE) (n : Str) : ws (dropE es n) = dp (ws es) n := by
  unfold ws dropE dp
  rw [List.filter_map]
  rfl
theorem dropE_none {es : List TE} {n : Str} (h : lk (ws es) n = none) : dropE es n = es := List.filter_eq_self.mpr fun e he => decide_eq_true fun q => lk_none_iff.mp h (List.mem_map.mpr ⟨(e.t, e.W), List.mem_map.mpr ⟨e, he, rfl⟩, q⟩)
theorem dropE_fp {p da dw : Addr} {es : List TE} {n : Str} : ∀ b ∈ hfp p da dw (dropE es n), b ∈ hfp p da dw es := fun b hb => by
  rcases List.mem_cons.mp hb with rfl | hb
  · exact List.mem_cons_self
  rcases List.mem_cons.mp hb with rfl | hb
  · exact List.mem_cons_of_mem _ List.mem_cons_self
  rcases List.mem_cons.mp hb with rfl | hb
  · exact List.mem_cons_of_mem _ (List.mem_cons_of_mem _ List.mem_cons_self)
  obtain ⟨e, he, hb⟩ := List.mem_flatMap.mp hb
  exact mem_hfp (List.mem_filter.mp he).1 hb
/-- a team's wheel is forgotten -/
theorem HIn.drop {CH CW CS : Addr} {H : Hp} {p da dw : Addr} {ab : List (Str × Str)} {es : List TE} (i : HIn CH CW CS H p da dw ab es) (n : Str) :
    HIn CH CW CS (upd H dw (.dK (dropK (kvn V.ref (qs es)) (Sum.inr n : Key)))) p da dw ab (dropE es n) ∧ Step (hfp p da dw es) H (hfp p da dw (dropE es n)) (upd H dw (.dK (dropK (kvn V.ref (qs es)) (Sum.inr n : Key)))) := by
  have k : ∀ b o, b ≠ dw → H b = some o → upd H dw (.dK (dropK (kvn V.ref (qs es)) (Sum.inr n : Key))) b = some o := fun b o h e => by
    rw [upd_ne h]
    exact e
  obtain ⟨dx, ob⟩ := i.ob
  have pw : p ≠ dw := fun z => by
    have := i.hdw
    rw [← z, ob] at this
    cases this
  refine ⟨⟨⟨dx, k _ _ pw ob⟩, k _ _ i.ne i.hda, by rw [upd_same, kvn_drop, dropE_qs], fun e he => ?_, i.dj.sublist List.filter_sublist, fun e he => i.own e (List.mem_filter.mp he).1, i.ne⟩, ⟨fun b o e hb => k b o (fun z => hb (by rw [z]; simp [hfp])) e, fun b hb => .inl (dropE_fp b hb)⟩⟩
  have he' := (List.mem_filter.mp he).1
  exact (i.hws e he').keep fun b hb o e => k b o (fun z => (i.own _ he').2.2 (by rw [← z]; exact hb)) e
/-- who stands where is written anew -/
theorem HIn.above {CH CW CS : Addr} {H : Hp} {p da dw : Addr} {ab : List (Str × Str)} {es : List TE} (i : HIn CH CW CS H p da dw ab es) (ab' : List (Str × Str)) :
    HIn CH CW CS (upd H da (.dK (kvn V.str ab'))) p da dw ab' es ∧ Step (hfp p da dw es) H (hfp p da dw es) (upd H da (.dK (kvn V.str ab'))) := by
  have k : ∀ b o, b ≠ da → H b = some o → upd H da (.dK (kvn V.str ab')) b = some o := fun b o h e => by
    rw [upd_ne h]
    exact e
  obtain ⟨dx, ob⟩ := i.ob
  have pw : p ≠ da := fun z => by
    have := i.hda
    rw [← z, ob] at this
    cases this
  refine ⟨⟨⟨dx, k _ _ pw ob⟩, upd_same, k _ _ i.ne.symm i.hdw, fun e he => ?_, i.dj, i.own, i.ne⟩, ⟨fun b o e hb => k b o (fun z => hb (by rw [z]; simp [hfp])) e, fun b hb => .inl hb⟩⟩
  exact (i.hws e he).keep fun b hb o e => k b o (fun z => (i.own _ he).2.1 (by rw [← z]; exact hb)) e
/-- one more team's wheel -/
theorem HIn.add {CH CW CS : Addr} {H : Hp} {p da dw : Addr} {ab : List (Str × Str)} {es : List TE} (i : HIn CH CW CS H p da dw ab es) {n : Str} {W : WhS} {q : Addr} {fp0 : List Addr} (w : WAt CW CS H q W fp0) (fr : ∀ b ∈ fp0, b ∉ hfp p da dw es) :
    HIn CH CW CS (upd H dw (.dK (kvn V.ref (qs es ++ [(n, q)])))) p da dw ab (es ++ [⟨n, W, q, fp0⟩]) := by
  have k : ∀ b o, b ≠ dw → H b = some o → upd H dw (.dK (kvn V.ref (qs es ++ [(n, q)]))) b = some o := fun b o h e => by
    rw [upd_ne h]
    exact e
  obtain ⟨dx, ob⟩ := i.ob
  have pw : p ≠ dw := fun z => by
    have := i.hdw
    rw [← z, ob] at this
    cases this
  have f1 : p ∉ fp0 := fun z => fr p z (by simp [hfp])
  have f2 : da ∉ fp0 := fun z => fr da z (by simp [hfp])
  have f3 : dw ∉ fp0 := fun z => fr dw z (by simp [hfp])
  refine ⟨⟨dx, k _ _ pw ob⟩, k _ _ i.ne i.hda, ?_, fun e he => ?_, ?_, fun e he => ?_, i.ne⟩
  · rw [upd_same]
    unfold qs
    rw [List.map_append]
    rfl
  · rcases List.mem_append.mp he with he | he
    · exact (i.hws e he).keep fun b hb o z => k b o (fun y => (i.own e he).2.2 (by rw [← y]; exact hb)) z
    · rw [List.mem_singleton.mp he]
      exact w.keep fun b hb o z => k b o (fun y => f3 (by rw [← y]; exact hb)) z
  · rw [List.pairwise_append]
    refine ⟨i.dj, List.pairwise_singleton _ _, fun a ha b hb => ?_⟩
    rw [List.mem_singleton.mp hb]
    exact fun c hc hc' => fr c hc' (mem_hfp ha hc)
  · rcases List.mem_append.mp he with he | he
    · exact i.own e he
    · rw [List.mem_singleton.mp he]
      exact ⟨f1, f2, f3⟩

/-! ### rows of a law beside the mirror of a house -/
/-- one's readiness where it stands -/
def Fl (h : Hs) (n : Str) (v : Bool) : Prop := ∃ a W y, lk h.ab n = some a ∧ lk h.wh a = some W ∧ y ∈ W.rows ∧ y.n = n ∧ y.r = v
theorem Fl.det {h : Hs} (o : HOk h) {n : Str} {v u : Bool} (f : Fl h n v) (g : Fl h n u) : v = u := by
  obtain ⟨a, W, y, e1, e2, e3, e4, e5⟩ := f
  obtain ⟨b, U, z, d1, d2, d3, d4, d5⟩ := g
  rw [e1] at d1
  cases d1
  rw [e2] at d2
  cases d2
  cases Wm.row_of_name (o.ok _ _ e2).nd e3 d3 (e4.trans d4.symm)
  exact e5.symm.trans d5
theorem Fl.ex {h : Hs} (o : HOk h) {n a : Str} (e : lk h.ab n = some a) : ∃ v, Fl h n v := by
  obtain ⟨W, w⟩ := o.aw n a e
  obtain ⟨y, hy, yn⟩ := (o.sub a W n w).mpr e
  exact ⟨_, a, W, y, e, w, hy, yn, rfl⟩
theorem Fl.setW {h : Hs} {t : Str} {W W' : WhS} (e : lk h.wh t = some W) {n : Str} {v : Bool} (f : Fl h n v) (k : ∀ y ∈ W.rows, y.n = n → ∃ y' ∈ W'.rows, y'.n = n ∧ y'.r = y.r) : Fl (setW h t W') n v := by
  obtain ⟨a, U, y, e1, e2, e3, e4, e5⟩ := f
  by_cases z : a = t
  · subst z
    rw [e] at e2
    cases e2
    obtain ⟨y', k1, k2, k3⟩ := k y e3 e4
    exact ⟨a, W', y', e1, lk_pt e, k1, k2, k3.trans e5⟩
  · exact ⟨a, U, y, e1, by show lk (pt h.wh t W') a = _; rw [lk_pt_ne z]; exact e2, e3, e4, e5⟩
theorem up_fl {f : WhS → Str → WhS} {go : WhS → WhS → Prop} {h h' : Hs} {n : Str} (u : Up f go h n h') (oth : ∀ W n x, x.n ≠ n → (x ∈ (f W n).rows ↔ x ∈ W.rows)) {m : Str} {v : Bool} (hm : lk h.wh m = none) (ne : m ≠ n) (g : Fl h m v) : Fl h' m v := by
  induction u with
  | stop e1 e2 e3 => exact g.setW e2 fun y hy yn => ⟨y, (oth _ _ y (by rw [yn]; exact ne)).mpr hy, yn, rfl⟩
  | @next h h' n a W e1 e2 e3 e4 e5 ih =>
    have ma : m ≠ a := fun z => by rw [z, e2] at hm; cases hm
    refine ih ?_ ma (g.setW e2 fun y hy yn => ⟨y, (oth _ _ y (by rw [yn]; exact ne)).mpr hy, yn, rfl⟩)
    show lk (pt h.wh a _) m = none
    rw [lk_pt_ne ma]
    exact hm
theorem up_own {f : WhS → Str → WhS} {go : WhS → WhS → Prop} {v : Bool} {h h' : Hs} {n : Str} (u : Up f go h n h') (oth : ∀ W n x, x.n ≠ n → (x ∈ (f W n).rows ↔ x ∈ W.rows)) (own : ∀ W n, ∀ x ∈ (f W n).rows, x.n = n → x.r = v) (nm : ∀ W n, (f W n).rows.map (·.n) = W.rows.map (·.n)) (o : HOk h) (hn : lk h.wh n = none) : Fl h' n v := by
  have at1 : ∀ {h : Hs} {n a : Str} {W : WhS}, HOk h → lk h.ab n = some a → lk h.wh a = some W → Fl (setW h a (f W n)) n v := fun {h n a W} o e1 e2 => by
    obtain ⟨y, hy, yn⟩ := (has_names (nm W n) n).mpr ((o.sub a W n e2).mpr e1)
    exact ⟨a, f W n, y, e1, lk_pt e2, hy, yn, own W n y hy yn⟩
  cases u with
  | stop e1 e2 e3 => exact at1 o e1 e2
  | @next _ _ _ a W e1 e2 e3 e4 e5 =>
    have na : n ≠ a := o.ne_above e1
    refine up_fl e5 oth ?_ na (at1 o e1 e2)
    show lk (pt h.wh a _) n = none
    rw [lk_pt_ne na]
    exact hn
theorem wake_fl {h h' : Hs} {n : Str} (u : WakeUp h n h') (o : HOk h) (hn : lk h.wh n = none) : Fl h' n true ∧ ∀ m v, lk h.wh m = none → m ≠ n → Fl h m v → Fl h' m v :=
  ⟨up_own u (fun _ _ => wake_own.2) (fun _ _ => wake_own.1) wake_names o hn, fun _ _ hm ne g => up_fl u (fun _ _ => wake_own.2) hm ne g⟩
theorem rest_fl {h h' : Hs} {n : Str} (u : RestUp h n h') (o : HOk h) (hn : lk h.wh n = none) : Fl h' n false ∧ ∀ m v, lk h.wh m = none → m ≠ n → Fl h m v → Fl h' m v :=
  ⟨up_own u (fun _ _ => rest_own.2) (fun _ _ => rest_own.1) rest_names o hn, fun _ _ hm ne g => up_fl u (fun _ _ => rest_own.2) hm ne g⟩
theorem turn_fl {h : Hs} {t : Str} {W : WhS} (e : lk h.wh t = some W) {n : Str} {v : Bool} (f : Fl h n v) : Fl (setW h t (Wm.turn W)) n v :=
  f.setW e fun y hy yn => by
    obtain ⟨y', q1, q2, q3⟩ := (turn_keep W).2 y hy
    exact ⟨y', q1, q2.symm.trans yn, q3.symm⟩
theorem Deal.fl {h h' : Hs} {t : Str} {l : List Str} (d : Deal h t l h') {n : Str} {v : Bool} : Fl h n v → Fl h' n v := by
  induction d with
  | none e _ => exact turn_fl e
  | hand e _ _ => exact turn_fl e
  | team e _ _ _ ih => exact fun f => ih (turn_fl e f)
theorem rdy_up {h : Hs} (o : HOk h) (r : Rd h "") {t : Str} {W : WhS} (e : lk h.wh t = some W) (w : Rdy W) : ∃ U, lk h.wh "" = some U ∧ Rdy U := by
  obtain ⟨rk, N, hrk⟩ := o.rk
  generalize hk : rk t = k
  induction k using Nat.strongRecOn generalizing t W with
  | _ k ih =>
    rcases o.wt t W e with z | ⟨a, ea⟩
    · rw [z] at e
      exact ⟨W, e, w⟩
    · obtain ⟨Wa, ewa⟩ := o.aw t a ea
      obtain ⟨x, hx, xn⟩ := (o.sub a Wa t ewa).mpr ea
      have xr := (r t W a Wa e (o.ne_top ea) (o.ne_top ea) ea ewa x hx xn).mpr w
      exact ih (rk a) (by rw [← hk]; exact (hrk t a ea).1) ewa ⟨x, hx, xr⟩ rfl
/-- where somebody is ready, a hand is -/
theorem rdy_down {h : Hs} (o : HOk h) (r : Rd h "") {t : Str} {W : WhS} (e : lk h.wh t = some W) (w : Rdy W) : ∃ n, lk h.wh n = none ∧ Fl h n true := by
  obtain ⟨rk, N, hrk⟩ := o.rk
  generalize hk : N - rk t = k
  induction k using Nat.strongRecOn generalizing t W with
  | _ k ih =>
    obtain ⟨y, hy, yr⟩ := w
    have ey := (o.sub t W y.n e).mp ⟨y, hy, rfl⟩
    cases en : lk h.wh y.n with
    | none => exact ⟨y.n, en, t, W, y, ey, e, hy, rfl, yr⟩
    | some U =>
      have := (r y.n U t W en (o.ne_top ey) (o.ne_top ey) ey e y hy rfl).mp yr
      obtain ⟨q1, q2⟩ := hrk _ _ ey
      exact ih (N - rk y.n) (by omega) en this rfl
structure HR where
  n : Str
  a : Str
  s : Int
  t : Bool
  f : Bool
structure Lk (rows : List HR) (h : Hs) : Prop where
  ab : h.ab = rows.map fun x => (x.n, x.a)
  wh : keys h.wh = ("" : Str) :: (rows.filter (·.t)).map (·.n)
  fl : ∀ x ∈ rows, x.t = false → Fl h x.n x.f
  tf : ∀ x ∈ rows, x.t = true → x.f = false
theorem Lk.names {rows : List HR} {h : Hs} (l : Lk rows h) : keys h.ab = rows.map (·.n) := by
  rw [l.ab]
  unfold keys
  rw [List.map_map]
  rfl
theorem Lk.nd {rows : List HR} {h : Hs} (l : Lk rows h) (o : HOk h) : (rows.map (·.n)).Nodup := by
  rw [← l.names]
  exact o.k1
theorem Lk.at {rows : List HR} {h : Hs} (l : Lk rows h) (o : HOk h) {x : HR} (hx : x ∈ rows) : lk h.ab x.n = some x.a := by
  refine lk_of o.k1 ?_
  rw [l.ab]
  exact List.mem_map.mpr ⟨x, hx, rfl⟩
theorem Lk.of {rows : List HR} {h : Hs} (l : Lk rows h) {n a : Str} (e : lk h.ab n = some a) : ∃ x ∈ rows, x.n = n ∧ x.a = a := by
  have := lk_mem e
  rw [l.ab] at this
  obtain ⟨x, hx, q⟩ := List.mem_map.mp this
  injection q with q1 q2
  exact ⟨x, hx, q1, q2⟩
theorem hr_inj {rows : List HR} (nd : (rows.map (·.n)).Nodup) {x y : HR} (hx : x ∈ rows) (hy : y ∈ rows) (e : x.n = y.n) : x = y := by
  induction rows with
  | nil => exact (nomatch hx)
  | cons z r ih =>
    rw [List.map_cons, List.nodup_cons] at nd
    rcases List.mem_cons.mp hx with hx | hx
    · rcases List.mem_cons.mp hy with hy | hy
      · rw [hx, hy]
      · exact (nd.1 (by rw [← hx, e]; exact List.mem_map.mpr ⟨y, hy, rfl⟩)).elim
    · rcases List.mem_cons.mp hy with hy | hy
      · exact (nd.1 (by rw [← hy, ← e]; exact List.mem_map.mpr ⟨x, hx, rfl⟩)).elim
      · exact ih nd.2 hx hy
theorem Lk.hand {rows : List HR} {h : Hs} (l : Lk rows h) (o : HOk h) {x : HR} (hx : x ∈ rows) (e : x.t = false) : lk h.wh x.n = none := by
  refine lk_none_iff.mpr fun z => ?_
  rw [l.wh] at z
  rcases List.mem_cons.mp z with z | z
  · exact o.ne_top (l.at o hx) z
  · obtain ⟨y, hy, yn⟩ := List.mem_map.mp z
    obtain ⟨hy, yt⟩ := List.mem_filter.mp hy
    cases hr_inj (l.nd o) hx hy yn.symm
    rw [e] at yt
    cases yt
theorem Lk.team {rows : List HR} {h : Hs} (l : Lk rows h) {x : HR} (hx : x ∈ rows) (e : x.t = true) : ∃ W, lk h.wh x.n = some W := by
  refine key_lk ?_
  rw [l.wh]
  exact List.mem_cons_of_mem _ (List.mem_map.mpr ⟨x, List.mem_filter.mpr ⟨hx, e⟩, rfl⟩)
theorem Lk.keep {rows : List HR} {h h' : Hs} (l : Lk rows h) (o : HOk h) (e1 : h'.ab = h.ab) (e2 : keys h'.wh = keys h.wh) (k : ∀ m v, lk h.wh m = none → Fl h m v → Fl h' m v) : Lk rows h' :=
  ⟨e1.trans l.ab, e2.trans l.wh, fun x hx e => k _ _ (l.hand o hx e) (l.fl x hx e), l.tf⟩
theorem Lk.deal {rows : List HR} {h h' : Hs} {t : Str} {ns : List Str} (l : Lk rows h) (d : Deal h t ns h') (o : HOk h) (r : Rd h "") : Lk rows h' := by
  obtain ⟨_, _, c, e⟩ := d.ok o r
  exact l.keep o c e fun m v _ f => d.fl f
theorem Lk.stir {rows : List HR} {h h' : Hs} (l : Lk rows h) (o : HOk h) {k : Nat} {x : HR} (hk : rows[k]? = some x) (xt : x.t = false) {v : Bool} (e1 : h'.ab = h.ab) (e2 : keys h'.wh = keys h.wh) (f : Fl h' x.n v) (g : ∀ m u, lk h.wh m = none → m ≠ x.n → Fl h m u → Fl h' m u) :
    Lk (rows.set k { x with f := v }) h' := by
  have hx := List.mem_of_getElem? hk
  have nd := l.nd o
  have same : ∀ {β : Type} (q : HR → β), q { x with f := v } = q x → (rows.set k { x with f := v }).map q = rows.map q := fun q e => by
    rw [List.map_set, e]
    exact set_at (at_map q hk)
  have mem : ∀ y ∈ rows.set k { x with f := v }, y = { x with f := v } ∨ (y ∈ rows ∧ y.n ≠ x.n) := fun y hy => by
    obtain ⟨j, hj⟩ := List.getElem?_of_mem hy
    rw [List.getElem?_set] at hj
    by_cases z : k = j
    · rw [if_pos z] at hj
      split at hj
      · exact .inl (Option.some.inj hj).symm
      · cases hj
    · rw [if_neg z] at hj
      refine .inr ⟨List.mem_of_getElem? hj, fun e => z ?_⟩
      have a1 : (rows.map (·.n))[k]? = some x.n := at_map _ hk
      have a2 : (rows.map (·.n))[j]? = some x.n := by rw [at_map (·.n) hj, e]
      exact nd_ix nd a1 a2
  refine ⟨e1.trans (l.ab.trans (same (fun x => (x.n, x.a)) rfl).symm), e2.trans (l.wh.trans ?_), fun y hy yt => ?_, fun y hy yt => ?_⟩
  · have h1 : ((rows.set k { x with f := v }).map fun y => (y.t, y.n)) = rows.map fun y => (y.t, y.n) := same (fun y => (y.t, y.n)) rfl
    have h2 : ∀ l : List HR, (l.filter (·.t)).map (·.n) = ((l.map fun y => (y.t, y.n)).filter (·.1)).map (·.2) := fun l => by
      induction l with
      | nil => rfl
      | cons z r ih =>
        rw [List.map_cons]
        cases zt : z.t <;> simp [zt, ih]
    rw [h2, h2, h1]
  · rcases mem y hy with rfl | ⟨hy, ne⟩
    · exact f
    · exact g _ _ (l.hand o hy yt) ne (l.fl y hy yt)
  · rcases mem y hy with rfl | ⟨hy, ne⟩
    · rw [show (⟨x.n, x.a, x.s, x.t, v⟩ : HR).t = x.t from rfl, xt] at yt
      cases yt
    · exact l.tf y hy yt
theorem Lk.nobody {rows : List HR} {h : Hs} (l : Lk rows h) (o : HOk h) (r : Rd h "") : (∀ x ∈ rows, x.f = false) ↔ ∀ W, lk h.wh "" = some W → Wm.best W.rows = none := by
  constructor
  · intro k W e
    cases eb : Wm.best W.rows with
    | none => rfl
    | some b =>
      obtain ⟨n, n1, n2⟩ := rdy_down o r e (rdy_best.mpr (by rw [eb]; intro z; cases z))
      obtain ⟨a, _, _, ea, _⟩ := id n2
      obtain ⟨x, hx, rfl, _⟩ := l.of ea
      cases xt : x.t with
      | true =>
        obtain ⟨U, u⟩ := l.team hx xt
        rw [n1] at u
        cases u
      | false =>
        have := (l.fl x hx xt).det o n2
        rw [k x hx] at this
        cases this
  · intro k x hx
    cases xf : x.f with
    | false => rfl
    | true =>
      cases xt : x.t with
      | true =>
        have := l.tf x hx xt
        rw [xf] at this
        cases this
      | false =>
        obtain ⟨a, W, y, e1, e2, e3, e4, e5⟩ := l.fl x hx xt
        obtain ⟨U, u1, u2⟩ := rdy_up o r e2 ⟨y, e3, by rw [e5, xf]⟩
        exact (rdy_best.mp u2 (k U u1)).elim
theorem remD_step {h h' : Hs} {t n : Str} {l : List Str} (m : RemD h t (n :: l) h') (o : HOk h) (r : Rd h "") : ∃ U b, lk h.wh t = some U ∧ Wm.best U.rows = some b ∧ b.n = n ∧ RemD (setW h t (Wm.turn U)) n l h' ∧ Fl (setW h t (Wm.turn U)) n true ∧ ∀ V, lk (setW h t (Wm.turn U)).wh n = some V → Rdy V := by
  rcases m with ⟨_, z, _⟩ | ⟨_, _, d⟩
  · cases z
  · have key : ∀ {U : WhS} {b : RowS}, lk h.wh t = some U → Wm.best U.rows = some b → lk (setW h t (Wm.turn U)).wh b.n = lk h.wh b.n ∧ Fl (setW h t (Wm.turn U)) b.n true ∧ ∀ V, lk (setW h t (Wm.turn U)).wh b.n = some V → Rdy V := fun {U b} e eb => by
      obtain ⟨b1, b2, _⟩ := Wm.best_some eb
      have ea := (o.sub t U b.n e).mp ⟨b, b2, rfl⟩
      have fl : Fl (setW h t (Wm.turn U)) b.n true := turn_fl e ⟨t, U, b, ea, e, b2, rfl, b1⟩
      have rk := r.keep e (turn_keep U).1 (turn_keep U).2
      refine ⟨lk_pt_ne (o.ne_above ea), fl, fun V ev => ?_⟩
      obtain ⟨a, W, y, e1, e2, e3, e4, e5⟩ := fl
      exact (rk b.n V a W ev (o.ne_top ea) (o.ne_top ea) e1 e2 y e3 e4).mp e5
    cases d with
    | hand e eb en =>
      obtain ⟨k1, k2, k3⟩ := key e eb
      exact ⟨_, _, e, eb, rfl, .inl ⟨k1.trans en, rfl, rfl⟩, k2, k3⟩
    | team e eb en d =>
      obtain ⟨k1, k2, k3⟩ := key e eb
      exact ⟨_, _, e, eb, rfl, .inr ⟨_, k1.trans en, d⟩, k2, k3⟩
theorem remD_end {h h' : Hs} {t : Str} (m : RemD h t [] h') (k : ∀ V, lk h.wh t = some V → Rdy V) : lk h.wh t = none ∧ h' = h := by
  rcases m with ⟨a, _, b⟩ | ⟨U, e, d⟩
  · exact ⟨a, b⟩
  · cases d with
    | none e1 e2 => exact (rdy_best.mp (k _ e1) e2).elim
theorem deal_none {h h' : Hs} {l : List Str} (o : HOk h) (d : Deal h "" l h') (k : ∀ W, lk h.wh "" = some W → Wm.best W.rows = none) : l = [] ∧ h' = h := by
  cases d with
  | none e1 e2 =>
    refine ⟨rfl, ?_⟩
    rw [Wm.turn_none e2]
    unfold setW
    rw [pt_self o.k2 e1]
  | hand e1 e2 _ => rw [k _ e1] at e2; cases e2
  | team e1 e2 _ _ => rw [k _ e1] at e2; cases e2
theorem deal_some {h h' : Hs} {l : List Str} (o : HOk h) (d : Deal h "" l h') (k : ¬ ∀ W, lk h.wh "" = some W → Wm.best W.rows = none) : RemD h "" l h' ∧ (∀ V, lk h.wh "" = some V → Rdy V) ∧ l ≠ [] := by
  obtain ⟨W, e⟩ := o.top
  have ne : Wm.best W.rows ≠ none := fun z => k fun U u => by
    rw [e] at u
    cases u
    exact z
  refine ⟨.inr ⟨W, e, d⟩, fun V v => ?_, ?_⟩
  · rw [e] at v
    cases v
    exact rdy_best.mpr ne
  · cases d with
    | none e1 e2 => rw [e] at e1; cases e1; exact (ne e2).elim
    | hand => intro z; cases z
    | team => intro z; cases z
theorem Fl.grow {h : Hs} {n m t : Str} {v : Bool} {W W' : WhS} {more : List (Str × WhS)} (f : Fl h m v) (e : lk h.ab n = none) (ea : lk h.wh t = some W) (k : ∀ y ∈ W.rows, y ∈ W'.rows) : Fl ⟨h.ab ++ [(n, t)], pt h.wh t W' ++ more⟩ m v := by
  obtain ⟨a, U, y, e1, e2, e3, e4, e5⟩ := f
  have mn : m ≠ n := fun z => by rw [z, e] at e1; cases e1
  have app : ∀ {l : List (Str × WhS)} {q : Str} {u : WhS}, lk l q = some u → lk (l ++ more) q = some u := fun {l q u} z => by
    induction l with
    | nil => cases z
    | cons x r ih =>
      show (if x.1 = q then some x.2 else lk (r ++ more) q) = some u
      have z : (if x.1 = q then some x.2 else lk r q) = some u := z
      by_cases p : x.1 = q
      · rw [if_pos p] at z ⊢
        exact z
      · rw [if_neg p] at z ⊢
        exact ih z
  have e1' : lk (h.ab ++ [(n, t)]) m = some a := (lk_app_old mn).trans e1
  by_cases z : a = t
  · subst z
    rw [ea] at e2
    cases e2
    exact ⟨a, W', y, e1', app (lk_pt ea), k y e3, e4, e5⟩
  · exact ⟨a, U, y, e1', app ((lk_pt_ne z).trans e2), e3, e4, e5⟩
theorem Lk.addH {rows : List HR} {h : Hs} (l : Lk rows h) {n t : Str} {W : WhS} (e : lk h.ab n = none) (ea : lk h.wh t = some W) (s : Int) : Lk (rows ++ [⟨n, t, s, false, false⟩]) (enterH h n t W s) := by
  have app : (enterH h n t W s) = ⟨h.ab ++ [(n, t)], pt h.wh t (Wm.enter W n s) ++ []⟩ := by rw [List.append_nil]; rfl
  refine ⟨?_, ?_, fun x hx xt => ?_, fun x hx xt => ?_⟩
  · show h.ab ++ [(n, t)] = _
    rw [List.map_append, ← l.ab]
    rfl
  · show keys (pt h.wh t _) = _
    rw [keys_pt, l.wh, List.filter_append]
    simp
  · rcases List.mem_append.mp hx with hx | hx
    · rw [app]
      exact (l.fl x hx xt).grow e ea fun y hy => List.mem_append.mpr (.inl hy)
    · rw [List.mem_singleton.mp hx]
      exact ⟨t, Wm.enter W n s, ⟨n, s, 0, false⟩, lk_app_new e, lk_pt ea, List.mem_append.mpr (.inr List.mem_cons_self), rfl, rfl⟩
  · rcases List.mem_append.mp hx with hx | hx
    · exact l.tf x hx xt
    · rw [List.mem_singleton.mp hx]
theorem Lk.addT {rows : List HR} {h : Hs} (l : Lk rows h) {n t : Str} {W : WhS} (e : lk h.ab n = none) (ea : lk h.wh t = some W) (s : Int) : Lk (rows ++ [⟨n, t, s, true, false⟩]) (enterT h n t W s) := by
  refine ⟨?_, ?_, fun x hx xt => ?_, fun x hx xt => ?_⟩
  · show h.ab ++ [(n, t)] = _
    rw [List.map_append, ← l.ab]
    rfl
  · show keys (pt h.wh t _ ++ [(n, _)]) = _
    rw [show ∀ (l : List (Str × WhS)) (u : WhS), keys (l ++ [(n, u)]) = keys l ++ [n] from fun l u => by unfold keys; rw [List.map_append]; rfl, keys_pt, l.wh, List.filter_append]
    simp
  · rcases List.mem_append.mp hx with hx | hx
    · exact (l.fl x hx xt).grow e ea fun y hy => List.mem_append.mpr (.inl hy)
    · rw [List.mem_singleton.mp hx] at xt
      cases xt
  · rcases List.mem_append.mp hx with hx | hx
    · exact l.tf x hx xt
    · rw [List.mem_singleton.mp hx]

/-! ### is_name -/
theorem elt_mid {prog : Program} {w : World} {scope : Scope} {x lo hi : Str} {j1 j2 : Nat} {p1 p2 p3 p4 : Pos} (hk : scope.kind = .function) (hl : scope.names.lookup x = some .local) (hd : (x == ("__debug__" : Str)) = false := by decide) :
    GxR.EltP prog w scope x (.Compare (.Constant (.str lo) j1 p1) [.LtE, .LtE] [.Name x p2, .Constant (.str hi) j2 p3] p4) (fun c => !decide ([c] < lo.cps.toList) && !decide (hi.cps.toList < [c])) := by
  intro cenv A' E' c t s₂ m₂ hs hn hm
  refine Compare_chain (Calls.Constant_str (chain_link ?_)) (by with_unfolding_all rfl)
  refine wpAny_Name (wpAny_loadName_local (by rw [hs]; exact hk) (show cenv.scope.names.lookup x = some .local by rw [hs]; exact hl) hn hm ?_) hd
  refine PySem.P.le_str (wpAny_truthy_bool ?_)
  show if (!decide ([c] < lo.cps.toList)) = true then _ else _
  cases e : !decide ([c] < lo.cps.toList) with
  | false =>
    rw [if_neg (by decide)]
    refine ⟨?_, GxR.keeps_tok _ _⟩
    show Value.bool false = Value.bool (!decide ([c] < lo.cps.toList) && !decide (hi.cps.toList < [c]))
    rw [e]
    rfl
  | true =>
    rw [if_pos rfl]
    refine chain_last (Calls.Constant_str (PySem.P.le_str ?_))
    refine ⟨?_, GxR.keeps_tok _ _⟩
    show Value.bool (!decide (hi.cps.toList < [c])) = Value.bool (!decide ([c] < lo.cps.toList) && !decide (hi.cps.toList < [c]))
    rw [e]
    rfl
/-- a def whose code object is at c -/
structure FunC (K : PySem.W.Frag) (x qual : Str) (st : Stmt) (c f : Addr) (fd : FuncData) : Prop where
  ex : ∃ (oc : Value) (od : Option Addr) (kV doc pm : Value) (an : Option Addr) (ct : Value) (osl : Array (Option Value)),
    fd = PySem.W.fnOf x qual (defArgs st) (defBody st) (defScope st) .none kV doc pm an (.ref c) ct ∧ K.lookup f = some ⟨oc, od, .func fd, osl⟩ ∧ PySem.W.codeIn K (.ref c) qual = true
  kp : PySem.W.keepIn K (.ref f) = true
theorem okC {P : Program} {w : World} {K : PySem.W.Frag} {mg : Str → Option Value} {base : Heap} {x qual : Str} {st : Stmt} {c f : Addr} {fd : FuncData} {N ps : List Str} {k : Nat} {sp : Sp} (F : FunC K x qual st c f fd) (S : FnScope N ps (defScope st))
    (len : ∀ vs H Q E, sp vs H Q E → vs.length = ps.length)
    (body : ∀ (A : Around) (outer : List Env) (s : Shared) (H : Hp) (vs : List V) (Q : VK) (E : XK), Room k (A.deeper (envOfC qual (defScope st) s.heap.objs.size f (.ref c))) → sp vs H Q E →
      ∃ t, PSs (cxOf (L2.CX P w) P w K mg base N qual (defScope st) f (.ref c) A outer s H E).nox (defBody st) t ∧ t ⟨fun _ H' => Q .non H', Q, fun _ _ => False, fun _ _ => False⟩ (start N vs) H) :
    FnOk P w K mg base (L2.CX P w) (k + 1) f fd ps sp := by
  obtain ⟨oc, od, kV, doc, pm, an, ct, osl, rfl, lk, hcd⟩ := F.ex
  refine fn_of lk hcd S len fun A outer s H vs Q E hr hsp => ?_
  obtain ⟨t, h, q⟩ := body A outer s H vs Q E hr hsp
  exact ⟨t, h.nox, q⟩

def azB (c : Nat) : Bool := !decide ([c] < ("a" : Str).cps.toList) && !decide (("z" : Str).cps.toList < [c])
def isNm : V → Bool
  | .str z => decide (1 ≤ z.length) && decide (z.length ≤ 8) && z.cps.toList.all azB
  | _ => false
def spIsName (Pt : Addr) : Sp := fun vs H Q _ => ∃ x, vs = [x] ∧ Th H x ∧ GxR.TabG H Pt ∧ (∀ z, x = .str z → z.length ≤ sizeLine) ∧ ∀ H', (H' = H ∨ GxR.Tabbed Pt H H') → Q (.bl (isNm x)) H'
section
variable {P : Program} {w : World} {K : PySem.W.Frag} {mg : Str → Option Value} {base : Heap} {CS CW CB CT CN : Addr}
theorem sc_is_name : FnScope ["thing"] ["thing"] (defScope s_is_name) := ⟨rfl, rfl, rfl, by decide +kernel, rfl, by decide +kernel, by decide +kernel⟩
theorem ok_is_name {c Pt f : Addr} {fd : FuncData} {tL : Tok} (F : FunC K "is_name" "is_name" s_is_name c f fd) (L : LT mg) (TB : GxR.TabB base mg c Pt) (mLong : mg "LONGEST" = some (.int 8 tL)) (zall : mg "all" = none) : FnOk P w K mg base (L2.CX P w) 2 f fd ["thing"] (spIsName Pt) := by
  refine okC F sc_is_name (fun vs H Q E h => ?_) (fun A outer s H vs Q E hr h => ?_)
  · obtain ⟨x, rfl, _⟩ := h
    rfl
  · obtain ⟨x, rfl, hx, hT, hz, k⟩ := h
    have free_no : ∀ y ∈ ([((".0" : Str), NameKind.local), (("sign" : Str), NameKind.local)] : List (Str × NameKind)), y.2 = .free → ∃ c', ((cxOf (L2.CX P w) P w K mg base ["thing"] "is_name" (defScope s_is_name) f (.ref c) A outer s H E).nox.env.cells.lookup y.1) = some c' := by
      intro y hy e
      rcases List.mem_cons.mp hy with rfl | hy
      · cases e
      · rcases List.mem_cons.mp hy with rfl | hy
        · cases e
        · cases hy
    refine ⟨_, pss_cons (ps_if (PW.pt (pw_or (pt_not (pt_val (pe_callB call_isi (by rfl) L.isi boot_isinstance (pa_cons (pv 0) (pa_cons (pe_bltn (v := .ty "str") (by rfl) L.str PyProof.Rows.boot_str rfl) pa_nil))))) (pw_or1 (pt_not (pt_chain op_le op_le pe_int (pe_callB call_len_str (by rfl) L.len PySem.boot_len (pa_cons (pv 0) pa_nil)) (pe_glob (v := .int 8) rfl mLong ⟨_, rfl⟩)))))) (pss_one (ps_ret pe_bl)) pss_nil)
      (pss_one (ps_ret (GxR.pe_allS (pb := azB) hr (by rfl) zall (by decide +kernel) TB rfl ⟨rfl, rfl, by decide +kernel, rfl, rfl, (fun y hy e => free_no y hy e)⟩ (pv 0) (elt_mid rfl rfl) (fun _ => rfl)))), ?_⟩
    obtain ⟨t, ty, _, _, e3⟩ := hx.ty (K := K)
    refine ⟨_, rfl, _, _, t, _, _, rfl, .ty _, ty, e3, _, rfl, ?_⟩
    cases hx with
    | int i => exact iteT (iteT (k H (.inl rfl)))
    | bl b => exact iteT (iteT (k H (.inl rfl)))
    | non => exact iteT (iteT (k H (.inl rfl)))
    | lst e => exact iteT (iteT (k H (.inl rfl)))
    | str z =>
      refine iteF ⟨_, rfl, _, rfl, hz z rfl, _, _, rfl, rfl, _, rfl, ?_⟩
      by_cases h1 : (1 : Int) ≤ (z.length : Int)
      · rw [if_pos (decide_eq_true h1)]
        refine ⟨_, _, rfl, rfl, _, rfl, ?_⟩
        by_cases h2 : (z.length : Int) ≤ 8
        · rw [decide_eq_true h2]
          refine iteF ⟨_, rfl, z, rfl, hT, fun H2 hH2 => ?_⟩
          have := k H2 (.inr hH2)
          rw [show isNm (.str z) = (decide (1 ≤ z.length) && decide (z.length ≤ 8) && z.cps.toList.all azB) from rfl] at this
          rw [decide_eq_true (show 1 ≤ z.length by omega), decide_eq_true (show z.length ≤ 8 by omega)] at this
          exact this
        · rw [decide_eq_false h2]
          refine iteT ?_
          have := k H (.inl rfl)
          rw [show isNm (.str z) = (decide (1 ≤ z.length) && decide (z.length ≤ 8) && z.cps.toList.all azB) from rfl] at this
          rw [decide_eq_false (show ¬ z.length ≤ 8 by omega), Bool.and_false, Bool.false_and] at this
          exact this
      · rw [if_neg (by rw [decide_eq_false h1]; decide)]
        refine ⟨_, rfl, iteT ?_⟩
        have := k H (.inl rfl)
        rw [show isNm (.str z) = (decide (1 ≤ z.length) && decide (z.length ≤ 8) && z.cps.toList.all azB) from rfl] at this
        rw [decide_eq_false (show ¬ 1 ≤ z.length by omega), Bool.false_and, Bool.false_and] at this
        exact this
end

/-! ### names of teams and hands -/
def az : Str := "abcdefghijklmnopqrstuvwxyz"
def hname (x y : Int) (c : Nat) : Str := Txt.mul "o" x ++ (⟨#[97 + c]⟩ : Str) ++ Txt.mul "o" y
theorem az_at : ∀ c < 26, az.cps.toList[c]? = some (97 + c) := by decide +kernel
theorem az_len : az.cps.toList.length = 26 := by decide +kernel
theorem azB_at : ∀ c < 26, azB (97 + c) = true := by decide +kernel
theorem azB_o : azB 111 = true := by decide +kernel
theorem mul_o (x : Int) : (Txt.mul "o" x).cps.toList = List.replicate x.toNat 111 := by
  rw [mul_codes]
  exact rep_flat _ _
theorem hname_codes (x y : Int) (c : Nat) : (hname x y c).cps.toList = List.replicate x.toNat 111 ++ [97 + c] ++ List.replicate y.toNat 111 := by
  unfold hname
  rw [codes_app, codes_app, mul_o, mul_o]
theorem hname_len (x y : Int) (c : Nat) : (hname x y c).length = x.toNat + 1 + y.toNat := by
  rw [← codes_len, hname_codes]
  simp
  omega
theorem hname_ok {x y : Int} {c : Nat} (h1 : x ≤ 4) (h2 : y ≤ 3) (hc : c < 26) : isNm (.str (hname x y c)) = true := by
  show (decide (1 ≤ (hname x y c).length) && decide ((hname x y c).length ≤ 8) && (hname x y c).cps.toList.all azB) = true
  rw [hname_len, decide_eq_true (by omega), decide_eq_true (by omega), hname_codes]
  rw [List.all_append, List.all_append]
  have r : ∀ n, (List.replicate n 111).all azB = true := fun n => List.all_eq_true.mpr fun z hz => by rw [(List.mem_replicate.mp hz).2]; exact azB_o
  rw [r, r]
  simp [azB_at c hc]
theorem hname_inj {x y : Int} {c d : Nat} (h : hname x y c = hname x y d) : c = d := by
  have e : (hname x y c).cps.toList = (hname x y d).cps.toList := by rw [h]
  rw [hname_codes, hname_codes] at e
  have e := List.append_cancel_right e
  have e := List.append_cancel_left e
  injection e with e
  omega
theorem nm_ne {n : Str} (h : isNm (.str n) = true) : n ≠ "" := fun z => by
  rw [z] at h
  cases h
theorem mul_o_len (x : Int) : (Txt.mul "o" x).length = x.toNat := by
  rw [← codes_len, mul_o, List.length_replicate]
theorem app_len (a b : Str) : (a ++ b).length = a.length + b.length := by
  rw [← codes_len, codes_app, List.length_append, codes_len, codes_len]
theorem sgn1 (c : Nat) : (⟨#[c]⟩ : Str).length = 1 := rfl

/-! ### lists of lists, by a form -/
section
variable {α : Type} {f : α → List V}
inductive RGA (f : α → List V) (H : Hp) : List Addr → List α → Prop
  | nil : RGA f H [] []
  | cons {t : Addr} {x : α} {ts : List Addr} {rows : List α} : H t = some (.lst (f x)) → RGA f H ts rows → RGA f H (t :: ts) (x :: rows)
theorem RGA.mono {H H' : Hp} : ∀ {ts : List Addr} {rows : List α}, (∀ t ∈ ts, ∀ xs, H t = some (.lst xs) → H' t = some (.lst xs)) → RGA f H ts rows → RGA f H' ts rows
  | _, _, _, .nil => .nil
  | _, _, k, .cons a b => .cons (k _ List.mem_cons_self _ a) (b.mono fun t ht => k t (List.mem_cons_of_mem _ ht))
theorem RGA.len {H : Hp} : ∀ {ts : List Addr} {rows : List α}, RGA f H ts rows → ts.length = rows.length
  | _, _, .nil => rfl
  | _, _, .cons _ b => congrArg (· + 1) b.len
theorem RGA.app {H : Hp} : ∀ {ts us : List Addr} {rows sows : List α}, RGA f H ts rows → RGA f H us sows → RGA f H (ts ++ us) (rows ++ sows)
  | _, _, _, _, .nil, h => h
  | _, _, _, _, .cons a b, h => .cons a (b.app h)
theorem RGA.at {H : Hp} : ∀ {ts : List Addr} {rows : List α} {i : Nat} {x : α}, RGA f H ts rows → rows[i]? = some x → ∃ t, ts[i]? = some t ∧ H t = some (.lst (f x))
  | _, _, 0, _, .cons a _, h => by
    cases h
    exact ⟨_, rfl, a⟩
  | _, _, i + 1, _, .cons _ b, h => b.at (i := i) (by simpa using h)
  | _, _, _, _, .nil, h => by simp at h
theorem RGA.lst {H : Hp} : ∀ {ts : List Addr} {rows : List α}, RGA f H ts rows → ∀ t ∈ ts, ∃ xs, H t = some (.lst xs)
  | _, _, .nil, _, h => (nomatch h)
  | _, _, .cons a b, t, h => by
    rcases List.mem_cons.mp h with rfl | h
    · exact ⟨_, a⟩
    · exact b.lst t h
theorem RGA.set {H : Hp} {y : α} {t : Addr} : ∀ {ts : List Addr} {rows : List α} {k : Nat}, RGA f H ts rows → ts.Nodup → ts[k]? = some t → RGA f (upd H t (.lst (f y))) ts (rows.set k y)
  | _, _, 0, .cons a b, nd, h => by
    cases h
    refine .cons upd_same (b.mono fun u hu xs e => ?_)
    rw [upd_ne (fun z => (List.nodup_cons.mp nd).1 (by rw [← z]; exact hu))]
    exact e
  | _, _, k + 1, .cons (t := u) (ts := ts) a b, nd, h => by
    have h : ts[k]? = some t := by simpa using h
    refine .cons ?_ (RGA.set (k := k) b (List.nodup_cons.mp nd).2 h)
    rw [upd_ne (fun z => (List.nodup_cons.mp nd).1 (by rw [z]; exact List.mem_of_getElem? h))]
    exact a
  | _, _, _, .nil, _, h => by simp at h
structure Rg (f : α → List V) (H : Hp) (lr : Addr) (ts : List Addr) (rows : List α) : Prop where
  h : H lr = some (.lst (ts.map V.ref))
  a : RGA f H ts rows
  nd : (lr :: ts).Nodup
theorem Rg.lst {H : Hp} {lr : Addr} {ts : List Addr} {rows : List α} (R : Rg f H lr ts rows) : ∀ t ∈ lr :: ts, ∃ xs, H t = some (.lst xs) := fun t ht => by
  rcases List.mem_cons.mp ht with rfl | ht
  · exact ⟨_, R.h⟩
  · exact R.a.lst t ht
theorem Rg.keep {H H' : Hp} {lr : Addr} {ts : List Addr} {rows : List α} (R : Rg f H lr ts rows) (k : ∀ t ∈ lr :: ts, ∀ xs, H t = some (.lst xs) → H' t = some (.lst xs)) : Rg f H' lr ts rows :=
  ⟨k _ List.mem_cons_self _ R.h, R.a.mono fun t ht xs e => k _ (List.mem_cons_of_mem _ ht) _ e, R.nd⟩
theorem Rg.same {H H' : Hp} {lr : Addr} {ts : List Addr} {rows : List α} (R : Rg f H lr ts rows) (s : Same H H') : Rg f H' lr ts rows := R.keep fun _ _ _ e => s _ _ e
theorem Rg.len {H : Hp} {lr : Addr} {ts : List Addr} {rows : List α} (R : Rg f H lr ts rows) : (ts.map V.ref).length = rows.length := by rw [List.length_map, R.a.len]
theorem Rg.at {H : Hp} {lr : Addr} {ts : List Addr} {rows : List α} {i : Nat} {x : α} (R : Rg f H lr ts rows) (e : rows[i]? = some x) : ∃ t, (ts.map V.ref)[i]? = some (.ref t) ∧ ts[i]? = some t ∧ H t = some (.lst (f x)) := by
  obtain ⟨t, t1, t2⟩ := R.a.at e
  exact ⟨t, by rw [List.getElem?_map, t1]; rfl, t1, t2⟩
theorem Rg.set {H : Hp} {lr t : Addr} {ts : List Addr} {rows : List α} {k : Nat} {y : α} (R : Rg f H lr ts rows) (h : ts[k]? = some t) : Rg f (upd H t (.lst (f y))) lr ts (rows.set k y) := by
  have nd := List.nodup_cons.mp R.nd
  refine ⟨?_, R.a.set nd.2 h, R.nd⟩
  rw [upd_ne (fun z => nd.1 (by rw [z]; exact List.mem_of_getElem? h))]
  exact R.h
theorem Rg.snoc {H : Hp} {lr t : Addr} {ts : List Addr} {rows : List α} {y : α} (R : Rg f H lr ts rows) (ht : H t = none) : Rg f (upd (upd H t (.lst (f y))) lr (.lst (ts.map V.ref ++ [.ref t]))) lr (ts ++ [t]) (rows ++ [y]) := by
  have nd := List.nodup_cons.mp R.nd
  have nlt : lr ≠ t := ne_of_none R.h ht
  have nt : ¬ t ∈ ts := fun h => by
    obtain ⟨xs, e⟩ := R.a.lst t h
    rw [ht] at e
    cases e
  refine ⟨by rw [upd_same, List.map_append]; rfl, (R.a.mono fun u hu xs e => ?_).app (.cons (by rw [upd_ne nlt.symm, upd_same]) .nil), List.nodup_cons.mpr ⟨fun h => ?_, Wm.nd_snoc nd.2 nt⟩⟩
  · rw [upd_ne (fun z => nd.1 (by rw [← z]; exact hu)), upd_ne (ne_of_none e ht)]
    exact e
  · rcases List.mem_append.mp h with h | h
    · exact nd.1 h
    · exact nlt (List.mem_singleton.mp h)
/-- a house moves: lists stand -/
theorem Rg.step {CH CW CS : Addr} {H H' : Hp} {lr p : Addr} {ts fp fp' : List Addr} {rows : List α} {h : Hs} (R : Rg f H lr ts rows) (hA : HAt CH CW CS H p h fp) (st : Step fp H fp' H') : Rg f H' lr ts rows :=
  R.keep fun _ _ _ e => st.kept _ _ e (hA.lst e)
theorem RGA.dp {K : PySem.W.Frag} {H : Hp} {g : α → List PyData} (fg : ∀ x, DpAll K H (f x) (g x)) : ∀ {ts : List Addr} {rows : List α}, RGA f H ts rows → DpAll K H (ts.map V.ref) (rows.map fun x => PyData.list (g x))
  | _, _, .nil => .nil
  | _, _, .cons a b => .cons (.lst (SqL.of a) (fg _)) (b.dp fg)
/-- a comprehension over a list of lists, with a test: the lists themselves -/
theorem lc_rf {K : PySem.W.Frag} {lr : Addr} {ts : List Addr} {rows : List α} {g : TG} {tt : TT} {te : L2.TE} {vs : List Nat} {σ : L2.St} {H : Hp} {D : Addr} {Qd : Hp → Prop} (pr : α → Bool) (R : Rg f H lr ts rows) (hD : H D = none) (hlen : rows.length ≤ 1000)
    (hs : ∀ x ∈ rows, ∀ t H', Same H H' → H' t = some (.lst (f x)) → ∀ (Y : V → Hp → Prop) (Z : Hp → Prop), (pr x = true → Y (.ref t) H') → (pr x = false → Z H') →
      g (.ref t) (wipe σ vs) H' fun σ2 H2 => wipe σ2 vs = wipe σ vs ∧ tt σ2 H2 fun b H3 => if b = true then te σ2 H3 Y else Z H3)
    (hd : ∀ H' us, Same H H' → H' D = some (.lst (us.map V.ref)) → RGA f H' us (rows.filter pr) → Qd H') :
    ∃ W : Nat → Nat → Hp → Prop, (∃ m, W 0 m (upd H D (.lst []))) ∧ ∀ i m H, W i m H →
      ((Itl K lr).stop i H ∧ Qd H) ∨ ((Itl K lr).go i H ∧ ∃ Nx : Hp → Prop, (∀ H', Nx H' → ∃ m', m' < m ∧ W (i + 1) m' H') ∧ ∀ x H', (Itl K lr).yld i H x H' → g x (wipe σ vs) H' fun σ2 H2 => wipe σ2 vs = wipe σ vs ∧ tt σ2 H2 fun b H3 =>
        if b = true then te σ2 H3 fun y H4 => ∃ acc, H4 D = some (.lst acc) ∧ acc.length < sizeLine ∧ Nx (upd H4 D (.lst (acc ++ [y]))) else Nx H3) := by
  have hl := R.len
  have nD : ∀ {b : Addr} {o : HO}, H b = some o → b ≠ D := fun {b o} e z => by rw [z, hD] at e; cases e
  refine lc_list (K := K) (a := lr) (xs := ts.map V.ref) (fun i H' => Same H H' ∧ ∃ us, H' D = some (.lst (us.map V.ref)) ∧ RGA f H' us ((rows.take i).filter pr) ∧ ∀ u ∈ us, u ∈ ts) ⟨same_upd hD, [], upd_same, .nil, fun u hu => (nomatch hu)⟩ (fun i H' _ e => SqL.of (e.1 _ _ R.h)) ?_ ?_
  · rintro i v H' hv ⟨s, us, u1, u2, u3⟩
    have hi : i < rows.length := by rw [← hl]; exact (List.getElem?_eq_some_iff.mp hv).1
    have ex : rows[i]? = some rows[i] := by simp [hi]
    generalize rows[i] = x at ex
    obtain ⟨t, t1, t3, t2⟩ := R.at ex
    rw [t1] at hv
    cases hv
    have st : ∀ u ∈ ts, u ≠ D := fun u hu => by
      obtain ⟨xs, e⟩ := R.a.lst u hu
      exact nD e
    refine hs x (List.mem_of_getElem? ex) t H' s (s _ _ t2) _ _ (fun e => ?_) (fun e => ?_)
    · refine ⟨us.map V.ref, u1, ?_, fun b o e2 => ?_, us ++ [t], by rw [upd_same, List.map_append]; rfl, ?_, fun u hu => ?_⟩
      · rw [List.length_map, u2.len]
        refine small1000 (Nat.le_trans (List.length_filter_le _ _) ?_)
        rw [List.length_take]
        omega
      · rw [upd_ne (nD e2)]
        exact s _ _ e2
      · rw [take_snoc ex, List.filter_append]
        have : [x].filter pr = [x] := by simp [e]
        rw [this]
        refine (u2.mono fun z hz w e2 => ?_).app (.cons ?_ .nil)
        · rw [upd_ne (st z (u3 z hz))]
          exact e2
        · rw [upd_ne (nD t2)]
          exact s _ _ t2
      · rcases List.mem_append.mp hu with hu | hu
        · exact u3 u hu
        · rw [List.mem_singleton.mp hu]
          exact List.mem_of_getElem? t3
    · refine ⟨s, us, u1, ?_, u3⟩
      rw [take_snoc ex, List.filter_append]
      have : [x].filter pr = [] := by simp [e]
      rw [this, List.append_nil]
      exact u2
  · rintro H' ⟨s, us, u1, u2, _⟩
    rw [hl, List.take_length] at u2
    exact hd H' us s u1 u2
/-- a comprehension over a list of lists, with a test: flat values -/
theorem lc_rm {K : PySem.W.Frag} {lr : Addr} {ts : List Addr} {rows : List α} {g : TG} {tt : TT} {te : L2.TE} {vs : List Nat} {σ : L2.St} {H : Hp} {D : Addr} {Qd : Hp → Prop} (pr : α → Bool) (fv : α → V) (R : Rg f H lr ts rows) (hD : H D = none) (hlen : rows.length ≤ 1000)
    (hs : ∀ x ∈ rows, ∀ t H', Same H H' → H' t = some (.lst (f x)) → ∀ (Y : V → Hp → Prop) (Z : Hp → Prop), (pr x = true → Y (fv x) H') → (pr x = false → Z H') →
      g (.ref t) (wipe σ vs) H' fun σ2 H2 => wipe σ2 vs = wipe σ vs ∧ tt σ2 H2 fun b H3 => if b = true then te σ2 H3 Y else Z H3)
    (hd : ∀ H', Same H H' → H' D = some (.lst ((rows.filter pr).map fv)) → Qd H') :
    ∃ W : Nat → Nat → Hp → Prop, (∃ m, W 0 m (upd H D (.lst []))) ∧ ∀ i m H, W i m H →
      ((Itl K lr).stop i H ∧ Qd H) ∨ ((Itl K lr).go i H ∧ ∃ Nx : Hp → Prop, (∀ H', Nx H' → ∃ m', m' < m ∧ W (i + 1) m' H') ∧ ∀ x H', (Itl K lr).yld i H x H' → g x (wipe σ vs) H' fun σ2 H2 => wipe σ2 vs = wipe σ vs ∧ tt σ2 H2 fun b H3 =>
        if b = true then te σ2 H3 fun y H4 => ∃ acc, H4 D = some (.lst acc) ∧ acc.length < sizeLine ∧ Nx (upd H4 D (.lst (acc ++ [y]))) else Nx H3) := by
  have hl := R.len
  have nD : ∀ {b : Addr} {o : HO}, H b = some o → b ≠ D := fun {b o} e z => by rw [z, hD] at e; cases e
  refine lc_list (K := K) (a := lr) (xs := ts.map V.ref) (fun i H' => Same H H' ∧ H' D = some (.lst (((rows.take i).filter pr).map fv))) ⟨same_upd hD, upd_same⟩ (fun i H' _ e => SqL.of (e.1 _ _ R.h)) ?_ ?_
  · rintro i v H' hv ⟨s, u1⟩
    have hi : i < rows.length := by rw [← hl]; exact (List.getElem?_eq_some_iff.mp hv).1
    have ex : rows[i]? = some rows[i] := by simp [hi]
    generalize rows[i] = x at ex
    obtain ⟨t, t1, _, t2⟩ := R.at ex
    rw [t1] at hv
    cases hv
    refine hs x (List.mem_of_getElem? ex) t H' s (s _ _ t2) _ _ (fun e => ?_) (fun e => ?_)
    · refine ⟨_, u1, ?_, fun b o e2 => ?_, ?_⟩
      · rw [List.length_map]
        refine small1000 (Nat.le_trans (List.length_filter_le _ _) ?_)
        rw [List.length_take]
        omega
      · rw [upd_ne (nD e2)]
        exact s _ _ e2
      · rw [upd_same, take_snoc ex, List.filter_append, List.map_append]
        have : [x].filter pr = [x] := by simp [e]
        rw [this]
        rfl
    · refine ⟨s, ?_⟩
      rw [take_snoc ex, List.filter_append]
      have : [x].filter pr = [] := by simp [e]
      rw [this, List.append_nil]
      exact u1
  · rintro H' ⟨s, u1⟩
    rw [hl, List.take_length] at u1
    exact hd H' s u1
end
/-! ### the script, where it may be a plain list -/
def Sc (K : PySem.W.Frag) (H : Hp) (a : Addr) (xs : List V) (S : List Addr) : Prop :=
  (a ∉ S ∧ L2.Rd H a (.lst xs)) ∨ (∃ (o : Obj) (its : Array Value) (n : Nat), K.lookup a = some o ∧ o.cls = .type "list" ∧ o.dict = none ∧ o.data = .seq its n ∧ its.size ≤ sizeLine ∧ Vals xs its.toList)
theorem Sc.sq {K : PySem.W.Frag} {H : Hp} {a : Addr} {xs : List V} {S : List Addr} (h : Sc K H a xs S) : SqL K H a xs := by
  rcases h with h | h
  · exact .inl h.2
  · exact .inr h
theorem Sc.of {K : PySem.W.Frag} {H : Hp} {a : Addr} {xs : List V} (h : SqL K H a xs) : Sc K H a xs [] := by
  rcases h with h | h
  · exact .inl ⟨fun z => (nomatch z), h⟩
  · exact .inr h
theorem Sc.keep {K : PySem.W.Frag} {H H' : Hp} {a : Addr} {xs : List V} {S S' : List Addr} (h : Sc K H a xs S) (k : ∀ o, (o = .lst xs ∨ ∃ u, o = .frz u (.lst xs)) → H a = some o → a ∉ S → H' a = some o ∧ a ∉ S') : Sc K H' a xs S' := by
  rcases h with ⟨n, h | ⟨o, h⟩⟩ | h
  · obtain ⟨q1, q2⟩ := k _ (.inl rfl) h n
    exact .inl ⟨q2, .inl q1⟩
  · obtain ⟨q1, q2⟩ := k _ (.inr ⟨o, rfl⟩) h n
    exact .inl ⟨q2, .inr ⟨o, q1⟩⟩
  · exact .inr h
theorem Sc.same {K : PySem.W.Frag} {H H' : Hp} {a : Addr} {xs : List V} {S : List Addr} (h : Sc K H a xs S) (s : Same H H') : Sc K H' a xs S := h.keep fun o _ e n => ⟨s _ _ e, n⟩
/-- new lists come to S -/
theorem Sc.grow {K : PySem.W.Frag} {H H' : Hp} {a : Addr} {xs : List V} {S S' : List Addr} (h : Sc K H a xs S) (s : Same H H') (n : ∀ b ∈ S', b ∈ S ∨ H b = none) : Sc K H' a xs S' := h.keep fun o _ e q => ⟨s _ _ e, fun z => by
  rcases n a z with z | z
  · exact q z
  · rw [z] at e
    cases e⟩
theorem Sc.upd {K : PySem.W.Frag} {H : Hp} {a t : Addr} {o : HO} {xs : List V} {S : List Addr} (h : Sc K H a xs S) (ht : t ∈ S) : Sc K (upd H t o) a xs S := h.keep fun o _ e n => ⟨by rw [upd_ne (fun z => n (by rw [z]; exact ht))]; exact e, n⟩
theorem Sc.step {K : PySem.W.Frag} {CH CW CS : Addr} {H H' : Hp} {a p : Addr} {fp fp' : List Addr} {h : Hs} {xs : List V} {S : List Addr} (c : Sc K H a xs S) (hA : HAt CH CW CS H p h fp) (st : Step fp H fp' H') : Sc K H' a xs S := c.keep fun o k e n => by
  refine ⟨st.kept _ _ e ?_, n⟩
  rcases k with rfl | ⟨u, rfl⟩
  · exact hA.lst e
  · exact hA.frz e
/-- a house stands through a list's store -/
theorem HAt.upl {CH CW CS : Addr} {H : Hp} {p t : Addr} {h : Hs} {fp : List Addr} {xs : List V} {o : HO} (hA : HAt CH CW CS H p h fp) (e : H t = some (.lst xs)) : HAt CH CW CS (upd H t o) p h fp :=
  hA.keep fun b hb u q => by
    rw [upd_ne (fun z => hA.lst e (by rw [← z]; exact hb))]
    exact q
/-! ### a dict of wheels -/
structure WD (CW CS : Addr) (H : Hp) (d : Addr) (es : List TE) : Prop where
  hd : H d = some (.dK (kvn V.ref (qs es)))
  hws : ∀ e ∈ es, WAt CW CS H e.q e.W e.fp
  dj : es.Pairwise fun e f => ∀ b ∈ e.fp, b ∉ f.fp
  own : ∀ e ∈ es, d ∉ e.fp
def wfp (d : Addr) (es : List TE) : List Addr := d :: es.flatMap (·.fp)
section
variable {CW CS : Addr} {H H' : Hp} {d : Addr} {es : List TE}
theorem mem_wfp {b : Addr} {e : TE} (he : e ∈ es) (hb : b ∈ e.fp) : b ∈ wfp d es := List.mem_cons_of_mem _ (List.mem_flatMap.mpr ⟨e, he, hb⟩)
theorem WD.keep (i : WD CW CS H d es) (k : ∀ b ∈ wfp d es, ∀ o, H b = some o → H' b = some o) : WD CW CS H' d es :=
  ⟨k _ List.mem_cons_self _ i.hd, fun e he => (i.hws e he).keep fun b hb o q => k b (mem_wfp he hb) o q, i.dj, i.own⟩
theorem WD.same (i : WD CW CS H d es) (s : Same H H') : WD CW CS H' d es := i.keep fun _ _ _ e => s _ _ e
theorem WD.fpt (i : WD CW CS H d es) : ∀ b ∈ wfp d es, ∃ o, H b = some o := by
  intro b hb
  rcases List.mem_cons.mp hb with rfl | hb
  · exact ⟨_, i.hd⟩
  obtain ⟨e, he, hb⟩ := List.mem_flatMap.mp hb
  exact (i.hws e he).fpt b hb
theorem WD.notin (i : WD CW CS H d es) {b : Addr} {o : HO} (e : H b = some o) (h1 : ∀ C dx fs, o ≠ .ins C dx fs) (h2 : ∀ k, o ≠ .dK k) : b ∉ wfp d es := by
  intro hb
  rcases List.mem_cons.mp hb with rfl | hb
  · have e1 := i.hd
    rw [e] at e1
    exact h2 _ (Option.some.inj e1)
  obtain ⟨x, hx, hb⟩ := List.mem_flatMap.mp hb
  exact (i.hws x hx).notin e h1 h2 hb
theorem WD.lst (i : WD CW CS H d es) {b : Addr} {xs : List V} (e : H b = some (.lst xs)) : b ∉ wfp d es := i.notin e (fun _ _ _ z => by cases z) fun _ z => by cases z
/-- one more wheel -/
theorem WD.snoc (i : WD CW CS H d es) {n : Str} {W : WhS} {q : Addr} {fp0 : List Addr} (w : WAt CW CS H q W fp0) (fr : ∀ b ∈ fp0, b ∉ wfp d es) : WD CW CS (upd H d (.dK (kvn V.ref (qs (es ++ [⟨n, W, q, fp0⟩]))))) d (es ++ [⟨n, W, q, fp0⟩]) := by
  have k : ∀ b o, b ≠ d → H b = some o → upd H d (.dK (kvn V.ref (qs (es ++ [⟨n, W, q, fp0⟩])))) b = some o := fun b o h e => by
    rw [upd_ne h]
    exact e
  have f0 : d ∉ fp0 := fun z => fr d z List.mem_cons_self
  refine ⟨upd_same, fun e he => ?_, ?_, fun e he => ?_⟩
  · rcases List.mem_append.mp he with he | he
    · exact (i.hws e he).keep fun b hb o z => k b o (fun y => i.own e he (by rw [← y]; exact hb)) z
    · rw [List.mem_singleton.mp he]
      exact w.keep fun b hb o z => k b o (fun y => f0 (by rw [← y]; exact hb)) z
  · rw [List.pairwise_append]
    refine ⟨i.dj, List.pairwise_singleton _ _, fun a ha b hb => ?_⟩
    rw [List.mem_singleton.mp hb]
    exact fun c hc hc' => fr c hc' (mem_wfp ha hc)
  · rcases List.mem_append.mp he with he | he
    · exact i.own e he
    · rw [List.mem_singleton.mp he]
      exact f0
/-- one of the wheels moves -/
theorem WD.move (i : WD CW CS H d es) (nd : (keys (ws es)).Nodup) {e : TE} (he : e ∈ es) {W' : WhS} {fp' : List Addr} (w' : WAt CW CS H' e.q W' fp') (st : Step e.fp H fp' H') : WD CW CS H' d (mvE es e.t W' fp') ∧ Step (wfp d es) H (wfp d (mvE es e.t W' fp')) H' := by
  have o1 := i.own e he
  have old : ∀ f ∈ es, f.t ≠ e.t → ∀ b ∈ f.fp, b ∉ e.fp := fun f hf q b hb hb' => by
    have : ∀ {l : List TE}, l.Pairwise (fun e f => ∀ b ∈ e.fp, b ∉ f.fp) → ∀ x ∈ l, ∀ y ∈ l, x.t ≠ y.t → ∀ b ∈ x.fp, b ∉ y.fp := by
      intro l pw
      induction l with
      | nil => exact fun x hx => (nomatch hx)
      | cons a l ih =>
        rw [List.pairwise_cons] at pw
        intro x hx y hy q b hb hb'
        rcases List.mem_cons.mp hx with ex | mx
        · rcases List.mem_cons.mp hy with ey | my
          · exact q (by rw [ex, ey])
          · exact pw.1 y my b (by rw [← ex]; exact hb) hb'
        · rcases List.mem_cons.mp hy with ey | my
          · exact pw.1 x mx b (by rw [← ey]; exact hb') hb
          · exact ih pw.2 x mx y my q b hb hb'
    exact this i.dj f hf e he q b hb hb'
  have apart : ∀ f ∈ es, f.t ≠ e.t → ∀ b ∈ f.fp, b ∉ fp' := fun f hf q => st.apart (i.hws f hf).fpt (old f hf q)
  have alloc : d ∉ fp' := st.apart (gp := [d]) (fun c hc => by rw [List.mem_singleton.mp hc]; exact ⟨_, i.hd⟩) (fun c hc => by rw [List.mem_singleton.mp hc]; exact o1) d List.mem_cons_self
  have cases_ : ∀ g ∈ mvE es e.t W' fp', (g.t = e.t ∧ g.q = e.q ∧ g.W = W' ∧ g.fp = fp') ∨ (g ∈ es ∧ g.t ≠ e.t) := fun g hg => by
    obtain ⟨f, hf, rfl⟩ := List.mem_map.mp hg
    by_cases q : f.t = e.t
    · rw [if_pos q]
      have := te_inj nd hf he q
      subst this
      exact .inl ⟨rfl, rfl, rfl, rfl⟩
    · rw [if_neg q]
      exact .inr ⟨hf, q⟩
  refine ⟨⟨by rw [mvE_qs]; exact st.kept _ _ i.hd o1, fun g hg => ?_, ?_, fun g hg => ?_⟩, ⟨fun b o q hb => st.kept _ _ q fun z => hb (mem_wfp he z), fun b hb => ?_⟩⟩
  · rcases cases_ g hg with ⟨_, g2, g3, g4⟩ | ⟨g1, g2⟩
    · rw [g2, g3, g4]
      exact w'
    · exact (i.hws g g1).kept st.kept (old g g1 g2)
  · unfold mvE
    rw [List.pairwise_map]
    refine List.Pairwise.imp_of_mem ?_ (List.Pairwise.and i.dj ((List.nodup_iff_pairwise_ne.mp nd) |> fun h => by
      unfold keys Mine.ws at h
      rw [List.map_map, List.pairwise_map] at h
      exact h))
    intro f g hf hg ⟨d1, d2⟩ b hb hb'
    have d2 : f.t ≠ g.t := d2
    by_cases qf : f.t = e.t
    · rw [if_pos qf] at hb
      rw [if_neg (fun z => d2 (qf.trans z.symm))] at hb'
      exact apart g hg (fun z => d2 (qf.trans z.symm)) b hb' hb
    · rw [if_neg qf] at hb
      by_cases qg : g.t = e.t
      · rw [if_pos qg] at hb'
        exact apart f hf qf b hb hb'
      · rw [if_neg qg] at hb'
        exact d1 b hb hb'
  · rcases cases_ g hg with ⟨_, _, _, g4⟩ | ⟨g1, g2⟩
    · rw [g4]
      exact alloc
    · exact i.own g g1
  · rcases List.mem_cons.mp hb with rfl | hb
    · exact .inl List.mem_cons_self
    obtain ⟨g, hg, hb⟩ := List.mem_flatMap.mp hb
    rcases cases_ g hg with ⟨_, _, _, g4⟩ | ⟨g1, g2⟩
    · rw [g4] at hb
      rcases st.new b hb with z | z
      · exact .inl (mem_wfp he z)
      · exact .inr z
    · exact .inl (mem_wfp g1 hb)
theorem lk_ws_pt {es : List TE} {t : Str} {W' : WhS} {fp' : List Addr} : lk (ws (mvE es t W' fp')) = lk (pt (ws es) t W') := by rw [mvE_ws]
end
/-! ### data through moves of what is no list and no tuple -/
mutual
theorem Dp.keep {K : PySem.W.Frag} {H H' : Hp} (k1 : ∀ b xs, L2.Rd H b (.lst xs) → L2.Rd H' b (.lst xs)) (k2 : ∀ b xs, L2.Rd H b (.tup xs) → L2.Rd H' b (.tup xs)) : ∀ (d : PyData) (v : V), Dp K H v d → Dp K H' v d
  | .none, _, .non => .non
  | .bool _, _, .bl b => .bl b
  | .int _, _, .int i => .int i
  | .str _, _, .str x => .str x
  | .list ds, _, .lst h a => .lst (h.elim (fun h => .inl (k1 _ _ h)) .inr) (DpAll.keep k1 k2 ds _ a)
  | .tuple ds, _, .tup h a => .tup (h.elim (fun h => .inl (k2 _ _ h)) .inr) (DpAll.keep k1 k2 ds _ a)
theorem DpAll.keep {K : PySem.W.Frag} {H H' : Hp} (k1 : ∀ b xs, L2.Rd H b (.lst xs) → L2.Rd H' b (.lst xs)) (k2 : ∀ b xs, L2.Rd H b (.tup xs) → L2.Rd H' b (.tup xs)) : ∀ (ds : List PyData) (vs : List V), DpAll K H vs ds → DpAll K H' vs ds
  | [], _, .nil => .nil
  | d :: ds, _, .cons a b => .cons (Dp.keep k1 k2 d _ a) (DpAll.keep k1 k2 ds _ b)
end
theorem Dp.same {K : PySem.W.Frag} {H H' : Hp} {d : PyData} {v : V} (h : Dp K H v d) (s : Same H H') : Dp K H' v d := Mine.Dp.keep (fun b xs e => e.elim (fun e => .inl (s _ _ e)) fun ⟨o, e⟩ => .inr ⟨o, s _ _ e⟩) (fun b xs e => e.elim (fun e => .inl (s _ _ e)) fun ⟨o, e⟩ => .inr ⟨o, s _ _ e⟩) d v h
/-- a dict is written: data stand -/
theorem Dp.updk {K : PySem.W.Frag} {H : Hp} {d : PyData} {v : V} {b : Addr} {o : HO} {ks : List (Key × V)} (h : Dp K H v d) (e : H b = some (.dK ks) ∨ ∃ u, H b = some (.frz u (.dK ks))) : Dp K (upd H b o) v d := by
  have nl : ∀ c u, (∀ ks, u ≠ .dK ks) → (∀ x w, u ≠ .frz x w) → L2.Rd H c u → c ≠ b := fun c u n n2 q z => by
    subst z
    rcases e with e | ⟨x, e⟩
    · rcases q with q | ⟨y, q⟩
      · rw [e] at q
        exact n _ (Option.some.inj q).symm
      · rw [e] at q
        cases q
    · rcases q with q | ⟨y, q⟩
      · rw [e] at q
        exact n2 _ _ (Option.some.inj q).symm
      · rw [e] at q
        injection q with q
        injection q with _ q
        exact n _ q.symm
  exact Mine.Dp.keep (fun c xs q => by unfold L2.Rd; rw [upd_ne (nl c _ (fun _ z => by cases z) (fun _ _ z => by cases z) q)]; exact q) (fun c xs q => by unfold L2.Rd; rw [upd_ne (nl c _ (fun _ z => by cases z) (fun _ _ z => by cases z) q)]; exact q) d v h
/-! ### dicts of data compared, whatever the order their keys stand in -/
theorem kv_mem {κ : Type} {ks : List (κ × V)} {va : List (κ × Value)} (r : KV ks va) {k : κ} {v : Value} (h : (k, v) ∈ va) : ∃ p ∈ ks, p.1 = k ∧ L2.RelV p.2 v := by
  unfold KV at r
  induction r with
  | nil => exact (nomatch h)
  | cons h1 h2 ih =>
    rcases List.mem_cons.mp h with z | z
    · subst z
      exact ⟨_, List.mem_cons_self, h1.1, h1.2⟩
    · obtain ⟨p, a1, a2⟩ := ih z
      exact ⟨p, List.mem_cons_of_mem _ a1, a2⟩
def rEqDD (K : PySem.W.Frag) : R2 := fun x y H Q => ∃ a b ks ls, x = .ref a ∧ y = .ref b ∧ H a = some (.dK ks) ∧ H b = some (.dK ls) ∧ ks.length = ls.length ∧ (∀ p ∈ ks, ∃ v d, valV ls p.1 = some v ∧ Dp K H p.2 d ∧ Dp K H v d ∧ Sm 60 d) ∧ Q (.bl true) H
theorem op_eqDD {X : Cx} {K0 : PySem.W.Frag} (hu : X.A.units + 64 < cLine) (hK : X.K = K0 := by rfl) : OpR X (compareOp .Eq) (rEqDD K0) := by
  subst hK
  intro pins s σ H x y v u Q I rx ry h
  obtain ⟨a, b, ks, ls, rfl, rfl, ea, eb, hlen, hp, q⟩ := h
  obtain rfl : v = Value.ref a := rx
  obtain rfl : u = Value.ref b := ry
  obtain ⟨_, ya, va, ra, da⟩ := (show ObjOk X.prog X.w H s.heap a (.dK ks) from I.hok a _ ea)
  obtain ⟨_, yb, vb, rb, db⟩ := (show ObjOk X.prog X.w H s.heap b (.dK ls) from I.hok b _ eb)
  have hl : va.length = vb.length := by rw [← ra.length, ← rb.length]; exact hlen
  have key : ∀ k v, (k, v) ∈ va → ∃ y d as bs, valueAt vb k = some y ∧ Reads s.heap v d as ∧ Reads s.heap y d bs ∧ Sm 60 d := fun k v hkv => by
    obtain ⟨p, hpk, e1, e2⟩ := kv_mem ra hkv
    obtain ⟨v2, d, f1, f2, f3, f4⟩ := hp p hpk
    obtain ⟨as, r1⟩ := Dp.reads I d _ _ f2 e2
    have rr : RelO (some v2) (valueAt vb p.1) := by rw [← f1]; exact rb.val p.1
    obtain ⟨y, hy, ry⟩ := rr.some_of
    obtain ⟨bs, r2⟩ := Dp.reads I d _ y f3 ry
    exact ⟨y, d, as, bs, by rw [← e1]; exact hy, r1, r2, f4⟩
  refine PySem.W.eq_dictsT (knd := mixKind X.prog X.w) (n := 61) (e := fun _ => true) ya yb da db (fun k v y hkv hy => ?_) (by omega) ⟨.bl true, H, I, ?_, q⟩
  · obtain ⟨y', d, as, bs, e1, r1, r2, sm⟩ := key k v hkv
    rw [hy] at e1
    cases e1
    refine .leaf fun A hA => ?_
    have := SeqAt.eqAt_plain d d A s v y _ _ r1 r2 sm.1 sm.1 (by have := sm.2; have := Nat.min_le_left d.depth d.depth; omega)
    rw [SeqAt.eqv_refl_plain d sm.1] at this
    exact this
  · show Value.bool _ = Value.bool true
    congr 1
    rw [beq_iff_eq.mpr hl, Bool.true_and, List.all_eq_true]
    rintro ⟨k, v⟩ hkv
    obtain ⟨y', d, as, bs, e1, _⟩ := key k v hkv
    dsimp only
    rw [e1]
    rfl
/-- a comprehension over what is walked: a list -/
theorem lc_it {J : It} {n : Nat} {G : Hp → Prop} {Y : Nat → Hp → V → Hp → Prop} (w : Walk J n G Y) {g : TG} {tt : TT} {te : L2.TE} {vs : List Nat} {σ : L2.St} {H1 : Hp} {D : Addr} {Qd : Hp → Prop} (Pv : Nat → Hp → Prop) (h0 : Pv 0 (upd H1 D (.lst []))) (hG : ∀ i H, i ≤ n → Pv i H → G H)
    (hs : ∀ i x H H', i < n → Pv i H → Y i H x H' → g x (wipe σ vs) H' fun σ2 H2 => wipe σ2 vs = wipe σ vs ∧ tt σ2 H2 fun b H3 =>
      if b = true then te σ2 H3 fun y H4 => ∃ acc, H4 D = some (.lst acc) ∧ acc.length < sizeLine ∧ Pv (i + 1) (upd H4 D (.lst (acc ++ [y]))) else Pv (i + 1) H3)
    (hd : ∀ H, Pv n H → Qd H) :
    ∃ W : Nat → Nat → Hp → Prop, (∃ m, W 0 m (upd H1 D (.lst []))) ∧ ∀ i m H, W i m H →
      (J.stop i H ∧ Qd H) ∨ (J.go i H ∧ ∃ Nx : Hp → Prop, (∀ H', Nx H' → ∃ m', m' < m ∧ W (i + 1) m' H') ∧ ∀ x H', J.yld i H x H' → g x (wipe σ vs) H' fun σ2 H2 => wipe σ2 vs = wipe σ vs ∧ tt σ2 H2 fun b H3 =>
        if b = true then te σ2 H3 fun y H4 => ∃ acc, H4 D = some (.lst acc) ∧ acc.length < sizeLine ∧ Nx (upd H4 D (.lst (acc ++ [y]))) else Nx H3) := by
  refine ⟨fun i m H => i ≤ n ∧ m = n - i ∧ Pv i H, ⟨n, Nat.zero_le _, by simp, h0⟩, fun i m H ⟨hi, hm, p⟩ => ?_⟩
  subst hm
  rcases Nat.lt_or_ge i n with hlt | hge
  · exact .inr ⟨w.goes i H hlt (hG i H hi p), Pv (i + 1), fun H' p' => ⟨n - (i + 1), by omega, hlt, rfl, p'⟩, fun x H' y => hs i x H H' hlt p (w.yields i H x H' hlt (hG i H hi p) y)⟩
  · have e : i = n := by omega
    rw [e] at p ⊢
    exact .inl ⟨w.stops H (hG n H (Nat.le_refl _) p), hd H p⟩
theorem HAt.at {CH CW CS : Addr} {H : Hp} {p : Addr} {h : Hs} {fp : List Addr} (a : HAt CH CW CS H p h fp) : ∃ dx da dw, H p = some (.ins CH dx (hf da dw)) := by
  obtain ⟨da, dw, es, _, rfl, i, _⟩ := a
  obtain ⟨dx, e⟩ := i.ob
  exact ⟨dx, da, dw, e⟩
theorem lk_all {es : List TE} {l : List (Str × WhS)} (k : ∀ e ∈ es, lk l e.t = some e.W) (nd : (keys (ws es)).Nodup) (m : ∀ t, t ∈ es.map (·.t) ↔ t ∈ keys l) (t : Str) : lk (ws es) t = lk l t := by
  cases q : lk l t with
  | none =>
    refine lk_none_iff.mpr fun z => lk_none_iff.mp q ((m t).mp ?_)
    unfold keys ws at z
    rw [List.map_map] at z
    exact z
  | some W =>
    obtain ⟨e, he, rfl⟩ := List.mem_map.mp ((m t).mpr (lk_some_key q))
    rw [k e he] at q
    cases q
    exact lk_of nd (List.mem_map.mpr ⟨e, he, rfl⟩)
theorem keys_ws (es : List TE) : keys (ws es) = es.map (·.t) := by
  unfold keys ws
  rw [List.map_map]
  rfl
theorem HOk.len {h : Hs} (o : HOk h) {t : Str} {W : WhS} (e : lk h.wh t = some W) : W.rows.length ≤ h.ab.length := by
  have := nodup_sub (W.rows.map (·.n)) (keys h.ab) (o.ok t W e).nd fun n hn => lk_some_key ((o.sub t W n e).mp (has_n.mpr hn))
  unfold keys at this
  rw [List.length_map, List.length_map] at this
  exact this
theorem Lk.len {rows : List HR} {h : Hs} (l : Lk rows h) : h.ab.length = rows.length := by rw [l.ab, List.length_map]
/-- told of each wheel of a dict: tuples (name, what was told) -/
structure Tds (K : PySem.W.Frag) (dat : TE → PyData) (H : Hp) (us : List Addr) (kvs : List (Key × V)) (es : List TE) : Prop where
  p : Paired (fun u (kv : Key × V) => H u = some (.tup [kV kv.1, kv.2])) us kvs
  l : kvs.length = es.length
  a : ∀ (j : Nat) (e : TE) (kv : Key × V), es[j]? = some e → kvs[j]? = some kv → kv.1 = Sum.inr e.t ∧ Dp K H kv.2 (dat e)
theorem paired_mono {α β : Type} {R S : α → β → Prop} (k : ∀ a b, R a b → S a b) : ∀ {l : List α} {m : List β}, Paired R l m → Paired S l m
  | _, _, .nil => .nil
  | _, _, .cons h t => .cons (k _ _ h) (paired_mono k t)
theorem paired_snoc {α β : Type} {R : α → β → Prop} {a : α} {b : β} (r : R a b) : ∀ {l : List α} {m : List β}, Paired R l m → Paired R (l ++ [a]) (m ++ [b])
  | _, _, .nil => .cons r .nil
  | _, _, .cons h t => .cons h (paired_snoc r t)
theorem paired_mem {α β : Type} {R : α → β → Prop} : ∀ {l : List α} {m : List β}, Paired R l m → ∀ a ∈ l, ∃ b ∈ m, R a b
  | _, _, .nil, _, h => (nomatch h)
  | _, _, .cons h t, a, ha => by
    rcases List.mem_cons.mp ha with rfl | ha
    · exact ⟨_, List.mem_cons_self, h⟩
    · obtain ⟨b, hb, r⟩ := paired_mem t a ha
      exact ⟨b, List.mem_cons_of_mem _ hb, r⟩
theorem Tds.same {K : PySem.W.Frag} {dat : TE → PyData} {H H' : Hp} {us : List Addr} {kvs : List (Key × V)} {es : List TE} (t : Tds K dat H us kvs es) (s : Same H H') : Tds K dat H' us kvs es :=
  ⟨paired_mono (fun _ _ e => s _ _ e) t.p, t.l, fun j e kv h1 h2 => ⟨(t.a j e kv h1 h2).1, Mine.Dp.same (t.a j e kv h1 h2).2 s⟩⟩
theorem Tds.keep {K : PySem.W.Frag} {dat : TE → PyData} {H : Hp} {us : List Addr} {kvs : List (Key × V)} {es : List TE} {b : Addr} {o : HO} {ks : List (Key × V)} (t : Tds K dat H us kvs es) (e : H b = some (.dK ks) ∨ ∃ u, H b = some (.frz u (.dK ks))) : Tds K dat (upd H b o) us kvs es :=
  ⟨paired_mono (fun u kv h => by
    rw [upd_ne (fun z => by rw [z] at h; rcases e with e | ⟨x, e⟩ <;> rw [e] at h <;> cases h)]
    exact h) t.p, t.l, fun j x kv h1 h2 => ⟨(t.a j x kv h1 h2).1, Mine.Dp.updk (t.a j x kv h1 h2).2 e⟩⟩
theorem merge_nd : ∀ {kvs acc : List (Key × V)}, (kvs.map (·.1)).Nodup → (∀ kv ∈ kvs, valV acc kv.1 = none) → mergeK acc kvs = acc ++ kvs
  | [], acc, _, _ => by
    rw [List.append_nil]
    rfl
  | kv :: r, acc, nd, k => by
    rw [List.map_cons, List.nodup_cons] at nd
    show mergeK (putK acc kv.1 kv.2) r = _
    rw [putK_new kv.2 (k kv List.mem_cons_self), merge_nd nd.2 fun kv' h' => ?_]
    · rw [List.append_assoc]
      rfl
    · rw [valV_snoc kv.1 kv'.1 kv.2 acc (k kv List.mem_cons_self), if_neg]
      · exact k kv' (List.mem_cons_of_mem _ h')
      · intro z
        exact nd.1 (by rw [← z]; exact List.mem_map.mpr ⟨kv', h', rfl⟩)
theorem Tds.keys {K : PySem.W.Frag} {dat : TE → PyData} {H : Hp} {us : List Addr} {kvs : List (Key × V)} {es : List TE} (t : Tds K dat H us kvs es) : kvs.map (·.1) = es.map fun e => (Sum.inr e.t : Key) := by
  apply List.ext_getElem?
  intro j
  rw [List.getElem?_map, List.getElem?_map]
  cases q : kvs[j]? with
  | none =>
    have : es[j]? = none := by
      rw [List.getElem?_eq_none_iff] at q ⊢
      rw [← t.l]
      exact q
    rw [this]
    rfl
  | some kv =>
    obtain ⟨hj, _⟩ := List.getElem?_eq_some_iff.mp q
    have hj2 : j < es.length := by rw [← t.l]; exact hj
    have e : es[j]? = some es[j] := by simp [hj2]
    rw [e]
    exact congrArg some (t.a j _ kv e q).1
theorem Tds.nd {K : PySem.W.Frag} {dat : TE → PyData} {H : Hp} {us : List Addr} {kvs : List (Key × V)} {es : List TE} (t : Tds K dat H us kvs es) (nd : (Mine.keys (ws es)).Nodup) : (kvs.map (·.1)).Nodup := by
  rw [t.keys]
  rw [keys_ws] at nd
  have : (es.map fun e => (Sum.inr e.t : Key)) = (es.map (·.t)).map Sum.inr := by
    rw [List.map_map]
    rfl
  rw [this]
  exact List.pairwise_map.mpr (nd.imp fun h z => h (Sum.inr.inj z))
/-- two such dicts are alike -/
theorem Tds.alike {K : PySem.W.Frag} {dat : TE → PyData} {H : Hp} {us vs : List Addr} {ks ls : List (Key × V)} {es fs : List TE} (a : Tds K dat H us ks es) (b : Tds K dat H vs ls fs) (nd : (Mine.keys (ws fs)).Nodup)
    (k : ∀ t, lk (ws es) t = lk (ws fs) t) (ne : (Mine.keys (ws es)).Nodup) (hd : ∀ e f : TE, e.t = f.t → e.W = f.W → dat e = dat f) (sm : ∀ e, Sm 60 (dat e)) : ∀ p ∈ ks, ∃ v d, valV ls p.1 = some v ∧ Dp K H p.2 d ∧ Dp K H v d ∧ Sm 60 d := fun p hp => by
  obtain ⟨j, hj⟩ := List.getElem?_of_mem hp
  have hj1 := (List.getElem?_eq_some_iff.mp hj).1
  have hj2 : j < es.length := by rw [← a.l]; exact hj1
  have e : es[j]? = some es[j] := by simp [hj2]
  obtain ⟨p1, p2⟩ := a.a j _ p e hj
  generalize es[j] = x at e p1 p2
  have hx := List.mem_of_getElem? e
  have lx : lk (ws fs) x.t = some x.W := by
    rw [← k]
    exact lk_of ne (List.mem_map.mpr ⟨x, hx, rfl⟩)
  obtain ⟨y, hy, yt, yW, _⟩ := lk_qs lx
  obtain ⟨i, hi⟩ := List.getElem?_of_mem hy
  have hi1 := (List.getElem?_eq_some_iff.mp hi).1
  have hi2 : i < ls.length := by rw [b.l]; exact hi1
  have e2 : ls[i]? = some ls[i] := by simp [hi2]
  obtain ⟨q1, q2⟩ := b.a i y _ hi e2
  generalize ls[i] = kv at e2 q1 q2
  refine ⟨kv.2, dat x, ?_, p2, by rw [hd x y yt.symm yW.symm]; exact q2, sm x⟩
  have nd' := b.nd nd
  have mem := List.mem_of_getElem? e2
  rw [p1, ← yt, ← q1]
  clear e2 hi2 hi hi1 b
  induction ls with
  | nil => exact (nomatch mem)
  | cons z r ih =>
    rw [List.map_cons, List.nodup_cons] at nd'
    rcases List.mem_cons.mp mem with m | m
    · rw [m]
      exact valV_pos rfl
    · rw [valV_neg fun q => nd'.1 (by rw [q]; exact List.mem_map.mpr ⟨kv, m, rfl⟩)]
      exact ih nd'.2 m
def del (D : Addr) (H : Hp) : Hp := fun b => if b = D then none else H b
theorem del_ne {D b : Addr} {H : Hp} (h : b ≠ D) : del D H b = H b := if_neg h
theorem del_same (D : Addr) (H : Hp) : Same (del D H) H := fun b o e => by
  by_cases q : b = D
  · rw [q] at e
    have : del D H D = none := if_pos rfl
    rw [this] at e
    cases e
  · rw [del_ne q] at e
    exact e
theorem lc_kd {K : PySem.W.Frag} {dat : TE → PyData} {d : Addr} {od : Obj} {es : List TE} {g : TG} {tt : TT} {te : L2.TE} {vs : List Nat} {σ : L2.St} {Hb : Hp} {D : Addr} {Qd : Hp → Prop} (hb : Hb d = some (.frz od (.dK (kvn V.ref (qs es))))) (hD : Hb D = none) (hlen : es.length ≤ 1000)
    (hs : ∀ e ∈ es, ∀ H', Same Hb H' → (valV (kvn V.ref (qs es)) (Sum.inr e.t : Key) = some (.ref e.q) ∨ ¬ (Mine.keys (ws es)).Nodup) → ∀ (Y : V → Hp → Prop) (Z : Hp → Prop), (∀ l t H'', Same H' H'' → (∀ G : Hp, (∀ b o, H' b = none → H'' b = some o → G b = some o) → Dp K G (.ref l) (dat e)) → H'' t = none → Y (.ref t) (upd H'' t (.tup [.str e.t, .ref l]))) →
      g (.str e.t) (wipe σ vs) H' fun σ2 H2 => wipe σ2 vs = wipe σ vs ∧ tt σ2 H2 fun b H3 => if b = true then te σ2 H3 Y else Z H3)
    (hd : ∀ H' us kvs, Same Hb H' → H' D = some (.lst (us.map V.ref)) → Tds K dat H' us kvs es → Qd H') :
    ∃ W : Nat → Nat → Hp → Prop, (∃ m, W 0 m (upd Hb D (.lst []))) ∧ ∀ i m H, W i m H →
      ((Itk d od (kvn V.ref (qs es))).stop i H ∧ Qd H) ∨ ((Itk d od (kvn V.ref (qs es))).go i H ∧ ∃ Nx : Hp → Prop, (∀ H', Nx H' → ∃ m', m' < m ∧ W (i + 1) m' H') ∧ ∀ x H', (Itk d od (kvn V.ref (qs es))).yld i H x H' → g x (wipe σ vs) H' fun σ2 H2 => wipe σ2 vs = wipe σ vs ∧ tt σ2 H2 fun b H3 =>
        if b = true then te σ2 H3 fun y H4 => ∃ acc, H4 D = some (.lst acc) ∧ acc.length < sizeLine ∧ Nx (upd H4 D (.lst (acc ++ [y]))) else Nx H3) := by
  have nD : ∀ {b : Addr} {o : HO}, Hb b = some o → b ≠ D := fun {b o} e z => by rw [z, hD] at e; cases e
  have kl : (kvn V.ref (qs es)).length = es.length := by
    rw [kvn_len]
    unfold qs
    rw [List.length_map]
  refine lc_it (walk_keys (d := d) (o := od) (kvs := kvn V.ref (qs es))) (fun i H' => Same Hb H' ∧ ∃ us kvs, H' D = some (.lst (us.map V.ref)) ∧ Tds K dat (del D H') us kvs (es.take i)) ⟨same_upd hD, [], [], upd_same, .nil, rfl, fun j e kv h => by simp at h⟩ (fun i H' _ h => h.1 _ _ hb) ?_ ?_
  · rintro i x H' H2 hi ⟨sm, us, kvs, u1, u2⟩ ⟨rfl, k, v, hk, rfl⟩
    have hi2 : i < es.length := by rw [← kl]; exact hi
    have ex : es[i]? = some es[i] := by simp [hi2]
    generalize es[i] = e at ex
    have he := List.mem_of_getElem? ex
    have hk' : (Sum.inr e.t, V.ref e.q) = (k, v) := by
      have : (kvn V.ref (qs es))[i]? = some (Sum.inr e.t, V.ref e.q) := by
        unfold kvn qs
        rw [List.map_map, List.getElem?_map, ex]
        rfl
      exact Option.some.inj (this.symm.trans hk)
    cases hk'
    have lt : kvs.length = i := by
      rw [u2.l, List.length_take]
      omega
    refine hs e he H2 sm ?_ _ _ fun l t H3 s3 dp ht => ?_
    · by_cases nd : (Mine.keys (ws es)).Nodup
      · refine .inl ?_
        rw [kvn_val]
        have : lk (qs es) e.t = some e.q := by
          refine lk_of ?_ (List.mem_map.mpr ⟨e, he, rfl⟩)
          unfold Mine.keys qs
          unfold Mine.keys ws at nd
          rw [List.map_map] at nd ⊢
          exact nd
        rw [this]
        rfl
      · exact .inr nd
    · have s4 := sm.trans s3
      have st := same_upd (o := .tup [V.str e.t, V.ref l]) ht
      have D3 := s3 _ _ u1
      have nDt : D ≠ t := ne_of_none D3 ht
      have ntD : t ≠ D := nDt.symm
      have far : ∀ {b : Addr} {o : HO}, b ≠ D → H3 b = some o → del D (upd (upd H3 t (.tup [V.str e.t, V.ref l])) D (.lst (us.map V.ref ++ [V.ref t]))) b = some o := fun {b o} q z => by
        rw [del_ne q, upd_ne q]
        exact st _ _ z
      have sd : Same (del D H2) (del D (upd (upd H3 t (.tup [V.str e.t, V.ref l])) D (.lst (us.map V.ref ++ [V.ref t])))) := fun b o z => by
        by_cases q : b = D
        · rw [q] at z
          have : del D H2 D = none := if_pos rfl
          rw [this] at z
          cases z
        · rw [del_ne q] at z
          exact far q (s3 _ _ z)
      have old := u2.same sd
      refine ⟨us.map V.ref, st _ _ D3, ?_, fun b o z => ?_, us ++ [t], kvs ++ [(Sum.inr e.t, .ref l)], by rw [upd_same, List.map_append]; rfl, paired_snoc ?_ old.p, ?_, fun j x kv h1 h2 => ?_⟩
      · have : us.length = kvs.length := by
          have : ∀ {R : Addr → Key × V → Prop} {l : List Addr} {m : List (Key × V)}, Paired R l m → l.length = m.length := fun {R l m} z => by
            induction z with
            | nil => rfl
            | cons _ _ ih => exact congrArg (· + 1) ih
          exact this u2.p
        rw [List.length_map]
        exact small1000 (by omega)
      · rw [upd_ne (nD z)]
        exact st _ _ (s4 _ _ z)
      · rw [del_ne ntD, upd_ne ntD, upd_same]
        rfl
      · rw [List.length_append, take_snoc ex, List.length_append, old.l]
        rfl
      · rw [take_snoc ex] at h1
        have tl : (es.take i).length = i := by rw [List.length_take]; omega
        by_cases q : j < i
        · rw [List.getElem?_append_left (by omega)] at h1 h2
          exact old.a j x kv h1 h2
        · rw [List.getElem?_append_right (by omega)] at h1 h2
          rw [tl] at h1
          rw [lt] at h2
          cases q2 : j - i with
          | succ m => rw [q2] at h1; cases h1
          | zero =>
            rw [q2] at h1 h2
            cases h1
            cases h2
            refine ⟨rfl, dp _ fun b o z1 z2 => far (fun z => ?_) z2⟩
            rw [z, u1] at z1
            cases z1
  · rintro H' ⟨sm, us, kvs, u1, u2⟩
    rw [kl, List.take_length] at u2
    exact hd H' us kvs sm u1 (u2.same (del_same D H'))

theorem TA2.monoM {H G : Hp} : ∀ {ts : List Addr} {vss : List (List V)}, (∀ t ∈ ts, ∀ vs, H t = some (.tup vs) → G t = some (.tup vs)) → TA2 H ts vss → TA2 G ts vss
  | _, _, _, .nil => .nil
  | _, _, k, .cons a b => .cons (k _ List.mem_cons_self _ a) (TA2.monoM (fun t ht => k t (List.mem_cons_of_mem _ ht)) b)
/-- a comprehension over names: new tuples of what was told of each -/
theorem lc_nt2 {K : PySem.W.Frag} {rows : List RowS} {ln : Addr} {g : TG} {tt : TT} {te : L2.TE} {vs : List Nat} {σ : L2.St} {H : Hp} {D : Addr} {Qd : Hp → Prop} (tv : RowS → List V) (hn : H ln = some (.lst (rows.map fun x => V.str x.n))) (hD : H D = none) (hlen : rows.length ≤ 1000)
    (hs : ∀ x ∈ rows, ∀ H', Same H H' → ∀ (Y : V → Hp → Prop) (Z : Hp → Prop), (∀ t, H' t = none → Y (.ref t) (upd H' t (.tup (tv x)))) →
      g (.str x.n) (wipe σ vs) H' fun σ2 H2 => wipe σ2 vs = wipe σ vs ∧ tt σ2 H2 fun b H3 => if b = true then te σ2 H3 Y else Z H3)
    (hd : ∀ H' ts, Same H H' → H' D = some (.lst (ts.map V.ref)) → TA2 H' ts (rows.map tv) → (∀ t ∈ ts, H t = none) → Qd H') :
    ∃ W : Nat → Nat → Hp → Prop, (∃ m, W 0 m (upd H D (.lst []))) ∧ ∀ i m H, W i m H →
      ((Itl K ln).stop i H ∧ Qd H) ∨ ((Itl K ln).go i H ∧ ∃ Nx : Hp → Prop, (∀ H', Nx H' → ∃ m', m' < m ∧ W (i + 1) m' H') ∧ ∀ x H', (Itl K ln).yld i H x H' → g x (wipe σ vs) H' fun σ2 H2 => wipe σ2 vs = wipe σ vs ∧ tt σ2 H2 fun b H3 =>
        if b = true then te σ2 H3 fun y H4 => ∃ acc, H4 D = some (.lst acc) ∧ acc.length < sizeLine ∧ Nx (upd H4 D (.lst (acc ++ [y]))) else Nx H3) := by
  have hl : (rows.map fun x => V.str x.n).length = rows.length := List.length_map _
  refine lc_list (K := K) (a := ln) (xs := rows.map fun x => V.str x.n) (fun i H' => Same H H' ∧ ∃ ts, H' D = some (.lst (ts.map V.ref)) ∧ TA2 H' ts ((rows.take i).map tv) ∧ ∀ t ∈ ts, H t = none) ⟨same_upd hD, [], upd_same, .nil, fun t ht => (nomatch ht)⟩ (fun i H' _ e => SqL.of (e.1 _ _ hn)) ?_ ?_
  · rintro i v H' hv ⟨s, ts, u1, u2, u3⟩
    have hi : i < rows.length := by rw [← hl]; exact (List.getElem?_eq_some_iff.mp hv).1
    have ex : rows[i]? = some rows[i] := by simp [hi]
    generalize rows[i] = x at ex
    rw [List.getElem?_map, ex] at hv
    cases hv
    refine hs x (List.mem_of_getElem? ex) H' s _ _ fun t ht => ?_
    have nDt : D ≠ t := ne_of_none u1 ht
    refine ⟨ts.map V.ref, ?_, ?_, fun b o e2 => ?_, ts ++ [t], by rw [upd_same, List.map_append]; rfl, ?_, fun u hu => ?_⟩
    · rw [upd_ne nDt]
      exact u1
    · rw [List.length_map, u2.len, List.length_map, List.length_take]
      exact small1000 (by omega)
    · rw [upd_ne (fun z => by rw [z, hD] at e2; cases e2)]
      exact same_upd ht _ _ (s _ _ e2)
    · rw [take_snoc ex, List.map_append]
      refine TA2.app (u2.mono fun u us e => ?_) (.cons ?_ .nil)
      · rw [upd_ne (fun z => by rw [z, u1] at e; cases e), upd_ne (ne_of_none e ht)]
        exact e
      · rw [upd_ne nDt.symm, upd_same]
    · rcases List.mem_append.mp hu with hu | hu
      · exact u3 u hu
      · rw [List.mem_singleton.mp hu]
        cases q : H t with
        | none => rfl
        | some o => rw [s _ _ q] at ht; cases ht
  · rintro H' ⟨s, ts, u1, u2, u3⟩
    rw [hl, List.take_length] at u2
    exact hd H' ts s u1 u2 u3

/-! ### the methods of a house -/
structure ErT (K : PySem.W.Frag) (mg : Str → Option Value) (x : Str) (C : Addr) : Prop where
  g : mg x = some (.ref C)
  t : ExcT K C
structure HT (K : PySem.W.Frag) (mg : Str → Option Value) (CH : Addr) : Prop where
  cl : Cls K CH
  aAb : NoAttr K CH "_above"
  aWh : NoAttr K CH "_wheels"
  top : ∃ t, mg "TOP" = some (.str "" t)
def spNeedTeam (CH CW CS CM : Addr) : Sp := fun vs H Q E => ∃ p h fp x, vs = [.ref p, x] ∧ HAt CH CW CS H p h fp ∧ Th H x ∧ (∀ t W, x = .str t → lk h.wh t = some W → Q .non H) ∧ ((∀ t W, x = .str t → lk h.wh t ≠ some W) → E (.ref CM) none H)
def spNeedName (CH CW CS CN : Addr) : Sp := fun vs H Q E => ∃ p h fp x, vs = [.ref p, x] ∧ HAt CH CW CS H p h fp ∧ Th H x ∧ (∀ n a, x = .str n → lk h.ab n = some a → Q .non H) ∧ ((∀ n a, x = .str n → lk h.ab n ≠ some a) → E (.ref CN) none H)
def spNeedHand (CH CW CS CN CD : Addr) : Sp := fun vs H Q E => ∃ p h fp x, vs = [.ref p, x] ∧ HAt CH CW CS H p h fp ∧ Th H x ∧ (∀ n a, x = .str n → lk h.ab n = some a → lk h.wh n = none → Q .non H) ∧ ((∀ n a, x = .str n → lk h.ab n ≠ some a) → E (.ref CN) none H) ∧
  (∀ n a W, x = .str n → lk h.ab n = some a → lk h.wh n = some W → E (.ref CD) none H)
def spAround (CH CW CS : Addr) : Sp := fun vs H Q _ => ∃ p da dw ab es n a q, vs = [.ref p, .str n] ∧ HIn CH CW CS H p da dw ab es ∧ lk ab n = some a ∧ lk (qs es) a = some q ∧ Q (.ref q) H
def spHWake (CH CW CS CN CD : Addr) : Sp := fun vs H Q E => ∃ p h fp x, vs = [.ref p, x] ∧ HAt CH CW CS H p h fp ∧ Rd h "" ∧ Th H x ∧ ((∀ n a, x = .str n → lk h.ab n ≠ some a) → E (.ref CN) none H) ∧ (∀ n a W, x = .str n → lk h.ab n = some a → lk h.wh n = some W → E (.ref CD) none H) ∧
  ∀ n a W y, x = .str n → lk h.ab n = some a → lk h.wh n = none → lk h.wh a = some W → y ∈ W.rows → y.n = n →
    (y.r = true → ∀ H', HAt CH CW CS H' p h fp → Step fp H fp H' → Q (.bl false) H') ∧ (y.r = false → ∀ H' fp' h', WakeUp h n h' → HAt CH CW CS H' p h' fp' → Rd h' "" → Step fp H fp' H' → Q (.bl true) H')
def spHRest (CH CW CS CN CD : Addr) : Sp := fun vs H Q E => ∃ p h fp x, vs = [.ref p, x] ∧ HAt CH CW CS H p h fp ∧ Rd h "" ∧ Th H x ∧ ((∀ n a, x = .str n → lk h.ab n ≠ some a) → E (.ref CN) none H) ∧ (∀ n a W, x = .str n → lk h.ab n = some a → lk h.wh n = some W → E (.ref CD) none H) ∧
  ∀ n a W y, x = .str n → lk h.ab n = some a → lk h.wh n = none → lk h.wh a = some W → y ∈ W.rows → y.n = n →
    (y.r = false → ∀ H', HAt CH CW CS H' p h fp → Step fp H fp H' → Q (.bl false) H') ∧ (y.r = true → ∀ H' fp' h', RestUp h n h' → HAt CH CW CS H' p h' fp' → Rd h' "" → Step fp H fp' H' → Q (.bl true) H')
def spWheelOf (CH CW CS CM : Addr) : Sp := fun vs H Q E => ∃ p h fp x, vs = [.ref p, x] ∧ HAt CH CW CS H p h fp ∧ Th H x ∧ (∀ t W, lk h.wh t = some W → W.rows.length ≤ 1000) ∧
  (∀ t W, x = .str t → lk h.wh t = some W → ∀ q' fp' H', WAt CW CS H' q' W fp' → Same H H' → (∀ b ∈ fp', H b = none) → Q (.ref q') H') ∧ ((∀ t W, x = .str t → lk h.wh t ≠ some W) → E (.ref CM) none H)
def spHReshare (CH CW CS CB CN : Addr) : Sp := fun vs H Q E => ∃ p h fp x s, vs = [.ref p, x, s] ∧ HAt CH CW CS H p h fp ∧ Th H x ∧ Th H s ∧ ((∀ n a, x = .str n → lk h.ab n ≠ some a) → E (.ref CN) none H) ∧ (∀ n a, x = .str n → lk h.ab n = some a → good s = false → E (.ref CB) none H) ∧
  ∀ n a W i, x = .str n → lk h.ab n = some a → lk h.wh a = some W → s = .int i → 1 ≤ i → i ≤ 12 → ∀ H' fp', HAt CH CW CS H' p (setW h a (Wm.reshare W n i)) fp' → Step fp H fp' H' → Q .non H'
def spDeal (CH CW CS : Addr) : Sp := fun vs H Q _ => ∃ p h fp, vs = [.ref p] ∧ HAt CH CW CS H p h fp ∧ h.ab.length ≤ 900 ∧ ∀ H' fp' h' l ns, Deal h "" ns h' → HAt CH CW CS H' p h' fp' → Step fp H fp' H' → H' l = some (.lst (ns.map V.str)) → H l = none → Q (.ref l) H'
def spHLeave (CH CW CS CN CY : Addr) : Sp := fun vs H Q E => ∃ p h fp x, vs = [.ref p, x] ∧ HAt CH CW CS H p h fp ∧ Rd h "" ∧ Th H x ∧ ((∀ n a, x = .str n → lk h.ab n ≠ some a) → E (.ref CN) none H) ∧
  (∀ n a U, x = .str n → lk h.ab n = some a → lk h.wh n = some U → U.rows ≠ [] → ∀ H', Same H H' → E (.ref CY) none H') ∧
  (∀ n a U W, x = .str n → lk h.ab n = some a → lk h.wh n = some U → U.rows = [] → lk h.wh a = some W → ∀ H' fp', HAt CH CW CS H' p (leaveN h n a W) fp' → Rd (leaveN h n a W) "" → Step fp H fp' H' → Q .non H') ∧
  (∀ n a W y h1 W1, x = .str n → lk h.ab n = some a → lk h.wh n = none → lk h.wh a = some W → y ∈ W.rows → y.n = n → (y.r = false ∧ h1 = h ∨ y.r = true ∧ RestUp h n h1) → lk h1.wh a = some W1 → ∀ H' fp', HAt CH CW CS H' p (leaveN h1 n a W1) fp' → Rd (leaveN h1 n a W1) "" → Step fp H fp' H' → Q .non H')
def H0 : Hs := ⟨[], [("", ⟨0, []⟩)]⟩
theorem H0_ok : HOk H0 := by
  refine ⟨List.nodup_nil, by decide +kernel, ⟨⟨0, []⟩, rfl⟩, rfl, fun t W e => ?_, ⟨fun _ => 0, 0, fun n a e => (by cases e)⟩, fun n a e => (by cases e), fun t W e => ?_, fun t W n e => ?_⟩
  · have e : (if ("" : Str) = t then some (⟨0, []⟩ : WhS) else none) = some W := e
    by_cases q : ("" : Str) = t
    · exact .inl q.symm
    · rw [if_neg q] at e
      cases e
  · have e : (if ("" : Str) = t then some (⟨0, []⟩ : WhS) else none) = some W := e
    by_cases q : ("" : Str) = t
    · rw [if_pos q] at e
      cases e
      exact Wm.Ok.new
    · rw [if_neg q] at e
      cases e
  · have e : (if ("" : Str) = t then some (⟨0, []⟩ : WhS) else none) = some W := e
    by_cases q : ("" : Str) = t
    · rw [if_pos q] at e
      cases e
      exact ⟨fun ⟨x, hx, _⟩ => (nomatch hx), fun z => by cases z⟩
    · rw [if_neg q] at e
      cases e
theorem H0_rd : Rd H0 "" := fun t W a Wa _ _ _ e => by cases e
def spHInit (CH CW CS : Addr) : Sp := fun vs H Q _ => ∃ p dx, vs = [.ref p] ∧ H p = some (.ins CH dx []) ∧ ∀ H' fp, HAt CH CW CS H' p H0 fp → (∀ b o, H b = some o → b ≠ p → H' b = some o) → (∀ b ∈ fp, b = p ∨ H b = none) → Q .non H'
def spSettle (Pt CH CW CS CB CT CA CM : Addr) : Sp := fun vs H Q E => ∃ p h fp x ab s, vs = [.ref p, x, ab, s] ∧ HAt CH CW CS H p h fp ∧ Th H x ∧ Th H ab ∧ Th H s ∧ GxR.TabG H Pt ∧ Pt ∉ fp ∧ (∀ z, x = .str z → z.length ≤ sizeLine) ∧ (∀ t W, lk h.wh t = some W → W.rows.length ≤ 1000) ∧ h.ab.length ≤ 900 ∧
  ∀ H1, (H1 = H ∨ GxR.Tabbed Pt H H1) → (isNm x = false → E (.ref CA) none H1) ∧ ∀ n, x = .str n → isNm x = true → (lk h.ab n ≠ none → E (.ref CT) none H1) ∧ (lk h.ab n = none → ((∀ t W, ab = .str t → lk h.wh t ≠ some W) → E (.ref CM) none H1) ∧
    ∀ t W, ab = .str t → lk h.wh t = some W → (good s = false → E (.ref CB) none H1) ∧ ∀ i, s = .int i → 1 ≤ i → i ≤ 12 → ∀ H' fp', HAt CH CW CS H' p (enterH h n t W i) fp' → Step fp H1 fp' H' → Q .non H')
def spTeam (Pt CH CW CS CB CT CA CM : Addr) : Sp := fun vs H Q E => ∃ p h fp x ab s, vs = [.ref p, x, ab, s] ∧ HAt CH CW CS H p h fp ∧ Th H x ∧ Th H ab ∧ Th H s ∧ GxR.TabG H Pt ∧ Pt ∉ fp ∧ (∀ z, x = .str z → z.length ≤ sizeLine) ∧ (∀ t W, lk h.wh t = some W → W.rows.length ≤ 1000) ∧ h.ab.length ≤ 900 ∧
  ∀ H1, (H1 = H ∨ GxR.Tabbed Pt H H1) → (isNm x = false → E (.ref CA) none H1) ∧ ∀ n, x = .str n → isNm x = true → (lk h.ab n ≠ none → E (.ref CT) none H1) ∧ (lk h.ab n = none → ((∀ t W, ab = .str t → lk h.wh t ≠ some W) → E (.ref CM) none H1) ∧
    ∀ t W, ab = .str t → lk h.wh t = some W → (good s = false → E (.ref CB) none H1) ∧ ∀ i, s = .int i → 1 ≤ i → i ≤ 12 → ∀ H' fp', HAt CH CW CS H' p (enterT h n t W i) fp' → Step fp H1 fp' H' → Q .non H')
section
variable {P : Program} {w : World} {K : PySem.W.Frag} {mg : Str → Option Value} {base : Heap} {CS CW CB CT CN CH CM CY CA CD CU Pt : Addr}
theorem sc_H_need_team : FnScope ["self", "team"] ["self", "team"] (defScope sHouse_need_team) := ⟨rfl, rfl, rfl, by decide +kernel, rfl, by decide +kernel, by decide +kernel⟩
theorem ok_H_need_team {f : Addr} {fd : FuncData} (F : Fun K "_need_team" "House._need_team" sHouse_need_team f fd) (T : WT K mg CS CW CB CT CN) (L : LT mg) (g_stands_in : DOk P w K mg base 1 "stands_in" ["thing", "table"] spStands) (h_H : HT K mg CH) (r_M : ErT K mg "NoTeam" CM) :
    FnOk P w K mg base (L2.CX P w) 2 f fd ["self", "team"] (spNeedTeam CH CW CS CM) := by
  refine F.okX sc_H_need_team (fun vs H Q E h => ?_) (fun cdv A outer s H vs Q E hr h => ?_)
  · (first | (obtain ⟨_, rfl, _⟩ := h; rfl) | (obtain ⟨_, _, rfl, _⟩ := h; rfl) | (obtain ⟨_, _, _, rfl, _⟩ := h; rfl) | (obtain ⟨_, _, _, _, rfl, _⟩ := h; rfl) | (obtain ⟨_, _, _, _, _, rfl, _⟩ := h; rfl) | (obtain ⟨_, _, _, _, _, _, rfl, _⟩ := h; rfl) | (obtain ⟨_, _, _, _, _, _, _, rfl, _⟩ := h; rfl) | (obtain ⟨_, _, _, _, _, _, _, _, rfl, _⟩ := h; rfl) | (obtain ⟨_, _, _, _, _, _, _, _, _, rfl, _⟩ := h; rfl) | (obtain ⟨_, _, _, _, _, _, _, _, _, _, rfl, _⟩ := h; rfl) | (obtain ⟨_, _, _, _, _, _, _, _, _, _, _, rfl, _⟩ := h; rfl) | (obtain ⟨_, _, _, _, _, _, _, _, _, _, _, _, rfl, _⟩ := h; rfl) | (obtain ⟨_, _, _, _, _, _, _, _, _, _, _, _, _, rfl, _⟩ := h; rfl) | (obtain ⟨_, _, _, _, _, _, _, _, _, _, _, _, _, _, rfl, _⟩ := h; rfl) | (obtain ⟨_, _, _, _, _, _, _, _, _, _, _, _, _, _, _, rfl, _⟩ := h; rfl))
  · obtain ⟨p, h, fp, x, rfl, hA, hx, k1, k2⟩ := h
    obtain ⟨da, dw, es, e1, rfl, i, o⟩ := hA
    obtain ⟨dx, hp⟩ := i.ob
    refine ⟨_, (pss_one (ps_if (pt_not (pt_val (by exact pe_f g_stands_in hr (by decide) (by rfl) (fun σ => passAt (takes_of rfl rfl rfl rfl) σ) (pa_cons (pv 1) (pa_cons (pe_fld (pv 0) rfl) pa_nil))))) (pss_one (ps_rs rfl (takes_of rfl rfl rfl rfl) r_M.t r_M.g (by rfl))) pss_nil)), ?_⟩
    refine ⟨_, rfl, _, rfl, p, CH, dx, _, _, rfl, hp, h_H.cl, h_H.aWh, hf_wh _ _, x, dw, _, rfl, hx, i.hdw, fun z ez => ?_, fun hs => ?_⟩
    · subst ez
      have ev : (valV (kvn V.ref (qs es)) (Sum.inr z : Key)) = (lk (qs es) z).map V.ref := kvn_val
      cases q : lk h.wh z with
      | none =>
        rw [ev, lk_qs_none (by rw [← e1]; exact q)]
        exact ⟨_, rfl, iteT (k2 fun t W e n => by cases e; rw [q] at n; cases n)⟩
      | some W =>
        obtain ⟨e, he, et, eW, eq⟩ := lk_qs (es := es) (by rw [← e1]; exact q)
        rw [ev, eq]
        exact ⟨_, rfl, iteF (k1 z W rfl q)⟩
    · refine ⟨_, rfl, iteT (k2 fun t W e _ => ?_)⟩
      subst e
      cases hs
theorem sc_H_need_name : FnScope ["self", "name"] ["self", "name"] (defScope sHouse_need_name) := ⟨rfl, rfl, rfl, by decide +kernel, rfl, by decide +kernel, by decide +kernel⟩
theorem ok_H_need_name {f : Addr} {fd : FuncData} (F : Fun K "_need_name" "House._need_name" sHouse_need_name f fd) (T : WT K mg CS CW CB CT CN) (L : LT mg) (g_stands_in : DOk P w K mg base 1 "stands_in" ["thing", "table"] spStands) (h_H : HT K mg CH) :
    FnOk P w K mg base (L2.CX P w) 2 f fd ["self", "name"] (spNeedName CH CW CS CN) := by
  refine F.okX sc_H_need_name (fun vs H Q E h => ?_) (fun cdv A outer s H vs Q E hr h => ?_)
  · (first | (obtain ⟨_, rfl, _⟩ := h; rfl) | (obtain ⟨_, _, rfl, _⟩ := h; rfl) | (obtain ⟨_, _, _, rfl, _⟩ := h; rfl) | (obtain ⟨_, _, _, _, rfl, _⟩ := h; rfl) | (obtain ⟨_, _, _, _, _, rfl, _⟩ := h; rfl) | (obtain ⟨_, _, _, _, _, _, rfl, _⟩ := h; rfl) | (obtain ⟨_, _, _, _, _, _, _, rfl, _⟩ := h; rfl) | (obtain ⟨_, _, _, _, _, _, _, _, rfl, _⟩ := h; rfl) | (obtain ⟨_, _, _, _, _, _, _, _, _, rfl, _⟩ := h; rfl) | (obtain ⟨_, _, _, _, _, _, _, _, _, _, rfl, _⟩ := h; rfl) | (obtain ⟨_, _, _, _, _, _, _, _, _, _, _, rfl, _⟩ := h; rfl) | (obtain ⟨_, _, _, _, _, _, _, _, _, _, _, _, rfl, _⟩ := h; rfl) | (obtain ⟨_, _, _, _, _, _, _, _, _, _, _, _, _, rfl, _⟩ := h; rfl) | (obtain ⟨_, _, _, _, _, _, _, _, _, _, _, _, _, _, rfl, _⟩ := h; rfl) | (obtain ⟨_, _, _, _, _, _, _, _, _, _, _, _, _, _, _, rfl, _⟩ := h; rfl))
  · obtain ⟨p, h, fp, x, rfl, hA, hx, k1, k2⟩ := h
    obtain ⟨da, dw, es, e1, rfl, i, o⟩ := hA
    obtain ⟨dx, hp⟩ := i.ob
    refine ⟨_, (pss_one (ps_if (pt_not (pt_val (by exact pe_f g_stands_in hr (by decide) (by rfl) (fun σ => passAt (takes_of rfl rfl rfl rfl) σ) (pa_cons (pv 1) (pa_cons (pe_fld (pv 0) rfl) pa_nil))))) (pss_one (ps_rs rfl (takes_of rfl rfl rfl rfl) T.eN T.gN (by rfl))) pss_nil)), ?_⟩
    refine ⟨_, rfl, _, rfl, p, CH, dx, _, _, rfl, hp, h_H.cl, h_H.aAb, hf_ab _ _, x, da, _, rfl, hx, i.hda, fun z ez => ?_, fun hs => ?_⟩
    · subst ez
      have ev : (valV (kvn V.str h.ab) (Sum.inr z : Key)) = (lk h.ab z).map V.str := kvn_val
      rw [ev]
      cases q : lk h.ab z with
      | none => exact ⟨_, rfl, iteT (k2 fun t W e n => by cases e; rw [q] at n; cases n)⟩
      | some a => exact ⟨_, rfl, iteF (k1 z a rfl q)⟩
    · refine ⟨_, rfl, iteT (k2 fun t W e _ => ?_)⟩
      subst e
      cases hs
theorem sc_H_need_hand : FnScope ["self", "name"] ["self", "name"] (defScope sHouse_need_hand) := ⟨rfl, rfl, rfl, by decide +kernel, rfl, by decide +kernel, by decide +kernel⟩
theorem ok_H_need_hand {f : Addr} {fd : FuncData} (F : Fun K "_need_hand" "House._need_hand" sHouse_need_hand f fd) (T : WT K mg CS CW CB CT CN) (L : LT mg) (h_H : HT K mg CH) (m_H_need_name : MOk P w K mg base 2 CH "_need_name" ["self", "name"] (spNeedName CH CW CS CN)) (r_D : ErT K mg "NotHand" CD) :
    FnOk P w K mg base (L2.CX P w) 3 f fd ["self", "name"] (spNeedHand CH CW CS CN CD) := by
  refine F.okX sc_H_need_hand (fun vs H Q E h => ?_) (fun cdv A outer s H vs Q E hr h => ?_)
  · (first | (obtain ⟨_, rfl, _⟩ := h; rfl) | (obtain ⟨_, _, rfl, _⟩ := h; rfl) | (obtain ⟨_, _, _, rfl, _⟩ := h; rfl) | (obtain ⟨_, _, _, _, rfl, _⟩ := h; rfl) | (obtain ⟨_, _, _, _, _, rfl, _⟩ := h; rfl) | (obtain ⟨_, _, _, _, _, _, rfl, _⟩ := h; rfl) | (obtain ⟨_, _, _, _, _, _, _, rfl, _⟩ := h; rfl) | (obtain ⟨_, _, _, _, _, _, _, _, rfl, _⟩ := h; rfl) | (obtain ⟨_, _, _, _, _, _, _, _, _, rfl, _⟩ := h; rfl) | (obtain ⟨_, _, _, _, _, _, _, _, _, _, rfl, _⟩ := h; rfl) | (obtain ⟨_, _, _, _, _, _, _, _, _, _, _, rfl, _⟩ := h; rfl) | (obtain ⟨_, _, _, _, _, _, _, _, _, _, _, _, rfl, _⟩ := h; rfl) | (obtain ⟨_, _, _, _, _, _, _, _, _, _, _, _, _, rfl, _⟩ := h; rfl) | (obtain ⟨_, _, _, _, _, _, _, _, _, _, _, _, _, _, rfl, _⟩ := h; rfl) | (obtain ⟨_, _, _, _, _, _, _, _, _, _, _, _, _, _, _, rfl, _⟩ := h; rfl))
  · obtain ⟨p, h, fp, x, rfl, hA, hx, k1, k2, k3⟩ := h
    obtain ⟨da, dw, es, e1, rfl, i, o⟩ := id hA
    obtain ⟨dx, hp⟩ := i.ob
    have hu := hu_of hr
    refine ⟨_, (pss_cons (ps_expr (by exact pe_m m_H_need_name h_H.cl hr (by decide) (fun σ => passAt (takes_of rfl rfl rfl rfl) σ) (pv 0) (pa_cons (pv 1) pa_nil)))
      (pss_one (ps_if (pt_cmp (pc_din hu (pv 1) (pe_fld (pv 0) rfl))) (pss_one (ps_rs rfl (takes_of rfl rfl rfl rfl) r_D.t r_D.g (by rfl))) pss_nil))), ?_⟩
    refine ⟨_, rfl, p, dx, _, rfl, hp, hf_no _ _, _, rfl, p, h, _, x, rfl, hA, hx, fun n a en ea => ?_, fun no => k2 no⟩
    subst en
    have ev : (valV (kvn V.ref (qs es)) (Sum.inr n : Key)) = (lk (qs es) n).map V.ref := kvn_val
    refine ⟨_, rfl, _, rfl, p, CH, dx, _, _, rfl, hp, h_H.cl, h_H.aWh, hf_wh _ _, dw, _, rfl, DGet.k (k := Sum.inr n) i.hdw, _, rfl, ?_⟩
    rw [ev]
    cases q : lk h.wh n with
    | none =>
      rw [lk_qs_none (by rw [← e1]; exact q)]
      exact iteF (k1 n a rfl ea q)
    | some W =>
      obtain ⟨e, he, et, eW, eq⟩ := lk_qs (es := es) (by rw [← e1]; exact q)
      rw [eq]
      exact iteT (k3 n a W rfl ea q)
theorem sc_H_wheel_around : FnScope ["self", "name"] ["self", "name"] (defScope sHouse_wheel_around) := ⟨rfl, rfl, rfl, by decide +kernel, rfl, by decide +kernel, by decide +kernel⟩
theorem ok_H_wheel_around {f : Addr} {fd : FuncData} (F : Fun K "_wheel_around" "House._wheel_around" sHouse_wheel_around f fd) (T : WT K mg CS CW CB CT CN) (L : LT mg) (h_H : HT K mg CH) :
    FnOk P w K mg base (L2.CX P w) 1 f fd ["self", "name"] (spAround CH CW CS) := by
  refine okN F sc_H_wheel_around (fun vs H Q E h => ?_) (fun cdv A outer s H vs Q E hr h => ?_)
  · (first | (obtain ⟨_, rfl, _⟩ := h; rfl) | (obtain ⟨_, _, rfl, _⟩ := h; rfl) | (obtain ⟨_, _, _, rfl, _⟩ := h; rfl) | (obtain ⟨_, _, _, _, rfl, _⟩ := h; rfl) | (obtain ⟨_, _, _, _, _, rfl, _⟩ := h; rfl) | (obtain ⟨_, _, _, _, _, _, rfl, _⟩ := h; rfl) | (obtain ⟨_, _, _, _, _, _, _, rfl, _⟩ := h; rfl) | (obtain ⟨_, _, _, _, _, _, _, _, rfl, _⟩ := h; rfl) | (obtain ⟨_, _, _, _, _, _, _, _, _, rfl, _⟩ := h; rfl) | (obtain ⟨_, _, _, _, _, _, _, _, _, _, rfl, _⟩ := h; rfl) | (obtain ⟨_, _, _, _, _, _, _, _, _, _, _, rfl, _⟩ := h; rfl) | (obtain ⟨_, _, _, _, _, _, _, _, _, _, _, _, rfl, _⟩ := h; rfl) | (obtain ⟨_, _, _, _, _, _, _, _, _, _, _, _, _, rfl, _⟩ := h; rfl) | (obtain ⟨_, _, _, _, _, _, _, _, _, _, _, _, _, _, rfl, _⟩ := h; rfl) | (obtain ⟨_, _, _, _, _, _, _, _, _, _, _, _, _, _, _, rfl, _⟩ := h; rfl))
  · obtain ⟨p, da, dw, ab, es, n, a, q, rfl, i, e1, e2, k⟩ := h
    obtain ⟨dx, hp⟩ := i.ob
    have hu := hu_of hr
    refine ⟨_, (pss_one (ps_ret (pe_dget hu (pe_fld (pv 0) rfl) (pe_dget hu (pe_fld (pv 0) rfl) (pv 1) (fun _ _ => rfl)) (fun _ _ => rfl)))), ?_⟩
    refine ⟨_, rfl, p, CH, dx, _, _, rfl, hp, h_H.cl, h_H.aWh, hf_wh _ _, _, rfl, p, CH, dx, _, _, rfl, hp, h_H.cl, h_H.aAb, hf_ab _ _, _, rfl, da, _, rfl, .inl ⟨_, Sum.inr n, .inl i.hda, rfl, ?_⟩, dw, _, rfl, .inl ⟨_, Sum.inr a, .inl i.hdw, rfl, ?_⟩, k⟩
    · rw [kvn_val, e1]
      rfl
    · rw [kvn_val, e2]
      rfl
theorem sc_H_wake : FnScope ["self", "name", "team"] ["self", "name"] (defScope sHouse_wake) := ⟨rfl, rfl, rfl, by decide +kernel, rfl, by decide +kernel, by decide +kernel⟩
theorem ok_H_wake {f : Addr} {fd : FuncData} (F : Fun K "wake" "House.wake" sHouse_wake f fd) (T : WT K mg CS CW CB CT CN) (L : LT mg) (h_H : HT K mg CH) (m_H_need_hand : MOk P w K mg base 3 CH "_need_hand" ["self", "name"] (spNeedHand CH CW CS CN CD)) (m_H_wheel_around : MOk P w K mg base 1 CH "_wheel_around" ["self", "name"] (spAround CH CW CS)) (m_W_wake : MOk P w K mg base 3 CW "wake" ["self", "name"] (spWake CW CS CN)) :
    FnOk P w K mg base (L2.CX P w) 4 f fd ["self", "name"] (spHWake CH CW CS CN CD) := by
  refine F.okX sc_H_wake (fun vs H Q E h => ?_) (fun cdv A outer s H vs Q E hr h => ?_)
  · (first | (obtain ⟨_, rfl, _⟩ := h; rfl) | (obtain ⟨_, _, rfl, _⟩ := h; rfl) | (obtain ⟨_, _, _, rfl, _⟩ := h; rfl) | (obtain ⟨_, _, _, _, rfl, _⟩ := h; rfl) | (obtain ⟨_, _, _, _, _, rfl, _⟩ := h; rfl) | (obtain ⟨_, _, _, _, _, _, rfl, _⟩ := h; rfl) | (obtain ⟨_, _, _, _, _, _, _, rfl, _⟩ := h; rfl) | (obtain ⟨_, _, _, _, _, _, _, _, rfl, _⟩ := h; rfl) | (obtain ⟨_, _, _, _, _, _, _, _, _, rfl, _⟩ := h; rfl) | (obtain ⟨_, _, _, _, _, _, _, _, _, _, rfl, _⟩ := h; rfl) | (obtain ⟨_, _, _, _, _, _, _, _, _, _, _, rfl, _⟩ := h; rfl) | (obtain ⟨_, _, _, _, _, _, _, _, _, _, _, _, rfl, _⟩ := h; rfl) | (obtain ⟨_, _, _, _, _, _, _, _, _, _, _, _, _, rfl, _⟩ := h; rfl) | (obtain ⟨_, _, _, _, _, _, _, _, _, _, _, _, _, _, rfl, _⟩ := h; rfl) | (obtain ⟨_, _, _, _, _, _, _, _, _, _, _, _, _, _, _, rfl, _⟩ := h; rfl))
  · obtain ⟨p, h, fp, x, rfl, hA, rd, hx, k1, k2, k3⟩ := h
    have hu := hu_of hr
    obtain ⟨tTop, mTop⟩ := h_H.top
    refine ⟨_, (pss_cons (ps_expr (by exact pe_m m_H_need_hand h_H.cl hr (by decide) (fun σ => passAt (takes_of rfl rfl rfl rfl) σ) (pv 0) (pa_cons (pv 1) pa_nil)))
      (pss_cons (ps_if (pt_not (pt_val (by exact pe_m m_W_wake T.clW hr (by decide) (fun σ => passAt (takes_of rfl rfl rfl rfl) σ) (by exact pe_m m_H_wheel_around h_H.cl hr (by decide) (fun σ => passAt (takes_of rfl rfl rfl rfl) σ) (pv 0) (pa_cons (pv 1) pa_nil)) (pa_cons (pv 1) pa_nil)))) (pss_one (ps_ret pe_bl)) pss_nil)
      (pss_cons (ps_set (i := 2) sc_H_wake.nd rfl (Or.inl rfl) (pe_dget hu (pe_fld (pv 0) rfl) (pv 1) (fun _ _ => rfl)))
      (pss_cons (ps_while (passes_of rfl) (PW.pt (pw_and (pt_cmpR op_ne (pv 2) (pe_glob (v := .str "") rfl mTop ⟨_, rfl⟩) (nomark _)) (pw_and1 (pt_val (by exact pe_m m_W_wake T.clW hr (by decide) (fun σ => passAt (takes_of rfl rfl rfl rfl) σ) (by exact pe_m m_H_wheel_around h_H.cl hr (by decide) (fun σ => passAt (takes_of rfl rfl rfl rfl) σ) (pv 0) (pa_cons (pv 2) pa_nil)) (pa_cons (pv 2) pa_nil))))))
        (pss_one (ps_set (i := 2) sc_H_wake.nd rfl (Or.inl rfl) (pe_dget hu (pe_fld (pv 0) rfl) (pv 2) (fun _ _ => rfl)))))
      (pss_one (ps_ret pe_bl)))))), ?_⟩
    obtain ⟨da, dw, es, e1, rfl, i, o⟩ := id hA
    obtain ⟨dx, hp⟩ := i.ob
    refine ⟨_, rfl, p, dx, _, rfl, hp, hf_no _ _, _, rfl, p, h, _, x, rfl, hA, hx, fun n a en ea nt => ?_, k1, k2⟩
    subst en
    obtain ⟨W, ew⟩ := o.aw n a ea
    obtain ⟨e, he, et, eW, eq⟩ := lk_qs (es := es) (by rw [← e1]; exact ew)
    obtain ⟨y, hy, yn⟩ := (o.sub a W n ew).mpr ea
    have we := i.hws e he
    rw [eW] at we
    obtain ⟨dxe, de, hqe⟩ := we.at
    refine ⟨_, rfl, p, dx, _, rfl, hp, hf_no _ _, _, rfl, p, da, dw, h.ab, es, n, a, e.q, rfl, i, ea, eq, e.q, dxe, _, rfl, hqe, wf_m, _, rfl, e.q, W, e.fp, n, rfl, we, fun z => (z ⟨y, hy, yn⟩).elim, fun y' hy' yn' H2 w2 st2 => ?_⟩
    cases Wm.row_of_name we.ok.nd hy' hy (yn'.trans yn.symm)
    obtain ⟨k31, k32⟩ := k3 n a W y rfl ea nt ew hy yn
    cases er : y.r with
    | true =>
      have ws2 : Wm.wake W n = W := by rw [← yn]; exact wake_self we.ok hy er
      rw [ws2, ← eW] at w2
      obtain ⟨q1, q2⟩ := HAt.stay e1 i o he w2 st2
      exact ⟨false, rfl, iteT (k31 er _ q1 q2)⟩
    | false =>
      refine ⟨true, rfl, iteF ?_⟩
      obtain ⟨h1, st1⟩ := HAt.move e1 i o he w2 st2 (by rw [eW]; exact wake_names W n)
      rw [et] at h1 st1
      have rd1 : Rd (setW h a (Wm.wake W n)) a := Rd.stir o rd.weak ea ew true wake_own.1 wake_own.2 fun Wn q => by rw [nt] at q; cases q
      obtain ⟨rk, N, hrk⟩ := o.rk
      have hda2 : H2 da = some (.dK (kvn V.str h.ab)) := by
        obtain ⟨_, _, _, _, fe, i2, _⟩ := h1
        unfold hfp at fe
        injection fe with _ fe
        injection fe with fe _
        rw [fe]
        exact i2.hda
      obtain ⟨dx1, hp1⟩ : ∃ dx, H2 p = some (.ins CH dx (hf da dw)) := by
        obtain ⟨da', dw', _, _, fe, i2, _⟩ := h1
        obtain ⟨dx, q⟩ := i2.ob
        unfold hfp at fe
        injection fe with _ fe
        injection fe with fe1 fe
        injection fe with fe2 _
        rw [fe1, fe2]
        exact ⟨dx, q⟩
      refine ⟨_, rfl, p, CH, dx1, _, _, rfl, hp1, h_H.cl, h_H.aAb, hf_ab _ _, _, rfl, da, _, rfl, .inl ⟨_, Sum.inr n, .inl hda2, rfl, by rw [kvn_val, ea]; rfl⟩, ?_⟩
      refine ⟨fun m σ H' => ∃ t hi fpi, σ = [some (.ref p), some (.str n), some (.str t)] ∧ HAt CH CW CS H' p hi fpi ∧ Rd hi t ∧ hi.ab = h.ab ∧ (∃ Wt, lk hi.wh t = some Wt ∧ Rdy Wt) ∧ (∀ h'', RemW hi t h'' → WakeUp h n h'') ∧ Step (hfp p da dw es) H fpi H' ∧ m = rk t,
        ⟨rk a, a, _, _, rfl, h1, rd1, rfl, ⟨_, lk_pt ew, ?_⟩, fun h'' z => remW_up o rd.weak ea ew z, st1, rfl⟩, ?_⟩
      · obtain ⟨z, hz, en⟩ := (has_names (wake_names W n) n).mpr ⟨y, hy, yn⟩
        exact ⟨z, hz, wake_own.1 z hz en⟩
      · rintro m σ H' ⟨t, hi, fpi, rfl, hAi, rdi, eab, ⟨Wt, ewt, rwt⟩, rem, sti, rfl⟩
        have fin : ∀ {H3 : Hp} {fp3 : List Addr}, RemW hi t hi → HAt CH CW CS H3 p hi fp3 → Step (hfp p da dw es) H fp3 H3 → Q (.bl true) H3 := fun r3 a3 s3 => by
          have u := rem hi r3
          exact k32 er _ _ _ u a3 (wake_up u o rd.weak fun Wn q => by rw [nt] at q; cases q).2.1 s3
        refine ⟨_, rfl, rfl, _, rfl, ?_⟩
        by_cases ht : t = ""
        · subst ht
          rw [decide_eq_true rfl]
          exact iteF (iteF (fin (.inl ⟨rfl, rfl⟩) hAi sti))
        have ht2 : (!decide (V.str t = V.str "")) = true := by
          rw [decide_eq_false fun z => ht (by injection z)]
          rfl
        rw [ht2]
        refine iteT ?_
        obtain ⟨dai, dwi, esi, f1, rfl, ii, oi⟩ := id hAi
        obtain ⟨dxi, hpi⟩ := ii.ob
        obtain ⟨b, eb⟩ : ∃ b, lk hi.ab t = some b := by
          rcases oi.wt t Wt ewt with z | z
          · exact (ht z).elim
          · exact z
        obtain ⟨Wb, ewb⟩ := oi.aw t b eb
        obtain ⟨ei, hei, eti, eWi, eqi⟩ := lk_qs (es := esi) (by rw [← f1]; exact ewb)
        obtain ⟨x, hx, xn⟩ := (oi.sub b Wb t ewb).mpr eb
        have wi := ii.hws ei hei
        rw [eWi] at wi
        obtain ⟨dxq, dq, hqi⟩ := wi.at
        refine ⟨_, rfl, p, dxi, _, rfl, hpi, hf_no _ _, _, rfl, p, dai, dwi, hi.ab, esi, t, b, ei.q, rfl, ii, eb, eqi, ei.q, dxq, _, rfl, hqi, wf_m, _, rfl, ei.q, Wb, ei.fp, t, rfl, wi, fun z => (z ⟨x, hx, xn⟩).elim, fun x' hx' xn' H3 w3 st3 => ?_⟩
        cases Wm.row_of_name wi.ok.nd hx' hx (xn'.trans xn.symm)
        cases exr : x.r with
        | true =>
          have ws3 : Wm.wake Wb t = Wb := by rw [← xn]; exact wake_self wi.ok hx exr
          rw [ws3, ← eWi] at w3
          obtain ⟨q1, q2⟩ := HAt.stay f1 ii oi hei w3 st3
          exact ⟨false, rfl, iteF (fin (.inr ⟨ht, b, Wb, x, eb, ewb, hx, xn, .inl ⟨exr, rfl⟩⟩) q1 (sti.trans q2))⟩
        | false =>
          refine ⟨true, rfl, iteT ?_⟩
          obtain ⟨h3, st4⟩ := HAt.move f1 ii oi hei w3 st3 (by rw [eWi]; exact wake_names Wb t)
          rw [eti] at h3 st4
          have rd3 : Rd (setW hi b (Wm.wake Wb t)) b := Rd.stir oi rdi eb ewb true wake_own.1 wake_own.2 fun Wn q => by
            rw [ewt] at q
            cases q
            exact ⟨fun _ => rwt, fun _ => rfl⟩
          obtain ⟨dx3, da3, dw3, hp3, hd3⟩ : ∃ dx da' dw', H3 p = some (.ins CH dx (hf da' dw')) ∧ H3 da' = some (.dK (kvn V.str hi.ab)) := by
            obtain ⟨da', dw', _, _, _, i2, _⟩ := h3
            obtain ⟨dx, q⟩ := i2.ob
            exact ⟨dx, da', dw', q, i2.hda⟩
          refine ⟨fun σ' H' => ∃ m', m' < rk t ∧ ∃ t hi fpi, σ' = [some (.ref p), some (.str n), some (.str t)] ∧ HAt CH CW CS H' p hi fpi ∧ Rd hi t ∧ hi.ab = h.ab ∧ (∃ Wt, lk hi.wh t = some Wt ∧ Rdy Wt) ∧ (∀ h'', RemW hi t h'' → WakeUp h n h'') ∧ Step (hfp p da dw es) H fpi H' ∧ m' = rk t, fun _ _ z => z, ?_⟩
          refine ⟨_, rfl, p, CH, dx3, _, _, rfl, hp3, h_H.cl, h_H.aAb, hf_ab _ _, _, rfl, da3, _, rfl, .inl ⟨_, Sum.inr t, .inl hd3, rfl, by rw [kvn_val, eb]; rfl⟩, ?_⟩
          refine ⟨rk b, (hrk t b (by rw [← eab]; exact eb)).1, b, _, _, rfl, h3, rd3, eab, ⟨_, lk_pt ewb, ?_⟩, fun h'' z => rem h'' (.inr ⟨ht, b, Wb, x, eb, ewb, hx, xn, .inr ⟨exr, remW_up oi rdi eb ewb z⟩⟩), sti.trans st4, rfl⟩
          obtain ⟨z, hz, en⟩ := (has_names (wake_names Wb t) t).mpr ⟨x, hx, xn⟩
          exact ⟨z, hz, wake_own.1 z hz en⟩
theorem sc_H_rest : FnScope ["self", "name", "team"] ["self", "name"] (defScope sHouse_rest) := ⟨rfl, rfl, rfl, by decide +kernel, rfl, by decide +kernel, by decide +kernel⟩
theorem ok_H_rest {f : Addr} {fd : FuncData} (F : Fun K "rest" "House.rest" sHouse_rest f fd) (T : WT K mg CS CW CB CT CN) (L : LT mg) (h_H : HT K mg CH) (m_H_need_hand : MOk P w K mg base 3 CH "_need_hand" ["self", "name"] (spNeedHand CH CW CS CN CD)) (m_H_wheel_around : MOk P w K mg base 1 CH "_wheel_around" ["self", "name"] (spAround CH CW CS)) (m_W_rest : MOk P w K mg base 3 CW "rest" ["self", "name"] (spRest CW CS CN)) (m_W_whose : MOk P w K mg base 1 CW "whose" ["self"] (spWhose CW CS)) :
    FnOk P w K mg base (L2.CX P w) 4 f fd ["self", "name"] (spHRest CH CW CS CN CD) := by
  refine F.okX sc_H_rest (fun vs H Q E h => ?_) (fun cdv A outer s H vs Q E hr h => ?_)
  · (first | (obtain ⟨_, rfl, _⟩ := h; rfl) | (obtain ⟨_, _, rfl, _⟩ := h; rfl) | (obtain ⟨_, _, _, rfl, _⟩ := h; rfl) | (obtain ⟨_, _, _, _, rfl, _⟩ := h; rfl) | (obtain ⟨_, _, _, _, _, rfl, _⟩ := h; rfl) | (obtain ⟨_, _, _, _, _, _, rfl, _⟩ := h; rfl) | (obtain ⟨_, _, _, _, _, _, _, rfl, _⟩ := h; rfl) | (obtain ⟨_, _, _, _, _, _, _, _, rfl, _⟩ := h; rfl) | (obtain ⟨_, _, _, _, _, _, _, _, _, rfl, _⟩ := h; rfl) | (obtain ⟨_, _, _, _, _, _, _, _, _, _, rfl, _⟩ := h; rfl) | (obtain ⟨_, _, _, _, _, _, _, _, _, _, _, rfl, _⟩ := h; rfl) | (obtain ⟨_, _, _, _, _, _, _, _, _, _, _, _, rfl, _⟩ := h; rfl) | (obtain ⟨_, _, _, _, _, _, _, _, _, _, _, _, _, rfl, _⟩ := h; rfl) | (obtain ⟨_, _, _, _, _, _, _, _, _, _, _, _, _, _, rfl, _⟩ := h; rfl) | (obtain ⟨_, _, _, _, _, _, _, _, _, _, _, _, _, _, _, rfl, _⟩ := h; rfl))
  · obtain ⟨p, h, fp, x, rfl, hA, rd, hx, k1, k2, k3⟩ := h
    have hu := hu_of hr
    obtain ⟨tTop, mTop⟩ := h_H.top
    refine ⟨_, (pss_cons (ps_expr (by exact pe_m m_H_need_hand h_H.cl hr (by decide) (fun σ => passAt (takes_of rfl rfl rfl rfl) σ) (pv 0) (pa_cons (pv 1) pa_nil)))
      (pss_cons (ps_if (pt_not (pt_val (by exact pe_m m_W_rest T.clW hr (by decide) (fun σ => passAt (takes_of rfl rfl rfl rfl) σ) (by exact pe_m m_H_wheel_around h_H.cl hr (by decide) (fun σ => passAt (takes_of rfl rfl rfl rfl) σ) (pv 0) (pa_cons (pv 1) pa_nil)) (pa_cons (pv 1) pa_nil)))) (pss_one (ps_ret pe_bl)) pss_nil)
      (pss_cons (ps_set (i := 2) sc_H_rest.nd rfl (Or.inl rfl) (pe_dget hu (pe_fld (pv 0) rfl) (pv 1) (fun _ _ => rfl)))
      (pss_cons (ps_while (passes_of rfl) (PW.pt (pw_and (pt_cmpR op_ne (pv 2) (pe_glob (v := .str "") rfl mTop ⟨_, rfl⟩) (nomark _)) (pw_and1 (pt_cmpR op_isN (by exact pe_m0 m_W_whose T.clW hr (by decide) (fun σ => passAt (takes_of rfl rfl rfl rfl) σ) (pe_dget hu (pe_fld (pv 0) rfl) (pv 2) (fun _ _ => rfl))) pe_non (nomark _)))))
        (pss_cons (ps_expr (by exact pe_m m_W_rest T.clW hr (by decide) (fun σ => passAt (takes_of rfl rfl rfl rfl) σ) (by exact pe_m m_H_wheel_around h_H.cl hr (by decide) (fun σ => passAt (takes_of rfl rfl rfl rfl) σ) (pv 0) (pa_cons (pv 2) pa_nil)) (pa_cons (pv 2) pa_nil)))
      (pss_one (ps_set (i := 2) sc_H_rest.nd rfl (Or.inl rfl) (pe_dget hu (pe_fld (pv 0) rfl) (pv 2) (fun _ _ => rfl))))))
      (pss_one (ps_ret pe_bl)))))), ?_⟩
    obtain ⟨da, dw, es, e1, rfl, i, o⟩ := id hA
    obtain ⟨dx, hp⟩ := i.ob
    refine ⟨_, rfl, p, dx, _, rfl, hp, hf_no _ _, _, rfl, p, h, _, x, rfl, hA, hx, fun n a en ea nt => ?_, k1, k2⟩
    subst en
    obtain ⟨W, ew⟩ := o.aw n a ea
    obtain ⟨e, he, et, eW, eq⟩ := lk_qs (es := es) (by rw [← e1]; exact ew)
    obtain ⟨y, hy, yn⟩ := (o.sub a W n ew).mpr ea
    have we := i.hws e he
    rw [eW] at we
    obtain ⟨dxe, de, hqe⟩ := we.at
    refine ⟨_, rfl, p, dx, _, rfl, hp, hf_no _ _, _, rfl, p, da, dw, h.ab, es, n, a, e.q, rfl, i, ea, eq, e.q, dxe, _, rfl, hqe, wf_m, _, rfl, e.q, W, e.fp, n, rfl, we, fun z => (z ⟨y, hy, yn⟩).elim, fun y' hy' yn' H2 w2 st2 => ?_⟩
    cases Wm.row_of_name we.ok.nd hy' hy (yn'.trans yn.symm)
    obtain ⟨k31, k32⟩ := k3 n a W y rfl ea nt ew hy yn
    cases er : y.r with
    | false =>
      have ws2 : Wm.rest W n = W := by rw [← yn]; exact rest_self we.ok hy er
      rw [ws2, ← eW] at w2
      obtain ⟨q1, q2⟩ := HAt.stay e1 i o he w2 st2
      exact ⟨false, rfl, iteT (k31 er _ q1 q2)⟩
    | true =>
      refine ⟨true, rfl, iteF ?_⟩
      obtain ⟨h1, st1⟩ := HAt.move e1 i o he w2 st2 (by rw [eW]; exact rest_names W n)
      rw [et] at h1 st1
      obtain ⟨rk, N, hrk⟩ := o.rk
      obtain ⟨dx1, da1, dw1, hp1, hd1⟩ : ∃ dx da' dw', H2 p = some (.ins CH dx (hf da' dw')) ∧ H2 da' = some (.dK (kvn V.str h.ab)) := by
        obtain ⟨da', dw', _, _, _, i2, _⟩ := h1
        obtain ⟨dx, q⟩ := i2.ob
        exact ⟨dx, da', dw', q, i2.hda⟩
      refine ⟨_, rfl, p, CH, dx1, _, _, rfl, hp1, h_H.cl, h_H.aAb, hf_ab _ _, _, rfl, da1, _, rfl, .inl ⟨_, Sum.inr n, .inl hd1, rfl, by rw [kvn_val, ea]; rfl⟩, ?_⟩
      refine ⟨fun m σ H' => ∃ t hi fpi, σ = [some (.ref p), some (.str n), some (.str t)] ∧ HAt CH CW CS H' p hi fpi ∧ hi.ab = h.ab ∧ (∃ Wt, lk hi.wh t = some Wt) ∧ (∀ h'', RemR hi t h'' → RestUp h n h'') ∧ Step (hfp p da dw es) H fpi H' ∧ m = rk t,
        ⟨rk a, a, _, _, rfl, h1, rfl, ⟨_, lk_pt ew⟩, fun h'' z => remR_up ea ew z, st1, rfl⟩, ?_⟩
      rintro m σ H' ⟨t, hi, fpi, rfl, hAi, eab, ⟨Wt, ewt⟩, rem, sti, rfl⟩
      have fin : ∀ {H3 : Hp} {fp3 : List Addr}, RemR hi t hi → HAt CH CW CS H3 p hi fp3 → Step (hfp p da dw es) H fp3 H3 → Q (.bl true) H3 := fun r3 a3 s3 => by
        have u := rem hi r3
        exact k32 er _ _ _ u a3 (rest_up u o rd.weak fun Wn q => by rw [nt] at q; cases q).2.1 s3
      refine ⟨_, rfl, rfl, _, rfl, ?_⟩
      by_cases ht : t = ""
      · subst ht
        rw [decide_eq_true rfl]
        exact iteF (iteF (fin (.inl ⟨rfl, rfl⟩) hAi sti))
      have ht2 : (!decide (V.str t = V.str "")) = true := by
        rw [decide_eq_false fun z => ht (by injection z)]
        rfl
      rw [ht2]
      refine iteT ?_
      obtain ⟨dai, dwi, esi, f1, rfl, ii, oi⟩ := id hAi
      obtain ⟨dxi, hpi⟩ := ii.ob
      obtain ⟨et', het, ett, eWt, eqt⟩ := lk_qs (es := esi) (by rw [← f1]; exact ewt)
      have wt := ii.hws et' het
      rw [eWt] at wt
      obtain ⟨dxt, dt, hqt⟩ := wt.at
      refine ⟨_, rfl, p, CH, dxi, _, _, rfl, hpi, h_H.cl, h_H.aWh, hf_wh _ _, _, rfl, dwi, _, rfl, .inl ⟨_, Sum.inr t, .inl ii.hdw, rfl, by rw [kvn_val, eqt]; rfl⟩, et'.q, dxt, _, rfl, hqt, wf_m, et'.q, Wt, et'.fp, rfl, wt, fun H3 s3 => ?_⟩
      have hA3 := hAi.same s3
      have sti3 := sti.trans (.same s3)
      cases eb : Wm.best Wt.rows with
      | some bb =>
        rw [show Wm.whose Wt = some bb.n from whose_some eb]
        exact ⟨rfl, _, rfl, iteF (fin (.inr ⟨ht, Wt, ewt, .inl ⟨rdy_best.mpr (by rw [eb]; intro z; cases z), rfl⟩⟩) hA3 sti3)⟩
      | none =>
        have nr : ¬ Rdy Wt := fun z => rdy_best.mp z eb
        rw [show Wm.whose Wt = none from whose_none eb]
        refine ⟨rfl, _, rfl, iteT ?_⟩
        obtain ⟨b, eb⟩ : ∃ b, lk hi.ab t = some b := by
          rcases oi.wt t Wt ewt with z | z
          · exact (ht z).elim
          · exact z
        obtain ⟨Wb, ewb⟩ := oi.aw t b eb
        have ii3 := ii.keep fun b' _ o' e' => s3 b' o' e'
        obtain ⟨dx3, hp3⟩ := ii3.ob
        obtain ⟨ei, hei, eti, eWi, eqi⟩ := lk_qs (es := esi) (by rw [← f1]; exact ewb)
        obtain ⟨x, hx, xn⟩ := (oi.sub b Wb t ewb).mpr eb
        have wi := ii3.hws ei hei
        rw [eWi] at wi
        obtain ⟨dxq, dq, hqi⟩ := wi.at
        refine ⟨fun σ' H' => ∃ m', m' < rk t ∧ ∃ t hi fpi, σ' = [some (.ref p), some (.str n), some (.str t)] ∧ HAt CH CW CS H' p hi fpi ∧ hi.ab = h.ab ∧ (∃ Wt, lk hi.wh t = some Wt) ∧ (∀ h'', RemR hi t h'' → RestUp h n h'') ∧ Step (hfp p da dw es) H fpi H' ∧ m' = rk t, fun _ _ z => z, ?_⟩
        refine ⟨_, rfl, p, dx3, _, rfl, hp3, hf_no _ _, _, rfl, p, dai, dwi, hi.ab, esi, t, b, ei.q, rfl, ii3, eb, eqi, ei.q, dxq, _, rfl, hqi, wf_m, _, rfl, ei.q, Wb, ei.fp, t, rfl, wi, fun z => (z ⟨x, hx, xn⟩).elim, fun x' hx' xn' H4 w4 st4 => ?_⟩
        obtain ⟨h4, st5⟩ := HAt.move f1 ii3 oi hei w4 st4 (by rw [eWi]; exact rest_names Wb t)
        rw [eti] at h4 st5
        obtain ⟨dx4, da4, dw4, hp4, hd4⟩ : ∃ dx da' dw', H4 p = some (.ins CH dx (hf da' dw')) ∧ H4 da' = some (.dK (kvn V.str hi.ab)) := by
          obtain ⟨da', dw', _, _, _, i2, _⟩ := h4
          obtain ⟨dx, q⟩ := i2.ob
          exact ⟨dx, da', dw', q, i2.hda⟩
        refine ⟨_, rfl, p, CH, dx4, _, _, rfl, hp4, h_H.cl, h_H.aAb, hf_ab _ _, _, rfl, da4, _, rfl, .inl ⟨_, Sum.inr t, .inl hd4, rfl, by rw [kvn_val, eb]; rfl⟩, ?_⟩
        exact ⟨rk b, (hrk t b (by rw [← eab]; exact eb)).1, b, _, _, rfl, h4, eab, ⟨_, lk_pt ewb⟩, fun h'' z => rem h'' (.inr ⟨ht, Wt, ewt, .inr ⟨nr, remR_up eb ewb z⟩⟩), sti3.trans st5, rfl⟩
theorem sc_H_wheel_of : FnScope ["self", "team"] ["self", "team"] (defScope sHouse_wheel_of) := ⟨rfl, rfl, rfl, by decide +kernel, rfl, by decide +kernel, by decide +kernel⟩
theorem ok_H_wheel_of {f : Addr} {fd : FuncData} (F : Fun K "wheel_of" "House.wheel_of" sHouse_wheel_of f fd) (T : WT K mg CS CW CB CT CN) (L : LT mg) (h_H : HT K mg CH) (m_H_need_team : MOk P w K mg base 2 CH "_need_team" ["self", "team"] (spNeedTeam CH CW CS CM)) (m_W_copied : MOk P w K mg base 4 CW "copied" ["self"] (spCopied CW CS)) :
    FnOk P w K mg base (L2.CX P w) 5 f fd ["self", "team"] (spWheelOf CH CW CS CM) := by
  refine F.okX sc_H_wheel_of (fun vs H Q E h => ?_) (fun cdv A outer s H vs Q E hr h => ?_)
  · (first | (obtain ⟨_, rfl, _⟩ := h; rfl) | (obtain ⟨_, _, rfl, _⟩ := h; rfl) | (obtain ⟨_, _, _, rfl, _⟩ := h; rfl) | (obtain ⟨_, _, _, _, rfl, _⟩ := h; rfl) | (obtain ⟨_, _, _, _, _, rfl, _⟩ := h; rfl) | (obtain ⟨_, _, _, _, _, _, rfl, _⟩ := h; rfl) | (obtain ⟨_, _, _, _, _, _, _, rfl, _⟩ := h; rfl) | (obtain ⟨_, _, _, _, _, _, _, _, rfl, _⟩ := h; rfl) | (obtain ⟨_, _, _, _, _, _, _, _, _, rfl, _⟩ := h; rfl) | (obtain ⟨_, _, _, _, _, _, _, _, _, _, rfl, _⟩ := h; rfl) | (obtain ⟨_, _, _, _, _, _, _, _, _, _, _, rfl, _⟩ := h; rfl) | (obtain ⟨_, _, _, _, _, _, _, _, _, _, _, _, rfl, _⟩ := h; rfl) | (obtain ⟨_, _, _, _, _, _, _, _, _, _, _, _, _, rfl, _⟩ := h; rfl) | (obtain ⟨_, _, _, _, _, _, _, _, _, _, _, _, _, _, rfl, _⟩ := h; rfl) | (obtain ⟨_, _, _, _, _, _, _, _, _, _, _, _, _, _, _, rfl, _⟩ := h; rfl))
  · obtain ⟨p, h, fp, x, rfl, hA, hx, hlen, k1, k2⟩ := h
    have hu := hu_of hr
    refine ⟨_, (pss_cons (ps_expr (by exact pe_m m_H_need_team h_H.cl hr (by decide) (fun σ => passAt (takes_of rfl rfl rfl rfl) σ) (pv 0) (pa_cons (pv 1) pa_nil)))
      (pss_one (ps_ret (by exact pe_m0 m_W_copied T.clW hr (by decide) (fun σ => passAt (takes_of rfl rfl rfl rfl) σ) (pe_dget hu (pe_fld (pv 0) rfl) (pv 1) (fun _ _ => rfl)))))), ?_⟩
    obtain ⟨da, dw, es, e1, rfl, i, o⟩ := id hA
    obtain ⟨dx, hp⟩ := i.ob
    refine ⟨_, rfl, p, dx, _, rfl, hp, hf_no _ _, _, rfl, p, h, _, x, rfl, hA, hx, fun t W et eW => ?_, k2⟩
    subst et
    obtain ⟨e, he, ett, eWe, eq⟩ := lk_qs (es := es) (by rw [← e1]; exact eW)
    have we := i.hws e he
    rw [eWe] at we
    obtain ⟨dxe, de, hqe⟩ := we.at
    refine ⟨_, rfl, p, CH, dx, _, _, rfl, hp, h_H.cl, h_H.aWh, hf_wh _ _, _, rfl, dw, _, rfl, .inl ⟨_, Sum.inr t, .inl i.hdw, rfl, by rw [kvn_val, eq]; rfl⟩, e.q, dxe, _, rfl, hqe, wf_m, e.q, W, e.fp, rfl, we, hlen t W eW, fun q' fp' H' w' s' fr => ?_⟩
    exact k1 t W rfl eW q' fp' H' w' s' fr
theorem sc_H_reshare : FnScope ["self", "name", "share"] ["self", "name", "share"] (defScope sHouse_reshare) := ⟨rfl, rfl, rfl, by decide +kernel, rfl, by decide +kernel, by decide +kernel⟩
theorem ok_H_reshare {f : Addr} {fd : FuncData} (F : Fun K "reshare" "House.reshare" sHouse_reshare f fd) (T : WT K mg CS CW CB CT CN) (L : LT mg) (h_H : HT K mg CH) (m_H_need_name : MOk P w K mg base 2 CH "_need_name" ["self", "name"] (spNeedName CH CW CS CN)) (m_H_wheel_around : MOk P w K mg base 1 CH "_wheel_around" ["self", "name"] (spAround CH CW CS)) (m_W_reshare : MOk P w K mg base 3 CW "reshare" ["self", "name", "share"] (spReshare CW CS CB CN)) :
    FnOk P w K mg base (L2.CX P w) 4 f fd ["self", "name", "share"] (spHReshare CH CW CS CB CN) := by
  refine F.okX sc_H_reshare (fun vs H Q E h => ?_) (fun cdv A outer s H vs Q E hr h => ?_)
  · (first | (obtain ⟨_, rfl, _⟩ := h; rfl) | (obtain ⟨_, _, rfl, _⟩ := h; rfl) | (obtain ⟨_, _, _, rfl, _⟩ := h; rfl) | (obtain ⟨_, _, _, _, rfl, _⟩ := h; rfl) | (obtain ⟨_, _, _, _, _, rfl, _⟩ := h; rfl) | (obtain ⟨_, _, _, _, _, _, rfl, _⟩ := h; rfl) | (obtain ⟨_, _, _, _, _, _, _, rfl, _⟩ := h; rfl) | (obtain ⟨_, _, _, _, _, _, _, _, rfl, _⟩ := h; rfl) | (obtain ⟨_, _, _, _, _, _, _, _, _, rfl, _⟩ := h; rfl) | (obtain ⟨_, _, _, _, _, _, _, _, _, _, rfl, _⟩ := h; rfl) | (obtain ⟨_, _, _, _, _, _, _, _, _, _, _, rfl, _⟩ := h; rfl) | (obtain ⟨_, _, _, _, _, _, _, _, _, _, _, _, rfl, _⟩ := h; rfl) | (obtain ⟨_, _, _, _, _, _, _, _, _, _, _, _, _, rfl, _⟩ := h; rfl) | (obtain ⟨_, _, _, _, _, _, _, _, _, _, _, _, _, _, rfl, _⟩ := h; rfl) | (obtain ⟨_, _, _, _, _, _, _, _, _, _, _, _, _, _, _, rfl, _⟩ := h; rfl))
  · obtain ⟨p, h, fp, x, s, rfl, hA, hx, hs, k1, k2, k3⟩ := h
    have hu := hu_of hr
    refine ⟨_, (pss_cons (ps_expr (by exact pe_m m_H_need_name h_H.cl hr (by decide) (fun σ => passAt (takes_of rfl rfl rfl rfl) σ) (pv 0) (pa_cons (pv 1) pa_nil)))
      (pss_one (ps_expr (by exact pe_m m_W_reshare T.clW hr (by decide) (fun σ => passAt (takes_of rfl rfl rfl rfl) σ) (by exact pe_m m_H_wheel_around h_H.cl hr (by decide) (fun σ => passAt (takes_of rfl rfl rfl rfl) σ) (pv 0) (pa_cons (pv 1) pa_nil)) (pa_cons (pv 1) (pa_cons (pv 2) pa_nil)))))), ?_⟩
    obtain ⟨da, dw, es, e1, rfl, i, o⟩ := id hA
    obtain ⟨dx, hp⟩ := i.ob
    refine ⟨_, rfl, p, dx, _, rfl, hp, hf_no _ _, _, rfl, p, h, _, x, rfl, hA, hx, fun n a en ea => ?_, k1⟩
    subst en
    obtain ⟨W, ew⟩ := o.aw n a ea
    obtain ⟨e, he, et, eW, eq⟩ := lk_qs (es := es) (by rw [← e1]; exact ew)
    obtain ⟨y, hy, yn⟩ := (o.sub a W n ew).mpr ea
    have we := i.hws e he
    rw [eW] at we
    obtain ⟨dxe, de, hqe⟩ := we.at
    refine ⟨_, rfl, p, dx, _, rfl, hp, hf_no _ _, _, rfl, p, da, dw, h.ab, es, n, a, e.q, rfl, i, ea, eq, e.q, dxe, _, rfl, hqe, wf_m, _, rfl, _, rfl, e.q, W, e.fp, n, s, rfl, we, hs, fun z => (z ⟨y, hy, yn⟩).elim, fun _ z => k2 n a rfl ea z, fun _ iv ei i1 i2 H2 w2 st2 => ?_⟩
    obtain ⟨q1, q2⟩ := HAt.move e1 i o he w2 st2 (by rw [eW]; exact reshare_names W n iv)
    rw [et] at q1 q2
    exact k3 n a W iv rfl ea ew ei i1 i2 _ _ q1 q2
theorem sc_H_deal : FnScope ["self", "names", "name"] ["self"] (defScope sHouse_deal) := ⟨rfl, rfl, rfl, by decide +kernel, rfl, by decide +kernel, by decide +kernel⟩
theorem ok_H_deal {f : Addr} {fd : FuncData} (F : Fun K "deal" "House.deal" sHouse_deal f fd) (T : WT K mg CS CW CB CT CN) (L : LT mg) (h_H : HT K mg CH) (m_W_turn : MOk P w K mg base 3 CW "turn" ["self"] (spTurn CW CS)) :
    FnOk P w K mg base (L2.CX P w) 4 f fd ["self"] (spDeal CH CW CS) := by
  refine okN F sc_H_deal (fun vs H Q E h => ?_) (fun cdv A outer s H vs Q E hr h => ?_)
  · (first | (obtain ⟨_, rfl, _⟩ := h; rfl) | (obtain ⟨_, _, rfl, _⟩ := h; rfl) | (obtain ⟨_, _, _, rfl, _⟩ := h; rfl) | (obtain ⟨_, _, _, _, rfl, _⟩ := h; rfl) | (obtain ⟨_, _, _, _, _, rfl, _⟩ := h; rfl) | (obtain ⟨_, _, _, _, _, _, rfl, _⟩ := h; rfl) | (obtain ⟨_, _, _, _, _, _, _, rfl, _⟩ := h; rfl) | (obtain ⟨_, _, _, _, _, _, _, _, rfl, _⟩ := h; rfl) | (obtain ⟨_, _, _, _, _, _, _, _, _, rfl, _⟩ := h; rfl) | (obtain ⟨_, _, _, _, _, _, _, _, _, _, rfl, _⟩ := h; rfl) | (obtain ⟨_, _, _, _, _, _, _, _, _, _, _, rfl, _⟩ := h; rfl) | (obtain ⟨_, _, _, _, _, _, _, _, _, _, _, _, rfl, _⟩ := h; rfl) | (obtain ⟨_, _, _, _, _, _, _, _, _, _, _, _, _, rfl, _⟩ := h; rfl) | (obtain ⟨_, _, _, _, _, _, _, _, _, _, _, _, _, _, rfl, _⟩ := h; rfl) | (obtain ⟨_, _, _, _, _, _, _, _, _, _, _, _, _, _, _, rfl, _⟩ := h; rfl))
  · obtain ⟨p, h, fp, rfl, hA, hlen, k⟩ := h
    have hu := hu_of hr
    obtain ⟨tTop, mTop⟩ := h_H.top
    refine ⟨_, (pss_cons (ps_set (i := 1) sc_H_deal.nd rfl (Or.inl rfl) (pe_lst pa_nil))
      (pss_cons (ps_set (i := 2) sc_H_deal.nd rfl (Or.inl rfl) (by exact pe_m0 m_W_turn T.clW hr (by decide) (fun σ => passN σ) (pe_dget hu (pe_fld (pv 0) rfl) (pe_glob (v := .str "") rfl mTop ⟨_, rfl⟩) (fun _ _ => rfl))))
      (pss_cons (ps_while PassesOwn.never (pt_cmpR op_notN (pv 2) pe_non (nomark _))
        (pss_cons (ps_expr (by exact pe_app (K0 := K) (pv 1) (pv 2)))
      (pss_one (ps_set (i := 2) sc_H_deal.nd rfl (Or.inl rfl) (pe_ifExp (pt_cmp (pc_din hu (pv 2) (pe_fld (pv 0) rfl))) (by exact pe_m0 m_W_turn T.clW hr (by decide) (fun σ => passN σ) (pe_dget hu (pe_fld (pv 0) rfl) (pv 2) (fun _ _ => rfl))) pe_non)))))
      (pss_one (ps_ret (pv 1)))))), ?_⟩
    obtain ⟨da, dw, es, e1, rfl, i, o⟩ := id hA
    obtain ⟨dx, hp⟩ := i.ob
    obtain ⟨rk, N, hrk⟩ := o.rk
    refine ⟨(by show 0 ≤ sizeLine; decide), fun l hl => ?_⟩
    have s1 : Same H (upd H l (.lst [])) := same_upd hl
    have e0 : upd H l (.lst []) l = some (.lst (([] : List Str).map V.str)) := upd_same
    have hA1 := hA.same s1
    have st1 : Step (hfp p da dw es) H (hfp p da dw es) (upd H l (.lst [])) := .same s1
    generalize upd H l (.lst []) = H1 at s1 e0 hA1 st1 ⊢
    -- one turn of the wheel of t
    have one : ∀ {H2 : Hp} {hi : Hs} {fpi : List Addr} {t : Str} {Wt : WhS} (q : Addr → Prop), HAt CH CW CS H2 p hi fpi → lk hi.wh t = some Wt → (∀ dx da' dw' es' (e : TE), H2 p = some (.ins CH dx (hf da' dw')) → H2 dw' = some (.dK (kvn V.ref (qs es'))) → lk (qs es') t = some e.q → WAt CW CS H2 e.q Wt e.fp →
        (∀ H3, WAt CW CS H3 e.q (Wm.turn Wt) e.fp → Step e.fp H2 e.fp H3 → ∃ fp3, HAt CH CW CS H3 p (setW hi t (Wm.turn Wt)) fp3 ∧ Step fpi H2 fp3 H3) → q p) → q p := fun {H2 hi fpi t Wt} q hA2 ewt go => by
      obtain ⟨da', dw', es', f1, rfl, ii, oi⟩ := hA2
      obtain ⟨dx', hp'⟩ := ii.ob
      obtain ⟨e, he, et, eW, eq⟩ := lk_qs (es := es') (by rw [← f1]; exact ewt)
      have we := ii.hws e he
      rw [eW] at we
      refine go dx' da' dw' es' e hp' ii.hdw eq we fun H3 w3 st3 => ?_
      have := HAt.move f1 ii oi he w3 st3 (by rw [eW]; exact turn_names Wt)
      rw [et] at this
      exact ⟨_, this⟩
    obtain ⟨W, ew⟩ := o.top
    refine one (fun _ => _) hA1 ew fun dx1 da1 dw1 es1 e hp1 hd1 eq we mvd => ?_
    obtain ⟨dxe, de, hqe⟩ := we.at
    refine ⟨_, rfl, p, CH, dx1, _, _, rfl, hp1, h_H.cl, h_H.aWh, hf_wh _ _, dw1, _, rfl, .inl ⟨_, Sum.inr "", .inl hd1, rfl, by rw [kvn_val, eq]; rfl⟩, e.q, dxe, _, rfl, hqe, wf_m, e.q, W, e.fp, rfl, we, fun H2 w2 st2 => ?_⟩
    obtain ⟨fp2, hA2, st2'⟩ := mvd H2 w2 st2
    have el2 : H2 l = some (.lst (([] : List Str).map V.str)) := st2'.kept _ _ e0 (hA1.lst e0)
    let Inv : Nat → L2.St → Hp → Prop := fun m σ H' => ∃ hi fpi ns, ∃ v : Option Str, σ = [some (.ref p), some (.ref l), some (optN v)] ∧ HAt CH CW CS H' p hi fpi ∧ hi.ab = h.ab ∧ Step (hfp p da dw es) H fpi H' ∧ H' l = some (.lst (ns.map V.str)) ∧
      ((v = none ∧ Deal h "" ns hi ∧ m = 0) ∨ ∃ b, v = some b ∧ (∃ c, lk h.ab b = some c) ∧ (∀ l' h'', RemD hi b l' h'' → Deal h "" (ns ++ b :: l') h'') ∧ (∀ x ∈ ns, rk x < rk b) ∧ ns.Nodup ∧ (∀ x ∈ ns, x ∈ keys h.ab) ∧ m = N + 1 - rk b)
    have start : ∃ m, Inv m [some (.ref p), some (.ref l), some (optN (Wm.whose W))] H2 := by
      cases eb : Wm.best W.rows with
      | none => exact ⟨0, _, fp2, [], none, by rw [whose_none eb], hA2, rfl, st1.trans st2', el2, .inl ⟨rfl, .none ew eb, rfl⟩⟩
      | some b =>
        have hb := (Wm.best_some eb).2.1
        have ab := (o.sub "" W b.n ew).mp ⟨b, hb, rfl⟩
        refine ⟨N + 1 - rk b.n, _, fp2, [], some b.n, by rw [whose_some eb], hA2, rfl, st1.trans st2', el2, .inr ⟨b.n, rfl, ⟨_, ab⟩, fun l' h'' z => remD_up ew eb (o.ne_top ab) z, fun x hx => (nomatch hx), List.nodup_nil, fun x hx => (nomatch hx), rfl⟩⟩
    refine ⟨Inv, start, ?_⟩
    rintro m σ H3 ⟨hi, fpi, ns, v, rfl, hA3, eab, sti, el3, cs⟩
    rcases cs with ⟨rfl, dl, rfl⟩ | ⟨b, rfl, ⟨c, ec⟩, rem, ord, nd, sub, rfl⟩
    · refine ⟨_, rfl, rfl, _, rfl, iteF ⟨_, rfl, ?_⟩⟩
      exact k H3 fpi hi l ns dl hA3 sti el3 hl
    · refine ⟨_, rfl, rfl, _, rfl, iteT ⟨fun σ' H' => ∃ m', m' < N + 1 - rk b ∧ Inv m' σ' H', fun _ _ z => z, ?_⟩⟩
      have hrb := hrk b c ec
      have lns : ns.length ≤ 900 := by
        have := nodup_sub ns (keys h.ab) nd sub
        unfold keys at this
        rw [List.length_map] at this
        omega
      refine ⟨_, rfl, .inl ⟨rfl, _, SqL.of el3⟩, _, rfl, l, _, _, rfl, rfl, el3, by rw [List.length_map]; exact small1000 (by omega), ?_⟩
      have hA4 : HAt CH CW CS (upd H3 l (.lst (ns.map V.str ++ [optN (some b)]))) p hi fpi := hA3.keep fun b' hb' o' e' => by
        rw [upd_ne (fun z => hA3.lst el3 (by rw [← z]; exact hb'))]
        exact e'
      have el4 : upd H3 l (.lst (ns.map V.str ++ [optN (some b)])) l = some (.lst ((ns ++ [b]).map V.str)) := by
        rw [upd_same, List.map_append]
        rfl
      have st4 : Step (hfp p da dw es) H fpi (upd H3 l (.lst (ns.map V.str ++ [optN (some b)]))) := by
        refine ⟨fun b' o' e' hb' => ?_, sti.new⟩
        rw [upd_ne (fun z => by rw [z, hl] at e'; cases e')]
        exact sti.kept _ _ e' hb'
      generalize upd H3 l (.lst (ns.map V.str ++ [optN (some b)])) = H4 at hA4 el4 st4 ⊢
      have oi := hA4.ok
      obtain ⟨dai, dwi, esi, f1, ff, ii, _⟩ := id hA4
      obtain ⟨dxi, hpi⟩ := ii.ob
      have nd2 : (ns ++ [b]).Nodup := Wm.nd_snoc nd fun z => by
        have := ord b z
        omega
      have sub2 : ∀ x ∈ ns ++ [b], x ∈ keys h.ab := fun x hx => by
        rcases List.mem_append.mp hx with hx | hx
        · exact sub x hx
        · rw [List.mem_singleton.mp hx]
          exact lk_some_key ec
      cases eU : lk hi.wh b with
      | none =>
        refine ⟨_, rfl, _, rfl, p, CH, dxi, _, _, rfl, hpi, h_H.cl, h_H.aWh, hf_wh _ _, dwi, none, rfl, .inl ⟨_, Sum.inr b, .inl ii.hdw, rfl, (by rw [kvn_val, lk_qs_none (by rw [← f1]; exact eU)] <;> rfl)⟩, _, rfl, iteF ?_⟩
        exact ⟨0, by omega, hi, fpi, ns ++ [b], none, rfl, hA4, eab, st4, el4, .inl ⟨rfl, rem [] hi (.inl ⟨eU, rfl, rfl⟩), rfl⟩⟩
      | some U =>
        obtain ⟨ef, hef, etf, eWf, eqf⟩ := lk_qs (es := esi) (by rw [← f1]; exact eU)
        refine ⟨_, rfl, _, rfl, p, CH, dxi, _, _, rfl, hpi, h_H.cl, h_H.aWh, hf_wh _ _, dwi, some (.ref ef.q), rfl, .inl ⟨_, Sum.inr b, .inl ii.hdw, rfl, (by rw [kvn_val, eqf] <;> rfl)⟩, _, rfl, iteT ?_⟩
        have we5 := ii.hws ef hef
        rw [eWf] at we5
        obtain ⟨dxq, dq, hq5⟩ := we5.at
        refine ⟨_, rfl, p, CH, dxi, _, _, rfl, hpi, h_H.cl, h_H.aWh, hf_wh _ _, _, rfl, dwi, _, rfl, .inl ⟨_, Sum.inr b, .inl ii.hdw, rfl, by rw [kvn_val, eqf]; rfl⟩, ef.q, dxq, _, rfl, hq5, wf_m, ef.q, U, ef.fp, rfl, we5, fun H5 w5 st5 => ?_⟩
        obtain ⟨hA5, st6⟩ := HAt.move f1 ii oi hef w5 st5 (by rw [eWf]; exact turn_names U)
        rw [etf] at hA5 st6
        rw [← ff] at st6
        have el5 := st6.kept _ _ el4 (hA4.lst el4)
        cases eb : Wm.best U.rows with
        | none =>
          rw [show Wm.whose U = none from whose_none eb]
          exact ⟨0, by omega, _, _, ns ++ [b], none, rfl, hA5, eab, st4.trans st6, el5, .inl ⟨rfl, rem [] _ (.inr ⟨U, eU, .none eU eb⟩), rfl⟩⟩
        | some b2 =>
          rw [show Wm.whose U = some b2.n from whose_some eb]
          have ab2 := (oi.sub b U b2.n eU).mp ⟨b2, (Wm.best_some eb).2.1, rfl⟩
          have hr2 := hrk b2.n b (by rw [← eab]; exact ab2)
          refine ⟨N + 1 - rk b2.n, by omega, _, _, ns ++ [b], some b2.n, rfl, hA5, eab, st4.trans st6, el5, .inr ⟨b2.n, rfl, ⟨b, by rw [← eab]; exact ab2⟩, fun l' h'' z => ?_, fun x hx => ?_, nd2, sub2, rfl⟩⟩
          · have := rem (b2.n :: l') h'' (.inr ⟨U, eU, remD_up eU eb (oi.ne_above ab2) z⟩)
            rw [List.append_assoc]
            exact this
          · rcases List.mem_append.mp hx with hx | hx
            · have := ord x hx
              omega
            · rw [List.mem_singleton.mp hx]
              omega
theorem sc_H_leave : FnScope ["self", "name"] ["self", "name"] (defScope sHouse_leave) := ⟨rfl, rfl, rfl, by decide +kernel, rfl, by decide +kernel, by decide +kernel⟩
theorem ok_H_leave {f : Addr} {fd : FuncData} (F : Fun K "leave" "House.leave" sHouse_leave f fd) (T : WT K mg CS CW CB CT CN) (L : LT mg) (h_H : HT K mg CH) (m_H_need_name : MOk P w K mg base 2 CH "_need_name" ["self", "name"] (spNeedName CH CW CS CN)) (m_H_rest : MOk P w K mg base 4 CH "rest" ["self", "name"] (spHRest CH CW CS CN CD)) (m_H_wheel_around : MOk P w K mg base 1 CH "_wheel_around" ["self", "name"] (spAround CH CW CS)) (m_W_leave : MOk P w K mg base 3 CW "leave" ["self", "name"] (spLeave CW CS CN)) (m_W_names : MOk P w K mg base 1 CW "names" ["self"] (spNames CW CS)) (r_Y : ErT K mg "NotEmpty" CY) :
    FnOk P w K mg base (L2.CX P w) 5 f fd ["self", "name"] (spHLeave CH CW CS CN CY) := by
  refine F.okX sc_H_leave (fun vs H Q E h => ?_) (fun cdv A outer s H vs Q E hr h => ?_)
  · (first | (obtain ⟨_, rfl, _⟩ := h; rfl) | (obtain ⟨_, _, rfl, _⟩ := h; rfl) | (obtain ⟨_, _, _, rfl, _⟩ := h; rfl) | (obtain ⟨_, _, _, _, rfl, _⟩ := h; rfl) | (obtain ⟨_, _, _, _, _, rfl, _⟩ := h; rfl) | (obtain ⟨_, _, _, _, _, _, rfl, _⟩ := h; rfl) | (obtain ⟨_, _, _, _, _, _, _, rfl, _⟩ := h; rfl) | (obtain ⟨_, _, _, _, _, _, _, _, rfl, _⟩ := h; rfl) | (obtain ⟨_, _, _, _, _, _, _, _, _, rfl, _⟩ := h; rfl) | (obtain ⟨_, _, _, _, _, _, _, _, _, _, rfl, _⟩ := h; rfl) | (obtain ⟨_, _, _, _, _, _, _, _, _, _, _, rfl, _⟩ := h; rfl) | (obtain ⟨_, _, _, _, _, _, _, _, _, _, _, _, rfl, _⟩ := h; rfl) | (obtain ⟨_, _, _, _, _, _, _, _, _, _, _, _, _, rfl, _⟩ := h; rfl) | (obtain ⟨_, _, _, _, _, _, _, _, _, _, _, _, _, _, rfl, _⟩ := h; rfl) | (obtain ⟨_, _, _, _, _, _, _, _, _, _, _, _, _, _, _, rfl, _⟩ := h; rfl))
  · obtain ⟨p, h, fp, x, rfl, hA, rd, hx, k1, k2, k3, k4⟩ := h
    have hu := hu_of hr
    refine ⟨_, (pss_cons (ps_expr (by exact pe_m m_H_need_name h_H.cl hr (by decide) (fun σ => passAt (takes_of rfl rfl rfl rfl) σ) (pv 0) (pa_cons (pv 1) pa_nil)))
      (C8.pss_cut (ps_if (pt_cmp (pc_dnotin hu (pv 1) (pe_fld (pv 0) rfl))) (pss_one (ps_expr (by exact pe_m m_H_rest h_H.cl hr (by decide) (fun σ => passAt (takes_of rfl rfl rfl rfl) σ) (pv 0) (pa_cons (pv 1) pa_nil)))) (pss_one (ps_if (pt_truth (by exact pe_m0 m_W_names T.clW hr (by decide) (fun σ => passAt (takes_of rfl rfl rfl rfl) σ) (pe_dget hu (pe_fld (pv 0) rfl) (pv 1) (fun _ _ => rfl))) (by intro _; rfl)) (pss_one (ps_rs rfl (takes_of rfl rfl rfl rfl) r_Y.t r_Y.g (by rfl))) (pss_one (ps_ddel (pe_fld (pv 0) rfl) (pv 1))))))
      (pss_cons (ps_expr (by exact pe_m m_W_leave T.clW hr (by decide) (fun σ => passAt (takes_of rfl rfl rfl rfl) σ) (by exact pe_m m_H_wheel_around h_H.cl hr (by decide) (fun σ => passAt (takes_of rfl rfl rfl rfl) σ) (pv 0) (pa_cons (pv 1) pa_nil)) (pa_cons (pv 1) pa_nil)))
      (pss_one (ps_ddel (pe_fld (pv 0) rfl) (pv 1)))))), ?_⟩
    obtain ⟨da, dw, es, e1, rfl, i, o⟩ := id hA
    obtain ⟨dx, hp⟩ := i.ob
    refine ⟨_, rfl, p, dx, _, rfl, hp, hf_no _ _, _, rfl, p, h, _, x, rfl, hA, hx, fun n a en ea => ?_, k1⟩
    subst en
    obtain ⟨W, ew⟩ := o.aw n a ea
    obtain ⟨y, hy, yn⟩ := (o.sub a W n ew).mpr ea
    -- behind the first part: a house h1 in the heap but that the team's wheel is gone
    refine ⟨fun σ' H' => ∃ h1 dw1 da1 es1 W1 fp1, σ' = [some (.ref p), some (.str n)] ∧ HIn CH CW CS H' p da1 dw1 h1.ab (dropE es1 n) ∧ h1.wh = ws es1 ∧ HOk h1 ∧ h1.ab = h.ab ∧ lk h1.wh a = some W1 ∧ (∀ x ∈ W1.rows, x.n = n → x.r = false) ∧ (∀ m, lk h1.ab m ≠ some n) ∧ Rd h1 "" ∧ Step (hfp p da dw es) H (hfp p da1 dw1 (dropE es1 n)) H' ∧
      (∀ H'' fp', HAt CH CW CS H'' p (leaveN h1 n a W1) fp' → Rd (leaveN h1 n a W1) "" → Step (hfp p da dw es) H fp' H'' → Q .non H'') ∧ fp1 = hfp p da1 dw1 (dropE es1 n), ?_, ?_⟩
    · have ev : (valV (kvn V.ref (qs es)) (Sum.inr n : Key)) = (lk (qs es) n).map V.ref := kvn_val
      cases en : lk h.wh n with
      | none =>
        refine ⟨_, rfl, _, rfl, p, CH, dx, _, _, rfl, hp, h_H.cl, h_H.aWh, hf_wh _ _, dw, none, rfl, .inl ⟨_, Sum.inr n, .inl i.hdw, rfl, (by rw [ev, lk_qs_none (by rw [← e1]; exact en)] <;> rfl)⟩, _, rfl, iteT ?_⟩
        have no : ∀ m, lk h.ab m ≠ some n := fun m z => by
          obtain ⟨U, u⟩ := o.aw m n z
          rw [en] at u
          cases u
        have after : ∀ {H' : Hp} {h1 : Hs} {fp1 : List Addr} {W1 : WhS}, HAt CH CW CS H' p h1 fp1 → Rd h1 "" → h1.ab = h.ab → keys h1.wh = keys h.wh → lk h1.wh a = some W1 → (∀ x ∈ W1.rows, x.n = n → x.r = false) → Step (hfp p da dw es) H fp1 H' → (y.r = false ∧ h1 = h ∨ y.r = true ∧ RestUp h n h1) →
            ∃ h1 dw1 da1 es1 W1 fp1, [some (V.ref p), some (V.str n)] = [some (.ref p), some (.str n)] ∧ HIn CH CW CS H' p da1 dw1 h1.ab (dropE es1 n) ∧ h1.wh = ws es1 ∧ HOk h1 ∧ h1.ab = h.ab ∧ lk h1.wh a = some W1 ∧ (∀ x ∈ W1.rows, x.n = n → x.r = false) ∧ (∀ m, lk h1.ab m ≠ some n) ∧ Rd h1 "" ∧ Step (hfp p da dw es) H (hfp p da1 dw1 (dropE es1 n)) H' ∧
              (∀ H'' fp', HAt CH CW CS H'' p (leaveN h1 n a W1) fp' → Rd (leaveN h1 n a W1) "" → Step (hfp p da dw es) H fp' H'' → Q .non H'') ∧ fp1 = hfp p da1 dw1 (dropE es1 n) := fun {H' h1 fp1 W1} hA1 rd1 eab ek ew1 nr st cs => by
          obtain ⟨da1, dw1, es1, g1, rfl, i1, o1⟩ := hA1
          have dn : dropE es1 n = es1 := dropE_none (by
            rw [← g1]
            exact lk_none_iff.mpr fun z => lk_none_iff.mp en (by rw [← ek]; exact z))
          refine ⟨h1, dw1, da1, es1, W1, _, rfl, by rw [dn]; exact i1, g1, o1, eab, ew1, nr, by rw [eab]; exact no, rd1, by rw [dn]; exact st, fun H'' fp' q1 q2 q3 => k4 n a W y h1 W1 rfl ea en ew hy yn cs ew1 H'' fp' q1 q2 q3, rfl⟩
        refine ⟨_, rfl, p, dx, _, rfl, hp, hf_no _ _, _, rfl, p, h, _, .str n, rfl, hA, rd, .str n, fun no2 => (no2 n a rfl ea).elim, fun n' a' W' e' _ w' => ?_, fun n' a' W' y' e' ea' en' ew' hy' yn' => ?_⟩
        · cases e'
          rw [en] at w'
          cases w'
        · cases e'
          rw [ea] at ea'
          cases ea'
          rw [ew] at ew'
          cases ew'
          cases Wm.row_of_name (o.ok _ _ ew).nd hy' hy (yn'.trans yn.symm)
          refine ⟨fun yr H' hA' st' => ?_, fun yr H' fp' h' u hA' rd' st' => ?_⟩
          · exact after hA' rd rfl rfl ew (fun x hx xn => by cases Wm.row_of_name (o.ok _ _ ew).nd hx hy (xn.trans yn.symm); exact yr) st' (.inl ⟨yr, rfl⟩)
          · obtain ⟨_, _, u3, u4⟩ := rest_up u o rd.weak fun Wn q => by rw [en] at q; cases q
            exact after hA' rd' u3 u4 (rest_at u o ea ew) rest_own.1 st' (.inr ⟨yr, u⟩)
      | some U =>
        obtain ⟨e, he, et, eU, eq⟩ := lk_qs (es := es) (by rw [← e1]; exact en)
        have we := i.hws e he
        rw [eU] at we
        obtain ⟨dxe, de, hqe⟩ := we.at
        refine ⟨_, rfl, _, rfl, p, CH, dx, _, _, rfl, hp, h_H.cl, h_H.aWh, hf_wh _ _, dw, some (.ref e.q), rfl, .inl ⟨_, Sum.inr n, .inl i.hdw, rfl, (by rw [ev, eq] <;> rfl)⟩, _, rfl, iteF ?_⟩
        refine ⟨_, rfl, p, CH, dx, _, _, rfl, hp, h_H.cl, h_H.aWh, hf_wh _ _, _, rfl, dw, _, rfl, .inl ⟨_, Sum.inr n, .inl i.hdw, rfl, by rw [ev, eq]; rfl⟩, e.q, dxe, _, rfl, hqe, wf_m, e.q, U, e.fp, rfl, we, fun l hl => ?_⟩
        have s1 : Same H (upd H l (.lst (U.rows.map fun x => V.str x.n))) := same_upd hl
        cases eur : U.rows with
        | cons r0 rs =>
          refine ⟨_, .inl ⟨_, SqL.of upd_same, rfl⟩, iteT ?_⟩
          rw [eur] at s1
          exact k2 n a U rfl ea en (by rw [eur]; intro z; cases z) _ s1
        | nil =>
          refine ⟨_, .inl ⟨_, SqL.of upd_same, rfl⟩, iteF ?_⟩
          rw [eur] at s1
          generalize upd H l (.lst (([] : List RowS).map fun x => V.str x.n)) = H1 at s1 ⊢
          have i1 := i.keep fun b _ o' e' => s1 b o' e'
          obtain ⟨dx1, hp1⟩ := i1.ob
          have no : ∀ m, lk h.ab m ≠ some n := fun m z => by
            obtain ⟨x, hx, _⟩ := (o.sub n U m en).mpr z
            rw [eur] at hx
            cases hx
          obtain ⟨i2, st2⟩ := i1.drop n
          have yr : ∀ x ∈ W.rows, x.n = n → x.r = false := fun x hx xn => by
            have := rd n U a W en (o.ne_top ea) (o.ne_top ea) ea ew x hx xn
            cases exr : x.r with
            | false => rfl
            | true =>
              obtain ⟨z, hz, _⟩ := this.mp exr
              rw [eur] at hz
              cases hz
          refine ⟨_, rfl, p, CH, dx1, _, _, rfl, hp1, h_H.cl, h_H.aWh, hf_wh _ _, _, rfl, dw, _, Sum.inr n, rfl, i1.hdw, rfl, by rw [ev, eq]; rfl, ?_⟩
          exact ⟨h, dw, da, es, W, _, rfl, i2, e1, o, rfl, ew, yr, no, rd, (Step.same s1).trans st2, fun H'' fp' q1 q2 q3 => k3 n a U W rfl ea en eur ew H'' fp' q1 q2 q3, rfl⟩
    · rintro σ' H' ⟨h1, dw1, da1, es1, W1, fp1, rfl, i1, g1, o1, eab, ew1, nr, no, rd1, st, fin, rfl⟩
      have ea1 : lk h1.ab n = some a := by rw [eab]; exact ea
      have na := o1.ne_above ea1
      have nd1 : (keys (ws (dropE es1 n))).Nodup := by
        rw [dropE_ws, ← g1]
        exact keys_dp_nd o1.k2 n
      obtain ⟨e, he, et, eW, eq⟩ := lk_qs (es := dropE es1 n) (t := a) (W := W1) (by rw [dropE_ws, ← g1, lk_dp_ne na.symm]; exact ew1)
      obtain ⟨dx1, hp1⟩ := i1.ob
      have we := i1.hws e he
      rw [eW] at we
      obtain ⟨dxe, de, hqe⟩ := we.at
      obtain ⟨y1, hy1, yn1⟩ := (o1.sub a W1 n ew1).mpr ea1
      refine ⟨_, rfl, p, dx1, _, rfl, hp1, hf_no _ _, _, rfl, p, da1, dw1, h1.ab, dropE es1 n, n, a, e.q, rfl, i1, ea1, eq, e.q, dxe, _, rfl, hqe, wf_m, _, rfl, e.q, W1, e.fp, n, rfl, we, fun z => (z ⟨y1, hy1, yn1⟩).elim, fun _ H2 fp2 w2 st2 => ?_⟩
      obtain ⟨i2, st3⟩ := i1.move nd1 he w2 st2
      obtain ⟨i3, st4⟩ := i2.above (dp h1.ab n)
      obtain ⟨dx2, hp2⟩ := i2.ob
      refine ⟨_, rfl, p, CH, dx2, _, _, rfl, hp2, h_H.cl, h_H.aAb, hf_ab _ _, _, rfl, da1, _, Sum.inr n, rfl, i2.hda, rfl, by rw [kvn_val, ea1]; rfl, ?_⟩
      rw [kvn_drop]
      refine fin _ _ ⟨da1, dw1, _, ?_, rfl, i3, o1.leaveN ea1 ew1 no⟩ (rd1.leaveN o1 ea1 ew1 nr) ((st.trans st3).trans st4)
      show pt (dp h1.wh n) a (Wm.leave W1 n) = ws (mvE (dropE es1 n) e.t (Wm.leave W1 n) fp2)
      rw [mvE_ws, dropE_ws, ← g1, et]
theorem sc_H_init : FnScope ["self"] ["self"] (defScope sHouse_init) := ⟨rfl, rfl, rfl, by decide +kernel, rfl, by decide +kernel, by decide +kernel⟩
theorem ok_H_init {f : Addr} {fd : FuncData} (F : Fun K "__init__" "House.__init__" sHouse_init f fd) (T : WT K mg CS CW CB CT CN) (L : LT mg) (h_H : HT K mg CH) (k_Wheel : KOk P w K mg base 1 "Wheel" CW ["self"] (spWInit CW CS)) :
    FnOk P w K mg base (L2.CX P w) 3 f fd ["self"] (spHInit CH CW CS) := by
  refine okN F sc_H_init (fun vs H Q E h => ?_) (fun cdv A outer s H vs Q E hr h => ?_)
  · (first | (obtain ⟨_, rfl, _⟩ := h; rfl) | (obtain ⟨_, _, rfl, _⟩ := h; rfl) | (obtain ⟨_, _, _, rfl, _⟩ := h; rfl) | (obtain ⟨_, _, _, _, rfl, _⟩ := h; rfl) | (obtain ⟨_, _, _, _, _, rfl, _⟩ := h; rfl) | (obtain ⟨_, _, _, _, _, _, rfl, _⟩ := h; rfl) | (obtain ⟨_, _, _, _, _, _, _, rfl, _⟩ := h; rfl) | (obtain ⟨_, _, _, _, _, _, _, _, rfl, _⟩ := h; rfl) | (obtain ⟨_, _, _, _, _, _, _, _, _, rfl, _⟩ := h; rfl) | (obtain ⟨_, _, _, _, _, _, _, _, _, _, rfl, _⟩ := h; rfl) | (obtain ⟨_, _, _, _, _, _, _, _, _, _, _, rfl, _⟩ := h; rfl) | (obtain ⟨_, _, _, _, _, _, _, _, _, _, _, _, rfl, _⟩ := h; rfl) | (obtain ⟨_, _, _, _, _, _, _, _, _, _, _, _, _, rfl, _⟩ := h; rfl) | (obtain ⟨_, _, _, _, _, _, _, _, _, _, _, _, _, _, rfl, _⟩ := h; rfl) | (obtain ⟨_, _, _, _, _, _, _, _, _, _, _, _, _, _, _, rfl, _⟩ := h; rfl))
  · obtain ⟨p, dx, rfl, hp, k⟩ := h
    obtain ⟨tTop, mTop⟩ := h_H.top
    refine ⟨_, (pss_cons (ps_fld (pv 0) pe_dnewK rfl)
      (pss_one (ps_fld (pv 0) (pe_disp (pps_cons (pe_glob (v := .str "") rfl mTop ⟨_, rfl⟩) (by exact pe_k0 k_Wheel hr (by decide) (by rfl)) pps_nil) rfl rfl (by intro z; cases z) (by decide)) rfl))), ?_⟩
    intro da hda
    have pda : p ≠ da := ne_of_none hp hda
    refine ⟨_, rfl, p, CH, dx, [], rfl, (by rw [upd_ne pda]; exact hp), h_H.cl, h_H.aAb, (by show 0 < 1000; decide), ?_⟩
    intro dw hdw q dxq hxq hdq _
    refine mk_wheel hxq hdq fun H2 fp0 w2 s2 fr => ?_
    have pdw : p ≠ dw := ne_of_none upd_same hdw
    have dadw : da ≠ dw := ne_of_none (show upd (upd H da (.dK [])) p _ da = _ by rw [upd_ne pda.symm]; exact upd_same) hdw
    have e1 : H2 dw = some (.dK []) := s2 _ _ upd_same
    have e2 : H2 p = some (.ins CH dx (putF "_above" (.ref da) [])) := s2 _ _ (by rw [upd_ne pdw]; exact upd_same)
    have e3 : H2 da = some (.dK []) := s2 _ _ (by rw [upd_ne dadw, upd_ne pda.symm]; exact upd_same)
    have nf : ∀ b, (∃ o, upd (upd (upd H da (.dK [])) p (.ins CH dx (putF "_above" (.ref da) []))) dw (.dK []) b = some o) → b ∉ fp0 := fun b ⟨o, e⟩ hb => by
      have := fr b hb
      rw [e] at this
      cases this
    refine ⟨rfl, e1, [(Sum.inr "", .ref q)], rfl, (by show 1 ≤ 15; decide), _, rfl, p, CH, dx, _, rfl, by rw [upd_ne pdw]; exact e2, h_H.cl, h_H.aWh, (by show 1 < 1000; decide), ?_⟩
    have n1 : p ∉ fp0 := nf p ⟨_, by rw [upd_ne pdw]; exact upd_same⟩
    have n2 : da ∉ fp0 := nf da ⟨_, by rw [upd_ne dadw, upd_ne pda.symm]; exact upd_same⟩
    have n3 : dw ∉ fp0 := nf dw ⟨_, upd_same⟩
    refine k _ (hfp p da dw [⟨"", ⟨0, []⟩, q, fp0⟩]) ⟨da, dw, [⟨"", ⟨0, []⟩, q, fp0⟩], rfl, rfl, ⟨⟨dx, ?_⟩, ?_, ?_, fun e he => ?_, List.pairwise_singleton _ _, fun e he => ?_, dadw⟩, H0_ok⟩ (fun b o e hb => ?_) fun b hb => ?_
    · rw [upd_same]
      show some (HO.ins CH dx (putF "_wheels" (.ref dw) [("_above", .ref da)])) = _
      rw [pf_ne n_aw, pf_nil]
      rfl
    · rw [upd_ne pda.symm, upd_ne dadw]
      exact e3
    · rw [upd_ne pdw.symm, upd_same]
      rfl
    · rw [List.mem_singleton.mp he]
      exact w2.keep fun b hb o e => by
        rw [upd_ne (fun z => n1 (by rw [← z]; exact hb)), upd_ne (fun z => n3 (by rw [← z]; exact hb))]
        exact e
    · rw [List.mem_singleton.mp he]
      exact ⟨n1, n2, n3⟩
    · have bda : b ≠ da := fun z => by rw [z, hda] at e; cases e
      have ea : upd (upd H da (.dK [])) p (.ins CH dx (putF "_above" (.ref da) [])) b = some o := by rw [upd_ne hb, upd_ne bda]; exact e
      have bdw : b ≠ dw := ne_of_none ea hdw
      rw [upd_ne hb, upd_ne bdw]
      exact s2 _ _ (by rw [upd_ne bdw]; exact ea)
    · have back : ∀ c, c ≠ p → c ≠ da → H c ≠ none → upd (upd (upd H da (.dK [])) p (.ins CH dx (putF "_above" (.ref da) []))) dw (.dK []) c ≠ none := fun c c1 c2 c3 => by
        by_cases c4 : c = dw
        · rw [c4, upd_same]
          intro z
          cases z
        · rw [upd_ne c4, upd_ne c1, upd_ne c2]
          exact c3
      rcases List.mem_cons.mp hb with rfl | hb
      · exact .inl rfl
      rcases List.mem_cons.mp hb with rfl | hb
      · exact .inr hda
      rcases List.mem_cons.mp hb with rfl | hb
      · right
        rw [upd_ne pdw.symm, upd_ne dadw.symm] at hdw
        exact hdw
      obtain ⟨e, he, hb⟩ := List.mem_flatMap.mp hb
      rw [List.mem_singleton.mp he] at hb
      right
      cases q0 : H b with
      | none => rfl
      | some o =>
        exact (back b (fun z => n1 (by rw [← z]; exact hb)) (fun z => n2 (by rw [← z]; exact hb)) (by rw [q0]; intro z; cases z) (fr b hb)).elim
theorem sc_H_settle : FnScope ["self", "name", "above", "share"] ["self", "name", "above", "share"] (defScope sHouse_settle) := ⟨rfl, rfl, rfl, by decide +kernel, rfl, by decide +kernel, by decide +kernel⟩
theorem ok_H_settle {f : Addr} {fd : FuncData} (F : Fun K "_settle" "House._settle" sHouse_settle f fd) (T : WT K mg CS CW CB CT CN) (L : LT mg) (g_is_name : DOk P w K mg base 2 "is_name" ["thing"] (spIsName Pt)) (h_H : HT K mg CH) (m_H_need_team : MOk P w K mg base 2 CH "_need_team" ["self", "team"] (spNeedTeam CH CW CS CM)) (m_W_enter : MOk P w K mg base 3 CW "enter" ["self", "name", "share"] (spEnter CW CS CB CT)) (r_A : ErT K mg "BadName" CA) :
    FnOk P w K mg base (L2.CX P w) 5 f fd ["self", "name", "above", "share"] (spSettle Pt CH CW CS CB CT CA CM) := by
  refine F.okX sc_H_settle (fun vs H Q E h => ?_) (fun cdv A outer s H vs Q E hr h => ?_)
  · (first | (obtain ⟨_, rfl, _⟩ := h; rfl) | (obtain ⟨_, _, rfl, _⟩ := h; rfl) | (obtain ⟨_, _, _, rfl, _⟩ := h; rfl) | (obtain ⟨_, _, _, _, rfl, _⟩ := h; rfl) | (obtain ⟨_, _, _, _, _, rfl, _⟩ := h; rfl) | (obtain ⟨_, _, _, _, _, _, rfl, _⟩ := h; rfl) | (obtain ⟨_, _, _, _, _, _, _, rfl, _⟩ := h; rfl) | (obtain ⟨_, _, _, _, _, _, _, _, rfl, _⟩ := h; rfl) | (obtain ⟨_, _, _, _, _, _, _, _, _, rfl, _⟩ := h; rfl) | (obtain ⟨_, _, _, _, _, _, _, _, _, _, rfl, _⟩ := h; rfl) | (obtain ⟨_, _, _, _, _, _, _, _, _, _, _, rfl, _⟩ := h; rfl) | (obtain ⟨_, _, _, _, _, _, _, _, _, _, _, _, rfl, _⟩ := h; rfl) | (obtain ⟨_, _, _, _, _, _, _, _, _, _, _, _, _, rfl, _⟩ := h; rfl) | (obtain ⟨_, _, _, _, _, _, _, _, _, _, _, _, _, _, rfl, _⟩ := h; rfl) | (obtain ⟨_, _, _, _, _, _, _, _, _, _, _, _, _, _, _, rfl, _⟩ := h; rfl))
  · obtain ⟨p, h, fp, x, ab, s, rfl, hA, hx, hab, hs, hT, nP, hz, hlen, habl, k⟩ := h
    have hu := hu_of hr
    refine ⟨_, (pss_cons (ps_if (pt_not (pt_val (by exact pe_f g_is_name hr (by decide) (by rfl) (fun σ => passAt (takes_of rfl rfl rfl rfl) σ) (pa_cons (pv 1) pa_nil)))) (pss_one (ps_rs rfl (takes_of rfl rfl rfl rfl) r_A.t r_A.g (by rfl))) pss_nil)
      (pss_cons (ps_if (pt_cmp (pc_din hu (pv 1) (pe_fld (pv 0) rfl))) (pss_one (ps_rs rfl (takes_of rfl rfl rfl rfl) T.eT T.gT (by rfl))) pss_nil)
      (pss_cons (ps_expr (by exact pe_m m_H_need_team h_H.cl hr (by decide) (fun σ => passAt (takes_of rfl rfl rfl rfl) σ) (pv 0) (pa_cons (pv 2) pa_nil)))
      (pss_cons (ps_expr (by exact pe_m m_W_enter T.clW hr (by decide) (fun σ => passAt (takes_of rfl rfl rfl rfl) σ) (pe_dget hu (pe_fld (pv 0) rfl) (pv 2) (fun _ _ => rfl)) (pa_cons (pv 1) (pa_cons (pv 3) pa_nil))))
      (pss_one (ps_asg (pv 2) (pg_sub (pe_fld (pv 0) rfl) (pv 1) (set_dict hu)))))))), ?_⟩
    refine ⟨_, rfl, x, rfl, hx, hT, hz, fun H1 hc => ?_⟩
    have thk : ∀ y, Th H y → Th H1 y := fun y hy => by
      cases hy with
      | int i => exact .int i
      | bl b => exact .bl b
      | non => exact .non
      | str z => exact .str z
      | @lst a xs e =>
        rcases hc with rfl | hc
        · exact .lst e
        · refine .lst (xs := xs) ?_
          rw [hc.2 a fun z => ?_]
          · exact e
          · obtain ⟨ps, q, _⟩ := hT
            rw [z, q] at e
            cases e
    have hA1 : HAt CH CW CS H1 p h fp := hA.keep fun b hb o e => by
      rcases hc with rfl | hc
      · exact e
      · rw [hc.2 b fun z => nP (by rw [← z]; exact hb)]
        exact e
    obtain ⟨k1, k2⟩ := k H1 hc
    cases en : isNm x with
    | false => exact ⟨_, rfl, iteT (k1 en)⟩
    | true =>
      refine ⟨_, rfl, iteF ?_⟩
      obtain ⟨n, rfl⟩ : ∃ n, x = .str n := by
        cases x with
        | str n => exact ⟨n, rfl⟩
        | _ => cases en
      obtain ⟨k3, k4⟩ := k2 n rfl en
      obtain ⟨da, dw, es, e1, ef, i, o⟩ := id hA1
      obtain ⟨dx, hp⟩ := i.ob
      cases ea : lk h.ab n with
      | some a =>
        refine ⟨_, rfl, _, rfl, p, CH, dx, _, _, rfl, hp, h_H.cl, h_H.aAb, hf_ab _ _, da, some (.str a), rfl, .inl ⟨_, Sum.inr n, .inl i.hda, rfl, (by rw [kvn_val, ea] <;> rfl)⟩, _, rfl, iteT (k3 (by rw [ea]; intro z; cases z))⟩
      | none =>
        refine ⟨_, rfl, _, rfl, p, CH, dx, _, _, rfl, hp, h_H.cl, h_H.aAb, hf_ab _ _, da, none, rfl, .inl ⟨_, Sum.inr n, .inl i.hda, rfl, (by rw [kvn_val, ea] <;> rfl)⟩, _, rfl, iteF ?_⟩
        obtain ⟨k5, k6⟩ := k4 ea
        refine ⟨_, rfl, p, dx, _, rfl, hp, hf_no _ _, _, rfl, p, h, fp, ab, rfl, hA1, thk _ hab, fun t W et eW => ?_, k5⟩
        subst et
        obtain ⟨k7, k8⟩ := k6 t W rfl eW
        obtain ⟨e, he, ett, eWe, eq⟩ := lk_qs (es := es) (by rw [← e1]; exact eW)
        have we := i.hws e he
        rw [eWe] at we
        obtain ⟨dxe, de, hqe⟩ := we.at
        have nh : ¬ Has W n := fun z => by
          have := (o.sub t W n eW).mp z
          rw [ea] at this
          cases this
        have nn : n ≠ "" := fun z => by rw [z] at en; cases en
        refine ⟨_, rfl, p, CH, dx, _, _, rfl, hp, h_H.cl, h_H.aWh, hf_wh _ _, _, rfl, dw, _, rfl, .inl ⟨_, Sum.inr t, .inl i.hdw, rfl, by rw [kvn_val, eq]; rfl⟩, e.q, dxe, _, rfl, hqe, wf_m, _, rfl, _, rfl, e.q, W, e.fp, n, s, rfl, we, hlen t W eW, thk _ hs, fun z => (nh z).elim, fun _ z => k7 z, fun _ iv ei i1 i2 H2 fp2 w2 st2 => ?_⟩
        have nd : (keys (ws es)).Nodup := by rw [← e1]; exact o.k2
        obtain ⟨i2', st3⟩ := i.move nd he w2 st2
        obtain ⟨dx2, hp2⟩ := i2'.ob
        obtain ⟨i3, st4⟩ := i2'.above (h.ab ++ [(n, t)])
        have hput : DPut H2 da (.str n) (.str t) (upd H2 da (.dK (kvn V.str (h.ab ++ [(n, t)])))) := .inl ⟨_, Sum.inr n, i2'.hda, rfl, by rw [kvn_len]; exact small1000 (by omega), by rw [kvn_new t ea]⟩
        refine ⟨_, rfl, _, rfl, p, CH, dx2, _, _, rfl, hp2, h_H.cl, h_H.aAb, hf_ab _ _, _, rfl, da, _, rfl, hput, ?_⟩
        rw [ef] at k8
        refine k8 iv ei i1 i2 _ _ ⟨da, dw, _, ?_, rfl, i3, o.enterH ea nn eW i1 i2⟩ (st3.trans st4)
        show pt h.wh t (Wm.enter W n iv) = ws (mvE es e.t (Wm.enter W n iv) fp2)
        rw [mvE_ws, e1, ett]
theorem sc_H_hand : FnScope ["self", "name", "above", "share"] ["self", "name", "above", "share"] (defScope sHouse_hand) := ⟨rfl, rfl, rfl, by decide +kernel, rfl, by decide +kernel, by decide +kernel⟩
theorem ok_H_hand {f : Addr} {fd : FuncData} (F : Fun K "hand" "House.hand" sHouse_hand f fd) (T : WT K mg CS CW CB CT CN) (L : LT mg) (h_H : HT K mg CH) (m_H_settle : MOk P w K mg base 5 CH "_settle" ["self", "name", "above", "share"] (spSettle Pt CH CW CS CB CT CA CM)) :
    FnOk P w K mg base (L2.CX P w) 6 f fd ["self", "name", "above", "share"] (spSettle Pt CH CW CS CB CT CA CM) := by
  refine F.okX sc_H_hand (fun vs H Q E h => ?_) (fun cdv A outer s H vs Q E hr h => ?_)
  · (first | (obtain ⟨_, rfl, _⟩ := h; rfl) | (obtain ⟨_, _, rfl, _⟩ := h; rfl) | (obtain ⟨_, _, _, rfl, _⟩ := h; rfl) | (obtain ⟨_, _, _, _, rfl, _⟩ := h; rfl) | (obtain ⟨_, _, _, _, _, rfl, _⟩ := h; rfl) | (obtain ⟨_, _, _, _, _, _, rfl, _⟩ := h; rfl) | (obtain ⟨_, _, _, _, _, _, _, rfl, _⟩ := h; rfl) | (obtain ⟨_, _, _, _, _, _, _, _, rfl, _⟩ := h; rfl) | (obtain ⟨_, _, _, _, _, _, _, _, _, rfl, _⟩ := h; rfl) | (obtain ⟨_, _, _, _, _, _, _, _, _, _, rfl, _⟩ := h; rfl) | (obtain ⟨_, _, _, _, _, _, _, _, _, _, _, rfl, _⟩ := h; rfl) | (obtain ⟨_, _, _, _, _, _, _, _, _, _, _, _, rfl, _⟩ := h; rfl) | (obtain ⟨_, _, _, _, _, _, _, _, _, _, _, _, _, rfl, _⟩ := h; rfl) | (obtain ⟨_, _, _, _, _, _, _, _, _, _, _, _, _, _, rfl, _⟩ := h; rfl) | (obtain ⟨_, _, _, _, _, _, _, _, _, _, _, _, _, _, _, rfl, _⟩ := h; rfl))
  · obtain ⟨p, h, fp, x, ab, s, rfl, hA, hx, hab, hs, hT, nP, hz, hlen, habl, k⟩ := h
    have hu := hu_of hr
    obtain ⟨da, dw, es, e1, ef, i, o⟩ := id hA
    obtain ⟨dx, hp⟩ := i.ob
    refine ⟨_, (pss_one (ps_expr (by exact pe_m m_H_settle h_H.cl hr (by decide) (fun σ => passAt (takes_of rfl rfl rfl rfl) σ) (pv 0) (pa_cons (pv 1) (pa_cons (pv 2) (pa_cons (pv 3) pa_nil)))))), ?_⟩
    exact ⟨_, rfl, p, dx, _, rfl, hp, hf_no _ _, _, rfl, _, rfl, _, rfl, p, h, fp, x, ab, s, rfl, hA, hx, hab, hs, hT, nP, hz, hlen, habl, k⟩
theorem sc_H_team : FnScope ["self", "name", "above", "share"] ["self", "name", "above", "share"] (defScope sHouse_team) := ⟨rfl, rfl, rfl, by decide +kernel, rfl, by decide +kernel, by decide +kernel⟩
theorem ok_H_team {f : Addr} {fd : FuncData} (F : Fun K "team" "House.team" sHouse_team f fd) (T : WT K mg CS CW CB CT CN) (L : LT mg) (h_H : HT K mg CH) (k_Wheel : KOk P w K mg base 1 "Wheel" CW ["self"] (spWInit CW CS)) (m_H_settle : MOk P w K mg base 5 CH "_settle" ["self", "name", "above", "share"] (spSettle Pt CH CW CS CB CT CA CM)) :
    FnOk P w K mg base (L2.CX P w) 6 f fd ["self", "name", "above", "share"] (spTeam Pt CH CW CS CB CT CA CM) := by
  refine F.okX sc_H_team (fun vs H Q E h => ?_) (fun cdv A outer s H vs Q E hr h => ?_)
  · (first | (obtain ⟨_, rfl, _⟩ := h; rfl) | (obtain ⟨_, _, rfl, _⟩ := h; rfl) | (obtain ⟨_, _, _, rfl, _⟩ := h; rfl) | (obtain ⟨_, _, _, _, rfl, _⟩ := h; rfl) | (obtain ⟨_, _, _, _, _, rfl, _⟩ := h; rfl) | (obtain ⟨_, _, _, _, _, _, rfl, _⟩ := h; rfl) | (obtain ⟨_, _, _, _, _, _, _, rfl, _⟩ := h; rfl) | (obtain ⟨_, _, _, _, _, _, _, _, rfl, _⟩ := h; rfl) | (obtain ⟨_, _, _, _, _, _, _, _, _, rfl, _⟩ := h; rfl) | (obtain ⟨_, _, _, _, _, _, _, _, _, _, rfl, _⟩ := h; rfl) | (obtain ⟨_, _, _, _, _, _, _, _, _, _, _, rfl, _⟩ := h; rfl) | (obtain ⟨_, _, _, _, _, _, _, _, _, _, _, _, rfl, _⟩ := h; rfl) | (obtain ⟨_, _, _, _, _, _, _, _, _, _, _, _, _, rfl, _⟩ := h; rfl) | (obtain ⟨_, _, _, _, _, _, _, _, _, _, _, _, _, _, rfl, _⟩ := h; rfl) | (obtain ⟨_, _, _, _, _, _, _, _, _, _, _, _, _, _, _, rfl, _⟩ := h; rfl))
  · obtain ⟨p, h, fp, x, ab, s, rfl, hA, hx, hab, hs, hT, nP, hz, hlen, habl, k⟩ := h
    have hu := hu_of hr
    obtain ⟨da, dw, es, e1, ef, i, o⟩ := id hA
    obtain ⟨dx, hp⟩ := i.ob
    refine ⟨_, (pss_cons (ps_expr (by exact pe_m m_H_settle h_H.cl hr (by decide) (fun σ => passAt (takes_of rfl rfl rfl rfl) σ) (pv 0) (pa_cons (pv 1) (pa_cons (pv 2) (pa_cons (pv 3) pa_nil)))))
      (pss_one (ps_asg (by exact pe_k0 k_Wheel hr (by decide) (by rfl)) (pg_sub (pe_fld (pv 0) rfl) (pv 1) (set_dict hu))))), ?_⟩
    refine ⟨_, rfl, p, dx, _, rfl, hp, hf_no _ _, _, rfl, _, rfl, _, rfl, p, h, fp, x, ab, s, rfl, hA, hx, hab, hs, hT, nP, hz, hlen, habl, fun H1 hc => ⟨(k H1 hc).1, fun n en e2 => ⟨((k H1 hc).2 n en e2).1, fun ea => ⟨(((k H1 hc).2 n en e2).2 ea).1, fun t W et eW => ⟨((((k H1 hc).2 n en e2).2 ea).2 t W et eW).1, fun iv ei i1 i2 H2 fp2 hA2 st2 => ?_⟩⟩⟩⟩⟩
    have k9 := ((((k H1 hc).2 n en e2).2 ea).2 t W et eW).2 iv ei i1 i2
    subst en et
    intro q dxq hxq hdq _
    refine mk_wheel hxq hdq fun H3 fp0 w3 s3 fr => ⟨rfl, ?_⟩
    have hA3 := hA2.same s3
    have apart : ∀ b ∈ fp0, b ∉ fp2 := fun b hb hb2 => by
      obtain ⟨o', e'⟩ := hA2.fpt b hb2
      have := fr b hb
      rw [e'] at this
      cases this
    obtain ⟨da3, dw3, es3, g1, rfl, i3, o3⟩ := hA3
    obtain ⟨dx3, hp3⟩ := i3.ob
    have nn : n ≠ "" := fun z => by rw [z] at e2; cases e2
    have nt := hA.ok.no_team ea nn
    have tn : n ≠ t := fun z => by rw [← z, nt] at eW; cases eW
    have en1 : lk (enterH h n t W iv).wh n = none := (lk_pt_ne tn).trans nt
    have ea1 : lk (enterH h n t W iv).ab n = some t := lk_app_new ea
    have no1 : ∀ m, lk (enterH h n t W iv).ab m ≠ some n := fun m z => by
      obtain ⟨U, u⟩ := o3.aw m n z
      rw [en1] at u
      cases u
    have hq3 : lk (qs es3) n = none := lk_qs_none (by rw [← g1]; exact en1)
    have wl : (qs es3).length ≤ 902 := by
      have nd : (keys (ws es3)).Nodup := by rw [← g1]; exact o3.k2
      have := nodup_sub (keys (ws es3)) ("" :: keys (enterH h n t W iv).ab) nd fun y hy => by
        rw [← g1] at hy
        obtain ⟨U, u⟩ := key_lk hy
        rcases o3.wt y U u with z | ⟨a, z⟩
        · rw [z]
          exact List.mem_cons_self
        · exact List.mem_cons_of_mem _ (lk_some_key z)
      unfold keys ws qs enterH at *
      simp only [List.length_map, List.length_cons, List.length_append, List.length_nil] at this ⊢
      omega
    have hput : DPut H3 dw3 (.str n) (.ref q) (upd H3 dw3 (.dK (kvn V.ref (qs es3 ++ [(n, q)])))) := .inl ⟨_, Sum.inr n, i3.hdw, rfl, by rw [kvn_len]; exact small1000 (by omega), by rw [kvn_new q hq3]⟩
    have i4 := i3.add w3 apart (n := n)
    refine ⟨_, rfl, p, CH, dx3, _, _, rfl, hp3, h_H.cl, h_H.aWh, hf_wh _ _, _, rfl, dw3, _, rfl, hput, ?_⟩
    refine k9 _ _ ⟨da3, dw3, _, ?_, rfl, i4, o3.addT ea1 en1 no1⟩ (st2.trans ?_)
    · show pt h.wh t (Wm.enter W n iv) ++ _ = ws (es3 ++ _)
      unfold ws
      rw [List.map_append]
      exact congrArg (· ++ _) g1
    · refine ⟨fun b o' e' hb => ?_, fun b hb => ?_⟩
      · rw [upd_ne fun z => hb (by rw [z]; simp [hfp])]
        exact s3 b o' e'
      · rcases List.mem_cons.mp hb with rfl | hb
        · exact .inl List.mem_cons_self
        rcases List.mem_cons.mp hb with rfl | hb
        · exact .inl (by simp [hfp])
        rcases List.mem_cons.mp hb with rfl | hb
        · exact .inl (by simp [hfp])
        obtain ⟨e, he, hb⟩ := List.mem_flatMap.mp hb
        rcases List.mem_append.mp he with he | he
        · exact .inl (mem_hfp he hb)
        · rw [List.mem_singleton.mp he] at hb
          exact .inr (fr b hb)
end

/-! ### a house used by a law -/
section
variable {CH CW CS CB CT CN CM CA CD Pt : Addr}
theorem mk_house {E : XK} {H : Hp} {Q : VK} {x dx : Addr} (hx : H x = none) (hdx : H dx = none) (k : ∀ H' fp, HAt CH CW CS H' x H0 fp → Same H H' → (∀ b ∈ fp, H b = none) → Q .non H') : spHInit CH CW CS [.ref x] (upd (upd H dx (.own x)) x (.ins CH dx [])) Q E := by
  have sm : ∀ b o, H b = some o → upd (upd H dx (.own x)) x (.ins CH dx []) b = some o := fun b o e => by
    rw [upd_ne (ne_of_none e hx), upd_ne (ne_of_none e hdx)]
    exact e
  refine ⟨x, dx, rfl, upd_same, fun H' fp a k1 k2 => k H' fp a (fun b o e => k1 b o (sm b o e) (ne_of_none e hx)) fun b hb => ?_⟩
  rcases k2 b hb with rfl | z
  · exact hx
  · cases q : H b with
    | none => rfl
    | some o => rw [sm b o q] at z; cases z
theorem nm_len {n : Str} (h : isNm (.str n) = true) : n.length ≤ sizeLine := by
  have h : (decide (1 ≤ n.length) && decide (n.length ≤ 8) && n.cps.toList.all azB) = true := h
  rw [Bool.and_eq_true, Bool.and_eq_true] at h
  have := of_decide_eq_true h.1.2
  exact Nat.le_of_lt (small1000 (by omega))
theorem tab_out {H : Hp} {p : Addr} {h : Hs} {fp : List Addr} (hA : HAt CH CW CS H p h fp) (hT : GxR.TabG H Pt) : Pt ∉ fp := by
  obtain ⟨ps, e, _⟩ := hT
  exact hA.notin e (fun _ _ _ z => by cases z) fun _ z => by cases z
/-- what a table's move leaves -/
theorem tab_keep {H H1 : Hp} (hT : GxR.TabG H Pt) (c : H1 = H ∨ GxR.Tabbed Pt H H1) {b : Addr} {o : HO} (e : H b = some o) (n : ∀ ps, o ≠ .tbl ps) : H1 b = some o := by
  rcases c with rfl | ⟨_, c⟩
  · exact e
  · rw [c b fun z => ?_]
    · exact e
    · obtain ⟨ps, q, _⟩ := hT
      rw [← z, e] at q
      exact n ps (Option.some.inj q)
theorem tab_on {H H1 : Hp} (hT : GxR.TabG H Pt) (c : H1 = H ∨ GxR.Tabbed Pt H H1) : GxR.TabG H1 Pt := by
  rcases c with rfl | ⟨c, _⟩
  · exact hT
  · exact c
theorem tab_step {H H' : Hp} {p : Addr} {h : Hs} {fp fp' : List Addr} (hA : HAt CH CW CS H p h fp) (hT : GxR.TabG H Pt) (st : Step fp H fp' H') : GxR.TabG H' Pt := by
  have n := tab_out hA hT
  obtain ⟨ps, e, t⟩ := hT
  exact ⟨ps, st.kept _ _ e n, t⟩
theorem tab_upd {H : Hp} {t : Addr} {xs : List V} {o : HO} (hT : GxR.TabG H Pt) (e : H t = some (.lst xs)) : GxR.TabG (upd H t o) Pt := by
  obtain ⟨ps, q, z⟩ := hT
  refine ⟨ps, ?_, z⟩
  rw [upd_ne fun y => by rw [y, e] at q; cases q]
  exact q
theorem tab_same {H H' : Hp} (hT : GxR.TabG H Pt) (s : Same H H') : GxR.TabG H' Pt := by
  obtain ⟨ps, q, z⟩ := hT
  exact ⟨ps, s _ _ q, z⟩
theorem HAt.tab {H H1 : Hp} {p : Addr} {h : Hs} {fp : List Addr} (hA : HAt CH CW CS H p h fp) (hT : GxR.TabG H Pt) (c : H1 = H ∨ GxR.Tabbed Pt H H1) : HAt CH CW CS H1 p h fp :=
  hA.keep fun b hb o e => by
    rcases c with rfl | ⟨_, c⟩
    · exact e
    · rw [c b fun z => tab_out hA hT (by rw [← z]; exact hb)]
      exact e
theorem Rg.tab {α : Type} {f : α → List V} {H H1 : Hp} {lr : Addr} {ts : List Addr} {rows : List α} (R : Rg f H lr ts rows) (hT : GxR.TabG H Pt) (c : H1 = H ∨ GxR.Tabbed Pt H H1) : Rg f H1 lr ts rows := R.keep fun _ _ _ e => tab_keep hT c e fun _ z => by cases z
theorem Sc.tab {K : PySem.W.Frag} {H H1 : Hp} {a : Addr} {xs : List V} {S : List Addr} (s : Sc K H a xs S) (hT : GxR.TabG H Pt) (c : H1 = H ∨ GxR.Tabbed Pt H H1) : Sc K H1 a xs S := s.keep fun o k e n => ⟨tab_keep hT c e (fun _ z => by rcases k with rfl | ⟨_, rfl⟩ <;> cases z), n⟩
theorem Lk.fresh {rows : List HR} {h : Hs} (l : Lk rows h) {n : Str} (e : n ∉ rows.map (·.n)) : lk h.ab n = none := lk_none_iff.mpr (by rw [l.names]; exact e)
/-- a hand comes -/
theorem hand_use {H : Hp} {Q : VK} {E : XK} {p : Addr} {h : Hs} {fp : List Addr} {rows : List HR} {n a : Str} {W : WhS} {s : Int} (hA : HAt CH CW CS H p h fp) (rd : Rd h "") (l : Lk rows h) (hT : GxR.TabG H Pt) (nok : isNm (.str n) = true) (new : n ∉ rows.map (·.n)) (ea : lk h.wh a = some W)
    (s1 : 1 ≤ s) (s2 : s ≤ 12) (hl : rows.length ≤ 100) (k : ∀ H1 H' h' fp', (H1 = H ∨ GxR.Tabbed Pt H H1) → HAt CH CW CS H' p h' fp' → Rd h' "" → Lk (rows ++ [⟨n, a, s, false, false⟩]) h' → Step fp H1 fp' H' → h' = enterH h n a W s → Q .non H') :
    spSettle Pt CH CW CS CB CT CA CM [.ref p, .str n, .str a, .int s] H Q E := by
  have o := hA.ok
  have e := l.fresh new
  have nn := nm_ne nok
  refine ⟨p, h, fp, .str n, .str a, .int s, rfl, hA, .str n, .str a, .int s, hT, tab_out hA hT, (fun z ez => by cases ez; exact nm_len nok), fun t W e => ?_, by rw [l.len]; omega, fun H1 c => ⟨(fun z => by rw [nok] at z; cases z), fun n' en _ => ⟨fun z => ?_, fun _ => ⟨fun z => (z a W rfl ea).elim, fun t W' et eW => ⟨fun z => (good_share s1 s2 z).elim, fun i ei _ _ H' fp' hA' st => ?_⟩⟩⟩⟩⟩
  · have := o.len e
    rw [l.len] at this
    omega
  · cases en
    exact (z e).elim
  · cases en
    cases et
    cases ei
    rw [ea] at eW
    cases eW
    exact k H1 H' _ fp' c hA' (rd.enterH o e nn ea) (l.addH e ea s) st rfl
theorem Rd.enterT {h : Hs} (o : HOk h) (r : Rd h "") {n a : Str} {W : WhS} {s : Int} (e : lk h.ab n = none) (hn : n ≠ "") (ea : lk h.wh a = some W) (s1 : 1 ≤ s) (s2 : s ≤ 12) : Rd (Mine.enterT h n a W s) "" := by
  have nt := o.no_team e hn
  have na : a ≠ n := fun z => by rw [z, nt] at ea; cases ea
  have r1 := r.enterH o e hn ea (s := s)
  have o1 := o.enterH e hn ea s1 s2
  refine r1.addT (n := n) (a := a) (W := Wm.enter W n s) (lk_app_new e) (lk_pt ea) ((lk_pt_ne na.symm).trans nt) fun x hx xn => ?_
  rcases List.mem_append.mp hx with hx | hx
  · have := (o.sub a W n ea).mp ⟨x, hx, xn⟩
    rw [e] at this
    cases this
  · rw [List.mem_singleton.mp hx]
/-- a team comes -/
theorem team_use {H : Hp} {Q : VK} {E : XK} {p : Addr} {h : Hs} {fp : List Addr} {rows : List HR} {n a : Str} {W : WhS} {s : Int} (hA : HAt CH CW CS H p h fp) (rd : Rd h "") (l : Lk rows h) (hT : GxR.TabG H Pt) (nok : isNm (.str n) = true) (new : n ∉ rows.map (·.n)) (ea : lk h.wh a = some W)
    (s1 : 1 ≤ s) (s2 : s ≤ 12) (hl : rows.length ≤ 100) (k : ∀ H1 H' h' fp', (H1 = H ∨ GxR.Tabbed Pt H H1) → HAt CH CW CS H' p h' fp' → Rd h' "" → Lk (rows ++ [⟨n, a, s, true, false⟩]) h' → Step fp H1 fp' H' → h' = Mine.enterT h n a W s → Q .non H') :
    spTeam Pt CH CW CS CB CT CA CM [.ref p, .str n, .str a, .int s] H Q E := by
  have o := hA.ok
  have e := l.fresh new
  have nn := nm_ne nok
  refine ⟨p, h, fp, .str n, .str a, .int s, rfl, hA, .str n, .str a, .int s, hT, tab_out hA hT, (fun z ez => by cases ez; exact nm_len nok), fun t W e => ?_, by rw [l.len]; omega, fun H1 c => ⟨(fun z => by rw [nok] at z; cases z), fun n' en _ => ⟨fun z => ?_, fun _ => ⟨fun z => (z a W rfl ea).elim, fun t W' et eW => ⟨fun z => (good_share s1 s2 z).elim, fun i ei _ _ H' fp' hA' st => ?_⟩⟩⟩⟩⟩
  · have := o.len e
    rw [l.len] at this
    omega
  · cases en
    exact (z e).elim
  · cases en
    cases et
    cases ei
    rw [ea] at eW
    cases eW
    exact k H1 H' _ fp' c hA' (rd.enterT o e nn ea s1 s2) (l.addT e ea s) st rfl
theorem Lk.same_flag {rows : List HR} {h : Hs} (l : Lk rows h) {k : Nat} {x : HR} (hk : rows[k]? = some x) {v : Bool} (e : x.f = v) : Lk (rows.set k { x with f := v }) h := by
  have : ({ x with f := v } : HR) = x := by
    cases x
    cases e
    rfl
  rw [this, set_at hk]
  exact l
/-- a hand is woken -/
theorem wake_use {H : Hp} {Q : VK} {E : XK} {p : Addr} {h : Hs} {fp : List Addr} {rows : List HR} {k : Nat} {x : HR} (hA : HAt CH CW CS H p h fp) (rd : Rd h "") (l : Lk rows h) (hk : rows[k]? = some x) (xt : x.t = false)
    (q : ∀ H' h' fp' b, HAt CH CW CS H' p h' fp' → Rd h' "" → Lk (rows.set k { x with f := true }) h' → Step fp H fp' H' → (h' = h ∨ WakeUp h x.n h') → Q (.bl b) H') : spHWake CH CW CS CN CD [.ref p, .str x.n] H Q E := by
  have o := hA.ok
  have hx := List.mem_of_getElem? hk
  have ea := l.at o hx
  have nh := l.hand o hx xt
  have fl := l.fl x hx xt
  refine ⟨p, h, fp, .str x.n, rfl, hA, rd, .str _, fun z => (z x.n x.a rfl ea).elim, fun n a W en _ z => ?_, fun n a W y en ea' nt eW hy yn => ⟨fun yr H' hA' st => ?_, fun yr H' fp' h' u hA' rd' st => ?_⟩⟩
  · cases en
    rw [nh] at z
    cases z
  · cases en
    exact q H' h fp false hA' rd (l.same_flag hk (fl.det o ⟨a, W, y, ea', eW, hy, yn, yr⟩)) st (.inl rfl)
  · cases en
    obtain ⟨_, _, e1, e2⟩ := wake_up u o rd.weak fun Wn z => by rw [nh] at z; cases z
    obtain ⟨f1, f2⟩ := wake_fl u o nh
    exact q H' h' fp' true hA' rd' (l.stir o hk xt e1 e2 f1 f2) st (.inr u)
/-- a hand rests -/
theorem rest_use {H : Hp} {Q : VK} {E : XK} {p : Addr} {h : Hs} {fp : List Addr} {rows : List HR} {k : Nat} {x : HR} (hA : HAt CH CW CS H p h fp) (rd : Rd h "") (l : Lk rows h) (hk : rows[k]? = some x) (xt : x.t = false)
    (q : ∀ H' h' fp' b, HAt CH CW CS H' p h' fp' → Rd h' "" → Lk (rows.set k { x with f := false }) h' → Step fp H fp' H' → (h' = h ∨ RestUp h x.n h') → Q (.bl b) H') : spHRest CH CW CS CN CD [.ref p, .str x.n] H Q E := by
  have o := hA.ok
  have hx := List.mem_of_getElem? hk
  have ea := l.at o hx
  have nh := l.hand o hx xt
  have fl := l.fl x hx xt
  refine ⟨p, h, fp, .str x.n, rfl, hA, rd, .str _, fun z => (z x.n x.a rfl ea).elim, fun n a W en _ z => ?_, fun n a W y en ea' nt eW hy yn => ⟨fun yr H' hA' st => ?_, fun yr H' fp' h' u hA' rd' st => ?_⟩⟩
  · cases en
    rw [nh] at z
    cases z
  · cases en
    exact q H' h fp false hA' rd (l.same_flag hk (fl.det o ⟨a, W, y, ea', eW, hy, yn, yr⟩)) st (.inl rfl)
  · cases en
    obtain ⟨_, _, e1, e2⟩ := rest_up u o rd.weak fun Wn z => by rw [nh] at z; cases z
    obtain ⟨f1, f2⟩ := rest_fl u o nh
    exact q H' h' fp' true hA' rd' (l.stir o hk xt e1 e2 f1 f2) st (.inr u)
end
structure RowsOk (rows : List HR) : Prop where
  nd : (rows.map (·.n)).Nodup
  ok : ∀ x ∈ rows, isNm (.str x.n) = true ∧ 1 ≤ x.s ∧ x.s ≤ 12
  ab : ∀ (i : Nat) (x : HR), rows[i]? = some x → x.a = "" ∨ ∃ (j : Nat) (y : HR), j < i ∧ rows[j]? = some y ∧ y.t = true ∧ y.n = x.a
theorem setF_at {rows : List HR} {k : Nat} {x : HR} (hk : rows[k]? = some x) (v : Bool) {j : Nat} {y : HR} (h : (rows.set k { x with f := v })[j]? = some y) : ∃ y0, rows[j]? = some y0 ∧ y0.n = y.n ∧ y0.a = y.a ∧ y0.s = y.s ∧ y0.t = y.t := by
  rw [List.getElem?_set] at h
  by_cases z : k = j
  · subst z
    rw [if_pos rfl] at h
    split at h
    · cases h
      exact ⟨x, hk, rfl, rfl, rfl, rfl⟩
    · cases h
  · rw [if_neg z] at h
    exact ⟨y, h, rfl, rfl, rfl, rfl⟩
theorem setF_back {rows : List HR} {k : Nat} {x : HR} (hk : rows[k]? = some x) (v : Bool) {j : Nat} {y : HR} (h : rows[j]? = some y) : ∃ y1, (rows.set k { x with f := v })[j]? = some y1 ∧ y1.n = y.n ∧ y1.a = y.a ∧ y1.s = y.s ∧ y1.t = y.t := by
  rw [List.getElem?_set]
  by_cases z : k = j
  · subst z
    obtain ⟨hk2, _⟩ := List.getElem?_eq_some_iff.mp hk
    rw [if_pos rfl, if_pos hk2]
    rw [hk] at h
    cases h
    exact ⟨_, rfl, rfl, rfl, rfl, rfl⟩
  · rw [if_neg z]
    exact ⟨y, h, rfl, rfl, rfl, rfl⟩
theorem RowsOk.setF {rows : List HR} (R : RowsOk rows) {k : Nat} {x : HR} (hk : rows[k]? = some x) (v : Bool) : RowsOk (rows.set k { x with f := v }) := by
  refine ⟨?_, fun y hy => ?_, fun i y hy => ?_⟩
  · rw [List.map_set, set_at (at_map (·.n) hk)]
    exact R.nd
  · obtain ⟨j, hj⟩ := List.getElem?_of_mem hy
    obtain ⟨y0, h0, e1, e2, e3, e4⟩ := setF_at hk v hj
    rw [← e1, ← e3]
    exact R.ok y0 (List.mem_of_getElem? h0)
  · obtain ⟨y0, h0, e1, e2, e3, e4⟩ := setF_at hk v hy
    rw [← e2]
    rcases R.ab i y0 h0 with z | ⟨j, u, j1, j2, j3, j4⟩
    · exact .inl z
    · obtain ⟨u1, h1, d1, d2, d3, d4⟩ := setF_back hk v j2
      exact .inr ⟨j, u1, j1, h1, d4.trans j3, d1.trans j4⟩
theorem take_set {α : Type} {l : List α} {k : Nat} {x : α} : (l.set k x).take (k + 1) = (l.take (k + 1)).set k x := by
  rw [List.take_set]
/-- where one stands is there already -/
theorem RowsOk.above {rows : List HR} (R : RowsOk rows) {i : Nat} {x : HR} (hx : rows[i]? = some x) {h : Hs} (o : HOk h) (l : Lk (rows.take i) h) : ∃ W, lk h.wh x.a = some W := by
  rcases R.ab i x hx with z | ⟨j, y, j1, j2, j3, j4⟩
  · rw [z]
    exact o.top
  · rw [← j4]
    refine l.team (x := y) (List.mem_of_getElem? (i := j) ?_) j3
    rw [List.getElem?_take, if_pos j1]
    exact j2
theorem RowsOk.new {rows : List HR} (R : RowsOk rows) {i : Nat} {x : HR} (hx : rows[i]? = some x) : x.n ∉ (rows.take i).map (·.n) := fun z => by
  obtain ⟨y, hy, e⟩ := List.mem_map.mp z
  obtain ⟨j, hj⟩ := List.getElem?_of_mem hy
  rw [List.getElem?_take] at hj
  split at hj
  · have a1 : (rows.map (·.n))[j]? = some x.n := by rw [at_map (·.n) hj, e]
    have := nd_ix R.nd a1 (at_map (·.n) hx)
    omega
  · cases hj
theorem Lk.nil : Lk [] H0 := ⟨rfl, rfl, fun x hx => (nomatch hx), fun x hx => (nomatch hx)⟩
def spLawT (K : PySem.W.Frag) (Pt : Addr) : Sp := fun vs H Q _ => ∃ (a : Addr) (ns : List Int), vs = [.ref a] ∧ SqL K H a (ns.map V.int) ∧ GxR.TabG H Pt ∧ ns.length ≤ 63 ∧ ∀ H', Q (.bl true) H'
theorem nil_app {σ : L2.St} {H : Hp} {Q : List V → Hp → Prop} (h : Q [] H) : tNil σ H Q := h

/-- a dict of whole numbers by whole numbers -/
def kvi (ts : List (Nat × Int)) : List (Key × V) := ts.map fun t => (Sum.inl (t.1 : Int), V.int t.2)
theorem kvi_len (ts : List (Nat × Int)) : (kvi ts).length = ts.length := List.length_map _
theorem kvi_some {k : Nat} {v : V} : ∀ {ts : List (Nat × Int)}, valV (kvi ts) (Sum.inl (k : Int) : Key) = some v → ∃ n, (k, n) ∈ ts ∧ v = .int n
  | [], h => by cases h
  | t :: ts, h => by
    by_cases q : t.1 = k
    · have : valV (kvi (t :: ts)) (Sum.inl (k : Int) : Key) = some (.int t.2) := valV_pos (p := (Sum.inl (t.1 : Int), V.int t.2)) (by rw [q])
      rw [this] at h
      exact ⟨t.2, by rw [← q]; exact List.mem_cons_self, (Option.some.inj h).symm⟩
    · have : valV (kvi (t :: ts)) (Sum.inl (k : Int) : Key) = valV (kvi ts) (Sum.inl (k : Int) : Key) := valV_neg (p := (Sum.inl (t.1 : Int), V.int t.2)) fun z => q (by have := Sum.inl.inj z; omega)
      rw [this] at h
      obtain ⟨n, h1, h2⟩ := kvi_some h
      exact ⟨n, List.mem_cons_of_mem _ h1, h2⟩
theorem kvi_none {k : Nat} : ∀ {ts : List (Nat × Int)}, valV (kvi ts) (Sum.inl (k : Int) : Key) = none → ∀ t ∈ ts, t.1 ≠ k
  | [], _, _, h => (nomatch h)
  | t :: ts, h, t', ht => by
    by_cases q : t.1 = k
    · have : valV (kvi (t :: ts)) (Sum.inl (k : Int) : Key) = some (.int t.2) := valV_pos (p := (Sum.inl (t.1 : Int), V.int t.2)) (by rw [q])
      rw [this] at h
      cases h
    · have : valV (kvi (t :: ts)) (Sum.inl (k : Int) : Key) = valV (kvi ts) (Sum.inl (k : Int) : Key) := valV_neg (p := (Sum.inl (t.1 : Int), V.int t.2)) fun z => q (by have := Sum.inl.inj z; omega)
      rw [this] at h
      rcases List.mem_cons.mp ht with rfl | ht
      · exact q
      · exact kvi_none h t' ht
theorem nd_one {ts : List (Nat × Int)} (nd : (ts.map (·.1)).Nodup) {k : Nat} {m n : Int} (h1 : (k, m) ∈ ts) (h2 : (k, n) ∈ ts) : m = n := by
  induction ts with
  | nil => cases h1
  | cons t ts ih =>
    rw [List.map_cons, List.nodup_cons] at nd
    rcases List.mem_cons.mp h1 with e1 | m1
    · rcases List.mem_cons.mp h2 with e2 | m2
      · rw [← e2] at e1
        injection e1
      · exact absurd (List.mem_map.mpr ⟨_, m2, rfl⟩) (by rw [← e1] at nd; exact nd.1)
    · rcases List.mem_cons.mp h2 with e2 | m2
      · exact absurd (List.mem_map.mpr ⟨_, m1, rfl⟩) (by rw [← e2] at nd; exact nd.1)
      · exact ih nd.2 m1 m2
theorem kvi_at {ts : List (Nat × Int)} (nd : (ts.map (·.1)).Nodup) {k : Nat} {n : Int} (h : (k, n) ∈ ts) : valV (kvi ts) (Sum.inl (k : Int) : Key) = some (.int n) := by
  cases q : valV (kvi ts) (Sum.inl (k : Int) : Key) with
  | none => exact absurd rfl (kvi_none q _ h)
  | some v =>
    obtain ⟨m, h', rfl⟩ := kvi_some q
    rw [nd_one nd h h']
theorem kvi_any {ts : List (Nat × Int)} {k : Nat} : ((kvi ts).any fun kv => decide (kv.1 = (Sum.inl (k : Int) : Key))) = true ↔ k ∈ ts.map (·.1) := by
  unfold kvi
  rw [List.any_map, List.any_eq_true]
  constructor
  · rintro ⟨t, ht, e⟩
    have e : (Sum.inl (t.1 : Int) : Key) = Sum.inl (k : Int) := of_decide_eq_true e
    have := Sum.inl.inj e
    exact List.mem_map.mpr ⟨t, ht, by omega⟩
  · intro h
    obtain ⟨t, ht, e⟩ := List.mem_map.mp h
    exact ⟨t, ht, decide_eq_true (by rw [← e])⟩
/-- stored at a key that is there -/
def putT (ts : List (Nat × Int)) (k : Nat) (v : Int) : List (Nat × Int) := ts.map fun t => if t.1 = k then (t.1, v) else t
theorem kvi_put {ts : List (Nat × Int)} {k : Nat} {v : Int} (h : k ∈ ts.map (·.1)) : putK (kvi ts) (Sum.inl (k : Int) : Key) (.int v) = kvi (putT ts k v) := by
  unfold putK
  rw [if_pos (kvi_any.mpr h)]
  unfold kvi putT
  rw [List.map_map, List.map_map]
  refine List.map_congr_left fun t _ => ?_
  by_cases e : t.1 = k
  · simp [e]
  · have : ¬ (Sum.inl (t.1 : Int) : Key) = Sum.inl (k : Int) := fun z => e (by have := Sum.inl.inj z; omega)
    simp [e, this]
theorem kvi_new {ts : List (Nat × Int)} {k : Nat} {v : Int} (h : ¬ k ∈ ts.map (·.1)) : putK (kvi ts) (Sum.inl (k : Int) : Key) (.int v) = kvi (ts ++ [(k, v)]) := by
  unfold putK
  rw [if_neg (fun z => h (kvi_any.mp z))]
  unfold kvi
  rw [List.map_append]
  rfl
theorem kvi_drop (ts : List (Nat × Int)) (k : Nat) : dropK (kvi ts) (Sum.inl (k : Int) : Key) = kvi (ts.filter fun t => decide (t.1 ≠ k)) := by
  unfold dropK kvi
  rw [List.filter_map]
  congr 1
  refine List.filter_congr fun t _ => ?_
  show decide (¬ (Sum.inl (t.1 : Int) : Key) = Sum.inl (k : Int)) = decide (t.1 ≠ k)
  refine decide_eq_decide.mpr ⟨fun z e => z (by rw [e]), fun z e => z (by have := Sum.inl.inj e; omega)⟩
theorem putT_keys (ts : List (Nat × Int)) (k : Nat) (v : Int) : (putT ts k v).map (·.1) = ts.map (·.1) := by
  unfold putT
  rw [List.map_map]
  refine List.map_congr_left fun t _ => ?_
  by_cases e : t.1 = k <;> simp [Function.comp, e]

/-! ### one's row where it stands, through what a house does -/
structure At (h : Hs) (n a : Str) (W : WhS) (y : RowS) : Prop where
  ab : lk h.ab n = some a
  wh : lk h.wh a = some W
  m : y ∈ W.rows
  e : y.n = n
theorem At.ex {h : Hs} (o : HOk h) {n a : Str} (e : lk h.ab n = some a) : ∃ W y, At h n a W y := by
  obtain ⟨W, w⟩ := o.aw n a e
  obtain ⟨y, hy, yn⟩ := (o.sub a W n w).mpr e
  exact ⟨W, y, e, w, hy, yn⟩
theorem At.det {h : Hs} (o : HOk h) {n a b : Str} {W U : WhS} {y z : RowS} (f : At h n a W y) (g : At h n b U z) : a = b ∧ W = U ∧ y = z := by
  have e := f.ab
  rw [g.ab] at e
  cases e
  have e := f.wh
  rw [g.wh] at e
  cases e
  exact ⟨rfl, rfl, Wm.row_of_name (o.ok _ _ f.wh).nd f.m g.m (f.e.trans g.e.symm)⟩
theorem At.fl {h : Hs} {n a : Str} {W : WhS} {y : RowS} (f : At h n a W y) : Fl h n y.r := ⟨a, W, y, f.ab, f.wh, f.m, f.e, rfl⟩
theorem At.setW {R : RowS → RowS → Prop} (refl : ∀ y, R y y) {h : Hs} {n a t : Str} {W V V' : WhS} {y : RowS} (f : At h n a W y) (e : lk h.wh t = some V) (k : ∀ y ∈ V.rows, y.n = n → ∃ y' ∈ V'.rows, y'.n = n ∧ R y y') :
    ∃ W' y', At (setW h t V') n a W' y' ∧ R y y' := by
  by_cases z : a = t
  · subst z
    have w := f.wh
    rw [e] at w
    cases w
    obtain ⟨y', k1, k2, k3⟩ := k y f.m f.e
    exact ⟨V', y', ⟨f.ab, lk_pt e, k1, k2⟩, k3⟩
  · exact ⟨W, y, ⟨f.ab, by show lk (pt h.wh t V') a = _; rw [lk_pt_ne z]; exact f.wh, f.m, f.e⟩, refl y⟩
theorem up_at {R : RowS → RowS → Prop} (refl : ∀ y, R y y) (trans : ∀ x y z, R x y → R y z → R x z) {f : WhS → Str → WhS} {go : WhS → WhS → Prop} (step : ∀ W n m, ∀ y ∈ W.rows, y.n = m → ∃ y' ∈ (f W n).rows, y'.n = m ∧ R y y') {h h' : Hs} {n : Str} (u : Up f go h n h')
    {m a : Str} {W : WhS} {y : RowS} (g : At h m a W y) : ∃ W' y', At h' m a W' y' ∧ R y y' := by
  induction u generalizing W y with
  | stop e1 e2 e3 => exact g.setW refl e2 fun y hy yn => step _ _ _ y hy yn
  | next e1 e2 e3 e4 e5 ih =>
    obtain ⟨W1, y1, g1, r1⟩ := g.setW refl e2 fun y hy yn => step _ _ _ y hy yn
    obtain ⟨W2, y2, g2, r2⟩ := ih g1
    exact ⟨W2, y2, g2, trans _ _ _ r1 r2⟩
theorem upd_row {l : List RowS} {n m : Str} {f : RowS → RowS} (fn : ∀ x, (f x).n = x.n) {y : RowS} (hy : y ∈ l) (yn : y.n = m) : ∃ y' ∈ Wm.upd l n f, y'.n = m ∧ (y' = y ∨ y' = f y) := by
  refine ⟨if y.n = n then f y else y, List.mem_map.mpr ⟨y, hy, rfl⟩, ?_, ?_⟩
  · split
    · rw [fn]
      exact yn
    · exact yn
  · split
    · exact .inr rfl
    · exact .inl rfl
/-- waking leaves who is ready, and all shares -/
theorem wake_at {h h' : Hs} {n m a : Str} {W : WhS} {y : RowS} (u : WakeUp h n h') (g : At h m a W y) : ∃ W' y', At h' m a W' y' ∧ y'.s = y.s ∧ (y.r = true → y' = y) :=
  up_at (R := fun y y' => y'.s = y.s ∧ (y.r = true → y' = y)) (fun _ => ⟨rfl, fun _ => rfl⟩) (fun x y z a b => ⟨b.1.trans a.1, fun xr => (b.2 (by rw [a.2 xr]; exact xr)).trans (a.2 xr)⟩) (fun W n m y hy yn => by
    obtain ⟨y', q1, q2, q3⟩ := upd_row (n := n) (f := Wm.woken W.past) (Wm.woken_n _) hy yn
    refine ⟨y', q1, q2, ?_⟩
    rcases q3 with rfl | rfl
    · exact ⟨rfl, fun _ => rfl⟩
    · refine ⟨?_, fun yr => ?_⟩
      · unfold Wm.woken
        split <;> rfl
      · unfold Wm.woken
        rw [if_pos yr]) u g
/-- resting leaves all shares, and who does not rest by it -/
theorem rest_at2 {h h' : Hs} {n m a : Str} {W : WhS} {y : RowS} (u : RestUp h n h') (g : At h m a W y) : ∃ W' y', At h' m a W' y' ∧ y'.s = y.s ∧ (y' = y ∨ y'.r = false) :=
  up_at (R := fun y y' => y'.s = y.s ∧ (y' = y ∨ y'.r = false)) (fun _ => ⟨rfl, .inl rfl⟩) (fun x y z a b => ⟨b.1.trans a.1, by
    rcases b.2 with rfl | q
    · exact a.2
    · exact .inr q⟩) (fun W n m y hy yn => by
    obtain ⟨y', q1, q2, q3⟩ := upd_row (n := n) (f := fun x => { x with r := false }) (fun _ => rfl) hy yn
    refine ⟨y', q1, q2, ?_⟩
    rcases q3 with rfl | rfl
    · exact ⟨rfl, .inl rfl⟩
    · exact ⟨rfl, .inr rfl⟩) u g
/-- a turn of the wheel at t -/
theorem turn_at {h : Hs} (o : HOk h) {t m a : Str} {V W : WhS} {b y : RowS} (e : lk h.wh t = some V) (eb : Wm.best V.rows = some b) (g : At h m a W y) : ∃ W' y', At (setW h t (Wm.turn V)) m a W' y' ∧ y'.s = y.s ∧ y'.r = y.r ∧ (y'.c = if m = b.n then y.c + Wm.stp y.s else y.c) := by
  obtain ⟨b1, b2, _⟩ := Wm.best_some eb
  have ea := (o.sub t V b.n e).mp ⟨b, b2, rfl⟩
  by_cases z : a = t
  · subst z
    have w := g.wh
    rw [e] at w
    cases w
    have tr := Wm.turn_some eb
    have hy : (if y.n = b.n then { y with c := y.c + Wm.stp y.s } else y) ∈ (Wm.turn V).rows := by
      rw [tr]
      exact List.mem_map.mpr ⟨y, g.m, rfl⟩
    refine ⟨_, _, ⟨g.ab, lk_pt e, hy, ?_⟩, ?_, ?_, ?_⟩
    · split <;> exact g.e
    · split <;> rfl
    · split <;> rfl
    · rw [← g.e]
      split <;> rfl
  · have mn : m ≠ b.n := fun q => z (by
      have := g.ab
      rw [q, ea] at this
      exact (Option.some.inj this).symm)
    rw [if_neg mn]
    exact ⟨W, y, ⟨g.ab, by show lk (pt h.wh t _) a = _; rw [lk_pt_ne z]; exact g.wh, g.m, g.e⟩, rfl, rfl, rfl⟩
/-- the share that one has -/
def Fs (h : Hs) (n : Str) (s : Int) : Prop := ∃ a W y, At h n a W y ∧ y.s = s
/-- ready with this share since the beginning, and so many turns -/
def Tn (h : Hs) (p0 : Str → Int) (n : Str) (s i : Int) : Prop := ∃ a W y, At h n a W y ∧ y.s = s ∧ y.r = true ∧ p0 a ≤ y.c - Wm.stp s * i ∧ y.c - Wm.stp s * i ≤ p0 a + Wm.stp s
theorem Fs.wake {h h' : Hs} {n m : Str} {s : Int} (u : WakeUp h n h') (f : Fs h m s) : Fs h' m s := by
  obtain ⟨a, W, y, g, e⟩ := f
  obtain ⟨W', y', g', q, _⟩ := wake_at u g
  exact ⟨a, W', y', g', q.trans e⟩
theorem Fs.rest {h h' : Hs} {n m : Str} {s : Int} (u : RestUp h n h') (f : Fs h m s) : Fs h' m s := by
  obtain ⟨a, W, y, g, e⟩ := f
  obtain ⟨W', y', g', q, _⟩ := rest_at2 u g
  exact ⟨a, W', y', g', q.trans e⟩
theorem Fs.turn {h : Hs} (o : HOk h) {t m : Str} {V : WhS} {b : RowS} {s : Int} (e : lk h.wh t = some V) (eb : Wm.best V.rows = some b) (f : Fs h m s) : Fs (setW h t (Wm.turn V)) m s := by
  obtain ⟨a, W, y, g, q⟩ := f
  obtain ⟨W', y', g', q', _⟩ := turn_at o e eb g
  exact ⟨a, W', y', g', q'.trans q⟩
theorem Tn.wake {h h' : Hs} {p0 : Str → Int} {n m : Str} {s i : Int} (u : WakeUp h n h') (f : Tn h p0 m s i) : Tn h' p0 m s i := by
  obtain ⟨a, W, y, g, e, r, l1, l2⟩ := f
  obtain ⟨W', y', g', _, q⟩ := wake_at u g
  cases q r
  exact ⟨a, W', y, g', e, r, l1, l2⟩
theorem Tn.rest {h h' : Hs} {p0 : Str → Int} {n m : Str} {s i : Int} (u : RestUp h n h') (f : Tn h p0 m s i) : Tn h' p0 m s i ∨ Fl h' m false := by
  obtain ⟨a, W, y, g, e, r, l1, l2⟩ := f
  obtain ⟨W', y', g', _, q⟩ := rest_at2 u g
  rcases q with rfl | q
  · exact .inl ⟨a, W', y', g', e, r, l1, l2⟩
  · right
    have := g'.fl
    rw [q] at this
    exact this
theorem Tn.turn {h : Hs} (o : HOk h) {p0 : Str → Int} {t m : Str} {V : WhS} {b : RowS} {s i : Int} (e : lk h.wh t = some V) (eb : Wm.best V.rows = some b) (f : Tn h p0 m s i) : Tn (setW h t (Wm.turn V)) p0 m s (if m = b.n then i + 1 else i) := by
  obtain ⟨a, W, y, g, es, r, l1, l2⟩ := f
  obtain ⟨W', y', g', q1, q2, q3⟩ := turn_at o e eb g
  refine ⟨a, W', y', g', q1.trans es, q2.trans r, ?_⟩
  by_cases z : m = b.n
  · rw [if_pos z] at q3 ⊢
    rw [Int.mul_add, Int.mul_one, q3, es]
    omega
  · rw [if_neg z] at q3 ⊢
    rw [q3]
    exact ⟨l1, l2⟩
/-- point 9 of two in one team -/
theorem Tn.even {h : Hs} (o : HOk h) {p0 : Str → Int} {m k a : Str} {s t i j : Int} (f : Tn h p0 m s i) (g : Tn h p0 k t j) (e1 : lk h.ab m = some a) (e2 : lk h.ab k = some a) : (i - 1) * t ≤ (j + 1) * s := by
  obtain ⟨a1, W, y, f0, es, r, l1, l2⟩ := f
  obtain ⟨a2, U, z, g0, et, r', k1, k2⟩ := g
  have q1 := f0.ab
  rw [e1] at q1
  cases q1
  have q2 := g0.ab
  rw [e2] at q2
  cases q2
  have q3 := f0.wh
  rw [g0.wh] at q3
  cases q3
  have ok := o.ok _ _ f0.wh
  have oy := ok.rows y f0.m
  have oz := ok.rows z g0.m
  have a1 := oy.s1
  have a2 := oy.s2
  have b1 := oz.s1
  have b2 := oz.s2
  rw [es] at a1 a2
  rw [et] at b1 b2
  have up1 := oy.up
  have up2 := oz.up
  have lo1 := oy.lo r
  have lo2 := oz.lo r'
  rw [es] at up1
  rw [et] at up2
  have h1 := (Wm.given (c0 := y.c - Wm.stp s * i) (n := i) a1 a2 l1 l2 lo1 up1 (by omega)).1
  have h2 := (Wm.given (c0 := z.c - Wm.stp t * j) (n := j) b1 b2 k1 k2 lo2 up2 (by omega)).2
  exact Wm.even_two a1 a2 b1 b2 h1 h2
/-- at the beginning: all that are ready -/
theorem Tn.begin {h : Hs} (o : HOk h) {p0 : Str → Int} (hp : ∀ t W, lk h.wh t = some W → p0 t = W.past) {n : Str} {s : Int} (f : Fs h n s) (r : Fl h n true) : Tn h p0 n s 0 := by
  obtain ⟨a, W, y, g, es⟩ := f
  have yr : y.r = true := g.fl.det o r
  have oy := (o.ok _ _ g.wh).rows y g.m
  have := oy.lo yr
  have := oy.up
  rw [es] at this
  refine ⟨a, W, y, g, es, yr, ?_, ?_⟩ <;> rw [hp a W g.wh, Int.mul_zero] <;> omega
theorem reshare_at {h : Hs} {n b m a : Str} {V W : WhS} {y : RowS} {i : Int} (en : lk h.ab n = some b) (e : lk h.wh b = some V) (g : At h m a W y) : ∃ W' y', At (setW h b (Wm.reshare V n i)) m a W' y' ∧ (m = n → y'.s = i) ∧ (m ≠ n → y' = y) ∧ y'.r = y.r := by
  by_cases z : a = b
  · subst z
    have w := g.wh
    rw [e] at w
    cases w
    have hy : (if y.n = n then Wm.shared V.past i y else y) ∈ (Wm.reshare V n i).rows := List.mem_map.mpr ⟨y, g.m, rfl⟩
    refine ⟨_, _, ⟨g.ab, lk_pt e, hy, ?_⟩, fun q => ?_, fun q => ?_, ?_⟩
    · split
      · exact g.e
      · exact g.e
    · rw [if_pos (g.e.trans q)]
      rfl
    · rw [if_neg (by rw [g.e]; exact q)]
    · split <;> rfl
  · refine ⟨W, y, ⟨g.ab, by show lk (pt h.wh b _) a = _; rw [lk_pt_ne z]; exact g.wh, g.m, g.e⟩, fun q => ?_, fun _ => rfl, rfl⟩
    have := g.ab
    rw [q, en] at this
    exact (z (Option.some.inj this).symm).elim
theorem Fs.reshare {h : Hs} {n b m : Str} {V : WhS} {i s : Int} (en : lk h.ab n = some b) (e : lk h.wh b = some V) (f : Fs h m s) : Fs (setW h b (Wm.reshare V n i)) m (if m = n then i else s) := by
  obtain ⟨a, W, y, g, es⟩ := f
  obtain ⟨W', y', g', q1, q2, _⟩ := reshare_at (i := i) en e g
  refine ⟨a, W', y', g', ?_⟩
  by_cases z : m = n
  · rw [if_pos z]
    exact q1 z
  · rw [if_neg z, q2 z]
    exact es
theorem Fl.reshare {h : Hs} {n b m : Str} {V : WhS} {i : Int} {v : Bool} (en : lk h.ab n = some b) (e : lk h.wh b = some V) (f : Fl h m v) : Fl (Mine.setW h b (Wm.reshare V n i)) m v := by
  obtain ⟨a, W, y, e1, e2, e3, e4, e5⟩ := f
  obtain ⟨W', y', g', _, _, q⟩ := reshare_at (i := i) en e ⟨e1, e2, e3, e4⟩
  have := g'.fl
  rw [q, e5] at this
  exact this
theorem Tn.reshare {h : Hs} {p0 : Str → Int} {n b m : Str} {V : WhS} {i s j : Int} (en : lk h.ab n = some b) (e : lk h.wh b = some V) (ne : m ≠ n) (f : Tn h p0 m s j) : Tn (setW h b (Wm.reshare V n i)) p0 m s j := by
  obtain ⟨a, W, y, g, es, r, l1, l2⟩ := f
  obtain ⟨W', y', g', _, q2, _⟩ := reshare_at (i := i) en e g
  cases q2 ne
  exact ⟨a, W', y, g', es, r, l1, l2⟩
/-! ### rows with places for where they stand -/
structure R2 (rs : List (HR × Int)) : Prop where
  nd : (rs.map (·.1.n)).Nodup
  ok : ∀ x ∈ rs, isNm (.str x.1.n) = true ∧ 1 ≤ x.1.s ∧ x.1.s ≤ 12
  sp : ∀ (i : Nat) (x : HR × Int), rs[i]? = some x → (x.2 = -1 ∧ x.1.a = "") ∨ ∃ (j : Nat) (y : HR × Int), j < i ∧ rs[j]? = some y ∧ y.1.t = true ∧ y.1.n = x.1.a ∧ x.2 = (j : Int)
theorem R2.snoc {rs : List (HR × Int)} (R : R2 rs) {y : HR × Int} (n : y.1.n ∉ rs.map (·.1.n)) (o : isNm (.str y.1.n) = true ∧ 1 ≤ y.1.s ∧ y.1.s ≤ 12) (a : (y.2 = -1 ∧ y.1.a = "") ∨ ∃ (j : Nat) (x : HR × Int), rs[j]? = some x ∧ x.1.t = true ∧ x.1.n = y.1.a ∧ y.2 = (j : Int)) : R2 (rs ++ [y]) := by
  refine ⟨by rw [List.map_append]; exact Wm.nd_snoc R.nd n, fun x hx => ?_, fun i x hx => ?_⟩
  · rcases List.mem_append.mp hx with hx | hx
    · exact R.ok x hx
    · rw [List.mem_singleton.mp hx]
      exact o
  · by_cases h : i < rs.length
    · rw [List.getElem?_append_left h] at hx
      rcases R.sp i x hx with z | ⟨j, u, j1, j2, j3⟩
      · exact .inl z
      · exact .inr ⟨j, u, j1, by rw [List.getElem?_append_left (by omega)]; exact j2, j3⟩
    · rw [List.getElem?_append_right (by omega)] at hx
      cases q : i - rs.length with
      | succ k => rw [q] at hx; cases hx
      | zero =>
        rw [q] at hx
        cases hx
        rcases a with z | ⟨j, u, hj, u1⟩
        · exact .inl z
        · have hj2 := (List.getElem?_eq_some_iff.mp hj).1
          exact .inr ⟨j, u, by omega, by rw [List.getElem?_append_left hj2]; exact hj, u1⟩
/-- the same but for flag and share -/
def Alk (x y : HR × Int) : Prop := x.1.n = y.1.n ∧ x.1.a = y.1.a ∧ x.1.t = y.1.t ∧ x.2 = y.2
theorem alk_at {rs : List (HR × Int)} {k : Nat} {x x' : HR × Int} (hk : rs[k]? = some x) (e : Alk x' x) {j : Nat} {y : HR × Int} (h : (rs.set k x')[j]? = some y) : ∃ y0, rs[j]? = some y0 ∧ Alk y y0 := by
  rw [List.getElem?_set] at h
  by_cases z : k = j
  · subst z
    rw [if_pos rfl] at h
    split at h
    · cases h
      exact ⟨x, hk, e⟩
    · cases h
  · rw [if_neg z] at h
    exact ⟨y, h, rfl, rfl, rfl, rfl⟩
theorem alk_back {rs : List (HR × Int)} {k : Nat} {x x' : HR × Int} (hk : rs[k]? = some x) (e : Alk x' x) {j : Nat} {y : HR × Int} (h : rs[j]? = some y) : ∃ y1, (rs.set k x')[j]? = some y1 ∧ Alk y1 y := by
  rw [List.getElem?_set]
  by_cases z : k = j
  · subst z
    obtain ⟨hk2, _⟩ := List.getElem?_eq_some_iff.mp hk
    rw [if_pos rfl, if_pos hk2]
    rw [hk] at h
    cases h
    exact ⟨_, rfl, e⟩
  · rw [if_neg z]
    exact ⟨y, h, rfl, rfl, rfl, rfl⟩
theorem R2.set {rs : List (HR × Int)} (R : R2 rs) {k : Nat} {x x' : HR × Int} (hk : rs[k]? = some x) (e : Alk x' x) (s1 : 1 ≤ x'.1.s) (s2 : x'.1.s ≤ 12) : R2 (rs.set k x') := by
  refine ⟨?_, fun y hy => ?_, fun i y hy => ?_⟩
  · rw [List.map_set, e.1, set_at (at_map (·.1.n) hk)]
    exact R.nd
  · have : y = x' ∨ y ∈ rs := by
      obtain ⟨j, hj⟩ := List.getElem?_of_mem hy
      rw [List.getElem?_set] at hj
      split at hj
      · split at hj
        · exact .inl (Option.some.inj hj).symm
        · cases hj
      · exact .inr (List.mem_of_getElem? hj)
    rcases this with rfl | h
    · exact ⟨by rw [e.1]; exact (R.ok x (List.mem_of_getElem? hk)).1, s1, s2⟩
    · exact R.ok y h
  · obtain ⟨y0, h0, e1, e2, e3, e4⟩ := alk_at hk e hy
    rw [e2, e4]
    rcases R.sp i y0 h0 with z | ⟨j, u, j1, j2, j3, j4, j5⟩
    · exact .inl z
    · obtain ⟨u1, h1, d1, d2, d3, d4⟩ := alk_back hk e j2
      exact .inr ⟨j, u1, j1, h1, d3.trans j3, d1.trans j4, j5⟩
theorem R2.inj {rs : List (HR × Int)} (R : R2 rs) {i j : Nat} {x y : HR × Int} (hi : rs[i]? = some x) (hj : rs[j]? = some y) (e : x.1.n = y.1.n) : i = j :=
  nd_ix R.nd (at_map (·.1.n) hi) (by rw [at_map (·.1.n) hj, e])
theorem tab_ne {Pt : Addr} {H H1 : Hp} (c : H1 = H ∨ GxR.Tabbed Pt H H1) {b : Addr} (n : b ≠ Pt) : H1 b = H b := by
  rcases c with rfl | ⟨_, c⟩
  · rfl
  · exact c b n
/-- from H on all stands but the lists of the rows and the table; a house lies in new places -/
structure Grown (Pt : Addr) (S : List Addr) (H H' : Hp) (fp : List Addr) : Prop where
  kp : ∀ b o, H b = some o → b ∉ S → b ≠ Pt → H' b = some o
  fr : ∀ b ∈ fp, H b = none
section
variable {CH CW CS Pt : Addr}
theorem Grown.step {S fp fp' : List Addr} {H H1 H2 H3 : Hp} {p : Addr} {h : Hs} (g : Grown Pt S H H1 fp) (hA : HAt CH CW CS H2 p h fp) (hT : GxR.TabG H1 Pt) (hS : ∀ b ∈ S, ∃ o, H1 b = some o) (c : H2 = H1 ∨ GxR.Tabbed Pt H1 H2) (st : Step fp H2 fp' H3) : Grown Pt S H H3 fp' := by
  have n1 : ∀ b, H b ≠ none → H1 b ≠ none := fun b q => by
    by_cases z : b = Pt
    · obtain ⟨ps, e, _⟩ := hT
      rw [z, e]
      intro y
      cases y
    · by_cases z2 : b ∈ S
      · obtain ⟨o, e⟩ := hS b z2
        rw [e]
        intro y
        cases y
      · cases e : H b with
        | none => exact (q e).elim
        | some o =>
          rw [g.kp b o e z2 z]
          intro y
          cases y
  refine ⟨fun b o e h1 h2 => st.kept _ _ (by rw [tab_ne c h2]; exact g.kp b o e h1 h2) fun z => ?_, fun b hb => ?_⟩
  · rw [g.fr b z] at e
    cases e
  · rcases st.new b hb with z | z
    · exact g.fr b z
    · cases e : H b with
      | none => rfl
      | some o =>
        exfalso
        have q := n1 b (by rw [e]; intro y; cases y)
        by_cases z2 : b = Pt
        · obtain ⟨ps, y, _⟩ := tab_on hT c
          rw [z2, y] at z
          cases z
        · rw [tab_ne c z2] at z
          exact q z
theorem Grown.upd {S fp : List Addr} {H H1 : Hp} {t : Addr} {o : HO} (g : Grown Pt S H H1 fp) (ht : t ∈ S) : Grown Pt S H (L2.upd H1 t o) fp := ⟨fun b u e h1 h2 => by
  rw [upd_ne fun z => h1 (by rw [z]; exact ht)]
  exact g.kp b u e h1 h2, g.fr⟩
end
theorem R2.above {rs : List (HR × Int)} (R : R2 rs) {i : Nat} {x : HR × Int} (hx : rs[i]? = some x) {h : Hs} (o : HOk h) (l : Lk ((rs.take i).map (·.1)) h) : ∃ W, lk h.wh x.1.a = some W := by
  rcases R.sp i x hx with ⟨_, z⟩ | ⟨j, y, j1, j2, j3, j4, _⟩
  · rw [z]
    exact o.top
  · rw [← j4]
    refine l.team (x := y.1) (List.mem_map.mpr ⟨y, List.mem_of_getElem? (i := j) ?_, rfl⟩) j3
    rw [List.getElem?_take, if_pos j1]
    exact j2
theorem R2.new {rs : List (HR × Int)} (R : R2 rs) {i : Nat} {x : HR × Int} (hx : rs[i]? = some x) : x.1.n ∉ ((rs.take i).map (·.1)).map (·.n) := fun z => by
  obtain ⟨y, hy, e⟩ := List.mem_map.mp z
  obtain ⟨y2, hy2, rfl⟩ := List.mem_map.mp hy
  obtain ⟨j, hj⟩ := List.getElem?_of_mem hy2
  rw [List.getElem?_take] at hj
  split at hj
  · have := R.inj hj hx e
    omega
  · cases hj
theorem Fs.enter {h : Hs} {n m t : Str} {W : WhS} {s i : Int} {more : List (Str × WhS)} (f : Fs h m s) (e : lk h.ab n = none) (ea : lk h.wh t = some W) : Fs ⟨h.ab ++ [(n, t)], pt h.wh t (Wm.enter W n i) ++ more⟩ m s := by
  obtain ⟨a, U, y, g, es⟩ := f
  have mn : m ≠ n := fun z => by have := g.ab; rw [z, e] at this; cases this
  have app : ∀ {l : List (Str × WhS)} {q : Str} {u : WhS}, lk l q = some u → lk (l ++ more) q = some u := fun {l q u} z => by
    induction l with
    | nil => cases z
    | cons x r ih =>
      show (if x.1 = q then some x.2 else lk (r ++ more) q) = some u
      have z : (if x.1 = q then some x.2 else lk r q) = some u := z
      by_cases p : x.1 = q
      · rw [if_pos p] at z ⊢
        exact z
      · rw [if_neg p] at z ⊢
        exact ih z
  have e1' : lk (h.ab ++ [(n, t)]) m = some a := (lk_app_old mn).trans g.ab
  by_cases z : a = t
  · subst z
    have w := g.wh
    rw [ea] at w
    cases w
    exact ⟨a, _, y, ⟨e1', app (lk_pt ea), List.mem_append.mpr (.inl g.m), g.e⟩, es⟩
  · exact ⟨a, U, y, ⟨e1', app ((lk_pt_ne z).trans g.wh), g.m, g.e⟩, es⟩
theorem Fs.new {h : Hs} {n t : Str} {W : WhS} {s : Int} {more : List (Str × WhS)} (e : lk h.ab n = none) (ea : lk h.wh t = some W) : Fs ⟨h.ab ++ [(n, t)], pt h.wh t (Wm.enter W n s) ++ more⟩ n s := by
  have app : ∀ {l : List (Str × WhS)} {q : Str} {u : WhS}, lk l q = some u → lk (l ++ more) q = some u := fun {l q u} z => by
    induction l with
    | nil => cases z
    | cons x r ih =>
      show (if x.1 = q then some x.2 else lk (r ++ more) q) = some u
      have z : (if x.1 = q then some x.2 else lk r q) = some u := z
      by_cases p : x.1 = q
      · rw [if_pos p] at z ⊢
        exact z
      · rw [if_neg p] at z ⊢
        exact ih z
  exact ⟨t, _, ⟨n, s, 0, false⟩, ⟨lk_app_new e, app (lk_pt ea), List.mem_append.mpr (.inr List.mem_cons_self), rfl⟩, rfl⟩
/-- who is ready, by places: a hand where its flag is up, a team where one of those in it is -/
theorem ready_iff {rs : List (HR × Int)} {h : Hs} (R : R2 rs) (o : HOk h) (r : Rd h "") (l : Lk (rs.map (·.1)) h) {j : Nat} {x : HR × Int} (hx : rs[j]? = some x) :
    Fl h x.1.n true ↔ x.1.f = true ∨ ∃ (c : Nat) (y : HR × Int), j < c ∧ rs[c]? = some y ∧ y.2 = (j : Int) ∧ Fl h y.1.n true := by
  have hm : ∀ {c : Nat} {y : HR × Int}, rs[c]? = some y → y.1 ∈ rs.map (·.1) := fun e => List.mem_map.mpr ⟨_, List.mem_of_getElem? e, rfl⟩
  have up : ∀ {c : Nat} {y : HR × Int}, rs[c]? = some y → y.2 = (j : Int) → x.1.t = true ∧ y.1.a = x.1.n ∧ j < c := fun {c y} e q => by
    rcases R.sp c y e with ⟨z, _⟩ | ⟨j', u, j1, j2, j3, j4, j5⟩
    · omega
    · have : j' = j := by omega
      subst this
      rw [hx] at j2
      cases j2
      exact ⟨j3, j4.symm, j1⟩
  cases xt : x.1.t with
  | false =>
    have f := l.fl x.1 (hm hx) xt
    constructor
    · intro g
      exact .inl (f.det o g)
    · rintro (z | ⟨c, y, _, e, q, _⟩)
      · rw [z] at f
        exact f
      · have := (up e q).1
        rw [xt] at this
        cases this
  | true =>
    have xf := l.tf x.1 (hm hx) xt
    obtain ⟨W, ew⟩ := l.team (hm hx) xt
    have ea := l.at o (hm hx)
    constructor
    · rintro ⟨a, Wa, y, e1, e2, e3, e4, e5⟩
      obtain ⟨z, hz, zr⟩ := (r x.1.n W a Wa ew (o.ne_top e1) (o.ne_top e1) e1 e2 y e3 e4).mp e5
      have ez := (o.sub _ _ z.n ew).mp ⟨z, hz, rfl⟩
      obtain ⟨y', hy', n1, n2⟩ := l.of ez
      obtain ⟨y2, hy2, rfl⟩ := List.mem_map.mp hy'
      obtain ⟨c, hc⟩ := List.getElem?_of_mem hy2
      rcases R.sp c y2 hc with ⟨_, q⟩ | ⟨j', u, j1, j2, j3, j4, j5⟩
      · rw [q] at n2
        exact (o.ne_top ea n2.symm).elim
      · have := R.inj j2 hx (j4.trans n2)
        subst this
        refine .inr ⟨c, y2, j1, hc, j5, x.1.n, W, z, ?_, ew, hz, n1.symm, zr⟩
        rw [n1]
        exact ez
    · rintro (z | ⟨c, y, _, e, q, a, U, z, e1, e2, e3, e4, e5⟩)
      · rw [xf] at z
        cases z
      · obtain ⟨_, ya, _⟩ := up e q
        have := l.at o (hm e)
        rw [e1, ya] at this
        cases this
        rw [ew] at e2
        cases e2
        obtain ⟨v, g⟩ := Fl.ex o ea
        obtain ⟨b, Wb, w, g1, g2, g3, g4, g5⟩ := id g
        have := (r x.1.n W b Wb ew (o.ne_top g1) (o.ne_top g1) g1 g2 w g3 g4).mpr ⟨z, e3, e5⟩
        rw [this] at g5
        rw [g5]
        exact g
structure TOk (h : Hs) (p0 : Str → Int) (rs : List (HR × Int)) (tn : List (Nat × Int)) : Prop where
  nd : (tn.map (·.1)).Nodup
  t : ∀ k n, (k, n) ∈ tn → ∃ x, rs[k]? = some x ∧ Tn h p0 x.1.n x.1.s n
theorem TOk.none {h : Hs} {p0 : Str → Int} {rs : List (HR × Int)} : TOk h p0 rs [] := ⟨List.nodup_nil, fun _ _ z => (nomatch z)⟩
theorem TOk.len {h : Hs} {p0 : Str → Int} {rs : List (HR × Int)} {tn : List (Nat × Int)} (T : TOk h p0 rs tn) : tn.length ≤ rs.length := by
  have := nodup_sub (tn.map (·.1)) (List.range rs.length) T.nd fun k hk => by
    obtain ⟨e, he, rfl⟩ := List.mem_map.mp hk
    obtain ⟨x, hx, _⟩ := T.t e.1 e.2 he
    exact List.mem_range.mpr (List.getElem?_eq_some_iff.mp hx).1
  rw [List.length_map, List.length_range] at this
  exact this
theorem TOk.move {h h' : Hs} {p0 : Str → Int} {rs : List (HR × Int)} {tn : List (Nat × Int)} (T : TOk h p0 rs tn) (k : ∀ m s n, Tn h p0 m s n → Tn h' p0 m s n) : TOk h' p0 rs tn :=
  ⟨T.nd, fun a n z => by
    obtain ⟨x, h1, h2⟩ := T.t a n z
    exact ⟨x, h1, k _ _ _ h2⟩⟩
theorem TOk.turn {h : Hs} {p0 : Str → Int} {rs : List (HR × Int)} {tn : List (Nat × Int)} (T : TOk h p0 rs tn) (R : R2 rs) (o : HOk h) {t : Str} {V : WhS} {b : RowS} (e : lk h.wh t = some V) (eb : Wm.best V.rows = some b) {j : Nat} {x : HR × Int} (hx : rs[j]? = some x) (xn : x.1.n = b.n)
    (tn' : List (Nat × Int)) (c : (∃ n, (j, n) ∈ tn ∧ tn' = putT tn j (n + 1)) ∨ ((∀ t ∈ tn, t.1 ≠ j) ∧ tn' = tn)) : TOk (Mine.setW h t (Wm.turn V)) p0 rs tn' := by
  have one : ∀ {k : Nat} {y : HR × Int}, rs[k]? = some y → (y.1.n = b.n ↔ k = j) := fun {k y} hy => by
    constructor
    · intro z
      exact R.inj hy hx (z.trans xn.symm)
    · intro z
      subst z
      rw [hx] at hy
      cases hy
      exact xn
  rcases c with ⟨n, hn, rfl⟩ | ⟨no, rfl⟩
  · refine ⟨by rw [putT_keys]; exact T.nd, fun k m hk => ?_⟩
    obtain ⟨e0, he0, q⟩ := List.mem_map.mp hk
    obtain ⟨y, hy, ty⟩ := T.t e0.1 e0.2 he0
    have tt := ty.turn o e eb
    by_cases z : e0.1 = j
    · rw [if_pos z] at q
      cases q
      have : e0 = (j, n) := by
        have : e0.2 = n := nd_one T.nd (k := j) (by rw [← z]; exact he0) hn
        rw [← this, ← z]
      cases this
      rw [if_pos ((one hy).mpr rfl)] at tt
      exact ⟨y, hy, tt⟩
    · rw [if_neg z] at q
      cases q
      rw [if_neg (fun u => z ((one hy).mp u))] at tt
      exact ⟨y, hy, tt⟩
  · refine ⟨T.nd, fun k m hk => ?_⟩
    obtain ⟨y, hy, ty⟩ := T.t k m hk
    have tt := ty.turn o e eb
    rw [if_neg (fun u => no _ hk ((one hy).mp u))] at tt
    exact ⟨y, hy, tt⟩
theorem Fl.nobody {h : Hs} (o : HOk h) (r : Rd h "") (k : ∀ W, lk h.wh "" = some W → Wm.best W.rows = none) {n : Str} {b : Bool} (f : Fl h n b) : b = false := by
  cases b with
  | false => rfl
  | true =>
    obtain ⟨a, W, y, e1, e2, e3, e4, e5⟩ := f
    obtain ⟨U, u1, u2⟩ := rdy_up o r e2 ⟨y, e3, e5⟩
    exact (rdy_best.mp u2 (k U u1)).elim
theorem inV_bl {bs : List Bool} (h : ∀ b ∈ bs, b = false) : inV (.bl true) (bs.map V.bl) = false := by
  cases e : inV (.bl true) (bs.map V.bl) with
  | false => rfl
  | true =>
    unfold inV at e
    rw [List.any_map, List.any_eq_true] at e
    obtain ⟨b, hb, q⟩ := e
    rw [h b hb] at q
    cases q
theorem flat_bl (bs : List Bool) : (bs.map V.bl).all flatV = true := by
  rw [List.all_map, List.all_eq_true]
  intro x _
  rfl
theorem R2.same {rs : List (HR × Int)} (R : R2 rs) {i j : Nat} {x y : HR × Int} (hx : rs[i]? = some x) (hy : rs[j]? = some y) (e : x.2 = y.2) : x.1.a = y.1.a := by
  rcases R.sp i x hx with ⟨q1, q2⟩ | ⟨a, u, a1, a2, a3, a4, a5⟩
  · rcases R.sp j y hy with ⟨z1, z2⟩ | ⟨b, v, b1, b2, b3, b4, b5⟩
    · rw [q2, z2]
    · omega
  · rcases R.sp j y hy with ⟨z1, z2⟩ | ⟨b, v, b1, b2, b3, b4, b5⟩
    · omega
    · have : a = b := by omega
      subst this
      rw [a2] at b2
      cases b2
      rw [← a4, ← b4]
theorem Step.up {fp fp' gp gp' : List Addr} {H H' : Hp} (st : Step fp H fp' H') (i : ∀ b ∈ fp, b ∈ gp) (j : ∀ b ∈ gp', b ∈ fp' ∨ b ∈ gp) : Step gp H gp' H' :=
  ⟨fun b o e n => st.kept b o e fun z => n (i b z), fun b hb => by
    rcases j b hb with z | z
    · rcases st.new b z with q | q
      · exact .inl (i b q)
      · exact .inr q
    · exact .inl z⟩
theorem Step.put {gp : List Addr} {H : Hp} {t : Addr} {o : HO} (h : t ∈ gp) : Step gp H gp (upd H t o) := ⟨fun b u e n => by
  rw [upd_ne fun z => n (by rw [z]; exact h)]
  exact e, fun b hb => .inl hb⟩
/-- those counted, or at rest by now -/
structure TWk (h : Hs) (p0 : Str → Int) (rs : List (HR × Int)) (tn : List (Nat × Int)) : Prop where
  nd : (tn.map (·.1)).Nodup
  t : ∀ k n, (k, n) ∈ tn → ∃ x, rs[k]? = some x ∧ (Tn h p0 x.1.n x.1.s n ∨ Fl h x.1.n false)
theorem TOk.weak {h : Hs} {p0 : Str → Int} {rs : List (HR × Int)} {tn : List (Nat × Int)} (T : TOk h p0 rs tn) : TWk h p0 rs tn := ⟨T.nd, fun k n z => by
  obtain ⟨x, h1, h2⟩ := T.t k n z
  exact ⟨x, h1, .inl h2⟩⟩
theorem TWk.len {h : Hs} {p0 : Str → Int} {rs : List (HR × Int)} {tn : List (Nat × Int)} (T : TWk h p0 rs tn) : tn.length ≤ rs.length := by
  have := nodup_sub (tn.map (·.1)) (List.range rs.length) T.nd fun k hk => by
    obtain ⟨e, he, rfl⟩ := List.mem_map.mp hk
    obtain ⟨x, hx, _⟩ := T.t e.1 e.2 he
    exact List.mem_range.mpr (List.getElem?_eq_some_iff.mp hx).1
  rw [List.length_map, List.length_range] at this
  exact this
theorem set_map {α β : Type} {l : List α} {k : Nat} {x x' : α} (hk : l[k]? = some x) (q : α → β) (e : q x' = q x) : (l.set k x').map q = l.map q := by
  rw [List.map_set, e]
  exact set_at (at_map q hk)
theorem Lk.share {rows : List HR} {h : Hs} (l : Lk rows h) {k : Nat} {x : HR} (hk : rows[k]? = some x) (v : Int) : Lk (rows.set k { x with s := v }) h := by
  have mem : ∀ y ∈ rows.set k { x with s := v }, ∃ y0 ∈ rows, y0.n = y.n ∧ y0.t = y.t ∧ y0.f = y.f := fun y hy => by
    obtain ⟨j, hj⟩ := List.getElem?_of_mem hy
    rw [List.getElem?_set] at hj
    split at hj
    · split at hj
      · cases hj
        exact ⟨x, List.mem_of_getElem? hk, rfl, rfl, rfl⟩
      · cases hj
    · exact ⟨y, List.mem_of_getElem? hj, rfl, rfl, rfl⟩
  refine ⟨l.ab.trans (set_map (x' := { x with s := v }) hk (fun x => (x.n, x.a)) rfl).symm, l.wh.trans ?_, fun y hy yt => ?_, fun y hy yt => ?_⟩
  · have h1 : ((rows.set k { x with s := v }).map fun y => (y.t, y.n)) = rows.map fun y => (y.t, y.n) := set_map hk (fun y => (y.t, y.n)) rfl
    have h2 : ∀ l : List HR, (l.filter (·.t)).map (·.n) = ((l.map fun y => (y.t, y.n)).filter (·.1)).map (·.2) := fun l => by
      induction l with
      | nil => rfl
      | cons z r ih =>
        rw [List.map_cons]
        cases zt : z.t <;> simp [zt, ih]
    rw [h2, h2, h1]
  · obtain ⟨y0, h0, e1, e2, e3⟩ := mem y hy
    rw [← e1, ← e3]
    exact l.fl y0 h0 (e2.trans yt)
  · obtain ⟨y0, h0, e1, e2, e3⟩ := mem y hy
    rw [← e3]
    exact l.tf y0 h0 (e2.trans yt)

/-! ### law k09, first part: who stands where -/
structure R9 where
  n : Str
  a : Str
  s : Int
  t : Bool
def hv9 (x : R9) : List V := [.str x.n, .str x.a, .int x.s, .bl x.t]
def d9 (x : R9) : List PyData := [.str x.n, .str x.a, .int x.s, .bool x.t]
def wrow (x : R9) : RowS := ⟨x.n, x.s, 0, false⟩
structure K9 (rows : List R9) (h : Hs) : Prop where
  nd : (rows.map (·.n)).Nodup
  nm : ∀ x ∈ rows, isNm (.str x.n) = true ∧ 1 ≤ x.s ∧ x.s ≤ 12
  no : ∀ x ∈ rows, x.n ≠ "other"
  ab : ∀ n a, lk h.ab n = some a ↔ ∃ x ∈ rows, x.n = n ∧ x.a = a
  tm : ∀ n, (∃ W, lk h.wh n = some W) ↔ n = "" ∨ ∃ x ∈ rows, x.n = n ∧ x.t = true
  wl : ∀ t W, lk h.wh t = some W → W.past = 0 ∧ W.rows = (rows.filter fun x => decide (x.a = t)).map wrow
theorem lk_H0 {n : Str} {W : WhS} : lk H0.wh n = some W ↔ n = "" ∧ W = ⟨0, []⟩ := by
  show (if ("" : Str) = n then some (⟨0, []⟩ : WhS) else none) = some W ↔ _
  by_cases q : ("" : Str) = n
  · rw [if_pos q]
    exact ⟨fun z => ⟨q.symm, (Option.some.inj z).symm⟩, fun z => by rw [z.2]⟩
  · rw [if_neg q]
    exact ⟨fun z => (by cases z), fun z => (q z.1.symm).elim⟩
theorem K9.start : K9 [] H0 := by
  refine ⟨List.nodup_nil, fun x hx => (nomatch hx), fun x hx => (nomatch hx), fun n a => ⟨fun z => (by cases z), fun ⟨x, hx, _⟩ => (nomatch hx)⟩, fun n => ⟨fun ⟨W, e⟩ => .inl (lk_H0.mp e).1, fun z => ?_⟩, fun t W e => ?_⟩
  · rcases z with z | ⟨x, hx, _⟩
    · exact ⟨_, lk_H0.mpr ⟨z, rfl⟩⟩
    · exact (nomatch hx)
  · rw [(lk_H0.mp e).2]
    exact ⟨rfl, rfl⟩
theorem r9_one {rows : List R9} (nd : (rows.map (·.n)).Nodup) {x y : R9} (hx : x ∈ rows) (hy : y ∈ rows) (e : x.n = y.n) : x = y := by
  induction rows with
  | nil => exact (nomatch hx)
  | cons z r ih =>
    have nd' := List.nodup_cons.mp nd
    rcases List.mem_cons.mp hx with h1 | hx'
    · rcases List.mem_cons.mp hy with h2 | hy'
      · exact h1.trans h2.symm
      · subst h1
        exact (nd'.1 (List.mem_map.mpr ⟨y, hy', e.symm⟩)).elim
    · rcases List.mem_cons.mp hy with h2 | hy'
      · subst h2
        exact (nd'.1 (List.mem_map.mpr ⟨x, hx', e⟩)).elim
      · exact ih nd'.2 hx' hy'
theorem K9.enter {rows : List R9} {h h' : Hs} {y : R9} {W : WhS} (k : K9 rows h) (o : HOk h) (nmy : isNm (.str y.n) = true ∧ 1 ≤ y.s ∧ y.s ≤ 12) (noy : y.n ≠ "other") (gone : lk h.ab y.n = none) (ea : lk h.wh y.a = some W) (e1 : h'.ab = h.ab ++ [(y.n, y.a)])
    (e2 : lk h'.wh y.a = some (Wm.enter W y.n y.s)) (e3 : ∀ t, t ≠ y.a → t ≠ y.n → lk h'.wh t = lk h.wh t) (e4 : y.t = true → lk h'.wh y.n = some ⟨0, []⟩) (e5 : y.t = false → lk h'.wh y.n = none) : K9 (rows ++ [y]) h' := by
  have nn := nm_ne nmy.1
  have nt := o.no_team gone nn
  have na : y.a ≠ y.n := fun z => by rw [z, nt] at ea; cases ea
  have new : ∀ x ∈ rows, x.n ≠ y.n := fun x hx z => by
    have := (k.ab y.n x.a).mpr ⟨x, hx, z, rfl⟩
    rw [gone] at this
    cases this
  have none_in : ∀ x ∈ rows, x.a ≠ y.n := fun x hx z => by
    have := (k.ab x.n x.a).mpr ⟨x, hx, rfl, rfl⟩
    obtain ⟨U, eU⟩ := o.aw _ _ this
    rw [z, nt] at eU
    cases eU
  refine ⟨?_, fun x hx => ?_, fun x hx => ?_, fun n a => ?_, fun n => ?_, fun t V e => ?_⟩
  · rw [List.map_append]
    refine Wm.nd_snoc k.nd fun z => ?_
    obtain ⟨x, hx, e⟩ := List.mem_map.mp z
    exact new x hx e
  · rcases List.mem_append.mp hx with hx | hx
    · exact k.nm x hx
    · rw [List.mem_singleton.mp hx]
      exact nmy
  · rcases List.mem_append.mp hx with hx | hx
    · exact k.no x hx
    · rw [List.mem_singleton.mp hx]
      exact noy
  · rw [e1]
    by_cases z : n = y.n
    · subst z
      rw [lk_app_new gone]
      constructor
      · intro q
        cases q
        exact ⟨y, List.mem_append.mpr (.inr List.mem_cons_self), rfl, rfl⟩
      · rintro ⟨x, hx, x1, x2⟩
        rcases List.mem_append.mp hx with hx | hx
        · exact (new x hx x1).elim
        · rw [List.mem_singleton.mp hx] at x2
          rw [x2]
    · rw [lk_app_old z]
      refine (k.ab n a).trans ⟨fun ⟨x, hx, q⟩ => ⟨x, List.mem_append.mpr (.inl hx), q⟩, fun ⟨x, hx, x1, x2⟩ => ?_⟩
      rcases List.mem_append.mp hx with hx | hx
      · exact ⟨x, hx, x1, x2⟩
      · rw [List.mem_singleton.mp hx] at x1
        exact (z x1.symm).elim
  · have app : (n = "" ∨ ∃ x ∈ rows ++ [y], x.n = n ∧ x.t = true) ↔ (n = "" ∨ ∃ x ∈ rows, x.n = n ∧ x.t = true) ∨ (y.n = n ∧ y.t = true) := by
      constructor
      · rintro (z | ⟨x, hx, q⟩)
        · exact .inl (.inl z)
        · rcases List.mem_append.mp hx with hx | hx
          · exact .inl (.inr ⟨x, hx, q⟩)
          · rw [List.mem_singleton.mp hx] at q
            exact .inr q
      · rintro ((z | ⟨x, hx, q⟩) | q)
        · exact .inl z
        · exact .inr ⟨x, List.mem_append.mpr (.inl hx), q⟩
        · exact .inr ⟨y, List.mem_append.mpr (.inr List.mem_cons_self), q⟩
    rw [app, ← k.tm n]
    by_cases z : n = y.n
    · subst z
      cases yt : y.t with
      | true => exact ⟨fun _ => .inr ⟨rfl, rfl⟩, fun _ => ⟨_, e4 yt⟩⟩
      | false =>
        rw [e5 yt, nt]
        exact ⟨fun ⟨_, q⟩ => (by cases q), fun q => by
          rcases q with ⟨_, q⟩ | ⟨_, q⟩ <;> cases q⟩
    · by_cases z2 : n = y.a
      · subst z2
        rw [e2, ea]
        exact ⟨fun _ => .inl ⟨_, rfl⟩, fun _ => ⟨_, rfl⟩⟩
      · rw [e3 n z2 z]
        exact ⟨fun q => .inl q, fun q => q.resolve_right fun w => z w.1.symm⟩
  · rw [List.filter_append, List.map_append]
    by_cases z : t = y.n
    · subst z
      have yt : y.t = true := by
        cases q : y.t with
        | true => rfl
        | false => rw [e5 q] at e; cases e
      rw [e4 yt] at e
      cases e
      have f1 : (rows.filter fun x => decide (x.a = y.n)) = [] := List.filter_eq_nil_iff.mpr fun x hx => by rw [decide_eq_false (none_in x hx)]; exact Bool.false_ne_true
      have f2 : ([y].filter fun x => decide (x.a = y.n)) = [] := List.filter_eq_nil_iff.mpr fun x hx => by rw [List.mem_singleton.mp hx, decide_eq_false na]; exact Bool.false_ne_true
      rw [f1, f2]
      exact ⟨rfl, rfl⟩
    · by_cases z2 : t = y.a
      · subst z2
        rw [e2] at e
        cases e
        obtain ⟨p1, p2⟩ := k.wl _ _ ea
        refine ⟨p1, ?_⟩
        show W.rows ++ [_] = _
        rw [p2]
        congr 1
        have f2 : ([y].filter fun x => decide (x.a = y.a)) = [y] := List.filter_eq_self.mpr fun x hx => by
          rw [List.mem_singleton.mp hx]
          exact decide_eq_true rfl
        rw [f2]
        rfl
      · rw [e3 t z2 z] at e
        obtain ⟨p1, p2⟩ := k.wl _ _ e
        refine ⟨p1, ?_⟩
        have f2 : ([y].filter fun x => decide (x.a = t)) = [] := List.filter_eq_nil_iff.mpr fun x hx => by rw [List.mem_singleton.mp hx, decide_eq_false (Ne.symm z2)]; exact Bool.false_ne_true
        rw [f2, p2]
        exact (List.append_nil _).symm
theorem K9.enterH {rows : List R9} {h : Hs} {y : R9} {W : WhS} (k : K9 rows h) (o : HOk h) (nmy : isNm (.str y.n) = true ∧ 1 ≤ y.s ∧ y.s ≤ 12) (noy : y.n ≠ "other") (gone : lk h.ab y.n = none) (ea : lk h.wh y.a = some W) (yt : y.t = false) : K9 (rows ++ [y]) (Mine.enterH h y.n y.a W y.s) := by
  have nt := o.no_team gone (nm_ne nmy.1)
  have na : y.n ≠ y.a := fun z => by rw [← z, nt] at ea; cases ea
  exact k.enter o nmy noy gone ea rfl (lk_pt ea) (fun t h1 _ => lk_pt_ne h1) (fun z => by rw [yt] at z; cases z) fun _ => (lk_pt_ne na).trans nt
theorem K9.enterT {rows : List R9} {h : Hs} {y : R9} {W : WhS} (k : K9 rows h) (o : HOk h) (nmy : isNm (.str y.n) = true ∧ 1 ≤ y.s ∧ y.s ≤ 12) (noy : y.n ≠ "other") (gone : lk h.ab y.n = none) (ea : lk h.wh y.a = some W) (yt : y.t = true) : K9 (rows ++ [y]) (Mine.enterT h y.n y.a W y.s) := by
  have nt := o.no_team gone (nm_ne nmy.1)
  have na : y.n ≠ y.a := fun z => by rw [← z, nt] at ea; cases ea
  exact k.enter o nmy noy gone ea rfl ((lk_app_old na.symm).trans (lk_pt ea)) (fun t h1 h2 => (lk_app_old h2).trans (lk_pt_ne h1)) (fun _ => lk_app_new ((lk_pt_ne na).trans nt)) fun z => by rw [yt] at z; cases z
theorem K9.leave {rows : List R9} {h : Hs} {y : R9} {W : WhS} (k : K9 rows h) (o : HOk h) (hy : y ∈ rows) (ea : lk h.wh y.a = some W) (no : ∀ x ∈ rows, x.a ≠ y.n) : K9 (rows.filter fun x => decide (x.n ≠ y.n)) (leaveN h y.n y.a W) := by
  have e1 := (k.ab y.n y.a).mpr ⟨y, hy, rfl, rfl⟩
  have na := o.ne_above e1
  have ea' : lk (dp h.wh y.n) y.a = some W := (lk_dp_ne na.symm).trans ea
  have mem : ∀ x, x ∈ (rows.filter fun x => decide (x.n ≠ y.n)) ↔ x ∈ rows ∧ x.n ≠ y.n := fun x => by
    rw [List.mem_filter]
    exact ⟨fun z => ⟨z.1, of_decide_eq_true z.2⟩, fun z => ⟨z.1, decide_eq_true z.2⟩⟩
  have whne : ∀ t, t ≠ y.n → ((∃ U, lk (pt (dp h.wh y.n) y.a (Wm.leave W y.n)) t = some U) ↔ ∃ U, lk h.wh t = some U) := fun t ht => by
    by_cases z : t = y.a
    · subst z
      rw [lk_pt ea', ea]
      exact ⟨fun _ => ⟨_, rfl⟩, fun _ => ⟨_, rfl⟩⟩
    · rw [lk_pt_ne z, lk_dp_ne ht]
  have whn : lk (pt (dp h.wh y.n) y.a (Wm.leave W y.n)) y.n = none := (lk_pt_ne na).trans lk_dp
  refine ⟨k.nd.sublist (List.Sublist.map _ List.filter_sublist), fun x hx => k.nm x ((mem x).mp hx).1, fun x hx => k.no x ((mem x).mp hx).1, fun n a => ?_, fun n => ?_, fun t V e => ?_⟩
  · show lk (dp h.ab y.n) n = some a ↔ _
    by_cases z : n = y.n
    · subst z
      rw [lk_dp]
      exact ⟨fun q => (by cases q), fun ⟨x, hx, x1, _⟩ => (((mem x).mp hx).2 x1).elim⟩
    · rw [lk_dp_ne z]
      refine (k.ab n a).trans ⟨fun ⟨x, hx, x1, x2⟩ => ⟨x, (mem x).mpr ⟨hx, fun w => z (x1.symm.trans w)⟩, x1, x2⟩, fun ⟨x, hx, q⟩ => ⟨x, ((mem x).mp hx).1, q⟩⟩
  · show (∃ U, lk (pt (dp h.wh y.n) y.a (Wm.leave W y.n)) n = some U) ↔ _
    by_cases z : n = y.n
    · subst z
      rw [whn]
      refine ⟨fun ⟨_, q⟩ => (by cases q), fun q => ?_⟩
      rcases q with q | ⟨x, hx, x1, _⟩
      · exact (o.ne_top e1 q).elim
      · exact (((mem x).mp hx).2 x1).elim
    · rw [whne n z, k.tm n]
      constructor
      · rintro (q | ⟨x, hx, x1, x2⟩)
        · exact .inl q
        · exact .inr ⟨x, (mem x).mpr ⟨hx, fun w => z (x1.symm.trans w)⟩, x1, x2⟩
      · rintro (q | ⟨x, hx, q⟩)
        · exact .inl q
        · exact .inr ⟨x, ((mem x).mp hx).1, q⟩
  · have e : lk (pt (dp h.wh y.n) y.a (Wm.leave W y.n)) t = some V := e
    have ht : t ≠ y.n := fun z => by rw [z, whn] at e; cases e
    have sw : ((rows.filter fun x => decide (x.n ≠ y.n)).filter fun x => decide (x.a = t)) = (rows.filter fun x => decide (x.a = t)).filter fun x => decide (x.n ≠ y.n) := by
      rw [List.filter_filter, List.filter_filter]
      exact List.filter_congr fun x _ => Bool.and_comm _ _
    rw [sw]
    by_cases z : t = y.a
    · subst z
      rw [lk_pt ea'] at e
      cases e
      obtain ⟨p1, p2⟩ := k.wl _ _ ea
      refine ⟨p1, ?_⟩
      show (W.rows.filter fun x => decide (x.n ≠ y.n)) = _
      rw [p2, List.filter_map]
      rfl
    · rw [lk_pt_ne z, lk_dp_ne ht] at e
      obtain ⟨p1, p2⟩ := k.wl _ _ e
      refine ⟨p1, ?_⟩
      rw [p2]
      congr 1
      refine (List.filter_eq_self.mpr fun x hx => decide_eq_true (show x.n ≠ y.n from fun w => ?_)).symm
      obtain ⟨h1, h2⟩ := List.mem_filter.mp hx
      have := r9_one k.nd h1 hy w
      rw [this] at h2
      exact z (of_decide_eq_true h2).symm
def shr9 (n : Str) (s : Int) (x : R9) : R9 := if x.n = n then { x with s := s } else x
theorem shr9_n {n : Str} {s : Int} (x : R9) : (shr9 n s x).n = x.n := by unfold shr9; split <;> rfl
theorem shr9_a {n : Str} {s : Int} (x : R9) : (shr9 n s x).a = x.a := by unfold shr9; split <;> rfl
theorem shr9_t {n : Str} {s : Int} (x : R9) : (shr9 n s x).t = x.t := by unfold shr9; split <;> rfl
theorem shr9_w {n : Str} {s : Int} (x : R9) : wrow (shr9 n s x) = if (wrow x).n = n then Wm.shared 0 s (wrow x) else wrow x := by
  unfold shr9
  by_cases q : x.n = n
  · rw [if_pos q, if_pos (show (wrow x).n = n from q)]
    rfl
  · rw [if_neg q, if_neg (show ¬ (wrow x).n = n from q)]
theorem K9.share {rows : List R9} {h : Hs} {y : R9} {W : WhS} {s : Int} (k : K9 rows h) (hy : y ∈ rows) (ea : lk h.wh y.a = some W) (s1 : 1 ≤ s) (s2 : s ≤ 12) : K9 (rows.map (shr9 y.n s)) (setW h y.a (Wm.reshare W y.n s)) := by
  have names : (rows.map (shr9 y.n s)).map (·.n) = rows.map (·.n) := by
    rw [List.map_map]
    exact List.map_congr_left fun x _ => shr9_n x
  refine ⟨by rw [names]; exact k.nd, fun x hx => ?_, fun x hx => ?_, fun n a => ?_, fun n => ?_, fun t V e => ?_⟩
  · obtain ⟨z, hz, rfl⟩ := List.mem_map.mp hx
    obtain ⟨q1, q2⟩ := k.nm z hz
    rw [shr9_n]
    refine ⟨q1, ?_⟩
    unfold shr9
    split
    · exact ⟨s1, s2⟩
    · exact q2
  · obtain ⟨z, hz, rfl⟩ := List.mem_map.mp hx
    rw [shr9_n]
    exact k.no z hz
  · refine (k.ab n a).trans ⟨fun ⟨x, hx, x1, x2⟩ => ⟨_, List.mem_map.mpr ⟨x, hx, rfl⟩, (shr9_n x).trans x1, (shr9_a x).trans x2⟩, fun ⟨x, hx, x1, x2⟩ => ?_⟩
    obtain ⟨z, hz, rfl⟩ := List.mem_map.mp hx
    exact ⟨z, hz, (shr9_n z).symm.trans x1, (shr9_a z).symm.trans x2⟩
  · have wh : (∃ U, lk (pt h.wh y.a (Wm.reshare W y.n s)) n = some U) ↔ ∃ U, lk h.wh n = some U := by
      by_cases z : n = y.a
      · subst z
        rw [lk_pt ea, ea]
        exact ⟨fun _ => ⟨_, rfl⟩, fun _ => ⟨_, rfl⟩⟩
      · rw [lk_pt_ne z]
    refine (wh.trans (k.tm n)).trans ⟨fun q => q.imp id fun ⟨x, hx, x1, x2⟩ => ⟨_, List.mem_map.mpr ⟨x, hx, rfl⟩, (shr9_n x).trans x1, (shr9_t x).trans x2⟩, fun q => q.imp id fun ⟨x, hx, x1, x2⟩ => ?_⟩
    obtain ⟨z, hz, rfl⟩ := List.mem_map.mp hx
    exact ⟨z, hz, (shr9_n z).symm.trans x1, (shr9_t z).symm.trans x2⟩
  · have e : lk (pt h.wh y.a (Wm.reshare W y.n s)) t = some V := e
    have sw : ((rows.map (shr9 y.n s)).filter fun x => decide (x.a = t)) = (rows.filter fun x => decide (x.a = t)).map (shr9 y.n s) := by
      rw [List.filter_map]
      congr 1
      exact List.filter_congr fun x _ => by show decide ((shr9 y.n s x).a = t) = _; rw [shr9_a]
    rw [sw, List.map_map]
    by_cases z : t = y.a
    · subst z
      rw [lk_pt ea] at e
      cases e
      obtain ⟨p1, p2⟩ := k.wl _ _ ea
      refine ⟨p1, ?_⟩
      show Wm.upd W.rows y.n (Wm.shared W.past s) = _
      unfold Wm.upd
      rw [p1, p2, List.map_map]
      exact List.map_congr_left fun x _ => (shr9_w x).symm
    · rw [lk_pt_ne z] at e
      obtain ⟨p1, p2⟩ := k.wl _ _ e
      refine ⟨p1, ?_⟩
      rw [p2]
      refine List.map_congr_left fun x hx => ?_
      obtain ⟨h1, h2⟩ := List.mem_filter.mp hx
      show wrow x = wrow (shr9 y.n s x)
      unfold shr9
      rw [if_neg fun w => z ?_]
      have := r9_one k.nd h1 hy w
      rw [this] at h2
      exact (of_decide_eq_true h2).symm
theorem K9.len {rows : List R9} {h : Hs} (k : K9 rows h) (o : HOk h) : h.ab.length ≤ rows.length := by
  have := nodup_sub (keys h.ab) (rows.map (·.n)) o.k1 fun n hn => by
    obtain ⟨a, e⟩ := key_lk hn
    obtain ⟨x, hx, x1, _⟩ := (k.ab n a).mp e
    exact List.mem_map.mpr ⟨x, hx, x1⟩
  unfold keys at this
  rw [List.length_map, List.length_map] at this
  exact this

/-! ### law k09, second part: kinds of names, the words -/
/-- what is asked for as a name -/
inductive Nv (H : Hp) : V → PyData → Prop where
  | str (z : Str) (o : PyData.strOk z = true) : Nv H (.str z) (.str z)
  | int (i : Int) : Nv H (.int i) (.int i)
  | non : Nv H .non .none
  | bl (b : Bool) : Nv H (.bl b) (.bool b)
  | lst {a : Addr} (e : H a = some (.lst [.str "a"])) : Nv H (.ref a) (.list [.str "a"])
theorem Nv.th {H : Hp} {x : V} {d : PyData} (h : Nv H x d) : Th H x := by
  cases h with
  | str z o => exact .str z
  | int i => exact .int i
  | non => exact .non
  | bl b => exact .bl b
  | lst e => exact .lst e
theorem Nv.dp {K : PySem.W.Frag} {H : Hp} {x : V} {d : PyData} (h : Nv H x d) : Dp K H x d := by
  cases h with
  | str z o => exact .str z
  | int i => exact .int i
  | non => exact .non
  | bl b => exact .bl b
  | lst e => exact .lst (SqL.of e) (.cons (.str _) .nil)
theorem Nv.same {H H' : Hp} {x : V} {d : PyData} (h : Nv H x d) (s : Same H H') : Nv H' x d := by
  cases h with
  | str z o => exact .str z o
  | int i => exact .int i
  | non => exact .non
  | bl b => exact .bl b
  | lst e => exact .lst (s _ _ e)
theorem Nv.keep {H H' : Hp} {x : V} {d : PyData} (h : Nv H x d) (s : ∀ b xs, H b = some (.lst xs) → H' b = some (.lst xs)) : Nv H' x d := by
  cases h with
  | str z o => exact .str z o
  | int i => exact .int i
  | non => exact .non
  | bl b => exact .bl b
  | lst e => exact .lst (s _ _ e)
theorem Nv.sm {H : Hp} {x : V} {d : PyData} (h : Nv H x d) : Sm 64 d := by
  cases h with
  | str z o => exact .str _ z
  | int i => exact .int _ i
  | non => exact ⟨rfl, Nat.zero_le _⟩
  | bl b => exact .bl _ b
  | lst e => exact Sm.up (j := 1) (Sm.list fun d hd => by rw [List.mem_singleton.mp hd]; exact .str _ _) (by decide)
theorem Nv.shaped {H : Hp} {x : V} {d : PyData} (h : Nv H x d) : SeqAt.shaped d = true := by
  cases h with
  | str z o =>
    show (PyData.canLay0 (.str z) && _) = true
    simp only [PyData.canLay0, o]
    rfl
  | int i => rfl
  | non => rfl
  | bl b => rfl
  | lst e => decide +kernel
theorem azB_ok {c : Nat} (h : azB c = true) : c < 0x110000 := by
  by_cases z : c < 0x110000
  · exact z
  · have l : ("z" : Str).cps.toList < [c] := by
      rw [show ("z" : Str).cps.toList = [122] by decide +kernel]
      exact List.Lex.rel (by omega)
    unfold azB at h
    rw [decide_eq_true l, Bool.and_comm] at h
    cases h
theorem nm_ok {z : Str} (h : isNm (.str z) = true) : PyData.strOk z = true := by
  have h : (decide (1 ≤ z.length) && decide (z.length ≤ 8) && z.cps.toList.all azB) = true := h
  rw [Bool.and_eq_true] at h
  have h := List.all_eq_true.mp h.2
  unfold PyData.strOk
  rw [← Array.all_toList]
  exact List.all_eq_true.mpr fun c hc => decide_eq_true (azB_ok (h c hc))
theorem Nv.eq {H : Hp} {x : V} {d : PyData} (h : Nv H x d) (z : Str) : PyData.eqv (.str z) d = decide (x = .str z) := by
  cases h with
  | str y _ =>
    have e : decide (V.str y = V.str z) = decide (z = y) := decide_eq_decide.mpr ⟨fun q => by injection q with q; exact q.symm, fun q => by rw [q]⟩
    rw [e]
    simp only [PyData.eqv]
    rfl
  | int i => rw [decide_eq_false (fun q => by cases q)]; rfl
  | non => rw [decide_eq_false (fun q => by cases q)]; rfl
  | bl b => rw [decide_eq_false (fun q => by cases q)]; rfl
  | lst e => rw [decide_eq_false (fun q => by cases q)]; rfl
theorem Nv.eq2 {H : Hp} {x : V} {d : PyData} (h : Nv H x d) (z : Str) : PyData.eqv d (.str z) = decide (x = .str z) := by
  cases h with
  | str y _ =>
    have e : decide (V.str y = V.str z) = decide (y = z) := decide_eq_decide.mpr ⟨fun q => by injection q, fun q => by rw [q]⟩
    rw [e]
    simp only [PyData.eqv]
    rfl
  | int i => rw [decide_eq_false (fun q => by cases q)]; rfl
  | non => rw [decide_eq_false (fun q => by cases q)]; rfl
  | bl b => rw [decide_eq_false (fun q => by cases q)]; rfl
  | lst e => rw [decide_eq_false (fun q => by cases q)]; rfl
theorem strs9 {K : PySem.W.Frag} {H : Hp} : ∀ l : List Str, DpAll K H (l.map V.str) (l.map PyData.str)
  | [] => .nil
  | _ :: l => .cons (.str _) (strs9 l)
theorem strs9_lay : ∀ l : List Str, (∀ n ∈ l, PyData.strOk n = true) → PyData.canLayAll0 (l.map PyData.str) = true
  | [], _ => rfl
  | n :: l, h => by
    show (PyData.canLay0 (.str n) && PyData.canLayAll0 (l.map PyData.str)) = true
    rw [strs9_lay l fun m hm => h m (List.mem_cons_of_mem _ hm), Bool.and_true]
    simp only [PyData.canLay0]
    exact h n List.mem_cons_self
theorem strs9_sm (l : List Str) : Sm 64 (.list (l.map PyData.str)) := Sm.up (j := 1) (Sm.list fun d hd => by
  obtain ⟨y, _, rfl⟩ := List.mem_map.mp hd
  exact .str _ _) (by decide)
theorem strs9_shaped {l : List Str} (h : ∀ n ∈ l, isNm (.str n) = true) : SeqAt.shaped (.list (l.map PyData.str)) = true := by
  show (PyData.canLay0 (.list (l.map PyData.str)) && decide (PyData.depth (.list (l.map PyData.str)) ≤ 64)) = true
  rw [decide_eq_true (strs9_sm l).2, Bool.and_true]
  simp only [PyData.canLay0]
  exact strs9_lay l fun n hn => nm_ok (h n hn)
theorem d9p {K : PySem.W.Frag} {H : Hp} (x : R9) : DpAll K H (hv9 x) (d9 x) := .cons (.str _) (.cons (.str _) (.cons (.int _) (.cons (.bl _) .nil)))
theorem d9_sm (l : List R9) : Sm 64 (.list (l.map fun x => PyData.list (d9 x))) := Sm.up (j := 2) (Sm.list fun d hd => by
  obtain ⟨x, _, rfl⟩ := List.mem_map.mp hd
  refine Sm.list fun d hd => ?_
  unfold d9 at hd
  simp only [List.mem_cons, List.mem_nil_iff, or_false] at hd
  rcases hd with rfl | rfl | rfl | rfl
  · exact .str _ _
  · exact .str _ _
  · exact .int _ _
  · exact .bl _ _) (by decide)
theorem eqv_nil_of {ds : List PyData} : PyData.eqv (.list ds) (.list []) = ds.isEmpty := by
  cases ds with
  | nil => exact eqv_nils
  | cons d ds => exact eqv_cons_nil d ds
theorem any_filter {rows : List R9} {pr : R9 → Bool} : (!((rows.filter pr).map fun x => PyData.list (d9 x)).isEmpty) = rows.any pr := by
  induction rows with
  | nil => rfl
  | cons x r ih =>
    rw [List.any_cons]
    cases e : pr x with
    | true =>
      rw [List.filter_cons_of_pos e]
      rfl
    | false =>
      rw [List.filter_cons_of_neg (by rw [e]; exact Bool.false_ne_true), ih]
      rfl
/-- [row for row in rows if ..], then that list beside an empty one -/
theorem pick9 {K : PySem.W.Frag} {σ : L2.St} {H : Hp} {Q : VK} {lr : Addr} {ts : List Addr} {rows : List R9} {i j : Nat} {tt : TT} {r : L2.R2} (pr : R9 → Bool) (hi : σ[i]? = some (some (.ref lr))) (hj : j < σ.length) (R : Rg hv9 H lr ts rows) (hl : rows.length ≤ 1000)
    (test : ∀ x ∈ rows, ∀ t H', Same H H' → H' t = some (.lst (hv9 x)) → ∀ Y : Bool → Hp → Prop, Y (pr x) H' → tt ((σ.set j none).set j (some (.ref t))) H' Y)
    (q : ∀ H' l1 l2 us, Same H H' → H' l1 = some (.lst (us.map V.ref)) → RGA hv9 H' us (rows.filter pr) → H' l2 = some (.lst []) → r (.ref l1) (.ref l2) H' Q) :
    tOp r (tLc (iList K (tVar i)) (gName j) tt (tVar j) [j]) (tLst tNil) σ H Q := by
  refine ⟨_, hi, lr, rfl, ⟨_, SqL.of R.h⟩, fun D hD => ?_⟩
  refine lc_rf (K := K) pr R hD hl (fun x hx t H' sm ht Y Z hY hZ => ?_) (fun H2 us sm hD2 hus => ?_)
  · show wipe ((σ.set j none).set j (some (.ref t))) [j] = _ ∧ tt ((σ.set j none).set j (some (.ref t))) H' _
    have w : ((σ.set j none).set j (some (V.ref t))).set j none = σ.set j none := by rw [List.set_set, List.set_set]
    refine ⟨w, test x hx t H' sm ht _ ?_⟩
    show if pr x = true then _ else _
    cases e : pr x with
    | true =>
      rw [if_pos rfl]
      exact ⟨_, List.getElem?_set_self (by show j < (σ.set j none).length; rw [List.length_set]; exact hj), hY e⟩
    | false =>
      rw [if_neg Bool.false_ne_true]
      exact hZ e
  · refine ⟨(by show 0 ≤ sizeLine; decide), fun l0 hl0 => ?_⟩
    have s3 := same_upd (o := .lst []) hl0
    exact q _ D l0 us (sm.trans s3) (s3 _ _ hD2) (hus.mono fun _ _ _ e => s3 _ _ e) upd_same
theorem some9 {K : PySem.W.Frag} {σ : L2.St} {H : Hp} {Q : VK} {lr : Addr} {ts : List Addr} {rows : List R9} {i j : Nat} {tt : TT} (pr : R9 → Bool) (hi : σ[i]? = some (some (.ref lr))) (hj : j < σ.length) (R : Rg hv9 H lr ts rows) (hl : rows.length ≤ 1000)
    (test : ∀ x ∈ rows, ∀ t H', Same H H' → H' t = some (.lst (hv9 x)) → ∀ Y : Bool → Hp → Prop, Y (pr x) H' → tt ((σ.set j none).set j (some (.ref t))) H' Y)
    (q : ∀ H', Same H H' → Q (.bl (rows.any pr)) H') : tOp (rNeP K) (tLc (iList K (tVar i)) (gName j) tt (tVar j) [j]) (tLst tNil) σ H Q := by
  refine pick9 pr hi hj R hl test fun H' l1 l2 us sm h1 hu h2 => ⟨_, _, .lst (SqL.of h1) (hu.dp d9p), .lst (SqL.of h2) .nil, (d9_sm _).1, rfl, (d9_sm _).2, ?_⟩
  rw [eqv_nil_of, any_filter]
  exact q H' sm
theorem none9 {K : PySem.W.Frag} {σ : L2.St} {H : Hp} {Q : VK} {lr : Addr} {ts : List Addr} {rows : List R9} {i j : Nat} {tt : TT} (pr : R9 → Bool) (hi : σ[i]? = some (some (.ref lr))) (hj : j < σ.length) (R : Rg hv9 H lr ts rows) (hl : rows.length ≤ 1000)
    (test : ∀ x ∈ rows, ∀ t H', Same H H' → H' t = some (.lst (hv9 x)) → ∀ Y : Bool → Hp → Prop, Y (pr x) H' → tt ((σ.set j none).set j (some (.ref t))) H' Y)
    (q : ∀ H', Same H H' → Q (.bl (!rows.any pr)) H') : tOp (rEqP K) (tLc (iList K (tVar i)) (gName j) tt (tVar j) [j]) (tLst tNil) σ H Q := by
  refine pick9 pr hi hj R hl test fun H' l1 l2 us sm h1 hu h2 => ⟨_, _, .lst (SqL.of h1) (hu.dp d9p), .lst (SqL.of h2) .nil, (d9_sm _).1, rfl, (d9_sm _).2, ?_⟩
  rw [eqv_nil_of]
  have e := q H' sm
  rw [← any_filter (rows := rows) (pr := pr), Bool.not_not] at e
  exact e

/-! ### a def that is handed the error that an except suite holds -/
abbrev SpE := Addr → Value → Option Addr → Sp
/-- such a def's promise: told of the error by its address, class and dict -/
structure FnE (P : Program) (w : World) (K : PySem.W.Frag) (mg : Str → Option Value) (base : Heap) (k : Nat) (f : Addr) (fd : FuncData) (ps : List Str) (sp : SpE) : Prop where
  len : ∀ a c d vs H Q E, sp a c d vs H Q E → vs.length = ps.length
  run : ∀ (A : Around) (frs : List Env) (s : Shared) (H : Hp) (given : Args) (us : List Value) (vs : List V) (Q : VK) (e : Addr × Obj) (c : Value) (d : Option Addr), L2H.RoomH k A → L2H.PinOk frs H s e → Zc c d e.2 → (∃ fs, e.2.data = .fields fs) →
    Env0 P w K mg base A frs s H → BindsTo s fd given (ps.zip us) → Vals vs us → sp e.1 c d vs H Q E0 → codeAny (model P w) A (.call (.ref f) given) (CR (L2.CX P w) frs P w H s Q E0) s
structure DOE (P : Program) (w : World) (K : PySem.W.Frag) (mg : Str → Option Value) (base : Heap) (k : Nat) (x : Str) (ps : List Str) (sp : SpE) : Prop where
  ex : ∃ f fd, mg x = some (.ref f) ∧ PySem.W.keepIn K (.ref f) = true ∧ FnE P w K mg base k f fd ps sp ∧ Binds K fd ps []
theorem okE {P : Program} {w : World} {K : PySem.W.Frag} {mg : Str → Option Value} {base : Heap} {x qual : Str} {st : Stmt} {f : Addr} {fd : FuncData} {N ps : List Str} {k : Nat} {sp : SpE} (F : Fun K x qual st f fd) (S : FnScope N ps (defScope st))
    (len : ∀ a c d vs H Q E, sp a c d vs H Q E → vs.length = ps.length)
    (body : ∀ (cdv : Value) (A : Around) (outer : List Env) (s : Shared) (H : Hp) (vs : List V) (Q : VK) (a : Addr) (oe : Obj) (cls : Value) (d : Option Addr), L2H.RoomH k (A.deeper (envOfC qual (defScope st) s.heap.objs.size f cdv)) → Zc cls d oe → (∃ fs, oe.data = .fields fs) → sp a cls d vs H Q E0 →
      ∃ t, PSs (L2H.cxH (L2.CX P w) P w K mg base N qual (defScope st) f cdv A outer s H E0 (a, oe)).nox (defBody st) t ∧ t ⟨fun _ H' => Q .non H', Q, fun _ _ => False, fun _ _ => False⟩ (start N vs) H) :
    FnE P w K mg base (k + 1) f fd ps sp := by
  obtain ⟨oc, od, kV, doc, pm, an, cdv, ct, osl, rfl, there, code⟩ := F.ex
  refine ⟨len, fun A frs s H given us vs Q e c d room pin hz hf env bound vals want => ?_⟩
  obtain ⟨a, oe⟩ := e
  have inK : K.In s.heap := env.mod.kin.keeps fun b o z => (env.bs b o z).1
  have nolim : s.heap.NoLimit := env.mod.nolimit.keeps fun b o z => (env.bs b o z).1
  refine codeAny_call_function room.depth (inK _ _ there) rfl S.co S.gen rfl (PySem.W.codeRec_of inK code) (bound _ _ _ _ ?_)
  have kinds : ∀ y ∈ ps.zip us, (defScope st).names.lookup y.1 = some .local ∨ ((defScope st).names.lookup y.1 = some .cell ∧ ((cellsFrom (s.heap.objs.size + 1) (defScope st).names []).lookup y.1).isSome = true) := by
    rintro ⟨n, v⟩ hy
    exact (S.par n (List.of_mem_zip hy).1).elim Or.inl fun z => .inr ⟨z, PySem.W.cellsFrom_some _ _ _ (.inl z)⟩
  refine wpAny_newFunctionEnv_cells S.kind kinds ?_
  rintro env' rfl s1 x
  refine ⟨nolim.keeps x.toInCall.keep, codeAny_func ?_⟩
  obtain ⟨t, reads, holds⟩ := body cdv A frs s H vs Q a oe c d (room.deeper _) hz hf want
  refine wpAny_mono (reads.nox.run [] s1 (start N vs) H _ (L2H.inv_startH (CX := L2.CX P w) (E := E0) S pin env (len _ _ _ _ _ _ _ want) vals x) holds) ?_ fun _ _ z => z
  rintro (_ | _ | _ | u) s2 z
  · obtain ⟨σ2, H2, J, q⟩ := z
    exact ⟨V.non, H2, J.os, J.bare, J.base, J.hok, rfl, q⟩
  · exact z.elim fun _ ⟨_, _, q⟩ => q.elim
  · exact z.elim fun _ ⟨_, _, q⟩ => q.elim
  · obtain ⟨v, σ2, H2, J, r, q⟩ := z
    exact ⟨v, H2, J.os, J.bare, J.base, J.hok, r, q⟩
def tCallE (sp : SpE) (a : Addr) (cls : Value) (d : Option Addr) (t : TA) : L2.TE := fun σ H Q => t σ H fun vs H1 => sp a cls d vs H1 Q E0
/-- such a def called in the suite -/
theorem pe_fE {Y : Cx} {a : Addr} {oe : Obj} {pn : List (Addr × Obj)} {cls : Value} {d : Option Addr} {j k : Nat} {x : Str} {ps : List Str} {sp : SpE} {p pos : Pos} {e : Expr} {es : List Expr} {t : TA} (hz : Zc cls d oe) (hf : ∃ vs, oe.data = .fields vs)
    (c : DOE Y.prog Y.w Y.K Y.mg Y.base k x ps sp) (hr : Room j Y.A) (hk : k ≤ j) (hg : Gl (Y.suite a ((a, oe) :: pn)) x) (ha : PA (Y.suite a ((a, oe) :: pn)) (e :: es) t) (hdb : (x == ("__debug__" : Str)) = false := by decide)
    (he : starEach (e :: es) (Y.suite a ((a, oe) :: pn)).env = (false, eval e (Y.suite a ((a, oe) :: pn)).env) :: starEach es (Y.suite a ((a, oe) :: pn)).env := by rfl) (hpl : (backTo pos (starEach es (Y.suite a ((a, oe) :: pn)).env)).any (·.1) = false := by rfl) :
    PE (Y.suite a ((a, oe) :: pn)) (.Call (.Name x p) (e :: es) [] pos) (tCallE sp a cls d t) := by
  obtain ⟨f, fd, named, kept, F, binds⟩ := c.ex
  refine ⟨fun pins s σ H Q I h => wpAny_Call_Name_kw (ld_glob I hg named ?_ hdb)⟩
  refine PySem.W.callWith_K (h₀ := Y.base) I.ok.mod.kin kept (thn (ha.run pos pins s σ H _ I h) ?_) he hpl
  rintro us s1 ⟨vs, H1, J, r, q⟩
  refine ⟨J.kIn, ?_⟩
  have nl : us.length = ps.length := by rw [← r.length]; exact F.len _ _ _ _ _ _ _ q
  have bd := binds s1 us J.kIn (by rw [List.append_nil]; exact nl)
  rw [List.append_nil] at bd
  obtain ⟨p1, p2, p3, p4, p5⟩ := J.pin (a, oe) (List.mem_append_left _ List.mem_cons_self)
  have room : L2H.RoomH k (Y.suite a ((a, oe) :: pn)).A := ⟨(hr.mono hk).dp, (hr.mono hk).un⟩
  refine wpAny_call (codeAny_mono (F.run _ Y.stack s1 H1 ⟨us, []⟩ us vs Q (a, oe) cls d room ⟨p1, p2, fun z => ?_, p5⟩ hz hf J.env0 bd r q) ?_)
  · rcases List.mem_cons.mp (J.stkSub a z) with z | z
    · exact p3 z
    · exact p4 z
  · rintro (err | fl) s2 z
    · exact (passN (X := Y.suite a ((a, oe) :: pn)) σ pins H1 s1 err s2 J z).elim
    · cases fl with
      | ret u => exact J.after z
      | next => exact z.elim
      | brk => exact z.elim
      | cont => exact z.elim
/-- isinstance of an error that is pinned -/
theorem call_isP {X : Cx} {a : Addr} {oe : Obj} {cls : Value} {d : Option Addr} (hp : (a, oe) ∈ X.pn) (hz : Zc cls d oe) (hf : ∃ vs, oe.data = .fields vs) : CallR X (.builtin "isinstance") (rIsA X.K a cls d) := by
  rintro pins s σ H xs us Q I r ⟨D, C, rfl, rfl, c, cv, b, rfl, hcv, ek, q⟩
  obtain ⟨u1, us1, rfl, r1, r2⟩ : ∃ u1 us1, us = u1 :: us1 ∧ RelV (.ref a) u1 ∧ Vals [c] us1 := by
    cases r with
    | cons r1 r2 => exact ⟨_, _, rfl, r1, r2⟩
  obtain ⟨u2, rfl, r3⟩ : ∃ u2, us1 = [u2] ∧ RelV c u2 := by
    cases r2 with
    | cons r3 r4 =>
      cases r4
      exact ⟨_, rfl, r3⟩
  obtain rfl : u1 = Value.ref a := r1
  obtain rfl := hcv _ r3
  have stands := (I.pin (a, oe) (List.mem_append_left _ hp)).1
  obtain ⟨fs, hd⟩ := hf
  have inst : PySem.W.InstAt s.heap a oe D none := by
    obtain ⟨oc, od, oda, osl⟩ := oe
    obtain ⟨z1, z2⟩ := hz
    cases z1
    cases z2
    cases hd
    exact ⟨stands, rfl, rfl, trivial⟩
  refine PySem.W.kia_one (PySem.W.handS_kitx_exc C.hg C.hk C.hs C.hd C.ha C.hn C.ht C.hm) I.kIn inst ek (fun z => nomatch z) fun tk => ?_
  exact ⟨.bl b, H, I.kept (t' := tk) fun _ _ z => z, rfl, q⟩

/-! ### words of a refusal -/
def rp (b : Bool) (x : Str) : List Str := if b = true then [x] else []
theorem rep_rp {b : Bool} {x : Str} : (List.replicate (if b = true then (1 : Int) else 0).toNat [V.str x]).flatten = (rp b x).map V.str := by cases b <;> rfl
theorem rRep_one {H : Hp} {l : Addr} {b : Bool} {x : Str} {Q : VK} (e : H l = some (.lst [V.str x])) (q : ∀ p, H p = none → Q (.ref p) (upd H p (.lst ((rp b x).map V.str)))) : rRep (.ref l) (.int (if b = true then 1 else 0)) H Q :=
  ⟨l, _, _, rfl, rfl, e, by cases b <;> decide +kernel, by cases b <;> decide +kernel, by cases b; exact (by show 1 * 0 ≤ sizeLine; decide); exact (by show 1 * 1 ≤ sizeLine; decide), fun p hp => by rw [rep_rp]; exact q p hp⟩
/-- ["x"] * int(isinstance(error, C)), read -/
theorem piece {K : PySem.W.Frag} {a C : Addr} {x : Str} {c : V} {cv : Value} {b : Bool} {σ : L2.St} {H : Hp} {Q : VK} (h0 : σ[0]? = some (some (.ref a))) (ec : ExcC K C) (hc : ∀ u, RelV c u → u = cv) (k : PySem.W.kitOne K (.ref C) cv = some b)
    (q : ∀ l H', Same H H' → H' l = some (.lst ((rp b x).map V.str)) → Q (.ref l) H') :
    tOp rRep (tLst (tCons (tC (V.str x)) tNil)) (tCB (fun xs H Q => (∃ i, xs = [V.int i] ∧ Q (V.int i) H) ∨ ∃ k, xs = [V.bl k] ∧ Q (V.int (if k = true then 1 else 0)) H) (tCons (tCB (rIsA K a (.ref C) none) (tCons (tVar 0) (tCons (tC c) tNil))) tNil)) σ H Q := by
  refine ⟨(by show 1 ≤ sizeLine; decide), fun l1 hl1 => ⟨_, h0, C, ec, rfl, rfl, _, _, _, rfl, hc, k, .inr ⟨_, rfl, rRep_one upd_same fun p1 hp1 => q p1 _ ((same_upd hl1).trans (same_upd hp1)) upd_same⟩⟩⟩
theorem pieceN {K : PySem.W.Frag} {a C : Addr} {x : Str} {c : V} {cv : Value} {b : Bool} {σ : L2.St} {H : Hp} {Q : VK} (h0 : σ[0]? = some (some (.ref a))) (ec : ExcC K C) (hc : ∀ u, RelV c u → u = cv) (k : PySem.W.kitOne K (.ref C) cv = some b)
    (q : ∀ l H', Same H H' → H' l = some (.lst ((rp (!b) x).map V.str)) → Q (.ref l) H') :
    tOp rRep (tLst (tCons (tC (V.str x)) tNil)) (tCB (fun xs H Q => (∃ i, xs = [V.int i] ∧ Q (V.int i) H) ∨ ∃ k, xs = [V.bl k] ∧ Q (V.int (if k = true then 1 else 0)) H) (tCons (tNotV (tCB (rIsA K a (.ref C) none) (tCons (tVar 0) (tCons (tC c) tNil)))) tNil)) σ H Q := by
  refine ⟨(by show 1 ≤ sizeLine; decide), fun l1 hl1 => ⟨_, h0, C, ec, rfl, rfl, _, _, _, rfl, hc, k, _, rfl, .inr ⟨_, rfl, rRep_one upd_same fun p1 hp1 => q p1 _ ((same_upd hl1).trans (same_upd hp1)) upd_same⟩⟩⟩
theorem catL {H : Hp} {l1 l2 : Addr} {xs ys : List Str} {Q : VK} (e1 : H l1 = some (.lst (xs.map V.str))) (e2 : H l2 = some (.lst (ys.map V.str))) (z : xs.length + ys.length ≤ 1000) (q : ∀ p H', Same H H' → H' p = some (.lst ((xs ++ ys).map V.str)) → Q (.ref p) H') : rCat (.ref l1) (.ref l2) H Q :=
  ⟨l1, l2, _, _, rfl, rfl, e1, e2, by rw [List.length_map, List.length_map]; exact Nat.le_of_lt (small1000 z), fun p hp => q p _ (same_upd hp) (by rw [upd_same, List.map_append])⟩
theorem rp_len (b : Bool) (x : Str) : (rp b x).length ≤ 1 := by
  cases b
  · exact Nat.zero_le _
  · exact Nat.le_refl _
theorem rp_sum (b : Bool) (x : Str) : ((rp b x).map (·.length)).sum ≤ x.length := by
  cases b
  · exact Nat.zero_le _
  · show x.length + 0 ≤ _
    omega

/-! ### law k09, third part: names, shares, what is due -/
def refs9 (b1 b2 b3 b4 b5 b6 b7 b8 b9 b10 : Bool) : List Str := rp b1 "bad name" ++ rp b2 "twice" ++ rp b3 "no team" ++ rp b4 "bad share" ++ rp b5 "no name" ++ rp b6 "not empty" ++ rp b7 "not a hand" ++ rp b8 "count" ++ rp b9 "deed" ++ rp (!b10) "base"
def ref9 (b1 b2 b3 b4 b5 b6 b7 b8 b9 b10 : Bool) : Str := Txt.join "/" (refs9 b1 b2 b3 b4 b5 b6 b7 b8 b9 b10)
def spRef9 (K : PySem.W.Frag) (CD CN CY CT CM CB CA CU CV : Addr) : SpE := fun a cls d vs H Q _ => vs = [.ref a] ∧ ∃ (C : Addr) (b1 b2 b3 b4 b5 b6 b7 b8 b9 b10 : Bool), cls = .ref C ∧ d = none ∧ ExcC K C ∧ PySem.W.kitOne K (.ref C) (.ref CA) = some b1 ∧ PySem.W.kitOne K (.ref C) (.ref CT) = some b2 ∧ PySem.W.kitOne K (.ref C) (.ref CM) = some b3 ∧
  PySem.W.kitOne K (.ref C) (.ref CB) = some b4 ∧ PySem.W.kitOne K (.ref C) (.ref CN) = some b5 ∧ PySem.W.kitOne K (.ref C) (.ref CY) = some b6 ∧ PySem.W.kitOne K (.ref C) (.ref CD) = some b7 ∧ PySem.W.kitOne K (.ref C) (.ref CU) = some b8 ∧ PySem.W.kitOne K (.ref C) (.ref CV) = some b9 ∧ PySem.W.kitOne K (.ref C) (.type "ValueError") = some b10 ∧
  ∀ H', Same H H' → Q (.str (ref9 b1 b2 b3 b4 b5 b6 b7 b8 b9 b10)) H'
theorem ref9_A : ref9 true false false false false false false false false true = "bad name" := by decide +kernel
theorem ref9_T : ref9 false true false false false false false false false true = "twice" := by decide +kernel
theorem ref9_M : ref9 false false true false false false false false false true = "no team" := by decide +kernel
theorem ref9_B : ref9 false false false true false false false false false true = "bad share" := by decide +kernel
theorem ref9_N : ref9 false false false false true false false false false true = "no name" := by decide +kernel
theorem ref9_Y : ref9 false false false false false true false false false true = "not empty" := by decide +kernel
def spShr9 : Sp := fun vs H Q _ => ∃ x, vs = [x] ∧ Th H x ∧ Q (.bl (good x)) H
/-- the nine names -/
structure N9 (H : Hp) (l : Addr) (xs : List V) (five : List Str) : Prop where
  h : H l = some (.lst xs)
  len : xs.length = 9
  fv : xs.take 5 = five.map V.str
  ok : ∀ n ∈ five, isNm (.str n) = true
  no : ∀ n ∈ five, n ≠ "other"
  nv : ∀ x ∈ xs, ∃ d, Nv H x d
  nm : ∀ x ∈ xs, isNm x = true → ∃ n ∈ five, x = .str n
  sz : ∀ z, V.str z ∈ xs → z.length ≤ 40
def spNames9 : Sp := fun vs H Q _ => ∃ c, vs = [.int c] ∧ ∀ H' l xs five, N9 H' l xs five → Same H H' → H l = none → Q (.ref l) H'
/-- what is due -/
def there9 (rows : List R9) (x : V) : Bool := rows.any fun y => decide (x = .str y.n)
def team9 (rows : List R9) (x : V) : Bool := decide (x = .str "") || rows.any fun y => decide (x = .str y.n) && y.t
def in9 (rows : List R9) (x : V) : Bool := rows.any fun y => decide (x = .str y.a)
def due9 (rows : List R9) (kd : Int) (x ab sh : V) : Option Str :=
  if kd < 2 then (if isNm x = false then some "bad name" else if there9 rows x = true then some "twice" else if team9 rows ab = false then some "no team" else if good sh = true then none else some "bad share")
  else if there9 rows x = false then some "no name" else if kd = 2 then (if in9 rows x = false then none else some "not empty") else if good sh = true then none else some "bad share"
def resV (o : Option Str) : V := match o with
  | none => .non
  | some z => .str z
def spDue9 : Sp := fun vs H Q _ => ∃ (lr ln : Addr) (ts : List Addr) (rows : List R9) (xs : List V) (five : List Str) (kd : Int) (x ab sh : V) (dx da : PyData), vs = [.ref lr, .ref ln, .int kd, x, ab, sh] ∧ Rg hv9 H lr ts rows ∧ rows.length ≤ 1000 ∧ N9 H ln xs five ∧ Nv H x dx ∧ Nv H ab da ∧ Th H sh ∧ (kd < 2 → isNm x = true → ∃ n ∈ five, x = .str n) ∧ ∀ H', Same H H' → Q (resV (due9 rows kd x ab sh)) H'
section
variable {P : Program} {w : World} {K : PySem.W.Frag} {mg : Str → Option Value} {base : Heap} {CS CW CB CT CN CH CM CY CA CD CU CE CV Pt : Addr}
theorem sc_L_refusal : FnScope ["_law_error", "_law_found"] ["_law_error"] (defScope s_L_refusal) := ⟨rfl, rfl, rfl, by decide +kernel, rfl, by decide +kernel, by decide +kernel⟩
theorem ok_L_refusal {f : Addr} {fd : FuncData} (F : Fun K "_law_refusal" "_law_refusal" s_L_refusal f fd) (T : WT K mg CS CW CB CT CN) (L : LT mg) (ge_A : mg "BadName" = some (.ref CA)) (ge_D : mg "NotHand" = some (.ref CD)) (ge_M : mg "NoTeam" = some (.ref CM)) (ge_U : mg "BadCount" = some (.ref CU)) (ge_V : mg "NoDeed" = some (.ref CV)) (ge_Y : mg "NotEmpty" = some (.ref CY)) :
    FnE P w K mg base 1 f fd ["_law_error"] (spRef9 K CD CN CY CT CM CB CA CU CV) := by
  refine okE F sc_L_refusal (fun a c d vs H Q E h => ?_) (fun cdv A outer s H vs Q a oe cls d hr hz hf h => ?_)
  · obtain ⟨rfl, _⟩ := h; rfl
  · obtain ⟨rfl, C, b1, b2, b3, b4, b5, b6, b7, b8, b9, b10, rfl, rfl, ec, k1, k2, k3, k4, k5, k6, k7, k8, k9, k10, kk⟩ := h
    refine ⟨_, (pss_cons (ps_set (i := 1) sc_L_refusal.nd rfl (Or.inl rfl) (pe_op op_cat (pe_op op_rep (pe_lst (pa_cons pe_str pa_nil)) (pe_callTy call_int1 (by rfl) L.int PyProof.Rows.boot_int (pa_cons (pe_callB (call_isP List.mem_cons_self hz hf) (by rfl) L.isi boot_isinstance (pa_cons (pv 0) (pa_cons (pe_glob (v := .ref CA) rfl ge_A rfl) pa_nil))) pa_nil))) (pe_op op_rep (pe_lst (pa_cons pe_str pa_nil)) (pe_callTy call_int1 (by rfl) L.int PyProof.Rows.boot_int (pa_cons (pe_callB (call_isP List.mem_cons_self hz hf) (by rfl) L.isi boot_isinstance (pa_cons (pv 0) (pa_cons (pe_glob (v := .ref CT) rfl T.gT rfl) pa_nil))) pa_nil)))))
      (pss_cons (ps_set (i := 1) sc_L_refusal.nd rfl (Or.inl rfl) (pe_op op_cat (pe_op op_cat (pv 1) (pe_op op_rep (pe_lst (pa_cons pe_str pa_nil)) (pe_callTy call_int1 (by rfl) L.int PyProof.Rows.boot_int (pa_cons (pe_callB (call_isP List.mem_cons_self hz hf) (by rfl) L.isi boot_isinstance (pa_cons (pv 0) (pa_cons (pe_glob (v := .ref CM) rfl ge_M rfl) pa_nil))) pa_nil)))) (pe_op op_rep (pe_lst (pa_cons pe_str pa_nil)) (pe_callTy call_int1 (by rfl) L.int PyProof.Rows.boot_int (pa_cons (pe_callB (call_isP List.mem_cons_self hz hf) (by rfl) L.isi boot_isinstance (pa_cons (pv 0) (pa_cons (pe_glob (v := .ref CB) rfl T.gB rfl) pa_nil))) pa_nil)))))
      (pss_cons (ps_set (i := 1) sc_L_refusal.nd rfl (Or.inl rfl) (pe_op op_cat (pe_op op_cat (pv 1) (pe_op op_rep (pe_lst (pa_cons pe_str pa_nil)) (pe_callTy call_int1 (by rfl) L.int PyProof.Rows.boot_int (pa_cons (pe_callB (call_isP List.mem_cons_self hz hf) (by rfl) L.isi boot_isinstance (pa_cons (pv 0) (pa_cons (pe_glob (v := .ref CN) rfl T.gN rfl) pa_nil))) pa_nil)))) (pe_op op_rep (pe_lst (pa_cons pe_str pa_nil)) (pe_callTy call_int1 (by rfl) L.int PyProof.Rows.boot_int (pa_cons (pe_callB (call_isP List.mem_cons_self hz hf) (by rfl) L.isi boot_isinstance (pa_cons (pv 0) (pa_cons (pe_glob (v := .ref CY) rfl ge_Y rfl) pa_nil))) pa_nil)))))
      (pss_cons (ps_set (i := 1) sc_L_refusal.nd rfl (Or.inl rfl) (pe_op op_cat (pe_op op_cat (pv 1) (pe_op op_rep (pe_lst (pa_cons pe_str pa_nil)) (pe_callTy call_int1 (by rfl) L.int PyProof.Rows.boot_int (pa_cons (pe_callB (call_isP List.mem_cons_self hz hf) (by rfl) L.isi boot_isinstance (pa_cons (pv 0) (pa_cons (pe_glob (v := .ref CD) rfl ge_D rfl) pa_nil))) pa_nil)))) (pe_op op_rep (pe_lst (pa_cons pe_str pa_nil)) (pe_callTy call_int1 (by rfl) L.int PyProof.Rows.boot_int (pa_cons (pe_callB (call_isP List.mem_cons_self hz hf) (by rfl) L.isi boot_isinstance (pa_cons (pv 0) (pa_cons (pe_glob (v := .ref CU) rfl ge_U rfl) pa_nil))) pa_nil)))))
      (pss_cons (ps_set (i := 1) sc_L_refusal.nd rfl (Or.inl rfl) (pe_op op_cat (pe_op op_cat (pv 1) (pe_op op_rep (pe_lst (pa_cons pe_str pa_nil)) (pe_callTy call_int1 (by rfl) L.int PyProof.Rows.boot_int (pa_cons (pe_callB (call_isP List.mem_cons_self hz hf) (by rfl) L.isi boot_isinstance (pa_cons (pv 0) (pa_cons (pe_glob (v := .ref CV) rfl ge_V rfl) pa_nil))) pa_nil)))) (pe_op op_rep (pe_lst (pa_cons pe_str pa_nil)) (pe_callTy call_int1 (by rfl) L.int PyProof.Rows.boot_int (pa_cons (pe_not (pe_callB (call_isP List.mem_cons_self hz hf) (by rfl) L.isi boot_isinstance (pa_cons (pv 0) (pa_cons (pe_bltn (v := .ty "ValueError") (by rfl) L.ValueError (by decide +kernel) rfl) pa_nil)))) pa_nil)))))
      (pss_one (ps_ret (pe_join pe_str (pv 1))))))))), ?_⟩
    refine piece (x := "bad name") rfl ec (fun u r => r) k1 fun l1 H1 s1 e1 => ?_
    refine piece (x := "twice") rfl ec (fun u r => r) k2 fun l2 H2 s2 e2 => ?_
    have m1 := rp_len b1 "bad name"
    have m2 := rp_len b2 "twice"
    refine catL (s2 _ _ e1) e2 (by omega) fun p1 H3 s3 e3 => ?_
    have s03 := (s1.trans s2).trans s3
    clear s1 s2 s3 e1 e2
    refine ⟨_, rfl, piece (x := "no team") rfl ec (fun u r => r) k3 fun l1 H1 s1 e1 => ?_⟩
    have m3 := rp_len b3 "no team"
    have m4 := rp_len b4 "bad share"
    refine catL (s1 _ _ e3) e1 (by rw [List.length_append]; omega) fun p2 H4 s4 e4 => ?_
    refine piece (x := "bad share") rfl ec (fun u r => r) k4 fun l2 H2 s2 e2 => ?_
    refine catL (s2 _ _ e4) e2 (by rw [List.length_append, List.length_append]; omega) fun p3 H5 s5 e5 => ?_
    have s05 := (((s03.trans s1).trans s4).trans s2).trans s5
    clear s1 s2 s4 s5 e1 e2 e3 e4
    refine ⟨_, rfl, piece (x := "no name") rfl ec (fun u r => r) k5 fun l1 H1 s1 e1 => ?_⟩
    have m5 := rp_len b5 "no name"
    have m6 := rp_len b6 "not empty"
    refine catL (s1 _ _ e5) e1 (by simp only [List.length_append]; omega) fun p2 H4 s4 e4 => ?_
    refine piece (x := "not empty") rfl ec (fun u r => r) k6 fun l2 H2 s2 e2 => ?_
    refine catL (s2 _ _ e4) e2 (by simp only [List.length_append]; omega) fun p3 H6 s6 e6 => ?_
    have s06 := (((s05.trans s1).trans s4).trans s2).trans s6
    clear s1 s2 s4 s6 e1 e2 e4 e5
    refine ⟨_, rfl, piece (x := "not a hand") rfl ec (fun u r => r) k7 fun l1 H1 s1 e1 => ?_⟩
    have m7 := rp_len b7 "not a hand"
    have m8 := rp_len b8 "count"
    refine catL (s1 _ _ e6) e1 (by simp only [List.length_append]; omega) fun p2 H4 s4 e4 => ?_
    refine piece (x := "count") rfl ec (fun u r => r) k8 fun l2 H2 s2 e2 => ?_
    refine catL (s2 _ _ e4) e2 (by simp only [List.length_append]; omega) fun p3 H7 s7 e7 => ?_
    have s07 := (((s06.trans s1).trans s4).trans s2).trans s7
    clear s1 s2 s4 s7 e1 e2 e4 e6
    refine ⟨_, rfl, piece (x := "deed") rfl ec (fun u r => r) k9 fun l1 H1 s1 e1 => ?_⟩
    have m9 := rp_len b9 "deed"
    have m10 := rp_len (!b10) "base"
    refine catL (s1 _ _ e7) e1 (by simp only [List.length_append]; omega) fun p2 H4 s4 e4 => ?_
    refine pieceN (x := "base") rfl ec (fun u r => (by obtain rfl := r; rfl)) k10 fun l2 H2 s2 e2 => ?_
    refine catL (s2 _ _ e4) e2 (by simp only [List.length_append]; omega) fun p3 H8 s8 e8 => ?_
    have s08 := (((s07.trans s1).trans s4).trans s2).trans s8
    refine ⟨⟨_, rfl⟩, _, rfl, "/", p3, refs9 b1 b2 b3 b4 b5 b6 b7 b8 b9 b10, rfl, rfl, .inl (SqL.of e8), ?_, kk H8 s08⟩
    have w1 := rp_sum b1 "bad name"
    have w2 := rp_sum b2 "twice"
    have w3 := rp_sum b3 "no team"
    have w4 := rp_sum b4 "bad share"
    have w5 := rp_sum b5 "no name"
    have w6 := rp_sum b6 "not empty"
    have w7 := rp_sum b7 "not a hand"
    have w8 := rp_sum b8 "count"
    have w9 := rp_sum b9 "deed"
    have w10 := rp_sum (!b10) "base"
    rw [show ("bad name" : Str).length = 8 by decide +kernel] at w1
    rw [show ("twice" : Str).length = 5 by decide +kernel] at w2
    rw [show ("no team" : Str).length = 7 by decide +kernel] at w3
    rw [show ("bad share" : Str).length = 9 by decide +kernel] at w4
    rw [show ("no name" : Str).length = 7 by decide +kernel] at w5
    rw [show ("not empty" : Str).length = 9 by decide +kernel] at w6
    rw [show ("not a hand" : Str).length = 10 by decide +kernel] at w7
    rw [show ("count" : Str).length = 5 by decide +kernel] at w8
    rw [show ("deed" : Str).length = 4 by decide +kernel] at w9
    rw [show ("base" : Str).length = 4 by decide +kernel] at w10
    unfold refs9
    simp only [List.map_append, List.sum_append, List.length_append]
    rw [show ("/" : Str).length = 1 by decide +kernel]
    omega
theorem sc_L_is_share : FnScope ["_law_share"] ["_law_share"] (defScope s_L_is_share) := ⟨rfl, rfl, rfl, by decide +kernel, rfl, by decide +kernel, by decide +kernel⟩
theorem ok_L_is_share {f : Addr} {fd : FuncData} (F : Fun K "_law_is_share" "_law_is_share" s_L_is_share f fd) (T : WT K mg CS CW CB CT CN) (L : LT mg) :
    FnOk P w K mg base (L2.CX P w) 1 f fd ["_law_share"] spShr9 := by
  refine okN F sc_L_is_share (fun vs H Q E h => ?_) (fun cdv A outer s H vs Q E hr h => ?_)
  · (first | (obtain ⟨_, rfl, _⟩ := h; rfl) | (obtain ⟨_, _, rfl, _⟩ := h; rfl) | (obtain ⟨_, _, _, rfl, _⟩ := h; rfl) | (obtain ⟨_, _, _, _, rfl, _⟩ := h; rfl) | (obtain ⟨_, _, _, _, _, rfl, _⟩ := h; rfl) | (obtain ⟨_, _, _, _, _, _, rfl, _⟩ := h; rfl) | (obtain ⟨_, _, _, _, _, _, _, rfl, _⟩ := h; rfl) | (obtain ⟨_, _, _, _, _, _, _, _, rfl, _⟩ := h; rfl) | (obtain ⟨_, _, _, _, _, _, _, _, _, rfl, _⟩ := h; rfl) | (obtain ⟨_, _, _, _, _, _, _, _, _, _, rfl, _⟩ := h; rfl) | (obtain ⟨_, _, _, _, _, _, _, _, _, _, _, rfl, _⟩ := h; rfl) | (obtain ⟨_, _, _, _, _, _, _, _, _, _, _, _, rfl, _⟩ := h; rfl) | (obtain ⟨_, _, _, _, _, _, _, _, _, _, _, _, _, rfl, _⟩ := h; rfl) | (obtain ⟨_, _, _, _, _, _, _, _, _, _, _, _, _, _, rfl, _⟩ := h; rfl) | (obtain ⟨_, _, _, _, _, _, _, _, _, _, _, _, _, _, _, rfl, _⟩ := h; rfl))
  · obtain ⟨x, rfl, hx, kk⟩ := h
    refine ⟨_, (pss_one (ps_ret (pe_and (pe_callB call_isi (by rfl) L.isi boot_isinstance (pa_cons (pv 0) (pa_cons (pe_bltn (v := .ty "int") (by rfl) L.int PyProof.Rows.boot_int rfl) pa_nil))) (pe_and (pe_not (pe_callB call_isi (by rfl) L.isi boot_isinstance (pa_cons (pv 0) (pa_cons (pe_bltn (v := .ty "bool") (by rfl) L.bool PyProof.Rows.boot_bool rfl) pa_nil)))) (pe_one (pe_chain op_le op_le pe_int (pv 0) pe_int)))))), ?_⟩
    obtain ⟨t, ty, e1, e2, _⟩ := hx.ty (K := K)
    refine ⟨_, rfl, _, _, t, _, _, rfl, .ty _, ty, e1, _, rfl, ?_⟩
    cases hx with
    | int i =>
      refine iteT ⟨_, rfl, _, _, t, _, _, rfl, .ty _, ty, e2, _, rfl, _, rfl, iteT ?_⟩
      refine ⟨_, rfl, _, _, rfl, rfl, _, rfl, ?_⟩
      have eg : good (.int i) = (decide (1 ≤ i) && decide (i ≤ 12)) := rfl
      rw [eg] at kk
      refine ite2 (fun h1 => ⟨_, _, rfl, rfl, ?_⟩) (fun h1 => ?_)
      · rw [h1] at kk
        exact kk
      · rw [Bool.eq_false_iff.mpr h1] at kk
        exact kk
    | bl b => exact iteT ⟨_, rfl, _, _, t, _, _, rfl, .ty _, ty, e2, _, rfl, _, rfl, iteF kk⟩
    | non => exact iteF kk
    | str z => exact iteF kk
    | lst e => exact iteF kk
theorem sc_L_due : FnScope ["_law_rows", "_law_names", "_law_kind", "_law_name", "_law_above", "_law_share", "_law_there", "_law_row"] ["_law_rows", "_law_names", "_law_kind", "_law_name", "_law_above", "_law_share"] (defScope s_L_due) := ⟨rfl, rfl, rfl, by decide +kernel, rfl, by decide +kernel, by decide +kernel⟩
theorem ok_L_due {f : Addr} {fd : FuncData} (F : Fun K "_law_due" "_law_due" s_L_due f fd) (T : WT K mg CS CW CB CT CN) (L : LT mg) (g_is_share : DOk P w K mg base 1 "_law_is_share" ["_law_share"] spShr9) :
    FnOk P w K mg base (L2.CX P w) 2 f fd ["_law_rows", "_law_names", "_law_kind", "_law_name", "_law_above", "_law_share"] spDue9 := by
  refine okN F sc_L_due (fun vs H Q E h => ?_) (fun cdv A outer s H vs Q E hr h => ?_)
  · (first | (obtain ⟨_, rfl, _⟩ := h; rfl) | (obtain ⟨_, _, rfl, _⟩ := h; rfl) | (obtain ⟨_, _, _, rfl, _⟩ := h; rfl) | (obtain ⟨_, _, _, _, rfl, _⟩ := h; rfl) | (obtain ⟨_, _, _, _, _, rfl, _⟩ := h; rfl) | (obtain ⟨_, _, _, _, _, _, rfl, _⟩ := h; rfl) | (obtain ⟨_, _, _, _, _, _, _, rfl, _⟩ := h; rfl) | (obtain ⟨_, _, _, _, _, _, _, _, rfl, _⟩ := h; rfl) | (obtain ⟨_, _, _, _, _, _, _, _, _, rfl, _⟩ := h; rfl) | (obtain ⟨_, _, _, _, _, _, _, _, _, _, rfl, _⟩ := h; rfl) | (obtain ⟨_, _, _, _, _, _, _, _, _, _, _, rfl, _⟩ := h; rfl) | (obtain ⟨_, _, _, _, _, _, _, _, _, _, _, _, rfl, _⟩ := h; rfl) | (obtain ⟨_, _, _, _, _, _, _, _, _, _, _, _, _, rfl, _⟩ := h; rfl) | (obtain ⟨_, _, _, _, _, _, _, _, _, _, _, _, _, _, rfl, _⟩ := h; rfl) | (obtain ⟨_, _, _, _, _, _, _, _, _, _, _, _, _, _, _, rfl, _⟩ := h; rfl))
  · obtain ⟨lr, ln, ts, rows, xs, five, kd, x, ab, sh, dx, da, rfl, R, hl, N, nx, na, ts', hn, kk⟩ := h
    refine ⟨_, (pss_cons (ps_set (i := 6) sc_L_due.nd rfl (Or.inl rfl) (pe_cmpR (op_neP (K0 := K) hr.units) (pe_lc (own := [("_law_row", 7)]) (g := gName 7) rfl sc_L_due.nd (pi_list (pv 0)) (blkOk_by (N := ["_law_rows", "_law_names", "_law_kind", "_law_name", "_law_above", "_law_share", "_law_there", "_law_row"]) (sc := defScope s_L_due) (by decide +kernel)) (fun _ _ _ _ _ => (pg_name (i := 7) sc_L_due.nd rfl (Or.inl rfl))) (fun _ _ _ _ _ => (pts_one (pt_cmpR (op_eqP (K0 := K) hr.units) (pe_ix (ix_listK (K0 := K)) (pv 7) pe_int (fun _ _ => rfl)) (pv 3) (nomark _)))) (fun _ _ _ _ _ => (pv 7))) (pe_lst pa_nil) (nomark _)))
      (pss_cons (ps_if (pt_cmpR op_lt (pv 2) pe_int (nomark _)) (pss_cons (ps_if (pt_cmpR (op_notInDK (K0 := K) (units65 hr)) (pv 3) (pe_slice sl_list (pv 1) po_none (po_some pe_int)) (by rfl)) (pss_one (ps_ret pe_str)) pss_nil)
      (pss_cons (ps_if (pt_val (pv 6)) (pss_one (ps_ret pe_str)) pss_nil)
      (pss_cons (ps_if (PW.pt (pw_and (pt_cmpR (op_neP (K0 := K) hr.units) (pv 4) pe_str (nomark _)) (pw_and1 (pt_cmpR (op_eqP (K0 := K) hr.units) (pe_lc (own := [("_law_row", 7)]) (g := gName 7) rfl sc_L_due.nd (pi_list (pv 0)) (blkOk_by (N := ["_law_rows", "_law_names", "_law_kind", "_law_name", "_law_above", "_law_share", "_law_there", "_law_row"]) (sc := defScope s_L_due) (by decide +kernel)) (fun _ _ _ _ _ => (pg_name (i := 7) sc_L_due.nd rfl (Or.inl rfl))) (fun _ _ _ _ _ => (pts_one (PW.pt (pw_and (pt_cmpR (op_eqP (K0 := K) hr.units) (pe_ix (ix_listK (K0 := K)) (pv 7) pe_int (fun _ _ => rfl)) (pv 4) (nomark _)) (pw_and1 (pt_val (pe_ix (ix_listK (K0 := K)) (pv 7) pe_int (fun _ _ => rfl)))))))) (fun _ _ _ _ _ => (pv 7))) (pe_lst pa_nil) (nomark _))))) (pss_one (ps_ret pe_str)) pss_nil)
      (pss_one (ps_ret (pe_ifExp (pt_val (by exact pe_f g_is_share hr (by decide) (by rfl) (fun σ => passN σ) (pa_cons (pv 5) pa_nil))) pe_non pe_str)))))) pss_nil)
      (pss_cons (ps_if (pt_not (pt_val (pv 6))) (pss_one (ps_ret pe_str)) pss_nil)
      (pss_cons (ps_if (pt_cmpR op_eq (pv 2) pe_int (nomark _)) (pss_one (ps_ret (pe_ifExp (pt_cmpR (op_eqP (K0 := K) hr.units) (pe_lc (own := [("_law_row", 7)]) (g := gName 7) rfl sc_L_due.nd (pi_list (pv 0)) (blkOk_by (N := ["_law_rows", "_law_names", "_law_kind", "_law_name", "_law_above", "_law_share", "_law_there", "_law_row"]) (sc := defScope s_L_due) (by decide +kernel)) (fun _ _ _ _ _ => (pg_name (i := 7) sc_L_due.nd rfl (Or.inl rfl))) (fun _ _ _ _ _ => (pts_one (pt_cmpR (op_eqP (K0 := K) hr.units) (pe_ix (ix_listK (K0 := K)) (pv 7) pe_int (fun _ _ => rfl)) (pv 3) (nomark _)))) (fun _ _ _ _ _ => (pv 7))) (pe_lst pa_nil) (nomark _)) pe_non pe_str))) pss_nil)
      (pss_one (ps_ret (pe_ifExp (pt_val (by exact pe_f g_is_share hr (by decide) (by rfl) (fun σ => passN σ) (pa_cons (pv 5) pa_nil))) pe_non pe_str))))))), ?_⟩
    refine some9 (pr := fun y => decide (x = .str y.n)) rfl (by show 7 < 8; decide) R hl (fun y hy t H' sm ht Y hY => ?_) (fun H1 s1 => ?_)
    · exact ⟨_, rfl, t, _, _, _, rfl, rfl, SqL.of ht, at_of (j := 0) rfl rfl, _, rfl, _, _, .str _, (nx.same sm).dp, rfl, nx.sm.1, Nat.zero_le _, _, rfl, by rw [nx.eq]; exact hY⟩
    obtain ⟨th, eth⟩ : ∃ th, there9 rows x = th := ⟨_, rfl⟩
    rw [show (rows.any fun y => decide (x = V.str y.n)) = th from eth]
    have fin : ∀ (o : Option Str) {H' : Hp}, Same H H' → due9 rows kd x ab sh = o → Q (resV o) H' := fun o {H'} s e => by
      rw [← e]
      exact kk H' s
    refine ⟨_, rfl, _, _, rfl, rfl, _, rfl, ?_⟩
    refine ite2 (fun k2 => ?_) (fun k2 => ?_)
    · have k2 : kd < 2 := of_decide_eq_true k2
      refine ⟨_, rfl, _, rfl, _, rfl, ln, _, rfl, SqL.of (s1 _ _ N.h), fun l5 hl5 => ?_⟩
      have cut : cutV xs none (some 5) = five.map V.str := by
        rw [← N.fv]
        unfold cutV
        rw [N.len]
        rfl
      rw [cut]
      have s5 := same_upd (o := .lst (five.map V.str)) hl5
      have s15 := s1.trans s5
      have hb : (!(five.map PyData.str).any fun z => PyData.eqv z dx) = !isNm x := by
        congr 1
        rw [Bool.eq_iff_iff, List.any_eq_true]
        constructor
        · rintro ⟨d, hd, e⟩
          obtain ⟨n, hn', rfl⟩ := List.mem_map.mp hd
          rw [nx.eq] at e
          rw [of_decide_eq_true e]
          exact N.ok n hn'
        · intro e
          obtain ⟨n, hn', rfl⟩ := hn k2 e
          exact ⟨_, List.mem_map.mpr ⟨n, hn', rfl⟩, by rw [nx.eq]; exact decide_eq_true rfl⟩
      refine ⟨dx, five.map PyData.str, (nx.same s15).dp, .lst (SqL.of upd_same) (strs9 five), nx.shaped, strs9_shaped N.ok, _, rfl, ?_⟩
      rw [hb]
      generalize upd H1 l5 (.lst (five.map V.str)) = H2 at s15 ⊢
      cases en : isNm x with
      | false => exact iteT (fin (some "bad name") s15 (by unfold due9; rw [if_pos k2, if_pos en]))
      | true =>
        have en' : ¬ isNm x = false := fun z => by rw [en] at z; cases z
        refine iteF ⟨_, rfl, th, rfl, ?_⟩
        cases th with
        | true => exact iteT (fin (some "twice") s15 (by unfold due9; rw [if_pos k2, if_neg en', if_pos eth]))
        | false =>
          have eth' : ¬ there9 rows x = true := fun z => by rw [eth] at z; cases z
          refine iteF ?_
          have last : ∀ {H3 : Hp}, Same H H3 → team9 rows ab = true → tRet (tIf (tB (tCallS spShr9 (fun _ => E0) (tCons (tVar 5) tNil))) (tC V.non) (tC (V.str "bad share"))) { nx := fun x H' => Q V.non H', rt := Q } [some (.ref lr), some (.ref ln), some (.int kd), some x, some ab, some sh, some (.bl false), none] H3 := fun {H3} s3 te => by
            have te' : ¬ team9 rows ab = false := fun z => by rw [te] at z; cases z
            refine ⟨_, rfl, nil_app ⟨sh, rfl, ts'.same s3, _, rfl, ?_⟩⟩
            cases eg : good sh with
            | true => exact iteT (fin none s3 (by unfold due9; rw [if_pos k2, if_neg en', if_neg eth', if_neg te', if_pos eg]))
            | false => exact iteF (fin (some "bad share") s3 (by unfold due9; rw [if_pos k2, if_neg en', if_neg eth', if_neg te', if_neg fun z => by rw [eg] at z; cases z]))
          refine ⟨_, rfl, _, _, (na.same s15).dp, .str _, na.sm.1, rfl, na.sm.2, _, rfl, ?_⟩
          rw [na.eq2]
          cases et : decide (ab = V.str "") with
          | true =>
            refine iteF (iteF (last s15 ?_))
            unfold team9
            rw [et]
            rfl
          | false =>
            refine iteT ?_
            refine none9 (pr := fun y => decide (ab = .str y.n) && y.t) rfl (by show 7 < 8; decide) (R.same s15) hl (fun y hy t H' sm ht Y hY => ?_) (fun H3 s3 => ⟨_, rfl, ?_⟩)
            · refine ⟨_, rfl, t, _, _, _, rfl, rfl, SqL.of ht, at_of (j := 0) rfl rfl, _, rfl, _, _, .str _, ((na.same s15).same sm).dp, rfl, na.sm.1, Nat.zero_le _, _, rfl, ?_⟩
              rw [na.eq]
              cases ea : decide (ab = V.str y.n) with
              | true =>
                rw [ea] at hY
                exact iteT ⟨_, rfl, t, _, _, _, rfl, rfl, SqL.of ht, at_of (j := 3) rfl rfl, _, rfl, hY⟩
              | false =>
                rw [ea] at hY
                exact iteF hY
            · have e9 : team9 rows ab = rows.any fun y => decide (ab = .str y.n) && y.t := by
                unfold team9
                rw [et, Bool.false_or]
              rw [← e9]
              cases ek : team9 rows ab with
              | false => exact iteT (fin (some "no team") (s15.trans s3) (by unfold due9; rw [if_pos k2, if_neg en', if_neg eth', if_pos ek]))
              | true => exact iteF (last (s15.trans s3) ek)
    · have k2 : ¬ kd < 2 := fun z => k2 (decide_eq_true z)
      refine ⟨_, rfl, th, rfl, ?_⟩
      cases th with
      | false => exact iteT (fin (some "no name") s1 (by unfold due9; rw [if_neg k2, if_pos eth]))
      | true =>
        have eth' : ¬ there9 rows x = false := fun z => by rw [eth] at z; cases z
        refine iteF ⟨_, rfl, rfl, _, rfl, ?_⟩
        refine ite2 (fun k3 => ?_) (fun k3 => ?_)
        · have k3 : kd = 2 := V.int.inj (of_decide_eq_true k3)
          refine none9 (pr := fun y => decide (x = .str y.a)) rfl (by show 7 < 8; decide) (R.same s1) hl (fun y hy t H' sm ht Y hY => ?_) (fun H3 s3 => ⟨_, rfl, ?_⟩)
          · exact ⟨_, rfl, t, _, _, _, rfl, rfl, SqL.of ht, at_of (j := 1) rfl rfl, _, rfl, _, _, .str _, ((nx.same s1).same sm).dp, rfl, nx.sm.1, Nat.zero_le _, _, rfl, by rw [nx.eq]; exact hY⟩
          · rw [show (rows.any fun y => decide (x = V.str y.a)) = in9 rows x from rfl]
            cases ei : in9 rows x with
            | false => exact iteT (fin none (s1.trans s3) (by unfold due9; rw [if_neg k2, if_neg eth', if_pos k3, if_pos ei]))
            | true => exact iteF (fin (some "not empty") (s1.trans s3) (by unfold due9; rw [if_neg k2, if_neg eth', if_pos k3, if_neg fun z => by rw [ei] at z; cases z]))
        · have k3 : ¬ kd = 2 := fun z => k3 (decide_eq_true (by rw [z]))
          refine ⟨_, rfl, nil_app ⟨sh, rfl, ts'.same s1, _, rfl, ?_⟩⟩
          cases eg : good sh with
          | true => exact iteT (fin none s1 (by unfold due9; rw [if_neg k2, if_neg eth', if_neg k3, if_pos eg]))
          | false => exact iteF (fin (some "bad share") s1 (by unfold due9; rw [if_neg k2, if_neg eth', if_neg k3, if_neg fun z => by rw [eg] at z; cases z]))
end

/-! ### law k09, fourth part: the nine names -/
def sname (c e : Nat) (m : Int) : Str := (⟨#[97 + c]⟩ : Str) ++ Txt.mul (⟨#[97 + e]⟩ : Str) m
theorem sname_codes (c e : Nat) (m : Int) : (sname c e m).cps.toList = (97 + c) :: List.replicate m.toNat (97 + e) := by
  unfold sname
  rw [codes_app, mul_codes, show (⟨#[97 + e]⟩ : Str).cps.toList = [97 + e] from rfl, rep_flat]
  rfl
theorem sname_ok {c e : Nat} {m : Int} (hc : c < 26) (he : e < 26) (hm : m ≤ 7) : isNm (.str (sname c e m)) = true := by
  have len : (sname c e m).length = 1 + m.toNat := by
    rw [← codes_len, sname_codes, List.length_cons, List.length_replicate]
    omega
  show (decide (1 ≤ (sname c e m).length) && decide ((sname c e m).length ≤ 8) && (sname c e m).cps.toList.all azB) = true
  rw [len, decide_eq_true (by omega), decide_eq_true (by omega), sname_codes, List.all_cons, azB_at c hc]
  exact List.all_eq_true.mpr fun z hz => by rw [(List.mem_replicate.mp hz).2]; exact azB_at e he
theorem other_codes : ("other" : Str).cps.toList = [111, 116, 104, 101, 114] := by decide +kernel
theorem hname_no {x y : Int} {c : Nat} : hname x y c ≠ "other" := fun z => by
  have e : (hname x y c).cps.toList = ("other" : Str).cps.toList := by rw [z]
  rw [hname_codes, other_codes] at e
  have l := congrArg List.length e
  have n := congrArg (List.count 111) e
  rw [List.length_append, List.length_append, List.length_replicate, List.length_replicate] at l
  rw [List.count_append, List.count_append, List.count_replicate_self, List.count_replicate_self, show List.count 111 [111, 116, 104, 101, 114] = 1 by decide] at n
  have l : x.toNat + 1 + y.toNat = 5 := l
  omega
theorem sname_no {c e : Nat} {m : Int} : sname c e m ≠ "other" := fun z => by
  have q : (sname c e m).cps.toList = ("other" : Str).cps.toList := by rw [z]
  rw [sname_codes, other_codes] at q
  have l := congrArg List.length q
  rw [List.length_cons, List.length_replicate] at l
  have l : m.toNat + 1 = 5 := l
  rw [show m.toNat = 4 by omega] at q
  have h1 := congrArg (fun l : List Nat => l[1]?) q
  have h2 := congrArg (fun l : List Nat => l[2]?) q
  have h1 : some (97 + e) = some 116 := h1
  have h2 : some (97 + e) = some 104 := h2
  rw [h1] at h2
  cases h2
/-- a name that the law gives -/
def nmN (n : Str) : Prop := isNm (.str n) = true ∧ n ≠ "other"
theorem strOk_app {a b : Str} (h1 : PyData.strOk a = true) (h2 : PyData.strOk b = true) : PyData.strOk (a ++ b) = true := by
  unfold PyData.strOk at *
  rw [← Array.all_toList] at *
  rw [codes_app, List.all_append, h1, h2]
  rfl
theorem slice3 (z : Str) : (∀ c ∈ (Txt.slice z none (some 3)).cps.toList, c ∈ z.cps.toList) ∧ (Txt.slice z none (some 3)).length ≤ z.length := by
  rw [← C8.cutS_slice]
  unfold cutS
  refine ⟨fun c hc => List.mem_of_mem_drop (List.mem_of_mem_take hc), ?_⟩
  rw [← codes_len, ← codes_len]
  show (List.take _ (List.drop _ z.cps.toList)).length ≤ _
  rw [List.length_take, List.length_drop]
  omega
theorem strOk_slice {z : Str} (h : PyData.strOk z = true) : PyData.strOk (Txt.slice z none (some 3)) = true := by
  unfold PyData.strOk at *
  rw [← Array.all_toList] at *
  exact List.all_eq_true.mpr fun c hc => List.all_eq_true.mp h c ((slice3 z).1 c hc)
theorem not_long {a : Str} (h : 1 ≤ a.length) : isNm (.str (a ++ "abcdefgh")) = false := by
  show (decide (1 ≤ (a ++ "abcdefgh").length) && decide ((a ++ "abcdefgh").length ≤ 8) && (a ++ "abcdefgh").cps.toList.all azB) = false
  rw [app_len, show ("abcdefgh" : Str).length = 8 by decide +kernel, decide_eq_false (p := a.length + 8 ≤ 8) (by omega), Bool.and_false, Bool.false_and]
theorem not_great (a : Str) : isNm (.str ("A" ++ a)) = false := by
  show (decide (1 ≤ ("A" ++ a).length) && decide (("A" ++ a).length ≤ 8) && ("A" ++ a).cps.toList.all azB) = false
  rw [codes_app, show ("A" : Str).cps.toList = [65] by decide +kernel, List.all_append, show [65].all azB = false by decide +kernel, Bool.false_and, Bool.and_false]
theorem nm_len1 {n : Str} (h : isNm (.str n) = true) : 1 ≤ n.length ∧ n.length ≤ 8 := by
  have h : (decide (1 ≤ n.length) && decide (n.length ≤ 8) && n.cps.toList.all azB) = true := h
  rw [Bool.and_eq_true, Bool.and_eq_true] at h
  exact ⟨of_decide_eq_true h.1.1, of_decide_eq_true h.1.2⟩
def words9 : List Str := ["deal", "wake", "rest", "leave", "share", "team", "hand", "nobody", "yes", "no", "done", "twice"]
theorem words9_ok : ∀ i < 12, ∃ n, words9[i]? = some n ∧ nmN n := by
  intro i hi
  have all : words9.all (fun n => isNm (.str n) && !decide (n = "other")) = true := by decide +kernel
  have hl : i < words9.length := hi
  have q := List.all_eq_true.mp all _ (List.getElem_mem hl)
  rw [Bool.and_eq_true] at q
  refine ⟨words9[i], List.getElem?_eq_getElem hl, q.1, fun z => ?_⟩
  have q2 := q.2
  rw [decide_eq_true z] at q2
  cases q2
theorem n9_of {H : Hp} {l : Addr} {five : List Str} {v : V} {d : PyData} (h5 : five.length = 5) (ok : ∀ n ∈ five, nmN n) {n0 n1 : Str} (e0 : five[0]? = some n0) (e1 : five[1]? = some n1) (hv : Nv H v d) (nv : isNm v = false) (sv : ∀ z, v = .str z → z.length ≤ 40)
    (h : H l = some (.lst (five.map V.str ++ [V.str "", V.str (n0 ++ "abcdefgh"), V.str ("A" ++ Txt.slice n1 none (some 3)), v]))) : N9 H l (five.map V.str ++ [V.str "", V.str (n0 ++ "abcdefgh"), V.str ("A" ++ Txt.slice n1 none (some 3)), v]) five := by
  have k0 := (ok n0 (List.mem_of_getElem? e0)).1
  have k1 := (ok n1 (List.mem_of_getElem? e1)).1
  have mem : ∀ x ∈ five.map V.str ++ [V.str "", V.str (n0 ++ "abcdefgh"), V.str ("A" ++ Txt.slice n1 none (some 3)), v], (∃ n ∈ five, x = V.str n) ∨ x = V.str "" ∨ x = V.str (n0 ++ "abcdefgh") ∨ x = V.str ("A" ++ Txt.slice n1 none (some 3)) ∨ x = v := fun x hx => by
    rcases List.mem_append.mp hx with hx | hx
    · obtain ⟨n, hn, e⟩ := List.mem_map.mp hx
      exact .inl ⟨n, hn, e.symm⟩
    · simp only [List.mem_cons, List.mem_nil_iff, or_false] at hx
      exact .inr hx
  refine ⟨h, by rw [List.length_append, List.length_map, h5]; rfl, ?_, fun n hn => (ok n hn).1, fun n hn => (ok n hn).2, fun x hx => ?_, fun x hx nx => ?_, fun z hz => ?_⟩
  · rw [List.take_append_of_le_length (by rw [List.length_map, h5]; exact Nat.le_refl _), List.take_of_length_le (by rw [List.length_map, h5]; exact Nat.le_refl _)]
  · rcases mem x hx with ⟨n, hn, rfl⟩ | rfl | rfl | rfl | rfl
    · exact ⟨_, .str n (nm_ok (ok n hn).1)⟩
    · exact ⟨_, .str _ (by decide +kernel)⟩
    · exact ⟨_, .str _ (strOk_app (nm_ok k0) (by decide +kernel))⟩
    · exact ⟨_, .str _ (strOk_app (by decide +kernel) (strOk_slice (nm_ok k1)))⟩
    · exact ⟨_, hv⟩
  · rcases mem x hx with q | rfl | rfl | rfl | rfl
    · exact q
    · cases nx
    · rw [not_long (nm_len1 k0).1] at nx
      cases nx
    · rw [not_great] at nx
      cases nx
    · rw [nv] at nx
      cases nx
  · have l0 := nm_len1 k0
    have l1 := nm_len1 k1
    rcases mem _ hz with ⟨n, hn, q⟩ | q | q | q | q
    · cases q
      have := (nm_len1 (ok _ hn).1).2
      omega
    · cases q
      decide +kernel
    · cases q
      rw [app_len, show ("abcdefgh" : Str).length = 8 by decide +kernel]
      omega
    · cases q
      rw [app_len, show ("A" : Str).length = 1 by decide +kernel]
      have := (slice3 n1).2
      omega
    · exact sv z q.symm
section
variable {P : Program} {w : World} {K : PySem.W.Frag} {mg : Str → Option Value} {base : Heap} {CS CW CB CT CN CH CM CY CA CD CU CE CV Pt : Addr}
theorem sc_L_names_by : FnScope ["_law_cell", "_law_some", "_law_words", "_law_names", "_law_k", "_law_one"] ["_law_cell"] (defScope s_L_names_by) := ⟨rfl, rfl, rfl, by decide +kernel, rfl, by decide +kernel, by decide +kernel⟩
theorem ok_L_names_by {f : Addr} {fd : FuncData} (F : Fun K "_law_names_by" "_law_names_by" s_L_names_by f fd) (T : WT K mg CS CW CB CT CN) (L : LT mg) :
    FnOk P w K mg base (L2.CX P w) 1 f fd ["_law_cell"] spNames9 := by
  refine okN F sc_L_names_by (fun vs H Q E h => ?_) (fun cdv A outer s H vs Q E hr h => ?_)
  · (first | (obtain ⟨_, rfl, _⟩ := h; rfl) | (obtain ⟨_, _, rfl, _⟩ := h; rfl) | (obtain ⟨_, _, _, rfl, _⟩ := h; rfl) | (obtain ⟨_, _, _, _, rfl, _⟩ := h; rfl) | (obtain ⟨_, _, _, _, _, rfl, _⟩ := h; rfl) | (obtain ⟨_, _, _, _, _, _, rfl, _⟩ := h; rfl) | (obtain ⟨_, _, _, _, _, _, _, rfl, _⟩ := h; rfl) | (obtain ⟨_, _, _, _, _, _, _, _, rfl, _⟩ := h; rfl) | (obtain ⟨_, _, _, _, _, _, _, _, _, rfl, _⟩ := h; rfl) | (obtain ⟨_, _, _, _, _, _, _, _, _, _, rfl, _⟩ := h; rfl) | (obtain ⟨_, _, _, _, _, _, _, _, _, _, _, rfl, _⟩ := h; rfl) | (obtain ⟨_, _, _, _, _, _, _, _, _, _, _, _, rfl, _⟩ := h; rfl) | (obtain ⟨_, _, _, _, _, _, _, _, _, _, _, _, _, rfl, _⟩ := h; rfl) | (obtain ⟨_, _, _, _, _, _, _, _, _, _, _, _, _, _, rfl, _⟩ := h; rfl) | (obtain ⟨_, _, _, _, _, _, _, _, _, _, _, _, _, _, _, rfl, _⟩ := h; rfl))
  · obtain ⟨c, rfl, kk⟩ := h
    refine ⟨_, (pss_cons (ps_set (i := 1) sc_L_names_by.nd rfl (Or.inl rfl) pe_str)
      (pss_cons (ps_set (i := 2) sc_L_names_by.nd rfl (Or.inl rfl) (pe_lst (pa_cons pe_str (pa_cons pe_str (pa_cons pe_str (pa_cons pe_str (pa_cons pe_str (pa_cons pe_str (pa_cons pe_str (pa_cons pe_str (pa_cons pe_str (pa_cons pe_str (pa_cons pe_str (pa_cons pe_str pa_nil))))))))))))))
      (pss_cons (ps_set (i := 3) sc_L_names_by.nd rfl (Or.inl rfl) (pe_lst pa_nil))
      (C8.pss_cut (ps_for PassesOwn.never rfl (pi_range1 rfl L.range (pa_cons (pe_op op_mul pe_int (pe_callTy call_int1 (by rfl) L.int PyProof.Rows.boot_int (pa_cons (pe_cmpR op_eq (pe_op op_mod (pe_op op_fdiv (pv 0) pe_int) pe_int) pe_int (nomark _)) pa_nil))) pa_nil)) (pg_name (i := 4) sc_L_names_by.nd rfl (Or.inl rfl))
        (pss_one (ps_expr (by exact pe_app (K0 := K) (pv 3) (pe_ix (ix_listK (K0 := K)) (pv 2) (pe_op op_mod (pe_op op_add (pv 0) (pe_op op_mul pe_int (pv 4))) pe_int) (fun _ _ => rfl))))))
      (C8.pss_cut (ps_for PassesOwn.never rfl (pi_range1 rfl L.range (pa_cons (pe_op op_sub pe_int (pe_callB call_len_seq (by rfl) L.len PySem.boot_len (pa_cons (pv 3) pa_nil))) pa_nil)) (pg_name (i := 4) sc_L_names_by.nd rfl (Or.inl rfl))
        (pss_cons (ps_set (i := 5) sc_L_names_by.nd rfl (Or.inl rfl) (pe_ix ix_str (pv 1) (pe_op op_mod (pe_op op_add (pv 0) (pe_op op_mul pe_int (pv 4))) pe_int) (fun _ _ => rfl)))
      (pss_one (ps_if (pt_cmpR op_eq (pe_op op_mod (pe_op op_fdiv (pv 0) pe_int) pe_int) pe_int (nomark _)) (pss_one (ps_expr (by exact pe_app (K0 := K) (pv 3) (pe_op op_add_str (pe_op op_add_str (pe_op op_mul_str pe_str (pe_op op_mod (pe_op op_fdiv (pv 0) pe_int) pe_int)) (pv 5)) (pe_op op_mul_str pe_str (pe_op op_mod (pe_op op_fdiv (pv 0) pe_int) pe_int)))))) (pss_one (ps_expr (by exact pe_app (K0 := K) (pv 3) (pe_op op_add_str (pv 5) (pe_op op_mul_str (pe_ix ix_str (pv 1) (pe_op op_mod (pe_op op_add (pe_op op_fdiv (pv 0) pe_int) (pv 4)) pe_int) (fun _ _ => rfl)) (pe_op op_add (pv 4) (pe_op op_fdiv (pv 4) pe_int)))))))))))
      (pss_one (ps_ret (pe_op op_cat (pv 3) (pe_lst (pa_cons pe_str (pa_cons (pe_op op_add_str (pe_ix (ix_listK (K0 := K)) (pv 3) pe_int (fun _ _ => rfl)) pe_str) (pa_cons (pe_op op_add_str pe_str (pe_slice C8.sl_txt (pe_ix (ix_listK (K0 := K)) (pv 3) pe_int (fun _ _ => rfl)) po_none (po_some pe_int))) (pa_cons (pe_ix (ix_listK (K0 := K)) (pe_lst (pa_cons pe_int (pa_cons pe_non (pa_cons (pe_lst (pa_cons pe_str pa_nil)) (pa_cons pe_bl pa_nil))))) (pe_op op_mod (pe_op op_fdiv (pv 0) pe_int) pe_int) (fun _ _ => rfl)) pa_nil))))))))))))), ?_⟩
    refine ⟨(by show 12 ≤ sizeLine; decide), fun lw hlw => ?_⟩
    have sw := same_upd (o := .lst [V.str "deal", V.str "wake", V.str "rest", V.str "leave", V.str "share", V.str "team", V.str "hand", V.str "nobody", V.str "yes", V.str "no", V.str "done", V.str "twice"]) hlw
    have ew : upd H lw (.lst [V.str "deal", V.str "wake", V.str "rest", V.str "leave", V.str "share", V.str "team", V.str "hand", V.str "nobody", V.str "yes", V.str "no", V.str "done", V.str "twice"]) lw = some (.lst (words9.map V.str)) := upd_same
    generalize upd H lw (.lst [V.str "deal", V.str "wake", V.str "rest", V.str "leave", V.str "share", V.str "team", V.str "hand", V.str "nobody", V.str "yes", V.str "no", V.str "done", V.str "twice"]) = H1 at sw ew ⊢
    refine ⟨(by show 0 ≤ sizeLine; decide), fun ln hln => ?_⟩
    have s1 := same_upd (o := .lst []) hln
    have e1 : upd H1 ln (.lst []) ln = some (.lst (([] : List Str).map V.str)) := upd_same
    have ew1 := s1 _ _ ew
    have lnH : H ln = none := by
      cases q : H ln with
      | none => rfl
      | some o => rw [sw _ _ q] at hln; cases hln
    have nlw : lw ≠ ln := ne_of_none ew hln
    have s01 := sw.trans s1
    generalize upd H1 ln (.lst []) = H2 at s01 e1 ew1 ⊢
    have app : ∀ {Hx : Hp} {l : List Str} {n : Str}, (∀ b o, b ≠ ln → H2 b = some o → Hx b = some o) → ∀ b o, b ≠ ln → H2 b = some o → (upd Hx ln (.lst (l.map V.str ++ [V.str n]))) b = some o := fun k b o ne e => by
      rw [upd_ne ne]
      exact k b o ne e
    have new : ∀ {Hx : Hp} {l : List Str} {n : Str}, upd Hx ln (.lst (l.map V.str ++ [V.str n])) ln = some (.lst ((l ++ [n]).map V.str)) := fun {Hx l n} => by rw [upd_same, List.map_append]; rfl
    have ok1 : ∀ {l : List Str} {n : Str}, (∀ m ∈ l, nmN m) → nmN n → ∀ m ∈ l ++ [n], nmN m := fun h1 h2 m hm => by
      rcases List.mem_append.mp hm with hm | hm
      · exact h1 m hm
      · rw [List.mem_singleton.mp hm]; exact h2
    refine ⟨fun σ' H' => ∃ (l : List Str) (v4 v5 : Option V), σ' = [some (.int c), some (.str az), some (.ref lw), some (.ref ln), v4, v5] ∧ H' ln = some (.lst (l.map V.str)) ∧ (l.length = 0 ∨ l.length = 5) ∧ (∀ n ∈ l, nmN n) ∧ ∀ b o, b ≠ ln → H2 b = some o → H' b = some o, ?_, ?_⟩
    · obtain ⟨n, hn, hn2⟩ : ∃ n : Nat, 5 * (if decide (V.int (c / 2704 % 4) = V.int 1) = true then 1 else 0) = (n : Int) ∧ (n = 0 ∨ n = 5) := by
        refine ⟨(5 * (if decide (V.int (c / 2704 % 4) = V.int 1) = true then (1 : Int) else 0)).toNat, ?_, ?_⟩ <;> split <;> omega
      refine ⟨_, rfl, _, _, rfl, rfl, ⟨by decide, by decide⟩, _, _, rfl, rfl, (by show (0 : Int) < 4; decide), rfl, .inr ⟨_, rfl, _, _, rfl, rfl, .inl ⟨by decide, by decide⟩, ?_⟩⟩
      refine nil_app ?_
      refine ⟨5 * (if decide (V.int (c / 2704 % 4) = V.int 1) = true then 1 else 0), rfl, by rw [hn]; omega, by rw [hn]; omega, for_range (lo := 0) (n := (5 * (if decide (V.int (c / 2704 % 4) = V.int 1) = true then (1 : Int) else 0)).toNat) (fun i σ H' => ∃ (l : List Str) (v4 : Option V), σ = [some (.int c), some (.str az), some (.ref lw), some (.ref ln), v4, none] ∧ H' ln = some (.lst (l.map V.str)) ∧ l.length = i ∧ (∀ n ∈ l, nmN n) ∧ ∀ b o, b ≠ ln → H2 b = some o → H' b = some o) ⟨[], none, rfl, e1, rfl, fun n hn => (nomatch hn), fun _ _ _ e => e⟩ ?_ ?_⟩
      · rintro i σ H' hi ⟨l, v4, rfl, hl, len, ok, kp⟩
        rw [hn] at hi
        have hi : i < n := hi
        obtain ⟨j, hj, hj2⟩ : ∃ j : Nat, (c + 5 * ((0 : Int) + (i : Int))) % 12 = (j : Int) ∧ j < 12 := ⟨((c + 5 * ((0 : Int) + (i : Int))) % 12).toNat, by omega, by omega⟩
        obtain ⟨nm, w1, w2⟩ := words9_ok j hj2
        refine ⟨_, rfl, .inl ⟨rfl, _, SqL.of hl⟩, _, rfl, _, rfl, _, rfl, _, _, rfl, rfl, .inl ⟨by decide, by decide⟩, _, _, rfl, rfl, _, _, rfl, rfl, (by show (0 : Int) < 12; decide), lw, _, _, _, rfl, rfl, SqL.of (kp _ _ nlw ew1), at_of hj (at_map _ w1), ln, _, _, rfl, rfl, hl, by rw [List.length_map]; exact small1000 (by omega), ?_⟩
        exact ⟨l ++ [nm], _, rfl, new, by rw [List.length_append, len]; rfl, ok1 ok w2, app kp⟩
      · rintro σ H' ⟨l, v4, rfl, hl, len, ok, kp⟩
        rw [hn] at len
        have len : l.length = n := len
        exact ⟨l, v4, none, rfl, hl, by omega, ok, kp⟩
    rintro σ' H3 ⟨l0, v4, v5, rfl, hl0, len0, ok0, kp0⟩
    refine ⟨fun σ' H' => ∃ (l : List Str) (v4 v5 : Option V), σ' = [some (.int c), some (.str az), some (.ref lw), some (.ref ln), v4, v5] ∧ H' ln = some (.lst (l.map V.str)) ∧ l.length = 5 ∧ (∀ n ∈ l, nmN n) ∧ ∀ b o, b ≠ ln → H2 b = some o → H' b = some o, ?_, ?_⟩
    · obtain ⟨n, hn, hn2⟩ : ∃ n : Nat, 5 - ((l0.map V.str).length : Int) = (n : Int) ∧ l0.length + n = 5 := by
        rw [List.length_map]
        exact ⟨5 - l0.length, by omega, by omega⟩
      refine ⟨_, rfl, ln, _, rfl, .inl (SqL.of hl0), _, _, rfl, rfl, ?_⟩
      refine nil_app ?_
      refine ⟨5 - ((l0.map V.str).length : Int), rfl, by rw [hn]; omega, by rw [hn]; omega, for_range (lo := 0) (n := (5 - ((l0.map V.str).length : Int)).toNat) (fun i σ H' => ∃ (l : List Str) (v4 v5 : Option V), σ = [some (.int c), some (.str az), some (.ref lw), some (.ref ln), v4, v5] ∧ H' ln = some (.lst (l.map V.str)) ∧ l.length = l0.length + i ∧ (∀ n ∈ l, nmN n) ∧ ∀ b o, b ≠ ln → H2 b = some o → H' b = some o) ⟨l0, v4, v5, rfl, hl0, rfl, ok0, kp0⟩ ?_ ?_⟩
      · rintro i σ H' hi ⟨l, v4, v5, rfl, hl, len, ok, kp⟩
        rw [hn] at hi
        have hi : i < n := hi
        obtain ⟨e, he, he2⟩ : ∃ e : Nat, (c + 5 * ((0 : Int) + (i : Int))) % 26 = (e : Int) ∧ e < 26 := ⟨((c + 5 * ((0 : Int) + (i : Int))) % 26).toNat, by omega, by omega⟩
        obtain ⟨f, hf, hf2⟩ : ∃ f : Nat, (c / 26 + ((0 : Int) + (i : Int))) % 26 = (f : Int) ∧ f < 26 := ⟨((c / 26 + ((0 : Int) + (i : Int))) % 26).toNat, by omega, by omega⟩
        have lo : ("o" : Str).length = 1 := by decide +kernel
        refine ⟨_, rfl, _, rfl, _, rfl, _, _, rfl, rfl, .inl ⟨by decide, by decide⟩, _, _, rfl, rfl, _, _, rfl, rfl, (by show (0 : Int) < 26; decide), az, _, 97 + e, rfl, rfl, (by decide +kernel), (by rw [he]; exact atI_nat (az_at e he2)), ?_⟩
        refine ⟨_, rfl, _, _, rfl, rfl, ⟨by decide, by decide⟩, _, _, rfl, rfl, (by show (0 : Int) < 2; decide), rfl, _, rfl, ?_⟩
        refine ite2 (fun _ => ?_) (fun _ => ?_)
        · refine ⟨_, rfl, .inl ⟨rfl, _, SqL.of hl⟩, _, rfl, _, _, rfl, rfl, ⟨by decide, by decide⟩, _, _, rfl, rfl, (by show (0 : Int) < 5; decide), _, _, rfl, rfl, (by rw [lo]; decide), (by omega), (by omega), _, rfl, _, _, rfl, rfl, ?_, _, rfl, _, _, rfl, rfl, ⟨by decide, by decide⟩, _, _, rfl, rfl, (by show (0 : Int) < 4; decide), _, _, rfl, rfl, (by rw [lo]; decide), (by omega), (by omega), _, _, rfl, rfl, ?_, ln, _, _, rfl, rfl, hl, by rw [List.length_map]; exact small1000 (by omega), ?_⟩
          · show (Txt.mul "o" (c / 52 % 5)).length + 1 ≤ sizeLine
            rw [mul_o_len]
            exact Nat.le_of_lt (small1000 (by omega))
          · rw [app_len, mul_o_len, mul_o_len, sgn1]
            exact Nat.le_of_lt (small1000 (by omega))
          · exact ⟨l ++ [hname (c / 52 % 5) (c / 260 % 4) e], _, _, rfl, new, by rw [List.length_append, len]; rfl, ok1 ok ⟨hname_ok (by omega) (by omega) he2, hname_no⟩, app kp⟩
        · have fl : (⟨#[97 + f]⟩ : Str).length = 1 := rfl
          refine ⟨_, rfl, .inl ⟨rfl, _, SqL.of hl⟩, _, rfl, _, rfl, _, rfl, _, _, rfl, rfl, ⟨by decide, by decide⟩, _, rfl, _, _, rfl, rfl, _, _, rfl, rfl, (by show (0 : Int) < 26; decide), az, _, 97 + f, rfl, rfl, (by decide +kernel), (by rw [hf]; exact atI_nat (az_at f hf2)), _, rfl, _, rfl, _, _, rfl, rfl, ⟨by decide, by decide⟩, _, _, rfl, rfl, _, _, rfl, rfl, (by rw [fl]; decide), (by omega), (by omega), _, _, rfl, rfl, ?_, ln, _, _, rfl, rfl, hl, by rw [List.length_map]; exact small1000 (by omega), ?_⟩
          · show 1 + (Txt.mul (⟨#[97 + f]⟩ : Str) _).length ≤ sizeLine
            rw [← codes_len, mul_codes, show (⟨#[97 + f]⟩ : Str).cps.toList = [97 + f] from rfl, rep_flat, List.length_replicate]
            exact Nat.le_of_lt (small1000 (by omega))
          · exact ⟨l ++ [sname e f (0 + (i : Int) + (0 + (i : Int)) / 2)], _, _, rfl, new, by rw [List.length_append, len]; rfl, ok1 ok ⟨sname_ok he2 hf2 (by omega), sname_no⟩, app kp⟩
      · rintro σ H' ⟨l, v4, v5, rfl, hl, len, ok, kp⟩
        rw [hn] at len
        have len : l.length = l0.length + n := len
        exact ⟨l, v4, v5, rfl, hl, by omega, ok, kp⟩
    rintro σ' H4 ⟨l, v4, v5, rfl, hl, len, ok, kp⟩
    clear hl0 ok0 kp0 len0
    obtain ⟨n0, hn0⟩ : ∃ n0, l[0]? = some n0 := ⟨_, List.getElem?_eq_getElem (by omega)⟩
    obtain ⟨n1, hn1⟩ : ∃ n1, l[1]? = some n1 := ⟨_, List.getElem?_eq_getElem (by omega)⟩
    have k0 := nm_len1 (ok n0 (List.mem_of_getElem? hn0)).1
    have k1 := nm_len1 (ok n1 (List.mem_of_getElem? hn1)).1
    refine ⟨_, rfl, _, rfl, ln, _, _, _, rfl, rfl, SqL.of hl, at_of (j := 0) rfl (at_map _ hn0), _, _, rfl, rfl, ?_, ?_⟩
    · rw [show ("abcdefgh" : Str).length = 8 by decide +kernel]
      exact Nat.le_of_lt (small1000 (by omega))
    refine ⟨_, rfl, ln, _, _, _, rfl, rfl, SqL.of hl, at_of (j := 1) rfl (at_map _ hn1), ?_⟩
    have sl := (slice3 n1).2
    refine ⟨_, rfl, _, rfl, Nat.le_of_lt (small1000 (by omega)), _, _, rfl, rfl, ?_, ?_⟩
    · rw [show ("A" : Str).length = 1 by decide +kernel]
      exact Nat.le_of_lt (small1000 (by omega))
    refine ⟨(by show 1 ≤ sizeLine; decide), fun la hla => ?_⟩
    have sa := same_upd (o := .lst [V.str "a"]) hla
    have ea : upd H4 la (.lst [V.str "a"]) la = some (.lst [V.str "a"]) := upd_same
    generalize upd H4 la (.lst [V.str "a"]) = H5 at sa ea ⊢
    refine ⟨(by show 4 ≤ sizeLine; decide), fun lb hlb => ?_⟩
    have sb := same_upd (o := .lst [V.int 7, V.non, V.ref la, V.bl true]) hlb
    have eb : upd H5 lb (.lst [V.int 7, V.non, V.ref la, V.bl true]) lb = some (.lst [V.int 7, V.non, V.ref la, V.bl true]) := upd_same
    have ea6 := sb _ _ ea
    generalize upd H5 lb (.lst [V.int 7, V.non, V.ref la, V.bl true]) = H6 at sb eb ea6 ⊢
    obtain ⟨j, hj, hj2⟩ : ∃ j : Nat, c / 676 % 4 = (j : Int) ∧ j < 4 := ⟨(c / 676 % 4).toNat, by omega, by omega⟩
    obtain ⟨v, d, hv, nv, nm, sv⟩ : ∃ v d, ([V.int 7, V.non, V.ref la, V.bl true] : List V)[j]? = some v ∧ (∀ Hx, Same H6 Hx → Nv Hx v d) ∧ isNm v = false ∧ ∀ z, v = .str z → z.length ≤ 40 := by
      rcases (show j = 0 ∨ j = 1 ∨ j = 2 ∨ j = 3 by omega) with rfl | rfl | rfl | rfl
      · exact ⟨_, _, rfl, fun _ _ => .int 7, rfl, fun z q => by cases q⟩
      · exact ⟨_, _, rfl, fun _ _ => .non, rfl, fun z q => by cases q⟩
      · exact ⟨_, _, rfl, fun _ s => .lst (s _ _ ea6), rfl, fun z q => by cases q⟩
      · exact ⟨_, _, rfl, fun _ _ => .bl true, rfl, fun z q => by cases q⟩
    refine ⟨_, rfl, _, _, rfl, rfl, ⟨by decide, by decide⟩, _, _, rfl, rfl, (by show (0 : Int) < 4; decide), lb, _, _, _, rfl, rfl, SqL.of eb, at_of hj hv, ?_⟩
    refine nil_app ⟨(by show 4 ≤ sizeLine; decide), fun lc hlc => ?_⟩
    have sc := same_upd (o := .lst [V.str "", V.str (n0 ++ "abcdefgh"), V.str ("A" ++ Txt.slice n1 none (some 3)), v]) hlc
    have hl7 := sc _ _ (sb _ _ (sa _ _ hl))
    refine ⟨ln, lc, _, _, rfl, rfl, hl7, upd_same, by rw [List.length_map]; exact Nat.le_of_lt (small1000 (by show l.length + 4 ≤ _; omega)), fun ld hld => ?_⟩
    have sd := same_upd (o := .lst (l.map V.str ++ [V.str "", V.str (n0 ++ "abcdefgh"), V.str ("A" ++ Txt.slice n1 none (some 3)), v])) hld
    have s48 := ((sa.trans sb).trans sc).trans sd
    have big : Same H (upd (upd H6 lc (.lst [V.str "", V.str (n0 ++ "abcdefgh"), V.str ("A" ++ Txt.slice n1 none (some 3)), v])) ld (.lst (l.map V.str ++ [V.str "", V.str (n0 ++ "abcdefgh"), V.str ("A" ++ Txt.slice n1 none (some 3)), v]))) := fun b o e => s48 _ _ (kp b o (fun z => by rw [z, lnH] at e; cases e) (s01 _ _ e))
    refine kk _ ld _ l (n9_of len ok hn0 hn1 (nv _ (sc.trans sd)) nm sv upd_same) big ?_
    cases q : H ld with
    | none => rfl
    | some o =>
      have q2 := sc _ _ (sb _ _ (sa _ _ (kp ld o (fun z => by rw [z, lnH] at q; cases q) (s01 _ _ q))))
      rw [hld] at q2
      cases q2
end

/-! ### law k09, fifth part: what is done -/
def nameOf : V → Str
  | .str z => z
  | _ => ""
def intOf : V → Int
  | .int i => i
  | _ => 0
def next9 (rows : List R9) (kd : Int) (x ab sh : V) : List R9 := match due9 rows kd x ab sh with
  | some _ => rows
  | none => if kd < 2 then rows ++ [⟨nameOf x, nameOf ab, intOf sh, decide (kd = 0)⟩] else if kd = 2 then rows.filter fun y => decide (y.n ≠ nameOf x) else rows.map (shr9 (nameOf x) (intOf sh))
theorem there_iff {rows : List R9} {h : Hs} (k : K9 rows h) {x : V} : there9 rows x = true ↔ ∃ n, x = .str n ∧ lk h.ab n ≠ none := by
  unfold there9
  rw [List.any_eq_true]
  constructor
  · rintro ⟨y, hy, e⟩
    exact ⟨y.n, of_decide_eq_true e, fun z => by rw [(k.ab y.n y.a).mpr ⟨y, hy, rfl, rfl⟩] at z; cases z⟩
  · rintro ⟨n, rfl, ne⟩
    cases q : lk h.ab n with
    | none => exact (ne q).elim
    | some a =>
      obtain ⟨y, hy, y1, _⟩ := (k.ab n a).mp q
      exact ⟨y, hy, decide_eq_true (by rw [y1])⟩
theorem team_iff {rows : List R9} {h : Hs} (k : K9 rows h) {x : V} : team9 rows x = true ↔ ∃ t W, x = .str t ∧ lk h.wh t = some W := by
  unfold team9
  rw [Bool.or_eq_true, List.any_eq_true]
  constructor
  · rintro (e | ⟨y, hy, e⟩)
    · obtain ⟨W, eW⟩ := (k.tm "").mpr (.inl rfl)
      exact ⟨"", W, of_decide_eq_true e, eW⟩
    · rw [Bool.and_eq_true] at e
      obtain ⟨W, eW⟩ := (k.tm y.n).mpr (.inr ⟨y, hy, rfl, e.2⟩)
      exact ⟨y.n, W, of_decide_eq_true e.1, eW⟩
  · rintro ⟨t, W, rfl, eW⟩
    rcases (k.tm t).mp ⟨W, eW⟩ with z | ⟨y, hy, y1, y2⟩
    · exact .inl (decide_eq_true (by rw [z]))
    · exact .inr ⟨y, hy, by rw [y1, y2, Bool.and_true]; exact decide_eq_true rfl⟩
section
variable {rows : List R9} {kd : Int} {x ab sh : V}
theorem bne {b : Bool} (h : b = true) : ¬ b = false := fun z => by rw [h] at z; cases z
theorem bnt {b : Bool} (h : b = false) : ¬ b = true := fun z => by rw [h] at z; cases z
theorem due_A (k : kd < 2) (e : isNm x = false) : due9 rows kd x ab sh = some ("bad name" : Str) := by unfold due9; rw [if_pos k, if_pos e]
theorem due_T (k : kd < 2) (e : isNm x = true) (t : there9 rows x = true) : due9 rows kd x ab sh = some ("twice" : Str) := by unfold due9; rw [if_pos k, if_neg (bne e), if_pos t]
theorem due_M (k : kd < 2) (e : isNm x = true) (t : there9 rows x = false) (m : team9 rows ab = false) : due9 rows kd x ab sh = some ("no team" : Str) := by unfold due9; rw [if_pos k, if_neg (bne e), if_neg (bnt t), if_pos m]
theorem due_B (k : kd < 2) (e : isNm x = true) (t : there9 rows x = false) (m : team9 rows ab = true) (g : good sh = false) : due9 rows kd x ab sh = some ("bad share" : Str) := by unfold due9; rw [if_pos k, if_neg (bne e), if_neg (bnt t), if_neg (bne m), if_neg (bnt g)]
theorem due_0 (k : kd < 2) (e : isNm x = true) (t : there9 rows x = false) (m : team9 rows ab = true) (g : good sh = true) : due9 rows kd x ab sh = none := by unfold due9; rw [if_pos k, if_neg (bne e), if_neg (bnt t), if_neg (bne m), if_pos g]
theorem due_N (k : ¬ kd < 2) (t : there9 rows x = false) : due9 rows kd x ab sh = some ("no name" : Str) := by unfold due9; rw [if_neg k, if_pos t]
theorem due_Y (k : kd = 2) (t : there9 rows x = true) (i : in9 rows x = true) : due9 rows kd x ab sh = some ("not empty" : Str) := by unfold due9; rw [if_neg (show ¬ kd < 2 by omega), if_neg (bne t), if_pos k, if_neg (bne i)]
theorem due_2 (k : kd = 2) (t : there9 rows x = true) (i : in9 rows x = false) : due9 rows kd x ab sh = none := by unfold due9; rw [if_neg (show ¬ kd < 2 by omega), if_neg (bne t), if_pos k, if_pos i]
theorem due_C (k : kd = 3) (t : there9 rows x = true) (g : good sh = false) : due9 rows kd x ab sh = some ("bad share" : Str) := by unfold due9; rw [if_neg (show ¬ kd < 2 by omega), if_neg (bne t), if_neg (show ¬ kd = 2 by omega), if_neg (bnt g)]
theorem due_3 (k : kd = 3) (t : there9 rows x = true) (g : good sh = true) : due9 rows kd x ab sh = none := by unfold due9; rw [if_neg (show ¬ kd < 2 by omega), if_neg (bne t), if_neg (show ¬ kd = 2 by omega), if_pos g]
end
section
variable {Pt : Addr} {H H1 H' : Hp} {fp fp' : List Addr}
theorem pf_tab (c : H1 = H ∨ GxR.Tabbed Pt H H1) : Step (Pt :: fp) H (Pt :: fp) H1 := ⟨fun b o e n => by
  rw [tab_ne c fun z => n (by rw [z]; exact List.mem_cons_self)]
  exact e, fun b hb => .inl hb⟩
theorem pf_house (st : Step fp H fp' H') : Step (Pt :: fp) H (Pt :: fp') H' := st.up (fun b hb => List.mem_cons_of_mem _ hb) fun b hb => by
  rcases List.mem_cons.mp hb with q | hb
  · exact .inr (by rw [q]; exact List.mem_cons_self)
  · exact .inl hb
end
def spDone9 (Pt CH CW CS : Addr) : Sp := fun vs H Q _ => ∃ (p : Addr) (h : Hs) (fp : List Addr) (rows : List R9) (kd : Int) (x ab sh : V), vs = [.ref p, .int kd, x, ab, sh] ∧ HAt CH CW CS H p h fp ∧ Rd h "" ∧ K9 rows h ∧ GxR.TabG H Pt ∧ Th H x ∧ Th H ab ∧ Th H sh ∧ rows.length ≤ 100 ∧ 0 ≤ kd ∧ kd < 4 ∧ (∀ z, x = .str z → z.length ≤ sizeLine) ∧ (kd < 2 → x ≠ .str "other") ∧
  ∀ H' h' fp', HAt CH CW CS H' p h' fp' → Rd h' "" → K9 (next9 rows kd x ab sh) h' → Step (Pt :: fp) H (Pt :: fp') H' → GxR.TabG H' Pt → Q (resV (due9 rows kd x ab sh)) H'
section
variable {P : Program} {w : World} {K : PySem.W.Frag} {mg : Str → Option Value} {base : Heap} {CS CW CB CT CN CH CM CY CA CD CU CE CV Pt : Addr}
theorem sc_L_done : FnScope ["_law_house", "_law_kind", "_law_name", "_law_above", "_law_share", "_law_error"] ["_law_house", "_law_kind", "_law_name", "_law_above", "_law_share"] (defScope s_L_done) := ⟨rfl, rfl, rfl, by decide +kernel, rfl, by decide +kernel, by decide +kernel⟩
theorem ok_L_done {f : Addr} {fd : FuncData} (F : Fun K "_law_done" "_law_done" s_L_done f fd) (T : WT K mg CS CW CB CT CN) (L : LT mg) (cc_A : ExcC K CA) (cc_B : ExcC K CB) (cc_M : ExcC K CM) (cc_N : ExcC K CN) (cc_T : ExcC K CT) (cc_Y : ExcC K CY) (e_AE : PySem.W.exmOne K (.ref CA) (.ref CE) = some true) (e_BE : PySem.W.exmOne K (.ref CB) (.ref CE) = some true) (e_ME : PySem.W.exmOne K (.ref CM) (.ref CE) = some true) (e_NE : PySem.W.exmOne K (.ref CN) (.ref CE) = some true) (e_TE : PySem.W.exmOne K (.ref CT) (.ref CE) = some true) (e_YE : PySem.W.exmOne K (.ref CY) (.ref CE) = some true) (g_refusal : DOE P w K mg base 1 "_law_refusal" ["_law_error"] (spRef9 K CD CN CY CT CM CB CA CU CV)) (ge_E : mg "ShareError" = some (.ref CE)) (h_H : HT K mg CH) (m_H_hand : MOk P w K mg base 6 CH "hand" ["self", "name", "above", "share"] (spSettle Pt CH CW CS CB CT CA CM)) (m_H_leave : MOk P w K mg base 5 CH "leave" ["self", "name"] (spHLeave CH CW CS CN CY)) (m_H_reshare : MOk P w K mg base 4 CH "reshare" ["self", "name", "share"] (spHReshare CH CW CS CB CN)) (m_H_team : MOk P w K mg base 6 CH "team" ["self", "name", "above", "share"] (spTeam Pt CH CW CS CB CT CA CM)) (q_AA : PySem.W.kitOne K (.ref CA) (.ref CA) = some true) (q_AB : PySem.W.kitOne K (.ref CA) (.ref CB) = some false) (q_AD : PySem.W.kitOne K (.ref CA) (.ref CD) = some false) (q_AM : PySem.W.kitOne K (.ref CA) (.ref CM) = some false) (q_AN : PySem.W.kitOne K (.ref CA) (.ref CN) = some false) (q_AT : PySem.W.kitOne K (.ref CA) (.ref CT) = some false) (q_AU : PySem.W.kitOne K (.ref CA) (.ref CU) = some false) (q_AV : PySem.W.kitOne K (.ref CA) (.ref CV) = some false) (q_AY : PySem.W.kitOne K (.ref CA) (.ref CY) = some false) (q_BA : PySem.W.kitOne K (.ref CB) (.ref CA) = some false) (q_BB : PySem.W.kitOne K (.ref CB) (.ref CB) = some true) (q_BD : PySem.W.kitOne K (.ref CB) (.ref CD) = some false) (q_BM : PySem.W.kitOne K (.ref CB) (.ref CM) = some false) (q_BN : PySem.W.kitOne K (.ref CB) (.ref CN) = some false) (q_BT : PySem.W.kitOne K (.ref CB) (.ref CT) = some false) (q_BU : PySem.W.kitOne K (.ref CB) (.ref CU) = some false) (q_BV : PySem.W.kitOne K (.ref CB) (.ref CV) = some false) (q_BY : PySem.W.kitOne K (.ref CB) (.ref CY) = some false) (q_MA : PySem.W.kitOne K (.ref CM) (.ref CA) = some false) (q_MB : PySem.W.kitOne K (.ref CM) (.ref CB) = some false) (q_MD : PySem.W.kitOne K (.ref CM) (.ref CD) = some false) (q_MM : PySem.W.kitOne K (.ref CM) (.ref CM) = some true) (q_MN : PySem.W.kitOne K (.ref CM) (.ref CN) = some false) (q_MT : PySem.W.kitOne K (.ref CM) (.ref CT) = some false) (q_MU : PySem.W.kitOne K (.ref CM) (.ref CU) = some false) (q_MV : PySem.W.kitOne K (.ref CM) (.ref CV) = some false) (q_MY : PySem.W.kitOne K (.ref CM) (.ref CY) = some false) (q_NA : PySem.W.kitOne K (.ref CN) (.ref CA) = some false) (q_NB : PySem.W.kitOne K (.ref CN) (.ref CB) = some false) (q_ND : PySem.W.kitOne K (.ref CN) (.ref CD) = some false) (q_NM : PySem.W.kitOne K (.ref CN) (.ref CM) = some false) (q_NN : PySem.W.kitOne K (.ref CN) (.ref CN) = some true) (q_NT : PySem.W.kitOne K (.ref CN) (.ref CT) = some false) (q_NU : PySem.W.kitOne K (.ref CN) (.ref CU) = some false) (q_NV : PySem.W.kitOne K (.ref CN) (.ref CV) = some false) (q_NY : PySem.W.kitOne K (.ref CN) (.ref CY) = some false) (q_TA : PySem.W.kitOne K (.ref CT) (.ref CA) = some false) (q_TB : PySem.W.kitOne K (.ref CT) (.ref CB) = some false) (q_TD : PySem.W.kitOne K (.ref CT) (.ref CD) = some false) (q_TM : PySem.W.kitOne K (.ref CT) (.ref CM) = some false) (q_TN : PySem.W.kitOne K (.ref CT) (.ref CN) = some false) (q_TT : PySem.W.kitOne K (.ref CT) (.ref CT) = some true) (q_TU : PySem.W.kitOne K (.ref CT) (.ref CU) = some false) (q_TV : PySem.W.kitOne K (.ref CT) (.ref CV) = some false) (q_TY : PySem.W.kitOne K (.ref CT) (.ref CY) = some false) (q_YA : PySem.W.kitOne K (.ref CY) (.ref CA) = some false) (q_YB : PySem.W.kitOne K (.ref CY) (.ref CB) = some false) (q_YD : PySem.W.kitOne K (.ref CY) (.ref CD) = some false) (q_YM : PySem.W.kitOne K (.ref CY) (.ref CM) = some false) (q_YN : PySem.W.kitOne K (.ref CY) (.ref CN) = some false) (q_YT : PySem.W.kitOne K (.ref CY) (.ref CT) = some false) (q_YU : PySem.W.kitOne K (.ref CY) (.ref CU) = some false) (q_YV : PySem.W.kitOne K (.ref CY) (.ref CV) = some false) (q_YY : PySem.W.kitOne K (.ref CY) (.ref CY) = some true) (qv_A : PySem.W.kitOne K (.ref CA) (.type "ValueError") = some true) (qv_B : PySem.W.kitOne K (.ref CB) (.type "ValueError") = some true) (qv_M : PySem.W.kitOne K (.ref CM) (.type "ValueError") = some true) (qv_N : PySem.W.kitOne K (.ref CN) (.type "ValueError") = some true) (qv_T : PySem.W.kitOne K (.ref CT) (.type "ValueError") = some true) (qv_Y : PySem.W.kitOne K (.ref CY) (.type "ValueError") = some true) :
    FnOk P w K mg base (L2.CX P w) 7 f fd ["_law_house", "_law_kind", "_law_name", "_law_above", "_law_share"] (spDone9 Pt CH CW CS) := by
  refine okN F sc_L_done (fun vs H Q E h => ?_) (fun cdv A outer s H vs Q E hr h => ?_)
  · (first | (obtain ⟨_, rfl, _⟩ := h; rfl) | (obtain ⟨_, _, rfl, _⟩ := h; rfl) | (obtain ⟨_, _, _, rfl, _⟩ := h; rfl) | (obtain ⟨_, _, _, _, rfl, _⟩ := h; rfl) | (obtain ⟨_, _, _, _, _, rfl, _⟩ := h; rfl) | (obtain ⟨_, _, _, _, _, _, rfl, _⟩ := h; rfl) | (obtain ⟨_, _, _, _, _, _, _, rfl, _⟩ := h; rfl) | (obtain ⟨_, _, _, _, _, _, _, _, rfl, _⟩ := h; rfl) | (obtain ⟨_, _, _, _, _, _, _, _, _, rfl, _⟩ := h; rfl) | (obtain ⟨_, _, _, _, _, _, _, _, _, _, rfl, _⟩ := h; rfl) | (obtain ⟨_, _, _, _, _, _, _, _, _, _, _, rfl, _⟩ := h; rfl) | (obtain ⟨_, _, _, _, _, _, _, _, _, _, _, _, rfl, _⟩ := h; rfl) | (obtain ⟨_, _, _, _, _, _, _, _, _, _, _, _, _, rfl, _⟩ := h; rfl) | (obtain ⟨_, _, _, _, _, _, _, _, _, _, _, _, _, _, rfl, _⟩ := h; rfl) | (obtain ⟨_, _, _, _, _, _, _, _, _, _, _, _, _, _, _, rfl, _⟩ := h; rfl))
  · obtain ⟨p, h, fp, rows, kd, x, ab, sh, rfl, hA, rd, k, hT, tx, ta, ts, hl, k0, k4, sz, nox, kk⟩ := h
    have hu := hu_of hr
    have o := hA.ok
    have hal := k.len o
    have lens : ∀ t W, lk h.wh t = some W → W.rows.length ≤ 1000 := fun t W e => by have := o.len e; omega
    obtain ⟨dx, da, dw, hp⟩ := hA.at
    have th := there_iff k (x := x)
    have tm := team_iff k (x := ab)
    have tmF : (∀ t W, ab = .str t → lk h.wh t ≠ some W) → team9 rows ab = false := fun n => Bool.eq_false_iff.mpr fun z => by
      obtain ⟨t, W, e1, e2⟩ := tm.mp z
      exact n t W e1 e2
    have th0 : ∀ {n : Str}, x = .str n → lk h.ab n = none → there9 rows x = false := fun e1 e2 => Bool.eq_false_iff.mpr fun z => by
      obtain ⟨m, e3, e4⟩ := th.mp z
      rw [e1] at e3
      cases e3
      exact e4 e2
    have back : ∀ {w : Str} {H1 H2 : Hp}, (H1 = H ∨ GxR.Tabbed Pt H H1) → Same H1 H2 → due9 rows kd x ab sh = some w → Q (.str w) H2 := fun c s e => by
      have q := kk _ h fp ((hA.tab hT c).same s) rd (by unfold next9; rw [e]; exact k) ((pf_tab c).trans (.same s)) (tab_same (tab_on hT c) s)
      rw [e] at q
      exact q
    refine ⟨_, (pss_one (pt_as (i := 5) rfl rfl sc_L_done.nd rfl rfl ⟨rfl, by decide, .inl ge_E⟩ takes0 (fun W pn xe tk _ => by exact (pss_cons (ps_if (pt_cmpR op_eq (pv 1) pe_int (nomark _)) (pss_one (ps_ret (by exact pe_m m_H_team h_H.cl hr (by decide) (fun σ => passAt tk σ) (pv 0) (pa_cons (pv 2) (pa_cons (pv 3) (pa_cons (pv 4) pa_nil)))))) pss_nil)
      (pss_cons (ps_if (pt_cmpR op_eq (pv 1) pe_int (nomark _)) (pss_one (ps_ret (by exact pe_m m_H_hand h_H.cl hr (by decide) (fun σ => passAt tk σ) (pv 0) (pa_cons (pv 2) (pa_cons (pv 3) (pa_cons (pv 4) pa_nil)))))) pss_nil)
      (pss_cons (ps_if (pt_cmpR op_eq (pv 1) pe_int (nomark _)) (pss_one (ps_ret (by exact pe_m m_H_leave h_H.cl hr (by decide) (fun σ => passAt tk σ) (pv 0) (pa_cons (pv 2) pa_nil)))) pss_nil)
      (pss_one (ps_ret (by exact pe_m m_H_reshare h_H.cl hr (by decide) (fun σ => passAt tk σ) (pv 0) (pa_cons (pv 2) (pa_cons (pv 4) pa_nil))))))))) (fun a oe cls d pn hz hf => by exact (pss_one (ps_ret (by exact pe_fE hz hf g_refusal hr (by decide) (by rfl) (pa_cons (pv 5) pa_nil))))))), ?_⟩
    have no : ∀ {i j : Int}, i ≠ j → decide (V.int i = V.int j) = false := fun n => decide_eq_false fun z => n (V.int.inj z)
    have yes : ∀ {i : Int}, decide (V.int i = V.int i) = true := decide_eq_true rfl
    rcases (show kd = 0 ∨ kd = 1 ∨ kd = 2 ∨ kd = 3 by omega) with rfl | rfl | rfl | rfl
    · have k2 : (0 : Int) < 2 := by decide
      refine ⟨_, rfl, rfl, _, rfl, ?_⟩
      rw [yes]
      refine iteT ?_
      refine ⟨_, rfl, p, dx, _, rfl, hp, hf_no _ _, _, rfl, _, rfl, _, rfl, nil_app ⟨p, h, fp, x, ab, sh, rfl, hA, tx, ta, ts, hT, tab_out hA hT, sz, lens, by omega, fun H1 c => ⟨fun en => ⟨true, e_AE, fun _ a ha => ⟨_, rfl, nil_app ⟨rfl, CA, _, _, _, _, _, _, _, _, _, _, rfl, rfl, cc_A, q_AA, q_AT, q_AM, q_AB, q_AN, q_AY, q_AD, q_AU, q_AV, qv_A, fun H9 s9 => by rw [ref9_A]; exact back c s9 (due_A k2 en)⟩⟩, (by intro z; cases z)⟩, fun n ex en => ⟨fun ne => ⟨true, e_TE, fun _ a ha => ⟨_, rfl, nil_app ⟨rfl, CT, _, _, _, _, _, _, _, _, _, _, rfl, rfl, cc_T, q_TA, q_TT, q_TM, q_TB, q_TN, q_TY, q_TD, q_TU, q_TV, qv_T, fun H9 s9 => by rw [ref9_T]; exact back c s9 (due_T k2 en (th.mpr ⟨n, ex, ne⟩))⟩⟩, (by intro z; cases z)⟩, fun gone => ⟨fun nt => ⟨true, e_ME, fun _ a ha => ⟨_, rfl, nil_app ⟨rfl, CM, _, _, _, _, _, _, _, _, _, _, rfl, rfl, cc_M, q_MA, q_MT, q_MM, q_MB, q_MN, q_MY, q_MD, q_MU, q_MV, qv_M, fun H9 s9 => by rw [ref9_M]; exact back c s9 (due_M k2 en (th0 ex gone) (tmF nt))⟩⟩, (by intro z; cases z)⟩, fun t W et eW => ⟨fun bad => ⟨true, e_BE, fun _ a ha => ⟨_, rfl, nil_app ⟨rfl, CB, _, _, _, _, _, _, _, _, _, _, rfl, rfl, cc_B, q_BA, q_BT, q_BM, q_BB, q_BN, q_BY, q_BD, q_BU, q_BV, qv_B, fun H9 s9 => by rw [ref9_B]; exact back c s9 (due_B k2 en (th0 ex gone) (tm.mpr ⟨t, W, et, eW⟩) bad)⟩⟩, (by intro z; cases z)⟩, fun i ei i1 i2 H2 fp2 A2 st2 => ?_⟩⟩⟩⟩⟩⟩
      subst ex et ei
      have o' := A2.ok
      have nn := nm_ne en
      have gd : good (.int i) = true := by
        show (decide (1 ≤ i) && decide (i ≤ 12)) = true
        rw [decide_eq_true i1, decide_eq_true i2]
        rfl
      have dn := due_0 k2 en (th0 rfl gone) (tm.mpr ⟨t, W, rfl, eW⟩) gd
      have K2 := k.enterT (y := ⟨n, t, i, true⟩) o ⟨en, i1, i2⟩ (fun z => nox k2 (congrArg V.str z)) gone eW rfl
      have e9 : next9 rows 0 (.str n) (.str t) (.int i) = rows ++ [⟨n, t, i, true⟩] := by
        unfold next9
        rw [dn]
        rfl
      have q := kk H2 _ fp2 A2 (rd.enterT o gone nn eW i1 i2) (by rw [e9]; exact K2) ((pf_tab c).trans (pf_house st2)) (tab_step (hA.tab hT c) (tab_on hT c) st2)
      rw [dn] at q
      exact q
    · have k2 : (1 : Int) < 2 := by decide
      refine ⟨_, rfl, rfl, _, rfl, ?_⟩
      rw [no (by decide)]
      refine iteF ⟨_, rfl, rfl, _, rfl, ?_⟩
      rw [yes]
      refine iteT ?_
      refine ⟨_, rfl, p, dx, _, rfl, hp, hf_no _ _, _, rfl, _, rfl, _, rfl, nil_app ⟨p, h, fp, x, ab, sh, rfl, hA, tx, ta, ts, hT, tab_out hA hT, sz, lens, by omega, fun H1 c => ⟨fun en => ⟨true, e_AE, fun _ a ha => ⟨_, rfl, nil_app ⟨rfl, CA, _, _, _, _, _, _, _, _, _, _, rfl, rfl, cc_A, q_AA, q_AT, q_AM, q_AB, q_AN, q_AY, q_AD, q_AU, q_AV, qv_A, fun H9 s9 => by rw [ref9_A]; exact back c s9 (due_A k2 en)⟩⟩, (by intro z; cases z)⟩, fun n ex en => ⟨fun ne => ⟨true, e_TE, fun _ a ha => ⟨_, rfl, nil_app ⟨rfl, CT, _, _, _, _, _, _, _, _, _, _, rfl, rfl, cc_T, q_TA, q_TT, q_TM, q_TB, q_TN, q_TY, q_TD, q_TU, q_TV, qv_T, fun H9 s9 => by rw [ref9_T]; exact back c s9 (due_T k2 en (th.mpr ⟨n, ex, ne⟩))⟩⟩, (by intro z; cases z)⟩, fun gone => ⟨fun nt => ⟨true, e_ME, fun _ a ha => ⟨_, rfl, nil_app ⟨rfl, CM, _, _, _, _, _, _, _, _, _, _, rfl, rfl, cc_M, q_MA, q_MT, q_MM, q_MB, q_MN, q_MY, q_MD, q_MU, q_MV, qv_M, fun H9 s9 => by rw [ref9_M]; exact back c s9 (due_M k2 en (th0 ex gone) (tmF nt))⟩⟩, (by intro z; cases z)⟩, fun t W et eW => ⟨fun bad => ⟨true, e_BE, fun _ a ha => ⟨_, rfl, nil_app ⟨rfl, CB, _, _, _, _, _, _, _, _, _, _, rfl, rfl, cc_B, q_BA, q_BT, q_BM, q_BB, q_BN, q_BY, q_BD, q_BU, q_BV, qv_B, fun H9 s9 => by rw [ref9_B]; exact back c s9 (due_B k2 en (th0 ex gone) (tm.mpr ⟨t, W, et, eW⟩) bad)⟩⟩, (by intro z; cases z)⟩, fun i ei i1 i2 H2 fp2 A2 st2 => ?_⟩⟩⟩⟩⟩⟩
      subst ex et ei
      have o' := A2.ok
      have nn := nm_ne en
      have gd : good (.int i) = true := by
        show (decide (1 ≤ i) && decide (i ≤ 12)) = true
        rw [decide_eq_true i1, decide_eq_true i2]
        rfl
      have dn := due_0 k2 en (th0 rfl gone) (tm.mpr ⟨t, W, rfl, eW⟩) gd
      have K2 := k.enterH (y := ⟨n, t, i, false⟩) o ⟨en, i1, i2⟩ (fun z => nox k2 (congrArg V.str z)) gone eW rfl
      have e9 : next9 rows 1 (.str n) (.str t) (.int i) = rows ++ [⟨n, t, i, false⟩] := by
        unfold next9
        rw [dn]
        rfl
      have q := kk H2 _ fp2 A2 (rd.enterH o gone nn eW) (by rw [e9]; exact K2) ((pf_tab c).trans (pf_house st2)) (tab_step (hA.tab hT c) (tab_on hT c) st2)
      rw [dn] at q
      exact q
    · refine ⟨_, rfl, rfl, _, rfl, ?_⟩
      rw [no (by decide)]
      refine iteF ⟨_, rfl, rfl, _, rfl, ?_⟩
      rw [no (by decide)]
      refine iteF ⟨_, rfl, rfl, _, rfl, ?_⟩
      rw [yes]
      refine iteT ⟨_, rfl, p, dx, _, rfl, hp, hf_no _ _, _, rfl, nil_app ?_⟩
      have nk : ¬ (2 : Int) < 2 := by decide
      have gone0 : (∀ n a, x = .str n → lk h.ab n ≠ some a) → there9 rows x = false := fun n => Bool.eq_false_iff.mpr fun z => by
        obtain ⟨m, e3, e4⟩ := th.mp z
        cases q : lk h.ab m with
        | none => exact e4 q
        | some a => exact n m a e3 q
      have here : ∀ {n a : Str}, x = .str n → lk h.ab n = some a → there9 rows x = true := fun e1 e2 => th.mpr ⟨_, e1, fun z => by rw [e2] at z; cases z⟩
      -- what is so once one has left in whom nobody stands
      have gone2 : ∀ {n a : Str} {W : WhS} {H9 : Hp} {fp9 : List Addr}, x = .str n → lk h.ab n = some a → lk h.wh a = some W → (∀ m, lk h.ab m ≠ some n) → HAt CH CW CS H9 p (leaveN h n a W) fp9 → Rd (leaveN h n a W) "" → Step fp H fp9 H9 → Q .non H9 := fun {n a W H9 fp9} ex ea eW nobody A9 rd9 st9 => by
        obtain ⟨y, hy, y1, y2⟩ := (k.ab n a).mp ea
        subst ex y1 y2
        have nin : in9 rows (.str y.n) = false := Bool.eq_false_iff.mpr fun z => by
          obtain ⟨u, hu, e⟩ := List.any_eq_true.mp z
          have e := V.str.inj (of_decide_eq_true e)
          exact nobody u.n (by rw [e]; exact (k.ab u.n u.a).mpr ⟨u, hu, rfl, rfl⟩)
        have dn := due_2 (ab := ab) (sh := sh) rfl (here rfl ea) nin
        have e9 : next9 rows 2 (.str y.n) ab sh = rows.filter fun u => decide (u.n ≠ y.n) := by
          unfold next9
          rw [dn]
          rfl
        have q := kk H9 _ fp9 A9 rd9 (by rw [e9]; exact k.leave o hy eW fun u hu e => nobody u.n (by rw [← e]; exact (k.ab u.n u.a).mpr ⟨u, hu, rfl, rfl⟩)) (pf_house st9) (tab_step hA hT st9)
        rw [dn] at q
        exact q
      have inY : ∀ {n : Str} {U : WhS}, x = .str n → lk h.wh n = some U → U.rows ≠ [] → in9 rows x = true := fun {n U} ex eU ne => by
        obtain ⟨u, us, eu⟩ := List.exists_cons_of_ne_nil ne
        have hu' := (o.sub n U u.n eU).mp ⟨u, by rw [eu]; exact List.mem_cons_self, rfl⟩
        obtain ⟨y, hy, y1, y2⟩ := (k.ab u.n n).mp hu'
        exact List.any_eq_true.mpr ⟨y, hy, decide_eq_true (by rw [ex, y2])⟩
      refine ⟨p, h, fp, x, rfl, hA, rd, tx, fun n => ⟨true, e_NE, fun _ a ha => ⟨_, rfl, nil_app ⟨rfl, CN, _, _, _, _, _, _, _, _, _, _, rfl, rfl, cc_N, q_NA, q_NT, q_NM, q_NB, q_NN, q_NY, q_ND, q_NU, q_NV, qv_N, fun H9 s9 => by rw [ref9_N]; exact back (.inl rfl) s9 (due_N nk (gone0 n))⟩⟩, (by intro z; cases z)⟩, fun n a U ex ea eU ne H8 s8 => ⟨true, e_YE, fun _ a ha => ⟨_, rfl, nil_app ⟨rfl, CY, _, _, _, _, _, _, _, _, _, _, rfl, rfl, cc_Y, q_YA, q_YT, q_YM, q_YB, q_YN, q_YY, q_YD, q_YU, q_YV, qv_Y, fun H9 s9 => by rw [ref9_Y]; exact back (.inl rfl) (s8.trans s9) (due_Y rfl (here ex ea) (inY ex eU ne))⟩⟩, (by intro z; cases z)⟩, fun n a U W ex ea eU e0 eW H9 fp9 A9 rd9 st9 => ?_, fun n a W y h1 W1 ex ea nh eW hy yn c e1 H9 fp9 A9 rd9 st9 => ?_⟩
      · refine gone2 ex ea eW (fun m e => ?_) A9 rd9 st9
        obtain ⟨u, hu', _⟩ := (o.sub n U m eU).mpr e
        rw [e0] at hu'
        cases hu'
      · obtain ⟨_, p2⟩ := k.wl _ _ eW
        rw [p2] at hy
        obtain ⟨u, _, eu⟩ := List.mem_map.mp hy
        have yr : y.r = false := by rw [← eu]; rfl
        rcases c with ⟨_, rfl⟩ | ⟨z, _⟩
        · rw [eW] at e1
          cases e1
          refine gone2 ex ea eW (fun m e => ?_) A9 rd9 st9
          obtain ⟨U, eU⟩ := o.aw m n e
          rw [nh] at eU
          cases eU
        · rw [yr] at z
          cases z
    · refine ⟨_, rfl, rfl, _, rfl, ?_⟩
      rw [no (by decide)]
      refine iteF ⟨_, rfl, rfl, _, rfl, ?_⟩
      rw [no (by decide)]
      refine iteF ⟨_, rfl, rfl, _, rfl, ?_⟩
      rw [no (by decide)]
      refine iteF ⟨_, rfl, p, dx, _, rfl, hp, hf_no _ _, _, rfl, _, rfl, nil_app ?_⟩
      have nk : ¬ (3 : Int) < 2 := by decide
      have gone0 : (∀ n a, x = .str n → lk h.ab n ≠ some a) → there9 rows x = false := fun n => Bool.eq_false_iff.mpr fun z => by
        obtain ⟨m, e3, e4⟩ := th.mp z
        cases q : lk h.ab m with
        | none => exact e4 q
        | some a => exact n m a e3 q
      have here : ∀ {n a : Str}, x = .str n → lk h.ab n = some a → there9 rows x = true := fun e1 e2 => th.mpr ⟨_, e1, fun z => by rw [e2] at z; cases z⟩
      refine ⟨p, h, fp, x, sh, rfl, hA, tx, ts, fun n => ⟨true, e_NE, fun _ a ha => ⟨_, rfl, nil_app ⟨rfl, CN, _, _, _, _, _, _, _, _, _, _, rfl, rfl, cc_N, q_NA, q_NT, q_NM, q_NB, q_NN, q_NY, q_ND, q_NU, q_NV, qv_N, fun H9 s9 => by rw [ref9_N]; exact back (.inl rfl) s9 (due_N nk (gone0 n))⟩⟩, (by intro z; cases z)⟩, fun n a ex ea bad => ⟨true, e_BE, fun _ a ha => ⟨_, rfl, nil_app ⟨rfl, CB, _, _, _, _, _, _, _, _, _, _, rfl, rfl, cc_B, q_BA, q_BT, q_BM, q_BB, q_BN, q_BY, q_BD, q_BU, q_BV, qv_B, fun H9 s9 => by rw [ref9_B]; exact back (.inl rfl) s9 (due_C rfl (here ex ea) bad)⟩⟩, (by intro z; cases z)⟩, fun n a W i ex ea eW ei i1 i2 H9 fp9 A9 st9 => ?_⟩
      obtain ⟨y, hy, y1, y2⟩ := (k.ab n a).mp ea
      subst ex ei y1 y2
      have gd : good (.int i) = true := by
        show (decide (1 ≤ i) && decide (i ≤ 12)) = true
        rw [decide_eq_true i1, decide_eq_true i2]
        rfl
      have dn := due_3 (ab := ab) rfl (here rfl ea) gd
      have e9 : next9 rows 3 (.str y.n) ab (.int i) = rows.map (shr9 y.n i) := by
        unfold next9
        rw [dn]
        rfl
      have q := kk H9 _ fp9 A9 (rd.keep eW (reshare_keep W y.n i).1 (reshare_keep W y.n i).2) (by rw [e9]; exact k.share hy eW i1 i2) (pf_house st9) (tab_step hA hT st9)
      rw [dn] at q
      exact q
end

/-! ### law k09, sixth part: wheels that are told -/
/-- one more comes to a wheel that rests, is woken, and gets the turn -/
theorem other_turn {W : WhS} {n : Str} {s : Int} (rest : ∀ x ∈ W.rows, x.r = false) (no : ∀ x ∈ W.rows, x.n ≠ n) : Wm.whose (Wm.wake (Wm.enter W n s) n) = some n := by
  have mem : ∀ x ∈ (Wm.wake (Wm.enter W n s) n).rows, x.r = true → x.n = n := fun x hx hr => by
    obtain ⟨y, hy, ⟨y1, rfl⟩ | ⟨y1, rfl⟩⟩ := Wm.mem_upd hx
    · unfold Wm.woken
      split <;> exact y1
    · have hy : x ∈ W.rows ++ [⟨n, s, 0, false⟩] := hy
      rcases List.mem_append.mp hy with hy | hy
      · rw [rest x hy] at hr
        cases hr
      · rw [List.mem_singleton.mp hy]
  cases e : Wm.best (Wm.wake (Wm.enter W n s) n).rows with
  | some b =>
    obtain ⟨h1, h2, _⟩ := Wm.best_some e
    rw [whose_some e, mem b h2 h1]
  | none =>
    have last : (⟨n, s, 0, false⟩ : RowS) ∈ (Wm.enter W n s).rows := List.mem_append.mpr (.inr List.mem_cons_self)
    have h1 : Wm.woken W.past (⟨n, s, 0, false⟩ : RowS) ∈ (Wm.wake (Wm.enter W n s) n).rows := List.mem_map.mpr ⟨_, last, if_pos rfl⟩
    have := Wm.best_none.mp e _ h1
    cases this
def spGood9 (CH CW CS : Addr) : Sp := fun vs H Q _ => ∃ (p lr : Addr) (ts : List Addr) (h : Hs) (fp : List Addr) (rows : List R9) (x : V) (d : PyData), vs = [.ref p, .ref lr, x] ∧ HAt CH CW CS H p h fp ∧ K9 rows h ∧ Rg hv9 H lr ts rows ∧ Nv H x d ∧ rows.length ≤ 100 ∧ ∀ H', Same H H' → Q (.bl true) H'
section
variable {P : Program} {w : World} {K : PySem.W.Frag} {mg : Str → Option Value} {base : Heap} {CS CW CB CT CN CH CM CY CA CD CU CE CV Pt : Addr}
theorem sc_NH_need_team : FnScope ["self", "team"] ["self", "team"] (defScope sHouse_need_team) := ⟨rfl, rfl, rfl, by decide +kernel, rfl, by decide +kernel, by decide +kernel⟩
theorem ok_NH_need_team {f : Addr} {fd : FuncData} (F : Fun K "_need_team" "House._need_team" sHouse_need_team f fd) (T : WT K mg CS CW CB CT CN) (L : LT mg) (g_stands_in : DOk P w K mg base 1 "stands_in" ["thing", "table"] spStands) (h_H : HT K mg CH) (r_M : ErT K mg "NoTeam" CM) :
    FnOk P w K mg base (L2N.CX P w) 2 f fd ["self", "team"] (spNeedTeam CH CW CS CM) := by
  refine okXN F sc_NH_need_team (fun vs H Q E h => ?_) (fun cdv A outer s H vs Q E hr h => ?_)
  · (first | (obtain ⟨_, rfl, _⟩ := h; rfl) | (obtain ⟨_, _, rfl, _⟩ := h; rfl) | (obtain ⟨_, _, _, rfl, _⟩ := h; rfl) | (obtain ⟨_, _, _, _, rfl, _⟩ := h; rfl) | (obtain ⟨_, _, _, _, _, rfl, _⟩ := h; rfl) | (obtain ⟨_, _, _, _, _, _, rfl, _⟩ := h; rfl) | (obtain ⟨_, _, _, _, _, _, _, rfl, _⟩ := h; rfl) | (obtain ⟨_, _, _, _, _, _, _, _, rfl, _⟩ := h; rfl) | (obtain ⟨_, _, _, _, _, _, _, _, _, rfl, _⟩ := h; rfl) | (obtain ⟨_, _, _, _, _, _, _, _, _, _, rfl, _⟩ := h; rfl) | (obtain ⟨_, _, _, _, _, _, _, _, _, _, _, rfl, _⟩ := h; rfl) | (obtain ⟨_, _, _, _, _, _, _, _, _, _, _, _, rfl, _⟩ := h; rfl) | (obtain ⟨_, _, _, _, _, _, _, _, _, _, _, _, _, rfl, _⟩ := h; rfl) | (obtain ⟨_, _, _, _, _, _, _, _, _, _, _, _, _, _, rfl, _⟩ := h; rfl) | (obtain ⟨_, _, _, _, _, _, _, _, _, _, _, _, _, _, _, rfl, _⟩ := h; rfl))
  · obtain ⟨p, h, fp, x, rfl, hA, hx, k1, k2⟩ := h
    obtain ⟨da, dw, es, e1, rfl, i, o⟩ := hA
    obtain ⟨dx, hp⟩ := i.ob
    refine ⟨_, (pss_one (ps_if (pt_not (pt_val (by exact pe_f g_stands_in hr (by decide) (by rfl) (fun σ => passN σ) (pa_cons (pv 1) (pa_cons (pe_fld (pv 0) rfl) pa_nil))))) (pss_one (ps_rsN rfl (L2N.takes_of rfl rfl rfl rfl) r_M.t r_M.g (by rfl))) pss_nil)), ?_⟩
    refine ⟨_, rfl, _, rfl, p, CH, dx, _, _, rfl, hp, h_H.cl, h_H.aWh, hf_wh _ _, x, dw, _, rfl, hx, i.hdw, fun z ez => ?_, fun hs => ?_⟩
    · subst ez
      have ev : (valV (kvn V.ref (qs es)) (Sum.inr z : Key)) = (lk (qs es) z).map V.ref := kvn_val
      cases q : lk h.wh z with
      | none =>
        rw [ev, lk_qs_none (by rw [← e1]; exact q)]
        exact ⟨_, rfl, iteT (k2 fun t W e n => by cases e; rw [q] at n; cases n)⟩
      | some W =>
        obtain ⟨e, he, et, eW, eq⟩ := lk_qs (es := es) (by rw [← e1]; exact q)
        rw [ev, eq]
        exact ⟨_, rfl, iteF (k1 z W rfl q)⟩
    · refine ⟨_, rfl, iteT (k2 fun t W e _ => ?_)⟩
      subst e
      cases hs
theorem sc_NH_wheel_of : FnScope ["self", "team"] ["self", "team"] (defScope sHouse_wheel_of) := ⟨rfl, rfl, rfl, by decide +kernel, rfl, by decide +kernel, by decide +kernel⟩
theorem ok_NH_wheel_of {f : Addr} {fd : FuncData} (F : Fun K "wheel_of" "House.wheel_of" sHouse_wheel_of f fd) (T : WT K mg CS CW CB CT CN) (L : LT mg) (h_H : HT K mg CH) (m_W_copied : MOk P w K mg base 4 CW "copied" ["self"] (spCopied CW CS)) (n_H_need_team : MOkN P w K mg base 2 CH "_need_team" ["self", "team"] (spNeedTeam CH CW CS CM)) :
    FnOk P w K mg base (L2N.CX P w) 5 f fd ["self", "team"] (spWheelOf CH CW CS CM) := by
  refine okXN F sc_NH_wheel_of (fun vs H Q E h => ?_) (fun cdv A outer s H vs Q E hr h => ?_)
  · (first | (obtain ⟨_, rfl, _⟩ := h; rfl) | (obtain ⟨_, _, rfl, _⟩ := h; rfl) | (obtain ⟨_, _, _, rfl, _⟩ := h; rfl) | (obtain ⟨_, _, _, _, rfl, _⟩ := h; rfl) | (obtain ⟨_, _, _, _, _, rfl, _⟩ := h; rfl) | (obtain ⟨_, _, _, _, _, _, rfl, _⟩ := h; rfl) | (obtain ⟨_, _, _, _, _, _, _, rfl, _⟩ := h; rfl) | (obtain ⟨_, _, _, _, _, _, _, _, rfl, _⟩ := h; rfl) | (obtain ⟨_, _, _, _, _, _, _, _, _, rfl, _⟩ := h; rfl) | (obtain ⟨_, _, _, _, _, _, _, _, _, _, rfl, _⟩ := h; rfl) | (obtain ⟨_, _, _, _, _, _, _, _, _, _, _, rfl, _⟩ := h; rfl) | (obtain ⟨_, _, _, _, _, _, _, _, _, _, _, _, rfl, _⟩ := h; rfl) | (obtain ⟨_, _, _, _, _, _, _, _, _, _, _, _, _, rfl, _⟩ := h; rfl) | (obtain ⟨_, _, _, _, _, _, _, _, _, _, _, _, _, _, rfl, _⟩ := h; rfl) | (obtain ⟨_, _, _, _, _, _, _, _, _, _, _, _, _, _, _, rfl, _⟩ := h; rfl))
  · obtain ⟨p, h, fp, x, rfl, hA, hx, hlen, k1, k2⟩ := h
    have hu := hu_of hr
    refine ⟨_, (pss_cons (ps_expr (by exact pe_mN n_H_need_team h_H.cl hr (by decide) (fun σ => L2N.passAt (L2N.takes_of rfl rfl rfl rfl) σ) (pv 0) (pa_cons (pv 1) pa_nil)))
      (pss_one (ps_ret (by exact pe_m0 m_W_copied T.clW hr (by decide) (fun σ => passN σ) (pe_dget hu (pe_fld (pv 0) rfl) (pv 1) (fun _ _ => rfl)))))), ?_⟩
    obtain ⟨da, dw, es, e1, rfl, i, o⟩ := id hA
    obtain ⟨dx, hp⟩ := i.ob
    refine ⟨_, rfl, p, dx, _, rfl, hp, hf_no _ _, _, rfl, p, h, _, x, rfl, hA, hx, fun t W et eW => ?_, k2⟩
    subst et
    obtain ⟨e, he, ett, eWe, eq⟩ := lk_qs (es := es) (by rw [← e1]; exact eW)
    have we := i.hws e he
    rw [eWe] at we
    obtain ⟨dxe, de, hqe⟩ := we.at
    refine ⟨_, rfl, p, CH, dx, _, _, rfl, hp, h_H.cl, h_H.aWh, hf_wh _ _, _, rfl, dw, _, rfl, .inl ⟨_, Sum.inr t, .inl i.hdw, rfl, by rw [kvn_val, eq]; rfl⟩, e.q, dxe, _, rfl, hqe, wf_m, e.q, W, e.fp, rfl, we, hlen t W eW, fun q' fp' H' w' s' fr => ?_⟩
    exact k1 t W rfl eW q' fp' H' w' s' fr
theorem sc_L_wheel_good : FnScope ["_law_house", "_law_rows", "_law_team", "_law_wheel", "_law_within", "_law_row"] ["_law_house", "_law_rows", "_law_team"] (defScope s_L_wheel_good) := ⟨rfl, rfl, rfl, by decide +kernel, rfl, by decide +kernel, by decide +kernel⟩
theorem ok_L_wheel_good {f : Addr} {fd : FuncData} (F : Fun K "_law_wheel_good" "_law_wheel_good" s_L_wheel_good f fd) (T : WT K mg CS CW CB CT CN) (L : LT mg) (e_MM : PySem.W.exmOne K (.ref CM) (.ref CM) = some true) (ge_M : mg "NoTeam" = some (.ref CM)) (h_H : HT K mg CH) (m_W_clock_of : MOk P w K mg base 3 CW "clock_of" ["self", "name"] (spAsk CW CS CN fun x => .int x.c)) (m_W_enter : MOk P w K mg base 3 CW "enter" ["self", "name", "share"] (spEnter CW CS CB CT)) (m_W_is_ready : MOk P w K mg base 3 CW "is_ready" ["self", "name"] (spAsk CW CS CN fun x => .bl x.r)) (m_W_names : MOk P w K mg base 1 CW "names" ["self"] (spNames CW CS)) (m_W_share_of : MOk P w K mg base 3 CW "share_of" ["self", "name"] (spAsk CW CS CN fun x => .int x.s)) (m_W_turn : MOk P w K mg base 3 CW "turn" ["self"] (spTurn CW CS)) (m_W_wake : MOk P w K mg base 3 CW "wake" ["self", "name"] (spWake CW CS CN)) (n_H_wheel_of : MOkN P w K mg base 5 CH "wheel_of" ["self", "team"] (spWheelOf CH CW CS CM)) :
    FnOk P w K mg base (L2.CX P w) 6 f fd ["_law_house", "_law_rows", "_law_team"] (spGood9 CH CW CS) := by
  refine okN F sc_L_wheel_good (fun vs H Q E h => ?_) (fun cdv A outer s H vs Q E hr h => ?_)
  · (first | (obtain ⟨_, rfl, _⟩ := h; rfl) | (obtain ⟨_, _, rfl, _⟩ := h; rfl) | (obtain ⟨_, _, _, rfl, _⟩ := h; rfl) | (obtain ⟨_, _, _, _, rfl, _⟩ := h; rfl) | (obtain ⟨_, _, _, _, _, rfl, _⟩ := h; rfl) | (obtain ⟨_, _, _, _, _, _, rfl, _⟩ := h; rfl) | (obtain ⟨_, _, _, _, _, _, _, rfl, _⟩ := h; rfl) | (obtain ⟨_, _, _, _, _, _, _, _, rfl, _⟩ := h; rfl) | (obtain ⟨_, _, _, _, _, _, _, _, _, rfl, _⟩ := h; rfl) | (obtain ⟨_, _, _, _, _, _, _, _, _, _, rfl, _⟩ := h; rfl) | (obtain ⟨_, _, _, _, _, _, _, _, _, _, _, rfl, _⟩ := h; rfl) | (obtain ⟨_, _, _, _, _, _, _, _, _, _, _, _, rfl, _⟩ := h; rfl) | (obtain ⟨_, _, _, _, _, _, _, _, _, _, _, _, _, rfl, _⟩ := h; rfl) | (obtain ⟨_, _, _, _, _, _, _, _, _, _, _, _, _, _, rfl, _⟩ := h; rfl) | (obtain ⟨_, _, _, _, _, _, _, _, _, _, _, _, _, _, _, rfl, _⟩ := h; rfl))
  · obtain ⟨p, lr, ts, h, fp, rows, x, d, rfl, hA, k, R, nx, hl, kk⟩ := h
    have hu := hu_of hr
    have o := hA.ok
    have hal := k.len o
    have lens : ∀ t W, lk h.wh t = some W → W.rows.length ≤ 1000 := fun t W e => by have := o.len e; omega
    obtain ⟨dx, da, dw, hp⟩ := hA.at
    have tm := team_iff k (x := x)
    refine ⟨_, (C8.pss_cut (pt_onlyN rfl rfl ⟨rfl, by decide, .inl ge_M⟩ takes0N (fun W pn xe tk _ => by exact (pss_one (ps_set (i := 3) sc_L_wheel_good.nd rfl (Or.inl rfl) (by exact pe_mN n_H_wheel_of h_H.cl hr (by decide) (fun σ => L2N.passAt tk σ) (pv 0) (pa_cons (pv 2) pa_nil))))) (fun a oe cls d pn hz hf => by exact (pss_one (ps_ret (pe_and (pe_cmpR (op_neP (K0 := K) hr.units) (pv 2) pe_str (nomark _)) (pe_one (pe_cmpR (op_eqP (K0 := K) hr.units) (pe_lcHK (K0 := K) (own := [("_law_row", 5)]) (g := gName 5) (by exact hot_at (a := a) (oe := oe) rfl List.mem_cons_self hz hf) sc_L_wheel_good.nd (pv 1) (blkOk_by (N := ["_law_house", "_law_rows", "_law_team", "_law_wheel", "_law_within", "_law_row"]) (sc := defScope s_L_wheel_good) (by decide +kernel)) (fun _ _ _ _ _ => (pg_name (i := 5) sc_L_wheel_good.nd rfl (Or.inl rfl))) (fun _ _ _ _ _ => (pts_one (PW.pt (pw_and (pt_cmpR (op_eqP (K0 := K) hr.units) (pe_ix (ix_listK (K0 := K)) (pv 5) pe_int (fun _ _ => rfl)) (pv 2) (nomark _)) (pw_and1 (pt_val (pe_ix (ix_listK (K0 := K)) (pv 5) pe_int (fun _ _ => rfl)))))))) (fun _ _ _ _ _ => (pv 5))) (pe_lst pa_nil) (nomark _))))))))
      (C8.pss_cut (ps_if (PW.pt (pw_and (pt_cmpR (op_neP (K0 := K) hr.units) (pv 2) pe_str (nomark _)) (pw_and1 (pt_cmpR (op_eqP (K0 := K) hr.units) (pe_lc (own := [("_law_row", 5)]) (g := gName 5) rfl sc_L_wheel_good.nd (pi_list (pv 1)) (blkOk_by (N := ["_law_house", "_law_rows", "_law_team", "_law_wheel", "_law_within", "_law_row"]) (sc := defScope s_L_wheel_good) (by decide +kernel)) (fun _ _ _ _ _ => (pg_name (i := 5) sc_L_wheel_good.nd rfl (Or.inl rfl))) (fun _ _ _ _ _ => (pts_one (PW.pt (pw_and (pt_cmpR (op_eqP (K0 := K) hr.units) (pe_ix (ix_listK (K0 := K)) (pv 5) pe_int (fun _ _ => rfl)) (pv 2) (nomark _)) (pw_and1 (pt_val (pe_ix (ix_listK (K0 := K)) (pv 5) pe_int (fun _ _ => rfl)))))))) (fun _ _ _ _ _ => (pv 5))) (pe_lst pa_nil) (nomark _))))) (pss_one (ps_ret pe_bl)) pss_nil)
      (pss_cons (ps_setLc (i := 4) (own := [("_law_row", 5)]) (g := gName 5) rfl sc_L_wheel_good.nd rfl rfl (sw_true rfl rfl rfl (by decide +kernel)) (pi_list (pv 1)) (blkOk_by (N := ["_law_house", "_law_rows", "_law_team", "_law_wheel", "_law_within", "_law_row"]) (sc := defScope s_L_wheel_good) (by decide +kernel)) (fun _ _ _ _ _ => (pg_name (i := 5) sc_L_wheel_good.nd rfl (Or.inl rfl))) (fun _ _ _ _ _ => (pts_one (pt_cmpR (op_eqP (K0 := K) hr.units) (pe_ix (ix_listK (K0 := K)) (pv 5) pe_int (fun _ _ => rfl)) (pv 2) (nomark _)))) (fun _ _ _ _ _ => (pv 5)))
      (pss_cons (ps_if (PW.pt (pw_or (pt_cmpR (op_neP (K0 := K) hr.units) (by exact pe_m0 m_W_names T.clW hr (by decide) (fun σ => passN σ) (pv 3)) (pe_lc (own := [("_law_row", 5)]) (g := gName 5) (tt := tYes) rfl sc_L_wheel_good.nd (pi_list (pv 4)) (blkOk_by (N := ["_law_house", "_law_rows", "_law_team", "_law_wheel", "_law_within", "_law_row"]) (sc := defScope s_L_wheel_good) (by decide +kernel)) (fun _ _ _ _ _ => (pg_name (i := 5) sc_L_wheel_good.nd rfl (Or.inl rfl))) (fun _ _ _ _ _ => pts_nil) (fun _ _ _ _ _ => (pe_ix (ix_listK (K0 := K)) (pv 5) pe_int (fun _ _ => rfl)))) (nomark _)) (pw_or1 (pt_cmpR op_ne (pe_fld (pv 3) rfl) pe_int (nomark _))))) (pss_one (ps_ret pe_bl)) pss_nil)
      (pss_cons (ps_for PassesOwn.never rfl (pi_list (pv 4)) (pg_name (i := 5) sc_L_wheel_good.nd rfl (Or.inl rfl))
        (pss_cons (ps_if (PW.pt (pw_or (pt_cmpR op_ne (by exact pe_m m_W_share_of T.clW hr (by decide) (fun σ => passN σ) (pv 3) (pa_cons (pe_ix (ix_listK (K0 := K)) (pv 5) pe_int (fun _ _ => rfl)) pa_nil)) (pe_ix (ix_listK (K0 := K)) (pv 5) pe_int (fun _ _ => rfl)) (nomark _)) (pw_or1 (pt_cmpR op_ne (by exact pe_m m_W_clock_of T.clW hr (by decide) (fun σ => passN σ) (pv 3) (pa_cons (pe_ix (ix_listK (K0 := K)) (pv 5) pe_int (fun _ _ => rfl)) pa_nil)) pe_int (nomark _))))) (pss_one (ps_ret pe_bl)) pss_nil)
      (pss_one (ps_if (pt_cmpR op_notBl (by exact pe_m m_W_is_ready T.clW hr (by decide) (fun σ => passN σ) (pv 3) (pa_cons (pe_ix (ix_listK (K0 := K)) (pv 5) pe_int (fun _ _ => rfl)) pa_nil)) pe_bl (nomark _)) (pss_one (ps_ret pe_bl)) pss_nil))))
      (pss_cons (ps_expr (by exact pe_m m_W_enter T.clW hr (by decide) (fun σ => passN σ) (pv 3) (pa_cons pe_str (pa_cons pe_int pa_nil))))
      (pss_cons (ps_expr (by exact pe_m m_W_wake T.clW hr (by decide) (fun σ => passN σ) (pv 3) (pa_cons pe_str pa_nil)))
      (pss_one (ps_ret (pe_cmpR op_eq (by exact pe_m0 m_W_turn T.clW hr (by decide) (fun σ => passN σ) (pv 3)) pe_str (nomark _))))))))))), ?_⟩
    have team_test : ∀ {H0 : Hp}, Nv H0 x d → ∀ y ∈ rows, ∀ t H', Same H0 H' → H' t = some (.lst (hv9 y)) → ∀ (Y : Bool → Hp → Prop), Y (decide (x = .str y.n) && y.t) H' → ∀ v3 v4 : Option V,
        tAnd (tTest (tOp (rEqP K) (tOp (rIxL K) (tVar 5) (tC (V.int 0))) (tVar 2))) (tB (tOp (rIxL K) (tVar 5) (tC (V.int 3)))) [some (.ref p), some (.ref lr), some x, v3, v4, some (.ref t)] H' Y := fun {H0} n0 y hy t H' sm ht Y hY v3 v4 => by
      refine ⟨_, rfl, t, _, _, _, rfl, rfl, SqL.of ht, at_of (j := 0) rfl rfl, _, rfl, _, _, .str _, (n0.same sm).dp, rfl, n0.sm.1, Nat.zero_le _, _, rfl, ?_⟩
      rw [n0.eq]
      cases ea : decide (x = V.str y.n) with
      | true =>
        rw [ea] at hY
        exact iteT ⟨_, rfl, t, _, _, _, rfl, rfl, SqL.of ht, at_of (j := 3) rfl rfl, _, rfl, hY⟩
      | false =>
        rw [ea] at hY
        exact iteF hY
    refine ⟨fun σ' H' => ∃ (q : Addr) (fq : List Addr) (W : WhS) (t : Str), σ' = [some (.ref p), some (.ref lr), some x, some (.ref q), none, none] ∧ x = .str t ∧ lk h.wh t = some W ∧ WAt CW CS H' q W fq ∧ Same H H' ∧ ∀ b ∈ fq, H b = none, ?_, ?_⟩
    · refine ⟨_, rfl, p, dx, _, rfl, hp, hf_no _ _, _, rfl, nil_app ⟨p, h, fp, x, rfl, hA, nx.th, lens, fun t W ex eW q fq H2 w2 s2 fr2 => ⟨q, fq, W, t, rfl, ex, eW, w2, s2, fr2⟩, fun nt => ⟨true, e_MM, fun _ a ha => ?_, (by intro z; cases z)⟩⟩⟩
      have tF : team9 rows x = false := Bool.eq_false_iff.mpr fun z => by
        obtain ⟨t, W, e1, e2⟩ := tm.mp z
        exact nt t W e1 e2
      unfold team9 at tF
      rw [Bool.or_eq_false_iff] at tF
      refine ⟨_, rfl, _, _, nx.dp, .str _, nx.sm.1, rfl, nx.sm.2, ?_⟩
      rw [nx.eq2, tF.1]
      refine ⟨_, rfl, iteT ?_⟩
      refine none9 (pr := fun y => decide (x = .str y.n) && y.t) rfl (by show 5 < 6; decide) R (by omega) (fun y hy t H' sm ht Y hY => team_test nx y hy t H' sm ht Y hY none none) (fun H3 s3 => ?_)
      rw [tF.2]
      exact kk H3 s3
    rintro σ' H1 ⟨q, fq, W, t, rfl, rfl, eW, w1, s1, fr⟩
    have tT : team9 rows (.str t) = true := tm.mpr ⟨t, W, rfl, eW⟩
    refine ⟨fun σ' H' => σ' = [some (.ref p), some (.ref lr), some (.str t), some (.ref q), none, none] ∧ Same H1 H', ?_, ?_⟩
    · refine ⟨_, rfl, _, _, (nx.same s1).dp, .str _, nx.sm.1, rfl, nx.sm.2, _, rfl, ?_⟩
      rw [nx.eq2]
      cases et : decide (V.str t = V.str "") with
      | true => exact iteF (iteF ⟨rfl, fun _ _ e => e⟩)
      | false =>
        refine iteT ?_
        refine none9 (pr := fun y => decide (V.str t = .str y.n) && y.t) rfl (by show 5 < 6; decide) (R.same s1) (by omega) (fun y hy u H' sm ht Y hY => team_test (nx.same s1) y hy u H' sm ht Y hY (some (.ref q)) none) (fun H3 s3 => ⟨_, rfl, ?_⟩)
        unfold team9 at tT
        rw [et, Bool.false_or] at tT
        rw [tT]
        exact iteF ⟨rfl, s3⟩
    rintro σ' H2 ⟨rfl, s2⟩
    have s02 := s1.trans s2
    have R2' := R.same s02
    have w2 := w1.same s2
    refine ⟨_, rfl, lr, rfl, ⟨_, SqL.of R2'.h⟩, fun D hD => ?_⟩
    refine lc_rf (K := K) (fun y : R9 => decide (V.str t = V.str y.a)) R2' hD (by omega) (fun y hy u H' sm hu' Y Z hY hZ => ?_) (fun H3 us sm hD3 hus => ?_)
    · refine ⟨rfl, _, rfl, u, _, _, _, rfl, rfl, SqL.of hu', at_of (j := 1) rfl rfl, _, rfl, _, _, .str _, (nx.same (s02.trans sm)).dp, rfl, nx.sm.1, Nat.zero_le _, _, rfl, ?_⟩
      rw [nx.eq]
      cases ea : decide (V.str t = V.str y.a) with
      | true => exact iteT ⟨_, rfl, hY ea⟩
      | false => exact iteF (hZ ea)
    obtain ⟨ys, eys⟩ : ∃ ys, (rows.filter fun y : R9 => decide (V.str t = V.str y.a)) = ys := ⟨_, rfl⟩
    rw [eys] at hus
    obtain ⟨p0, p1⟩ := k.wl t W eW
    have p1 : W.rows = ys.map wrow := by
      rw [p1, ← eys]
      congr 1
      exact List.filter_congr fun y _ => decide_eq_decide.mpr ⟨fun z => by rw [z], fun z => (V.str.inj z).symm⟩
    have yl : ys.length ≤ 100 := by
      rw [← eys]
      exact Nat.le_trans (List.length_filter_le _ _) hl
    have ymem : ∀ y ∈ ys, y ∈ rows := fun y hy => by rw [← eys] at hy; exact (List.mem_filter.mp hy).1
    have s03 := s02.trans sm
    have w3 := w2.same sm
    obtain ⟨dq, ds, hq⟩ := w3.at
    refine ⟨_, rfl, q, dq, _, rfl, hq, wf_m, q, W, fq, rfl, w3, fun ln hln => ?_⟩
    have sn := same_upd (o := .lst (W.rows.map fun x => V.str x.n)) hln
    have en : upd H3 ln (.lst (W.rows.map fun x => V.str x.n)) ln = some (.lst ((ys.map fun y => y.n).map V.str)) := by
      rw [upd_same, p1, List.map_map, List.map_map]
      rfl
    have hD4 := sn _ _ hD3
    have hus4 : RGA hv9 (upd H3 ln (.lst (W.rows.map fun x => V.str x.n))) us ys := hus.mono fun _ _ _ e => sn _ _ e
    have w4 := w3.same sn
    have s04 := s03.trans sn
    generalize upd H3 ln (.lst (W.rows.map fun x => V.str x.n)) = H4 at en hD4 hus4 w4 s04 ⊢
    refine ⟨_, rfl, D, rfl, ⟨_, SqL.of hD4⟩, fun L hL => ?_⟩
    have usl : us.length = ys.length := hus4.len
    refine lc_list (K := K) (a := D) (xs := us.map V.ref) (fun i H' => H' L = some (.lst ((ys.take i).map fun y => V.str y.n)) ∧ ∀ b o, b ≠ L → H4 b = some o → H' b = some o) ⟨upd_same, fun b o n e => by rw [upd_ne n]; exact e⟩ (fun i H' _ e => SqL.of (e.2 _ _ (ne_of_none hD4 hL) hD4)) ?_ ?_
    · rintro i v H' hv ⟨eL, kp⟩
      have hi : i < ys.length := by rw [← usl]; have := (List.getElem?_eq_some_iff.mp hv).1; rw [List.length_map] at this; exact this
      have ey : ys[i]? = some ys[i] := List.getElem?_eq_getElem hi
      generalize ys[i] = y at ey
      obtain ⟨u, u1, u2⟩ := hus4.at ey
      have hv' : v = .ref u := by
        rw [List.getElem?_map, u1] at hv
        exact (Option.some.inj hv).symm
      subst hv'
      refine ⟨rfl, ?_⟩
      unfold tYes
      refine (fun {A B : Prop} (z : A) => show if true = true then A else B from z) ?_
      refine ⟨_, rfl, u, _, _, _, rfl, rfl, SqL.of (kp _ _ (ne_of_none u2 hL) u2), at_of (j := 0) rfl rfl, _, eL, by rw [List.length_map, List.length_take]; exact small1000 (by omega), ?_, fun b o n e => by rw [upd_ne n]; exact kp b o n e⟩
      rw [upd_same, take_snoc ey, List.map_append]
      rfl
    · rintro H5 ⟨eL, kp⟩
      rw [List.length_map, usl, List.take_length] at eL
      have s45 : Same H4 H5 := fun b o e => kp b o (fun z => by rw [z, hL] at e; cases e) e
      have eL' : H5 L = some (.lst ((ys.map fun y => y.n).map V.str)) := by
        rw [eL, List.map_map]
        rfl
      refine ne_same (d := .list ((ys.map fun y => y.n).map .str)) (.lst (SqL.of (s45 _ _ en)) (strs9 _)) (.lst (SqL.of eL') (strs9 _)) (strs9_sm _) ⟨_, rfl, iteF ?_⟩
      have w5 := w4.same s45
      obtain ⟨dq, ds, hq⟩ := w5.at
      refine ⟨_, rfl, q, CW, dq, _, _, rfl, hq, T.clW, T.aPast, wf_past _ _, rfl, _, rfl, ?_⟩
      rw [p0, show (!decide (V.int 0 = V.int 0)) = false by rw [decide_eq_true rfl]; rfl]
      refine iteF ?_
      have hD5 := s45 _ _ hD4
      have hus5 : RGA hv9 H5 us ys := hus4.mono fun _ _ _ e => s45 _ _ e
      have s05 := s04.trans s45
      have rowOf : ∀ y ∈ ys, ∀ z ∈ W.rows, z.n = y.n → z = wrow y := fun y hy z hz zn => by
        rw [p1] at hz
        obtain ⟨u, hu', rfl⟩ := List.mem_map.mp hz
        rw [r9_one k.nd (ymem u hu') (ymem y hy) zn]
      have hasOf : ∀ y ∈ ys, Has W y.n := fun y hy => ⟨wrow y, by rw [p1]; exact List.mem_map.mpr ⟨y, hy, rfl⟩, rfl⟩
      refine ⟨_, rfl, D, rfl, ⟨_, SqL.of hD5⟩, for_list (K := K) (a := D) (xs := us.map V.ref) (fun i σ H' => ∃ v5, σ = [some (.ref p), some (.ref lr), some (.str t), some (.ref q), some (.ref D), v5] ∧ Same H5 H') ⟨none, rfl, fun _ _ e => e⟩ (fun i σ H' _ ⟨_, _, s'⟩ => SqL.of (s' _ _ hD5)) ?_ ?_⟩
      · rintro i v σ H' hv ⟨v5, rfl, s'⟩
        have hi : i < ys.length := by rw [← usl]; have := (List.getElem?_eq_some_iff.mp hv).1; rw [List.length_map] at this; exact this
        have ey : ys[i]? = some ys[i] := List.getElem?_eq_getElem hi
        generalize ys[i] = y at ey
        have hy := List.mem_of_getElem? ey
        obtain ⟨u, u1, u2⟩ := hus5.at ey
        have hv' : v = .ref u := by
          rw [List.getElem?_map, u1] at hv
          exact (Option.some.inj hv).symm
        subst hv'
        have w' := w5.same s'
        have hq' := s' _ _ hq
        have u3 := s' _ _ u2
        have eqI : ∀ i : Int, (!decide (V.int i = V.int i)) = false := fun i => by rw [decide_eq_true rfl]; rfl
        refine ⟨_, rfl, q, dq, _, rfl, hq', wf_m, _, rfl, u, _, _, _, rfl, rfl, SqL.of u3, at_of (j := 0) rfl rfl, nil_app ⟨q, W, fq, y.n, rfl, w', fun z => (z (hasOf y hy)).elim, fun z hz zn => ?_⟩⟩
        rw [rowOf y hy z hz zn]
        refine ⟨_, rfl, u, _, _, _, rfl, rfl, SqL.of u3, at_of (j := 2) rfl rfl, rfl, _, rfl, ?_⟩
        rw [show (!decide (V.int (wrow y).s = V.int y.s)) = false from eqI y.s]
        refine iteF ⟨_, rfl, q, dq, _, rfl, hq', wf_m, _, rfl, u, _, _, _, rfl, rfl, SqL.of u3, at_of (j := 0) rfl rfl, nil_app ⟨q, W, fq, y.n, rfl, w', fun z => (z (hasOf y hy)).elim, fun z hz zn => ?_⟩⟩
        rw [rowOf y hy z hz zn]
        refine ⟨rfl, _, rfl, ?_⟩
        rw [show (!decide (V.int (wrow y).c = V.int 0)) = false from eqI 0]
        refine iteF ⟨_, rfl, q, dq, _, rfl, hq', wf_m, _, rfl, u, _, _, _, rfl, rfl, SqL.of u3, at_of (j := 0) rfl rfl, nil_app ⟨q, W, fq, y.n, rfl, w', fun z => (z (hasOf y hy)).elim, fun z hz zn => ?_⟩⟩
        rw [rowOf y hy z hz zn]
        refine ⟨_, _, rfl, rfl, _, rfl, ?_⟩
        rw [show (!decide ((wrow y).r = false)) = false from rfl]
        exact iteF ⟨_, rfl, s'⟩
      · rintro σ H6 ⟨v5, rfl, s'⟩
        have w6 := w5.same s'
        have hq6 := s' _ _ hq
        have no : ∀ z ∈ W.rows, z.n ≠ "other" := fun z hz => by
          rw [p1] at hz
          obtain ⟨u, hu', rfl⟩ := List.mem_map.mp hz
          exact k.no u (ymem u hu')
        have rest : ∀ z ∈ W.rows, z.r = false := fun z hz => by
          rw [p1] at hz
          obtain ⟨u, hu', rfl⟩ := List.mem_map.mp hz
          rfl
        have nh : ¬ Has W "other" := fun ⟨z, hz, zn⟩ => no z hz zn
        have wl : W.rows.length ≤ 1000 := by rw [p1, List.length_map]; omega
        refine ⟨_, rfl, q, dq, _, rfl, hq6, wf_m, q, W, fq, "other", .int 3, rfl, w6, wl, .int _, fun z => (nh z).elim, fun _ z => absurd z (by decide), fun _ s0 es0 i1 i2 H7 fq7 w7 st7 => ?_⟩
        cases es0
        obtain ⟨dq7, ds7, hq7⟩ := w7.at
        refine ⟨_, rfl, q, dq7, _, rfl, hq7, wf_m, q, _, fq7, "other", rfl, w7, fun z => (z ?_).elim, fun z hz zn H8 w8 st8 => ?_⟩
        · exact ⟨_, List.mem_append.mpr (.inr List.mem_cons_self), rfl⟩
        obtain ⟨dq8, ds8, hq8⟩ := w8.at
        refine ⟨_, rfl, q, dq8, _, rfl, hq8, wf_m, q, _, fq7, rfl, w8, fun H9 w9 st9 => ?_⟩
        rw [other_turn rest no]
        have big : Same H H9 := fun b o e => by
          have nb : b ∉ fq := fun z => by rw [fr b z] at e; cases e
          exact ((st7.trans st8).trans st9).kept b o (s' _ _ (s05 _ _ e)) nb
        refine ⟨rfl, ?_⟩
        rw [show decide (optN (some "other") = V.str "other") = true from decide_eq_true rfl]
        exact kk H9 big
end

/-! ### law k09, seventh part: the law -/
/-- house, rows, names together -/
structure S9 (CH CW CS Pt : Addr) (H : Hp) (p lr ln : Addr) (ts : List Addr) (h : Hs) (fp : List Addr) (rows : List R9) (xs : List V) (five : List Str) : Prop where
  A : HAt CH CW CS H p h fp
  rd : Rd h ""
  k : K9 rows h
  R : Rg hv9 H lr ts rows
  N : N9 H ln xs five
  hT : GxR.TabG H Pt
def KL (H H' : Hp) : Prop := ∀ b xs, H b = some (.lst xs) → H' b = some (.lst xs)
theorem N9.keep {H H' : Hp} {l : Addr} {xs : List V} {five : List Str} (N : N9 H l xs five) (k : KL H H') : N9 H' l xs five :=
  ⟨k _ _ N.h, N.len, N.fv, N.ok, N.no, fun x hx => (N.nv x hx).imp fun d q => q.keep k, N.nm, N.sz⟩
section
variable {CH CW CS Pt : Addr} {H H' : Hp} {p lr ln : Addr} {ts : List Addr} {h h' : Hs} {fp fp' : List Addr} {rows : List R9} {xs : List V} {five : List Str}
theorem S9.same (S : S9 CH CW CS Pt H p lr ln ts h fp rows xs five) (s : Same H H') : S9 CH CW CS Pt H' p lr ln ts h fp rows xs five :=
  ⟨S.A.same s, S.rd, S.k, S.R.same s, S.N.keep fun b xs e => s _ _ e, tab_same S.hT s⟩
theorem S9.kl (S : S9 CH CW CS Pt H p lr ln ts h fp rows xs five) (st : Step (Pt :: fp) H (Pt :: fp') H') : KL H H' := fun b ys e => st.kept _ _ e fun z => by
  rcases List.mem_cons.mp z with rfl | z
  · obtain ⟨ps, q, _⟩ := S.hT
    rw [e] at q
    cases q
  · exact S.A.lst e z
/-- the rows' list is written -/
theorem put9 (A : HAt CH CW CS H p h fp) (R : Rg hv9 H lr ts rows) (N : N9 H ln xs five) (hT : GxR.TabG H Pt) {ws : List V} : N9 (upd H lr (.lst ws)) ln xs five ∧ HAt CH CW CS (upd H lr (.lst ws)) p h fp ∧ GxR.TabG (upd H lr (.lst ws)) Pt := by
  have refs : ∀ {z : Str} {r : List V}, ts.map V.ref ≠ V.str z :: r := fun q => by
    cases ts with
    | nil => cases q
    | cons t r => cases q
  have nl : ln ≠ lr := fun z => by
    have e := N.h
    rw [z, R.h] at e
    have e : ts.map V.ref = xs := by
      injection e with e
      injection e
    have f := N.fv
    rw [← e] at f
    have l9 := N.len
    rw [← e, List.length_map] at l9
    cases ts with
    | nil => cases l9
    | cons t r =>
      cases five with
      | nil => cases f
      | cons n r2 => cases f
  refine ⟨⟨by rw [upd_ne nl]; exact N.h, N.len, N.fv, N.ok, N.no, fun x hx => ?_, N.nm, N.sz⟩, A.upl R.h, tab_upd hT R.h⟩
  obtain ⟨d, q⟩ := N.nv x hx
  refine ⟨d, ?_⟩
  cases q with
  | str z o => exact .str z o
  | int i => exact .int i
  | non => exact .non
  | bl b => exact .bl b
  | lst e =>
    refine .lst ?_
    rw [upd_ne fun z => ?_]
    · exact e
    · rw [z, R.h] at e
      injection e with e
      injection e with e
      exact refs e
theorem nv_put {x : V} {d : PyData} (R : Rg hv9 H lr ts rows) (q : Nv H x d) {ws : List V} : Nv (upd H lr (.lst ws)) x d := by
  cases q with
  | str z o => exact .str z o
  | int i => exact .int i
  | non => exact .non
  | bl b => exact .bl b
  | lst e =>
    refine .lst ?_
    rw [upd_ne fun z => ?_]
    · exact e
    · rw [z, R.h] at e
      injection e with e
      injection e with e
      cases ts with
      | nil => cases e
      | cons t r => cases e
end
theorem rga_at {H : Hp} : ∀ {us : List Addr} {rs : List R9}, RGA hv9 H us rs → ∀ u ∈ us, ∃ y ∈ rs, H u = some (.lst (hv9 y))
  | _, _, .nil, _, h => (nomatch h)
  | _, _, .cons a b, u, h => by
    rcases List.mem_cons.mp h with rfl | h
    · exact ⟨_, List.mem_cons_self, a⟩
    · obtain ⟨y, hy, e⟩ := rga_at b u h
      exact ⟨y, List.mem_cons_of_mem _ hy, e⟩
theorem rga_nd {H : Hp} : ∀ {us : List Addr} {rs : List R9}, RGA hv9 H us rs → (rs.map (·.n)).Nodup → us.Nodup
  | _, _, .nil, _ => List.nodup_nil
  | _, _, .cons (x := x) (rows := rs) a b, nd => by
    have nd := List.nodup_cons.mp nd
    refine List.nodup_cons.mpr ⟨fun z => ?_, rga_nd b nd.2⟩
    obtain ⟨y, hy, e⟩ := rga_at b _ z
    rw [a] at e
    injection e with e
    injection e with e
    injection e with e1 _
    exact nd.1 (List.mem_map.mpr ⟨y, hy, (V.str.inj e1).symm⟩)
/-- rows in a list, known by their names -/
theorem rg_of {H : Hp} {l : Addr} {us : List Addr} {rs : List R9} (h : H l = some (.lst (us.map V.ref))) (a : RGA hv9 H us rs) (nd : (rs.map (·.n)).Nodup) : Rg hv9 H l us rs := by
  refine ⟨h, a, List.nodup_cons.mpr ⟨fun z => ?_, rga_nd a nd⟩⟩
  obtain ⟨y, _, e⟩ := rga_at a _ z
  rw [h] at e
  injection e with e
  injection e with e
  cases us with
  | nil => cases e
  | cons u r => cases e
section
variable {rows : List R9} {kd : Int} {x ab sh : V}
theorem none_lt (k : kd < 2) (e : due9 rows kd x ab sh = none) : isNm x = true ∧ team9 rows ab = true ∧ good sh = true := by
  cases h1 : isNm x with
  | false => rw [due_A k h1] at e; cases e
  | true =>
    cases h2 : there9 rows x with
    | true => rw [due_T k h1 h2] at e; cases e
    | false =>
      cases h3 : team9 rows ab with
      | false => rw [due_M k h1 h2 h3] at e; cases e
      | true =>
        cases h4 : good sh with
        | false => rw [due_B k h1 h2 h3 h4] at e; cases e
        | true => exact ⟨rfl, rfl, rfl⟩
theorem none_ge (k : ¬ kd < 2) (e : due9 rows kd x ab sh = none) : ∃ y ∈ rows, x = .str y.n := by
  cases h2 : there9 rows x with
  | false => rw [due_N k h2] at e; cases e
  | true =>
    obtain ⟨y, hy, q⟩ := List.any_eq_true.mp h2
    exact ⟨y, hy, of_decide_eq_true q⟩
theorem none_3 (k : kd = 3) (e : due9 rows kd x ab sh = none) : good sh = true := by
  cases h2 : there9 rows x with
  | false => rw [due_N (by omega) h2] at e; cases e
  | true =>
    cases h4 : good sh with
    | false => rw [due_C k h2 h4] at e; cases e
    | true => rfl
theorem nm_str (h : isNm x = true) : ∃ n, x = .str n := by
  cases x with
  | str n => exact ⟨n, rfl⟩
  | _ => cases h
theorem team_str (h : team9 rows ab = true) : ∃ n, ab = .str n := by
  unfold team9 at h
  rw [Bool.or_eq_true, List.any_eq_true] at h
  rcases h with h | ⟨y, _, h⟩
  · exact ⟨_, of_decide_eq_true h⟩
  · rw [Bool.and_eq_true] at h
    exact ⟨_, of_decide_eq_true h.1⟩
theorem good_int (h : good sh = true) : ∃ i, sh = .int i := by
  cases sh with
  | int i => exact ⟨i, rfl⟩
  | _ => cases h
end
def resD : Option Str → PyData
  | none => .none
  | some z => .str z
theorem res_dp {K : PySem.W.Frag} {H : Hp} : ∀ o : Option Str, Dp K H (resV o) (resD o)
  | none => .non
  | some z => .str z
theorem res_sm : ∀ o : Option Str, Sm 64 (resD o)
  | none => ⟨rfl, Nat.zero_le _⟩
  | some z => .str _ z
theorem last_str {l : List Str} (h : l ≠ []) : atI (l.map V.str) (-1) = some (.str (l.getLast h)) := by
  have hl : 0 < l.length := List.length_pos_iff.mpr h
  unfold atI ixN
  rw [if_neg (by decide), List.length_map, if_pos (by omega)]
  show (l.map V.str)[_]? = _
  rw [List.getElem?_map, show ((-1 : Int) + (l.length : Int)).toNat = l.length - 1 by omega, List.getElem?_eq_getElem (by omega), List.getLast_eq_getElem]
  rfl
theorem ints9 {K : PySem.W.Frag} {H : Hp} : ∀ l : List Int, DpAll K H (l.map V.int) (l.map PyData.int)
  | [] => .nil
  | _ :: l => .cons (.int _) (ints9 l)
theorem ints9_sm (l : List Int) : Sm 64 (.list (l.map PyData.int)) := Sm.up (j := 1) (Sm.list fun d hd => by
  obtain ⟨y, _, rfl⟩ := List.mem_map.mp hd
  exact .int _ _) (by decide)
section
variable {P : Program} {w : World} {K : PySem.W.Frag} {mg : Str → Option Value} {base : Heap} {CS CW CB CT CN CH CM CY CA CD CU CE CV Pt : Addr}
theorem sc_law : FnScope ["_law_script", "_law_names", "_law_house", "_law_rows", "_law_cell", "_law_kind", "_law_mixed", "_law_name", "_law_above", "_law_share", "_law_teams", "_law_due_here", "_law_team", "_law_k", "_law_row"] ["_law_script"] (defScope s_law) := ⟨rfl, rfl, rfl, by decide +kernel, rfl, by decide +kernel, by decide +kernel⟩
theorem ok_law {f : Addr} {fd : FuncData} (F : Fun K "law" "law" s_law f fd) (T : WT K mg CS CW CB CT CN) (L : LT mg) (g_done : DOk P w K mg base 7 "_law_done" ["_law_house", "_law_kind", "_law_name", "_law_above", "_law_share"] (spDone9 Pt CH CW CS)) (g_due : DOk P w K mg base 2 "_law_due" ["_law_rows", "_law_names", "_law_kind", "_law_name", "_law_above", "_law_share"] spDue9) (g_names_by : DOk P w K mg base 1 "_law_names_by" ["_law_cell"] spNames9) (g_wheel_good : DOk P w K mg base 6 "_law_wheel_good" ["_law_house", "_law_rows", "_law_team"] (spGood9 CH CW CS)) (k_House : KOk P w K mg base 3 "House" CH ["self"] (spHInit CH CW CS)) :
    FnOk P w K mg base CX0 9 f fd ["_law_script"] (spLawT K Pt) := by
  refine F.ok sc_law (fun vs H Q E h => ?_) (fun cdv A outer s H vs Q E hr h => ?_)
  · (first | (obtain ⟨_, rfl, _⟩ := h; rfl) | (obtain ⟨_, _, rfl, _⟩ := h; rfl) | (obtain ⟨_, _, _, rfl, _⟩ := h; rfl) | (obtain ⟨_, _, _, _, rfl, _⟩ := h; rfl) | (obtain ⟨_, _, _, _, _, rfl, _⟩ := h; rfl) | (obtain ⟨_, _, _, _, _, _, rfl, _⟩ := h; rfl) | (obtain ⟨_, _, _, _, _, _, _, rfl, _⟩ := h; rfl) | (obtain ⟨_, _, _, _, _, _, _, _, rfl, _⟩ := h; rfl) | (obtain ⟨_, _, _, _, _, _, _, _, _, rfl, _⟩ := h; rfl) | (obtain ⟨_, _, _, _, _, _, _, _, _, _, rfl, _⟩ := h; rfl) | (obtain ⟨_, _, _, _, _, _, _, _, _, _, _, rfl, _⟩ := h; rfl) | (obtain ⟨_, _, _, _, _, _, _, _, _, _, _, _, rfl, _⟩ := h; rfl) | (obtain ⟨_, _, _, _, _, _, _, _, _, _, _, _, _, rfl, _⟩ := h; rfl) | (obtain ⟨_, _, _, _, _, _, _, _, _, _, _, _, _, _, rfl, _⟩ := h; rfl) | (obtain ⟨_, _, _, _, _, _, _, _, _, _, _, _, _, _, _, rfl, _⟩ := h; rfl))
  · obtain ⟨a, ns, rfl, hS0, hT, hlen, kk⟩ := h
    have hu := hu_of hr
    refine ⟨_, (C8.pss_cut (ps_set (i := 1) sc_law.nd rfl (Or.inl rfl) (by exact pe_f g_names_by hr (by decide) (by rfl) (fun σ => passN σ) (pa_cons (pe_ifExp (pt_cmpR (op_neP (K0 := K) hr.units) (pv 0) (pe_lst pa_nil) (nomark _)) (pe_ix (ix_listK (K0 := K)) (pv 0) pe_int (fun _ _ => rfl)) pe_int) pa_nil)))
      (pss_cons (ps_set (i := 2) sc_law.nd rfl (Or.inl rfl) (by exact pe_k0 k_House hr (by decide) (by rfl)))
      (pss_cons (ps_set (i := 3) sc_law.nd rfl (Or.inl rfl) (pe_lst pa_nil))
      (C8.pss_cut (ps_for PassesOwn.never rfl (pi_list (pe_slice sl_list (pv 0) (po_some pe_int) (po_some pe_int))) (pg_name (i := 4) sc_law.nd rfl (Or.inl rfl))
        (pss_cons (ps_set (i := 5) sc_law.nd rfl (Or.inl rfl) (pe_op op_mod (pv 4) pe_int))
      (pss_cons (ps_set (i := 6) sc_law.nd rfl (Or.inl rfl) (pe_op op_mod (pe_op op_add (pe_op op_mul (pv 4) pe_int) (pe_op op_mul pe_int (pe_callB call_len_seq (by rfl) L.len PySem.boot_len (pa_cons (pv 3) pa_nil)))) pe_int))
      (pss_cons (ps_set (i := 7) sc_law.nd rfl (Or.inr rfl) (pe_ix (ix_listK (K0 := K)) (pv 1) (pe_op op_mod (pv 6) pe_int) (fun _ _ => rfl)))
      (C8.pss_cut (ps_set (i := 8) sc_law.nd rfl (Or.inl rfl) (pe_ix (ix_listK (K0 := K)) (pe_op op_cat (pe_lst (pa_cons pe_str (pa_cons pe_str (pa_cons pe_str pa_nil)))) (pv 1)) (pe_op op_mod (pe_op op_fdiv (pv 6) pe_int) pe_int) (fun _ _ => rfl)))
      (C8.pss_cut (ps_set (i := 9) sc_law.nd rfl (Or.inr rfl) (pe_ix (ix_listK (K0 := K)) (pe_op op_cat (pe_lc (own := [("_law_k", 13)]) (g := gName 13) (tt := tYes) rfl sc_law.nd (pi_range1 rfl L.range (pa_cons pe_int pa_nil)) (blkOk_by (N := ["_law_script", "_law_names", "_law_house", "_law_rows", "_law_cell", "_law_kind", "_law_mixed", "_law_name", "_law_above", "_law_share", "_law_teams", "_law_due_here", "_law_team", "_law_k", "_law_row"]) (sc := defScope s_law) (by decide +kernel)) (fun _ _ _ _ _ => (pg_name (i := 13) sc_law.nd rfl (Or.inl rfl))) (fun _ _ _ _ _ => pts_nil) (fun _ _ _ _ _ => (pv 13))) (pe_lst (pa_cons pe_bl (pa_cons pe_str (pa_cons pe_non (pa_cons (pe_op op_pow pe_int pe_int) (pa_cons (pe_lst (pa_cons pe_int pa_nil)) pa_nil))))))) (pe_op op_mod (pe_op op_fdiv (pv 6) pe_int) pe_int) (fun _ _ => rfl)))
      (C8.pss_cut (ps_setLc (i := 10) (own := [("_law_row", 14)]) (g := gName 14) rfl sc_law.nd rfl rfl (sw_true rfl rfl rfl (by decide +kernel)) (pi_list (pv 3)) (blkOk_by (N := ["_law_script", "_law_names", "_law_house", "_law_rows", "_law_cell", "_law_kind", "_law_mixed", "_law_name", "_law_above", "_law_share", "_law_teams", "_law_due_here", "_law_team", "_law_k", "_law_row"]) (sc := defScope s_law) (by decide +kernel)) (fun _ _ _ _ _ => (pg_name (i := 14) sc_law.nd rfl (Or.inl rfl))) (fun _ _ _ _ _ => (pts_one (pt_val (pe_ix (ix_listK (K0 := K)) (pv 14) pe_int (fun _ _ => rfl))))) (fun _ _ _ _ _ => (pe_ix (ix_listK (K0 := K)) (pv 14) pe_int (fun _ _ => rfl))))
      (C8.pss_cut (ps_if (PW.pt (pw_and (pt_cmpR (op_neP (K0 := K) hr.units) (pv 10) (pe_lst pa_nil) (nomark _)) (pw_and1 (pt_cmpR op_eq (pe_op op_mod (pe_op op_fdiv (pv 6) pe_int) pe_int) pe_int (nomark _))))) (pss_cons (ps_set (i := 8) sc_law.nd rfl (Or.inl rfl) (pe_ix (ix_listK (K0 := K)) (pv 10) (pe_un un_neg pe_int) (fun _ _ => rfl)))
      (pss_one (ps_set (i := 7) sc_law.nd rfl (Or.inr rfl) (pe_ifExp (pt_cmpR op_eq (pv 5) pe_int (nomark _)) (pv 8) (pv 7))))) pss_nil)
      (C8.pss_cut (ps_if (pt_cmpR op_lt (pv 5) pe_int (nomark _)) (pss_cons (ps_set (i := 11) sc_law.nd rfl (Or.inl rfl) (by exact pe_f g_due hr (by decide) (by rfl) (fun σ => passN σ) (pa_cons (pv 3) (pa_cons (pv 1) (pa_cons (pv 5) (pa_cons (pv 7) (pa_cons (pv 8) (pa_cons (pv 9) pa_nil))))))))
      (pss_cons (ps_if (pt_cmpR (op_neP (K0 := K) hr.units) (by exact pe_f g_done hr (by decide) (by rfl) (fun σ => passN σ) (pa_cons (pv 2) (pa_cons (pv 5) (pa_cons (pv 7) (pa_cons (pv 8) (pa_cons (pv 9) pa_nil)))))) (pv 11) (nomark _)) (pss_one (ps_ret pe_bl)) pss_nil)
      (pss_one (ps_if (PW.pt (pw_and (pt_cmpR op_isN (pv 11) pe_non (nomark _)) (pw_and1 (pt_cmpR op_lt (pv 5) pe_int (nomark _))))) (pss_one (ps_expr (by exact pe_app (K0 := K) (pv 3) (pe_lst (pa_cons (pv 7) (pa_cons (pv 8) (pa_cons (pv 9) (pa_cons (pe_cmpR op_eq (pv 5) pe_int (nomark _)) pa_nil)))))))) (pss_one (ps_if (PW.pt (pw_and (pt_cmpR op_isN (pv 11) pe_non (nomark _)) (pw_and1 (pt_cmpR op_eq (pv 5) pe_int (nomark _))))) (pss_one (ps_setLc (i := 3) (own := [("_law_row", 14)]) (g := gName 14) rfl sc_law.nd rfl rfl (sw_true rfl rfl rfl (by decide +kernel)) (pi_list (pv 3)) (blkOk_by (N := ["_law_script", "_law_names", "_law_house", "_law_rows", "_law_cell", "_law_kind", "_law_mixed", "_law_name", "_law_above", "_law_share", "_law_teams", "_law_due_here", "_law_team", "_law_k", "_law_row"]) (sc := defScope s_law) (by decide +kernel)) (fun _ _ _ _ _ => (pg_name (i := 14) sc_law.nd rfl (Or.inl rfl))) (fun _ _ _ _ _ => (pts_one (pt_cmpR (op_neP (K0 := K) hr.units) (pe_ix (ix_listK (K0 := K)) (pv 14) pe_int (fun _ _ => rfl)) (pv 7) (nomark _)))) (fun _ _ _ _ _ => (pv 14)))) (pss_one (ps_if (pt_cmpR op_isN (pv 11) pe_non (nomark _)) (pss_one (ps_setLc (i := 3) (own := [("_law_row", 14)]) (g := gName 14) (tt := tYes) rfl sc_law.nd rfl rfl (sw_true rfl rfl rfl (by decide +kernel)) (pi_list (pv 3)) (blkOk_by (N := ["_law_script", "_law_names", "_law_house", "_law_rows", "_law_cell", "_law_kind", "_law_mixed", "_law_name", "_law_above", "_law_share", "_law_teams", "_law_due_here", "_law_team", "_law_k", "_law_row"]) (sc := defScope s_law) (by decide +kernel)) (fun _ _ _ _ _ => (pg_name (i := 14) sc_law.nd rfl (Or.inl rfl))) (fun _ _ _ _ _ => pts_nil) (fun _ _ _ _ _ => (pe_ifExp (pt_cmpR (op_eqP (K0 := K) hr.units) (pe_ix (ix_listK (K0 := K)) (pv 14) pe_int (fun _ _ => rfl)) (pv 7) (nomark _)) (pe_lst (pa_cons (pe_ix (ix_listK (K0 := K)) (pv 14) pe_int (fun _ _ => rfl)) (pa_cons (pe_ix (ix_listK (K0 := K)) (pv 14) pe_int (fun _ _ => rfl)) (pa_cons (pv 9) (pa_cons (pe_ix (ix_listK (K0 := K)) (pv 14) pe_int (fun _ _ => rfl)) pa_nil))))) (pv 14))))) pss_nil)))))))) pss_nil)
      (pss_one (ps_if (PW.pt (pw_or (pt_not (pt_val (by exact pe_f g_wheel_good hr (by decide) (by rfl) (fun σ => passN σ) (pa_cons (pv 2) (pa_cons (pv 3) (pa_cons (pv 8) pa_nil)))))) (pw_or1 (pt_not (pt_val (by exact pe_f g_wheel_good hr (by decide) (by rfl) (fun σ => passN σ) (pa_cons (pv 2) (pa_cons (pv 3) (pa_cons (pv 7) pa_nil))))))))) (pss_one (ps_ret pe_bl)) pss_nil)))))))))))
      (C8.pss_cut (ps_for PassesOwn.never rfl (pi_list (pe_op op_cat (pe_lst (pa_cons pe_str pa_nil)) (pv 1))) (pg_name (i := 12) sc_law.nd rfl (Or.inl rfl))
        (pss_one (ps_if (pt_not (pt_val (by exact pe_f g_wheel_good hr (by decide) (by rfl) (fun σ => passN σ) (pa_cons (pv 2) (pa_cons (pv 3) (pa_cons (pv 12) pa_nil)))))) (pss_one (ps_ret pe_bl)) pss_nil)))
      (pss_one (ps_ret pe_bl))))))), ?_⟩
    refine ⟨fun σ' H' => ∃ (ln : Addr) (xs : List V) (five : List Str), σ' = [some (.ref a), some (.ref ln), none, none, none, none, none, none, none, none, none, none, none, none, none] ∧ N9 H' ln xs five ∧ Same H H', ?_, ?_⟩
    · refine ⟨_, rfl, (by show 0 ≤ sizeLine; decide), fun l0 hl0 => ?_⟩
      have s0 := same_upd (o := .lst []) hl0
      have sq := ((Sc.of hS0).same s0).sq
      refine ⟨_, _, .lst sq (ints9 ns), .lst (SqL.of upd_same) .nil, (ints9_sm ns).1, rfl, (ints9_sm ns).2, _, rfl, ?_⟩
      rw [eqv_nil_of]
      cases ns with
      | nil => exact iteF ⟨0, rfl, fun H' l xs five N s _ => ⟨l, xs, five, rfl, N, s0.trans s⟩⟩
      | cons n r => exact iteT ⟨_, rfl, a, _, _, _, rfl, rfl, sq, at_of (j := 0) rfl rfl, nil_app ⟨n, rfl, fun H' l xs five N s _ => ⟨l, xs, five, rfl, N, s0.trans s⟩⟩⟩
    rintro σ' H1 ⟨ln, xs, five, rfl, N1, s1⟩
    have hS1 := (Sc.of hS0).same s1
    have hT1 := tab_same hT s1
    intro p dxp hxp hdp _
    refine mk_house hxp hdp fun H2 fp0 A2 s2 fr2 => ⟨rfl, ?_⟩
    refine ⟨(by show 0 ≤ sizeLine; decide), fun lr hlr => ?_⟩
    have s3 := same_upd (o := .lst []) hlr
    have S3 : S9 CH CW CS Pt (upd H2 lr (.lst [])) p lr ln [] H0 fp0 [] xs five := ⟨A2.same s3, H0_rd, K9.start, ⟨upd_same, .nil, List.nodup_cons.mpr ⟨fun z => (nomatch z), List.nodup_nil⟩⟩, N1.keep fun b ys e => s3 _ _ (s2 _ _ e), tab_same (tab_same hT1 s2) s3⟩
    have hS3 := (hS1.same s2).same s3
    generalize upd H2 lr (.lst []) = H3 at S3 hS3 ⊢
    refine ⟨fun σ' H' => ∃ (rows : List R9) (h : Hs) (fp : List Addr) (lr : Addr) (ts : List Addr) (v4 v5 v6 v7 v8 v9 v10 v11 : Option V), σ' = [some (.ref a), some (.ref ln), some (.ref p), some (.ref lr), v4, v5, v6, v7, v8, v9, v10, v11, none, none, none] ∧ S9 CH CW CS Pt H' p lr ln ts h fp rows xs five ∧ rows.length ≤ 100, ?_, ?_⟩
    · refine ⟨_, rfl, _, rfl, _, rfl, a, _, rfl, hS3.sq, fun lq hlq => ?_⟩
      generalize hcs : cutV (ns.map V.int) (some 1) (some 50) = cs
      have cl : cs.length ≤ 63 := by
        rw [← hcs]
        exact Nat.le_trans (cutV_length _ _ _) (by rw [List.length_map]; exact hlen)
      have ci : ∀ y ∈ cs, ∃ z : Int, y = .int z := fun y hy => by
        rw [← hcs] at hy
        have h2 := List.mem_of_mem_drop (List.mem_of_mem_take hy)
        obtain ⟨z, _, e⟩ := List.mem_map.mp h2
        exact ⟨z, e.symm⟩
      have sA := same_upd (o := .lst cs) hlq
      have eA : upd H3 lq (.lst cs) lq = some (.lst cs) := upd_same
      have nql : lq ≠ lr := fun z => by
        have := S3.R.h
        rw [← z, hlq] at this
        cases this
      have S4 := S3.same sA
      generalize upd H3 lq (.lst cs) = H4 at eA S4 ⊢
      clear S3 hS3 sA hlq hlr s3
      refine ⟨lq, rfl, ⟨_, SqL.of eA⟩, for_list (K := K) (a := lq) (xs := cs) (fun i σ H' => ∃ (rows : List R9) (h : Hs) (fp : List Addr) (lr : Addr) (ts : List Addr) (v4 v5 v6 v7 v8 v9 v10 v11 : Option V), σ = [some (.ref a), some (.ref ln), some (.ref p), some (.ref lr), v4, v5, v6, v7, v8, v9, v10, v11, none, none, none] ∧ S9 CH CW CS Pt H' p lr ln ts h fp rows xs five ∧ rows.length ≤ i ∧ H' lq = some (.lst cs) ∧ lq ≠ lr)
        ⟨[], H0, fp0, lr, [], none, none, none, none, none, none, none, none, rfl, S4, Nat.le_refl _, eA, nql⟩ (fun i σ H' _ ⟨_, _, _, _, _, _, _, _, _, _, _, _, _, _, _, _, e, _⟩ => SqL.of e) ?_ ?_⟩
      · rintro i y σ H5 hy ⟨rows, h, fp, lr, ts, v4, v5, v6, v7, v8, v9, v10, v11, rfl, S, rl, eq, nq⟩
        obtain ⟨z, rfl⟩ := ci y (List.mem_of_getElem? hy)
        have hi : i < 63 := by have := (List.getElem?_eq_some_iff.mp hy).1; omega
        refine ⟨_, rfl, _, _, rfl, rfl, (by show (0 : Int) < 5; decide), ?_⟩
        refine ⟨_, rfl, _, _, rfl, rfl, .inr ⟨by decide, by decide⟩, _, rfl, lr, _, rfl, .inl (SqL.of S.R.h), _, _, rfl, rfl, .inl ⟨by decide, by decide⟩, _, _, rfl, rfl, _, _, rfl, rfl, (by show (0 : Int) < 1000003; decide), ?_⟩
        dsimp only
        generalize (z * 48271 + 7919 * ((ts.map V.ref).length : Int)) % 1000003 = mx
        obtain ⟨kd, ekd, kd0, kd5⟩ : ∃ kd, z % 5 = kd ∧ 0 ≤ kd ∧ kd < 5 := ⟨_, rfl, by omega, by omega⟩
        rw [ekd]
        obtain ⟨j, hj, hj2⟩ : ∃ j : Nat, mx % 9 = (j : Int) ∧ j < 9 := ⟨(mx % 9).toNat, by omega, by omega⟩
        obtain ⟨x, ex⟩ : ∃ x, xs[j]? = some x := ⟨_, List.getElem?_eq_getElem (by rw [S.N.len]; exact hj2)⟩
        have mx9 := List.mem_of_getElem? ex
        refine ⟨_, rfl, _, rfl, _, _, rfl, rfl, (by show (0 : Int) < 9; decide), ln, _, _, _, rfl, rfl, SqL.of S.N.h, at_of hj ex, ?_⟩
        obtain ⟨dx, ndx⟩ := S.N.nv x mx9
        refine ⟨fun σ' H' => ∃ (ab : V) (da : PyData), σ' = [some (.ref a), some (.ref ln), some (.ref p), some (.ref lr), some (.int z), some (.int kd), some (.int mx), some x, some ab, v9, v10, v11, none, none, none] ∧ Same H5 H' ∧ Nv H' ab da, ?_, ?_⟩
        · refine ⟨(by show 3 ≤ sizeLine; decide), fun l3 hl3 => ?_⟩
          have s3 := same_upd (o := .lst [V.str "", V.str "", V.str ""]) hl3
          refine ⟨_, rfl, l3, ln, _, _, rfl, rfl, upd_same, s3 _ _ S.N.h, Nat.le_of_lt (small1000 (by show 3 + xs.length ≤ 1000; rw [S.N.len]; decide)), fun l4 hl4 => ?_⟩
          obtain ⟨j2, hj3, hj4⟩ : ∃ j : Nat, mx / 9 % 12 = (j : Int) ∧ j < 12 := ⟨(mx / 9 % 12).toNat, by omega, by omega⟩
          obtain ⟨ab, eab⟩ : ∃ ab, ([V.str "", V.str "", V.str ""] ++ xs)[j2]? = some ab := ⟨_, List.getElem?_eq_getElem (by rw [List.length_append, S.N.len]; exact hj4)⟩
          obtain ⟨da, nda⟩ : ∃ da, Nv H5 ab da := by
            rcases List.mem_append.mp (List.mem_of_getElem? eab) with hm | hm
            · simp only [List.mem_cons, List.mem_nil_iff, or_false] at hm
              have e : ab = V.str "" := by rcases hm with e | e | e <;> exact e
              rw [e]
              exact ⟨_, .str _ (by decide +kernel)⟩
            · exact S.N.nv ab hm
          refine ⟨_, rfl, _, _, rfl, rfl, ⟨by decide, by decide⟩, _, _, rfl, rfl, (by show (0 : Int) < 12; decide), l4, _, _, _, rfl, rfl, SqL.of upd_same, at_of hj3 eab, ?_⟩
          exact ⟨ab, da, rfl, s3.trans (same_upd hl4), nda.same (s3.trans (same_upd hl4))⟩
        rintro σ' H6 ⟨ab, da, rfl, s6, nab⟩
        refine ⟨fun σ' H' => ∃ sh : V, σ' = [some (.ref a), some (.ref ln), some (.ref p), some (.ref lr), some (.int z), some (.int kd), some (.int mx), some x, some ab, some sh, v10, v11, none, none, none] ∧ Same H6 H' ∧ Th H' sh, ?_, ?_⟩
        · refine ⟨(14 : Int), rfl, by decide, by decide, fun D hD => ?_⟩
          refine lc_range (lo := 0) (n := 14) (fun i H' => H' = upd H6 D (.lst ((List.range i).map fun k : Nat => V.int (k : Int)))) rfl ?_ ?_
          · rintro i H' hi rfl
            show gName 13 (V.int (0 + (i : Int))) _ _ _
            rw [Int.zero_add]
            refine ⟨rfl, ?_⟩
            refine ⟨_, rfl, _, upd_same, small1000 (by rw [List.length_map, List.length_range]; omega), ?_⟩
            rw [upd_upd, range_snoc]
          rintro H7 e7
          have s7 : Same H6 H7 := by rw [e7]; exact same_upd hD
          have eD : H7 D = some (.lst ((List.range 14).map fun k : Nat => V.int (k : Int))) := by rw [e7]; exact upd_same
          clear e7
          refine ⟨_, _, rfl, rfl, ⟨by decide, by decide, by decide⟩, (by show 1 ≤ sizeLine; decide), fun l3 hl3 => ?_⟩
          have s8 := same_upd (o := .lst [V.int 3]) hl3
          have e3 : upd H7 l3 (.lst [V.int 3]) l3 = some (.lst [V.int 3]) := upd_same
          have eD8 := s8 _ _ eD
          generalize upd H7 l3 (.lst [V.int 3]) = H8 at s8 e3 eD8 ⊢
          refine ⟨(by show 5 ≤ sizeLine; decide), fun l5 hl5 => ?_⟩
          have s9 := same_upd (o := .lst [V.bl true, V.str "3", V.non, V.int (10 ^ (20 : Int).toNat), V.ref l3]) hl5
          refine ⟨D, l5, _, _, rfl, rfl, s9 _ _ eD8, upd_same, Nat.le_of_lt (small1000 (by show ((List.range 14).map fun k : Nat => V.int (k : Int)).length + 5 ≤ 1000; rw [List.length_map, List.length_range]; decide)), fun l6 hl6 => ?_⟩
          have s10 := s9.trans (same_upd (o := .lst (((List.range 14).map fun k : Nat => V.int (k : Int)) ++ [V.bl true, V.str "3", V.non, V.int (10 ^ (20 : Int).toNat), V.ref l3])) hl6)
          obtain ⟨j2, hj3, hj4⟩ : ∃ j : Nat, mx / 108 % 19 = (j : Int) ∧ j < 19 := ⟨(mx / 108 % 19).toNat, by omega, by omega⟩
          obtain ⟨sh, esh⟩ : ∃ sh, (((List.range 14).map fun k : Nat => V.int (k : Int)) ++ [V.bl true, V.str "3", V.non, V.int (10 ^ (20 : Int).toNat), V.ref l3])[j2]? = some sh := ⟨_, List.getElem?_eq_getElem (by rw [List.length_append, List.length_map, List.length_range]; exact hj4)⟩
          refine ⟨_, rfl, _, _, rfl, rfl, ⟨by decide, by decide⟩, _, _, rfl, rfl, (by show (0 : Int) < 19; decide), l6, _, _, _, rfl, rfl, SqL.of upd_same, at_of hj3 esh, ?_⟩
          refine ⟨sh, rfl, (s7.trans s8).trans s10, ?_⟩
          rcases List.mem_append.mp (List.mem_of_getElem? esh) with hm | hm
          · obtain ⟨k, _, rfl⟩ := List.mem_map.mp hm
            exact .int _
          · simp only [List.mem_cons, List.mem_nil_iff, or_false] at hm
            rcases hm with rfl | rfl | rfl | rfl | rfl
            · exact .bl _
            · exact .str _
            · exact .non
            · exact .int _
            · exact .lst (s10 _ _ e3)
        rintro σ' H7 ⟨sh, rfl, s7, tsh⟩
        have S7 := (S.same s6).same s7
        refine ⟨fun σ' H' => ∃ (lt : Addr) (tn : List Str), σ' = [some (.ref a), some (.ref ln), some (.ref p), some (.ref lr), some (.int z), some (.int kd), some (.int mx), some x, some ab, some sh, some (.ref lt), v11, none, none, none] ∧ Same H7 H' ∧ H' lt = some (.lst (tn.map V.str)) ∧ ∀ n ∈ tn, isNm (.str n) = true, ?_, ?_⟩
        · refine ⟨_, rfl, lr, rfl, ⟨_, SqL.of S7.R.h⟩, fun D hD => ?_⟩
          refine lc_list (K := K) (a := lr) (xs := ts.map V.ref) (fun i H' => H' D = some (.lst (((rows.take i).filter (·.t)).map fun y => V.str y.n)) ∧ ∀ b o, b ≠ D → H7 b = some o → H' b = some o) ⟨upd_same, fun b o n e => by rw [upd_ne n]; exact e⟩ (fun i H' _ e => SqL.of (e.2 _ _ (ne_of_none S7.R.h hD) S7.R.h)) ?_ ?_
          · rintro i v H' hv ⟨eL, kp⟩
            have hi : i < rows.length := by rw [← S7.R.len]; exact (List.getElem?_eq_some_iff.mp hv).1
            have ey : rows[i]? = some rows[i] := List.getElem?_eq_getElem hi
            generalize rows[i] = y at ey
            obtain ⟨t, t1, _, t2⟩ := S7.R.at ey
            rw [t1] at hv
            cases hv
            have t3 := kp _ _ (ne_of_none t2 hD) t2
            refine ⟨rfl, _, rfl, t, _, _, _, rfl, rfl, SqL.of t3, at_of (j := 3) rfl rfl, y.t, rfl, ?_⟩
            rw [take_snoc ey, List.filter_append, List.map_append]
            cases yt : y.t with
            | false =>
              refine iteF ⟨?_, kp⟩
              rw [List.filter_cons_of_neg (by rw [yt]; exact Bool.false_ne_true)]
              exact eL.trans (by rw [List.filter_nil, List.map_nil, List.append_nil])
            | true =>
              refine iteT ⟨_, rfl, t, _, _, _, rfl, rfl, SqL.of t3, at_of (j := 0) rfl rfl, _, eL, ?_, ?_, fun b o n e => by rw [upd_ne n]; exact kp b o n e⟩
              · rw [List.length_map]
                refine small1000 ?_
                have h1 := List.length_filter_le (fun y : R9 => y.t) (rows.take i)
                rw [List.length_take] at h1
                omega
              · rw [upd_same, List.filter_cons_of_pos yt]
                rfl
          · rintro H8 ⟨eL, kp⟩
            rw [S7.R.len, List.take_length] at eL
            refine ⟨D, (rows.filter (·.t)).map (·.n), rfl, fun b o e => kp b o (fun q => by rw [q, hD] at e; cases e) e, by rw [eL, List.map_map]; rfl, fun n hn => ?_⟩
            obtain ⟨y, hy, rfl⟩ := List.mem_map.mp hn
            exact (S7.k.nm y (List.mem_filter.mp hy).1).1
        rintro σ' H8 ⟨lt, tn, rfl, s8, elt, tnok⟩
        have S8 := S7.same s8
        have ndx8 := ((ndx.same s6).same s7).same s8
        have nab8 := (nab.same s7).same s8
        have eq8 := s8 _ _ (s7 _ _ (s6 _ _ eq))
        have tsh8 := tsh.same s8
        refine ⟨fun σ' H' => ∃ (x' ab' : V) (dx' da' : PyData), σ' = [some (.ref a), some (.ref ln), some (.ref p), some (.ref lr), some (.int z), some (.int kd), some (.int mx), some x', some ab', some sh, some (.ref lt), v11, none, none, none] ∧ Same H8 H' ∧ Nv H' x' dx' ∧ Nv H' ab' da' ∧ (kd ≠ 2 → x' ∈ xs) ∧ ∀ z, x' = .str z → z.length ≤ sizeLine, ?_, ?_⟩
        · have szx : ∀ z, x = .str z → z.length ≤ sizeLine := fun z e => by
            have := S.N.sz z (by rw [← e]; exact mx9)
            exact Nat.le_of_lt (small1000 (by omega))
          refine ⟨_, rfl, (by show 0 ≤ sizeLine; decide), fun l0 hl0 => ?_⟩
          have s0 := same_upd (o := .lst []) hl0
          refine ⟨_, _, .lst (SqL.of (s0 _ _ elt)) (strs9 tn), .lst (SqL.of upd_same) .nil, (strs9_sm tn).1, rfl, (strs9_sm tn).2, _, rfl, ?_⟩
          rw [eqv_nil_of]
          have stay : ∃ (x' ab' : V) (dx' da' : PyData), ([some (.ref a), some (.ref ln), some (.ref p), some (.ref lr), some (.int z), some (.int kd), some (.int mx), some x, some ab, some sh, some (.ref lt), v11, none, none, none] : L2.St) = [some (.ref a), some (.ref ln), some (.ref p), some (.ref lr), some (.int z), some (.int kd), some (.int mx), some x', some ab', some sh, some (.ref lt), v11, none, none, none] ∧ Same H8 (upd H8 l0 (.lst [])) ∧ Nv (upd H8 l0 (.lst [])) x' dx' ∧ Nv (upd H8 l0 (.lst [])) ab' da' ∧ (kd ≠ 2 → x' ∈ xs) ∧ ∀ z, x' = .str z → z.length ≤ sizeLine :=
            ⟨x, ab, dx, da, rfl, s0, ndx8.same s0, nab8.same s0, fun _ => mx9, szx⟩
          cases tn with
          | nil => exact iteF (iteF stay)
          | cons n r =>
            refine iteT ⟨_, rfl, _, _, rfl, rfl, ⟨by decide, by decide⟩, _, _, rfl, rfl, (by show (0 : Int) < 2; decide), rfl, _, rfl, ?_⟩
            refine ite2 (fun _ => ?_) (fun _ => stay)
            have nm := tnok _ (List.getLast_mem (l := n :: r) (by intro q; cases q))
            refine ⟨_, rfl, _, rfl, lt, _, _, _, rfl, rfl, SqL.of (s0 _ _ elt), last_str (l := n :: r) (by intro q; cases q), ?_⟩
            generalize (n :: r).getLast (by intro q; cases q) = tl at nm ⊢
            have ntl : Nv (upd H8 l0 (.lst [])) (.str tl) (.str tl) := .str tl (nm_ok nm)
            refine ⟨_, rfl, rfl, _, rfl, ?_⟩
            refine ite2 (fun k2 => ⟨_, rfl, ?_⟩) (fun k2 => ⟨_, rfl, ?_⟩)
            · refine ⟨.str tl, .str tl, _, _, rfl, s0, ntl, ntl, fun n2 => (n2 (V.int.inj (of_decide_eq_true k2))).elim, fun z e => ?_⟩
              cases e
              have := (nm_len1 nm).2
              exact Nat.le_of_lt (small1000 (by omega))
            · exact ⟨x, .str tl, dx, _, rfl, s0, ndx8.same s0, ntl, fun _ => mx9, szx⟩
        rintro σ' H9 ⟨x', ab', dx', da', rfl, s9, nx', nab', inx, szx⟩
        have S9' := S8.same s9
        have eq9 := s9 _ _ eq8
        have tsh9 := tsh8.same s9
        refine ⟨fun σ' H' => ∃ (rows' : List R9) (h' : Hs) (fp' : List Addr) (lr' : Addr) (ts' : List Addr) (v11 : Option V), σ' = [some (.ref a), some (.ref ln), some (.ref p), some (.ref lr'), some (.int z), some (.int kd), some (.int mx), some x', some ab', some sh, some (.ref lt), v11, none, none, none] ∧ S9 CH CW CS Pt H' p lr' ln ts' h' fp' rows' xs five ∧ rows'.length ≤ i + 1 ∧ Nv H' x' dx' ∧ Nv H' ab' da' ∧ H' lq = some (.lst cs) ∧ lq ≠ lr', ?_, ?_⟩
        · refine ⟨_, rfl, _, _, rfl, rfl, _, rfl, ?_⟩
          refine ite2 (fun k4 => ?_) (fun _ => ⟨rows, h, fp, lr, ts, _, rfl, S9', by omega, nx', nab', eq9, nq⟩)
          have k4 : kd < 4 := of_decide_eq_true k4
          refine ⟨_, rfl, _, rfl, _, rfl, _, rfl, _, rfl, _, rfl, nil_app ⟨lr, ln, ts, rows, xs, five, kd, x', ab', sh, dx', da', rfl, S9'.R, by omega, S9'.N, nx', nab', tsh9, fun k2 e => S9'.N.nm x' (inx (by omega)) e, fun H10 s10 => ?_⟩⟩
          have S10 := S9'.same s10
          have nx10 := nx'.same s10
          have nab10 := nab'.same s10
          have nox : kd < 2 → x' ≠ .str "other" := fun k2 e => by
            obtain ⟨n, hn, e2⟩ := S9'.N.nm x' (inx (by omega)) (by rw [e]; decide +kernel)
            rw [e] at e2
            exact S9'.N.no n hn (V.str.inj e2).symm
          obtain ⟨o, eo⟩ : ∃ o, due9 rows kd x' ab' sh = o := ⟨_, rfl⟩
          rw [eo]
          refine ⟨_, rfl, _, rfl, _, rfl, _, rfl, _, rfl, nil_app ⟨p, h, fp, rows, kd, x', ab', sh, rfl, S10.A, S10.rd, S10.k, S10.hT, nx10.th, nab10.th, tsh9.same s10, by omega, kd0, k4, szx, nox, fun H11 h11 fp11 A11 rd11 k11 st11 hT11 => ?_⟩⟩
          rw [eo]
          have kl := S10.kl st11
          have R11 : Rg hv9 H11 lr ts rows := S10.R.keep fun b _ ys e => kl b ys e
          have N11 := S10.N.keep kl
          have nx11 := nx10.keep kl
          have nab11 := nab10.keep kl
          have eq11 := kl _ _ (s10 _ _ eq9)
          refine ⟨_, rfl, ne_same (res_dp o) (res_dp o) (res_sm o) ⟨_, rfl, iteF ?_⟩⟩
          unfold next9 at k11
          rw [eo] at k11
          cases o with
          | some w =>
            have nn : decide (resV (some w) = V.non) = false := decide_eq_false fun q => by cases q
            refine ⟨_, rfl, rfl, _, rfl, ?_⟩
            rw [nn]
            refine iteF (iteF ⟨_, rfl, rfl, _, rfl, ?_⟩)
            rw [nn]
            refine iteF (iteF ⟨_, rfl, rfl, _, rfl, ?_⟩)
            rw [nn]
            exact iteF ⟨rows, h11, fp11, lr, ts, _, rfl, ⟨A11, rd11, k11, R11, N11, hT11⟩, by omega, nx11, nab11, eq11, nq⟩
          | none =>
            have nn : decide (resV none = V.non) = true := decide_eq_true rfl
            dsimp only at k11
            refine ⟨_, rfl, rfl, _, rfl, ?_⟩
            rw [nn]
            refine iteT ⟨_, rfl, _, _, rfl, rfl, _, rfl, ?_⟩
            refine ite2 (fun k2 => ?_) (fun k2 => ?_)
            · have k2 : kd < 2 := of_decide_eq_true k2
              rw [if_pos k2] at k11
              obtain ⟨e1, e2, e3⟩ := none_lt k2 eo
              obtain ⟨n, rfl⟩ := nm_str e1
              obtain ⟨t', rfl⟩ := team_str e2
              obtain ⟨sv, rfl⟩ := good_int e3
              refine ⟨_, rfl, .inl ⟨rfl, _, SqL.of R11.h⟩, _, rfl, _, rfl, _, rfl, _, rfl, rfl, (by show 4 ≤ sizeLine; decide), fun t ht => ?_⟩
              have ek : decide (V.int kd = V.int 0) = decide (kd = 0) := decide_eq_decide.mpr ⟨fun q => V.int.inj q, fun q => by rw [q]⟩
              rw [ek]
              have sT := same_upd (o := .lst [V.str n, V.str t', V.int sv, V.bl (decide (kd = 0))]) ht
              have R12 := R11.same sT
              have A12 := A11.same sT
              have N12 := N11.keep fun b ys e => sT _ _ e
              have hT12 := tab_same hT11 sT
              have eT : upd H11 t (.lst [V.str n, V.str t', V.int sv, V.bl (decide (kd = 0))]) t = some (.lst (hv9 ⟨n, t', sv, decide (kd = 0)⟩)) := upd_same
              have nx12 := nx11.same sT
              have nab12 := nab11.same sT
              have eq12 := sT _ _ eq11
              generalize upd H11 t (.lst [V.str n, V.str t', V.int sv, V.bl (decide (kd = 0))]) = H12 at R12 A12 N12 hT12 eT nx12 nab12 eq12 ⊢
              refine nil_app ⟨lr, _, _, rfl, rfl, R12.h, by rw [R12.len]; exact small1000 (by omega), ?_⟩
              obtain ⟨N13, A13, hT13⟩ := put9 (ws := ts.map V.ref ++ [V.ref t]) A12 R12 N12 hT12
              have nlt : t ≠ lr := fun q => by
                rw [q, R12.h] at eT
                injection eT with eT
                injection eT with eT
                cases ts with
                | nil => cases eT
                | cons u r => cases eT
              have tsn : ∀ u ∈ ts, u ≠ lr := fun u hu q => (List.nodup_cons.mp R12.nd).1 (by rw [← q]; exact hu)
              have R13 : Rg hv9 (upd H12 lr (.lst (ts.map V.ref ++ [V.ref t]))) lr (ts ++ [t]) (rows ++ [⟨n, t', sv, decide (kd = 0)⟩]) := by
                refine rg_of (by rw [upd_same, List.map_append]; rfl) ((R12.a.mono fun u hu ys e => by rw [upd_ne (tsn u hu)]; exact e).app (.cons (by rw [upd_ne nlt]; exact eT) .nil)) ?_
                exact k11.nd
              exact ⟨_, h11, fp11, lr, _, _, rfl, ⟨A13, rd11, k11, R13, N13, hT13⟩, by rw [List.length_append]; show rows.length + 1 ≤ _; omega, nv_put R12 nx12, nv_put R12 nab12, by rw [upd_ne nq]; exact eq12, nq⟩
            · have k2 : ¬ kd < 2 := fun q => k2 (decide_eq_true q)
              rw [if_neg k2] at k11
              obtain ⟨yx, hyx, rfl⟩ := none_ge k2 eo
              refine ⟨_, rfl, rfl, _, rfl, ?_⟩
              rw [nn]
              refine iteT ⟨_, rfl, rfl, _, rfl, ?_⟩
              refine ite2 (fun k3 => ?_) (fun k3 => ?_)
              · have k3 : kd = 2 := V.int.inj (of_decide_eq_true k3)
                rw [if_pos k3] at k11
                refine ⟨_, rfl, lr, rfl, ⟨_, SqL.of R11.h⟩, fun D hD => ?_⟩
                refine lc_rf (K := K) (fun y : R9 => decide (y.n ≠ yx.n)) R11 hD (by omega) (fun y hy u H' sm hu' Y Z hY hZ => ?_) (fun H12 us sm hD12 hus => ?_)
                · refine ⟨rfl, _, rfl, u, _, _, _, rfl, rfl, SqL.of hu', at_of (j := 0) rfl rfl, _, rfl, _, _, .str _, (nx11.same sm).dp, rfl, nx11.sm.1, Nat.zero_le _, _, rfl, ?_⟩
                  have e : (!decide (V.str yx.n = V.str y.n)) = decide (y.n ≠ yx.n) := by
                    by_cases q : y.n = yx.n
                    · rw [decide_eq_true (by rw [q]), decide_eq_false (not_not_intro q)]
                      rfl
                    · rw [decide_eq_false fun w => q (V.str.inj w).symm, decide_eq_true q]
                      rfl
                  rw [nx11.eq, e]
                  cases eb : decide (y.n ≠ yx.n) with
                  | true => exact iteT ⟨_, rfl, hY eb⟩
                  | false => exact iteF (hZ eb)
                · exact ⟨_, h11, fp11, D, us, _, rfl, ⟨A11.same sm, rd11, k11, rg_of hD12 hus k11.nd, N11.keep fun b ys e => sm _ _ e, tab_same hT11 sm⟩, Nat.le_trans (List.length_filter_le _ _) (by omega), nx11.same sm, nab11.same sm, sm _ _ eq11, ne_of_none eq11 hD⟩
              · have k3 : kd = 3 := by
                  have : ¬ kd = 2 := fun q => k3 (decide_eq_true (by rw [q]))
                  omega
                rw [if_neg (show ¬ kd = 2 by omega)] at k11
                obtain ⟨sv, rfl⟩ := good_int (none_3 k3 eo)
                have okx := nm_ok (S10.k.nm yx hyx).1
                refine ⟨_, rfl, rfl, _, rfl, ?_⟩
                rw [nn]
                refine iteT ⟨_, rfl, lr, rfl, ⟨_, SqL.of R11.h⟩, fun D hD => ?_⟩
                refine lc_list (K := K) (a := lr) (xs := ts.map V.ref) (fun i H' => (∀ b o, b ≠ D → H11 b = some o → H' b = some o) ∧ ∃ us : List Addr, H' D = some (.lst (us.map V.ref)) ∧ D ∉ us ∧ RGA hv9 H' us ((rows.take i).map (shr9 yx.n sv))) ⟨fun b o n e => by rw [upd_ne n]; exact e, [], upd_same, fun z => (nomatch z), .nil⟩ (fun i H' _ e => SqL.of (e.1 _ _ (ne_of_none R11.h hD) R11.h)) ?_ ?_
                · rintro i2 v H' hv ⟨kp, us, eD, nD, ra⟩
                  have hi2 : i2 < rows.length := by rw [← R11.len]; exact (List.getElem?_eq_some_iff.mp hv).1
                  have ey : rows[i2]? = some rows[i2] := List.getElem?_eq_getElem hi2
                  generalize rows[i2] = y at ey
                  obtain ⟨t, t1, _, t2⟩ := R11.at ey
                  rw [t1] at hv
                  cases hv
                  have nt := ne_of_none t2 hD
                  have t3 := kp _ _ nt t2
                  have usl : us.length = i2 := by rw [ra.len, List.length_map, List.length_take]; omega
                  have small : (us.map V.ref).length < sizeLine := by rw [List.length_map, usl]; exact small1000 (by omega)
                  have more : ∀ {Hx : Hp} {q : Addr}, (∀ b o, b ≠ D → H11 b = some o → Hx b = some o) → RGA hv9 Hx us ((rows.take i2).map (shr9 yx.n sv)) → q ≠ D → Hx q = some (.lst (hv9 (shr9 yx.n sv y))) →
                      (∀ b o, b ≠ D → H11 b = some o → upd Hx D (.lst (us.map V.ref ++ [V.ref q])) b = some o) ∧ ∃ us' : List Addr, upd Hx D (.lst (us.map V.ref ++ [V.ref q])) D = some (.lst (us'.map V.ref)) ∧ D ∉ us' ∧ RGA hv9 (upd Hx D (.lst (us.map V.ref ++ [V.ref q]))) us' ((rows.take (i2 + 1)).map (shr9 yx.n sv)) := fun {Hx q} kx rx nq eq => by
                    refine ⟨fun b o n e => by rw [upd_ne n]; exact kx b o n e, us ++ [q], by rw [upd_same, List.map_append]; rfl, fun z => ?_, ?_⟩
                    · rcases List.mem_append.mp z with z | z
                      · exact nD z
                      · exact nq (List.mem_singleton.mp z).symm
                    · rw [take_snoc ey, List.map_append]
                      exact (rx.mono fun u hu ys e => by rw [upd_ne fun z => nD (by rw [← z]; exact hu)]; exact e).app (.cons (by rw [upd_ne nq]; exact eq) .nil)
                  refine ⟨rfl, ?_⟩
                  refine ⟨_, rfl, t, _, _, _, rfl, rfl, SqL.of t3, at_of (j := 0) rfl rfl, _, rfl, _, _, .str _, .str _, rfl, rfl, Nat.zero_le _, _, rfl, ?_⟩
                  rw [(Nv.str (H := H11) yx.n okx).eq]
                  by_cases q : y.n = yx.n
                  · rw [decide_eq_true (by rw [q])]
                    refine iteT ⟨_, rfl, t, _, _, _, rfl, rfl, SqL.of t3, at_of (j := 0) rfl rfl, _, rfl, t, _, _, _, rfl, rfl, SqL.of t3, at_of (j := 1) rfl rfl, _, rfl, _, rfl, t, _, _, _, rfl, rfl, SqL.of t3, at_of (j := 3) rfl rfl, nil_app ⟨(by show 4 ≤ sizeLine; decide), fun tn htn => ?_⟩⟩
                    have sT := same_upd (o := .lst [V.str y.n, V.str y.a, V.int sv, V.bl y.t]) htn
                    have eT : upd H' tn (.lst [V.str y.n, V.str y.a, V.int sv, V.bl y.t]) tn = some (.lst (hv9 (shr9 yx.n sv y))) := by
                      rw [upd_same]
                      unfold shr9
                      rw [if_pos q]
                      rfl
                    exact ⟨_, sT _ _ eD, small, more (fun b o n e => sT _ _ (kp b o n e)) (ra.mono fun _ _ _ e => sT _ _ e) (fun z => by rw [z, eD] at htn; cases htn) eT⟩
                  · rw [decide_eq_false fun w => q (V.str.inj w).symm]
                    refine iteF ⟨_, rfl, _, eD, small, more kp ra nt ?_⟩
                    unfold shr9
                    rw [if_neg q]
                    exact t3
                · rintro H12 ⟨kp, us, eD, nD, ra⟩
                  rw [R11.len, List.take_length] at ra
                  have sm : Same H11 H12 := fun b o e => kp b o (fun z => by rw [z, hD] at e; cases e) e
                  exact ⟨_, h11, fp11, D, us, _, rfl, ⟨A11.same sm, rd11, k11, rg_of eD ra k11.nd, N11.keep fun b ys e => sm _ _ e, tab_same hT11 sm⟩, by rw [List.length_map]; omega, nx11.same sm, nab11.same sm, sm _ _ eq11, ne_of_none eq11 hD⟩
        rintro σ' H10 ⟨rows', h', fp', lr', ts', v11', rfl, S10, rl', nx10, nab10, eq10, nq'⟩
        have fin : ∀ {H11 : Hp}, Same H10 H11 → ∃ (rows : List R9) (h : Hs) (fp : List Addr) (lr : Addr) (ts : List Addr) (v4 v5 v6 v7 v8 v9 v10 v11 : Option V), ([some (.ref a), some (.ref ln), some (.ref p), some (.ref lr'), some (.int z), some (.int kd), some (.int mx), some x', some ab', some sh, some (.ref lt), v11', none, none, none] : L2.St) = [some (.ref a), some (.ref ln), some (.ref p), some (.ref lr), v4, v5, v6, v7, v8, v9, v10, v11, none, none, none] ∧ S9 CH CW CS Pt H11 p lr ln ts h fp rows xs five ∧ rows.length ≤ i + 1 ∧ H11 lq = some (.lst cs) ∧ lq ≠ lr :=
          fun s => ⟨rows', h', fp', lr', ts', _, _, _, _, _, _, _, _, rfl, S10.same s, rl', s _ _ eq10, nq'⟩
        refine ⟨_, rfl, _, rfl, _, rfl, nil_app ⟨p, lr', ts', h', fp', rows', ab', da', rfl, S10.A, S10.k, S10.R, nab10, by omega, fun H11 s11 => ⟨_, rfl, iteF ?_⟩⟩⟩
        have S11 := S10.same s11
        refine ⟨_, rfl, _, rfl, _, rfl, nil_app ⟨p, lr', ts', h', fp', rows', x', dx', rfl, S11.A, S11.k, S11.R, nx10.same s11, by omega, fun H12 s12 => ⟨_, rfl, iteF ?_⟩⟩⟩
        exact fin (s11.trans s12)
      · rintro σ H5 ⟨rows, h, fp, lr, ts, v4, v5, v6, v7, v8, v9, v10, v11, rfl, S, rl, eq, nq⟩
        exact ⟨rows, h, fp, lr, ts, v4, v5, v6, v7, v8, v9, v10, v11, rfl, S, by omega⟩
    clear S3 hS3 hlr s3
    rintro σ' H4 ⟨rows, h, fp, lr, ts, v4, v5, v6, v7, v8, v9, v10, v11, rfl, S, rl⟩
    refine ⟨fun σ' H' => True, ?_, fun σ' H' _ => kk H'⟩
    refine ⟨(by show 1 ≤ sizeLine; decide), fun l1 hl1 => ?_⟩
    have s1 := same_upd (o := .lst [V.str ""]) hl1
    refine ⟨_, rfl, l1, ln, _, _, rfl, rfl, upd_same, s1 _ _ S.N.h, Nat.le_of_lt (small1000 (by show 1 + xs.length ≤ 1000; rw [S.N.len]; decide)), fun l2 hl2 => ?_⟩
    have s2 := s1.trans (same_upd (o := .lst ([V.str ""] ++ xs)) hl2)
    have e2 : upd (upd H4 l1 (.lst [V.str ""])) l2 (.lst ([V.str ""] ++ xs)) l2 = some (.lst ([V.str ""] ++ xs)) := upd_same
    generalize upd (upd H4 l1 (.lst [V.str ""])) l2 (.lst ([V.str ""] ++ xs)) = H5 at s2 e2 ⊢
    have S5 := S.same s2
    refine ⟨l2, rfl, ⟨_, SqL.of e2⟩, for_list (K := K) (a := l2) (xs := [V.str ""] ++ xs) (fun i σ H' => ∃ v12, σ = [some (.ref a), some (.ref ln), some (.ref p), some (.ref lr), v4, v5, v6, v7, v8, v9, v10, v11, v12, none, none] ∧ Same H5 H') ⟨none, rfl, fun _ _ e => e⟩ (fun i σ H' _ ⟨_, _, s'⟩ => SqL.of (s' _ _ e2)) ?_ ?_⟩
    · rintro i v σ H' hv ⟨v12, rfl, s'⟩
      obtain ⟨d, nd⟩ : ∃ d, Nv H5 v d := by
        rcases List.mem_append.mp (List.mem_of_getElem? hv) with hm | hm
        · rw [List.mem_singleton.mp hm]
          exact ⟨_, .str _ (by decide +kernel)⟩
        · exact S5.N.nv v hm
      have S6 := S5.same s'
      refine ⟨_, rfl, _, rfl, _, rfl, nil_app ⟨p, lr, ts, h, fp, rows, v, d, rfl, S6.A, S6.k, S6.R, nd.same s', rl, fun H7 s7 => ⟨_, rfl, iteF ⟨_, rfl, s'.trans s7⟩⟩⟩⟩
    · rintro σ H' _
      trivial
end

end Mine
namespace Mine
open PySem PySem.Spec PyProof.Rows L2
def fa0 : List He.Fa := [.int "ROUND" 27720, .int "MOST" 12, .free "len", .free "range", .free "isinstance", .free "int", .free "bool", .free "str", .free "max", .free "min", .free "list", .free "dict", .free "zip", .free "ValueError", .cls "Sharer", .cls "Wheel", .noat "Sharer" "share", .noat "Sharer" "clock", .noat "Sharer" "ready", .noat "Wheel" "past", .noat "Wheel" "_sharers", .glo "BadShare", .glo "Twice", .glo "NoName", .exc "BadShare", .exc "Twice", .exc "NoName", .glo "BadName", .glo "NoTeam", .glo "NotEmpty", .glo "NotHand", .glo "BadCount", .glo "NoDeed", .glo "ShareError", .exc "NoTeam", .exc "NotHand", .exc "NotEmpty", .exc "BadName", .str "TOP" "", .cls "House"]
def fa1 : List He.Fa := [.noat "House" "_above", .noat "House" "_wheels", .exm "BadName" "ShareError" true, .exm "Twice" "ShareError" true, .exm "NoTeam" "ShareError" true, .exm "BadShare" "ShareError" true, .exm "NoName" "ShareError" true, .exm "NotEmpty" "ShareError" true, .exm "NoTeam" "NoTeam" true, .glo "stands_in", .glo "is_whole", .glo "step", .mkr "Sharer", .glo "Sharer", .meth "Sharer" "copied", .mkr "Wheel", .glo "Wheel", .meth "Wheel" "_sharer", .meth "Wheel" "enter", .meth "Wheel" "leave", .meth "Wheel" "reshare", .meth "Wheel" "wake", .meth "Wheel" "rest", .meth "Wheel" "whose", .meth "Wheel" "turn", .meth "Wheel" "names", .meth "Wheel" "clock_of", .meth "Wheel" "share_of", .meth "Wheel" "is_ready", .meth "Wheel" "copied", .int "LONGEST" 8, .free "all", .glo "is_name", .meth "House" "_need_team", .meth "House" "_need_name", .meth "House" "_need_hand", .meth "House" "_wheel_around", .meth "House" "wake", .meth "House" "rest", .meth "House" "wheel_of"]
def fa2 : List He.Fa := [.meth "House" "reshare", .meth "House" "deal", .meth "House" "leave", .mkr "House", .glo "House", .meth "House" "_settle", .meth "House" "hand", .meth "House" "team", .glo "_law_refusal", .glo "_law_is_share", .glo "_law_due", .glo "_law_names_by", .glo "_law_done", .glo "_law_wheel_good", .glo "law"]
def fas : List He.Fa := fa0 ++ fa1 ++ fa2
def fn0 : List He.DefD := [⟨("stands_in", none), "stands_in", "stands_in", defArgs s_stands_in, defBody s_stands_in, defScope s_stands_in, [], []⟩,
  ⟨("is_whole", none), "is_whole", "is_whole", defArgs s_is_whole, defBody s_is_whole, defScope s_is_whole, [], []⟩,
  ⟨("step", none), "step", "step", defArgs s_step, defBody s_step, defScope s_step, [], []⟩,
  ⟨("Sharer", some "__init__"), "__init__", "Sharer.__init__", defArgs sSharer_init, defBody sSharer_init, defScope sSharer_init, [], []⟩,
  ⟨("Sharer", some "copied"), "copied", "Sharer.copied", defArgs sSharer_copied, defBody sSharer_copied, defScope sSharer_copied, [], []⟩,
  ⟨("Wheel", some "__init__"), "__init__", "Wheel.__init__", defArgs sWheel_init, defBody sWheel_init, defScope sWheel_init, [], []⟩,
  ⟨("Wheel", some "_sharer"), "_sharer", "Wheel._sharer", defArgs sWheel_sharer, defBody sWheel_sharer, defScope sWheel_sharer, [], []⟩,
  ⟨("Wheel", some "enter"), "enter", "Wheel.enter", defArgs sWheel_enter, defBody sWheel_enter, defScope sWheel_enter, [], []⟩,
  ⟨("Wheel", some "leave"), "leave", "Wheel.leave", defArgs sWheel_leave, defBody sWheel_leave, defScope sWheel_leave, [], []⟩,
  ⟨("Wheel", some "reshare"), "reshare", "Wheel.reshare", defArgs sWheel_reshare, defBody sWheel_reshare, defScope sWheel_reshare, [], []⟩,
  ⟨("Wheel", some "wake"), "wake", "Wheel.wake", defArgs sWheel_wake, defBody sWheel_wake, defScope sWheel_wake, [], []⟩,
  ⟨("Wheel", some "rest"), "rest", "Wheel.rest", defArgs sWheel_rest, defBody sWheel_rest, defScope sWheel_rest, [], []⟩,
  ⟨("Wheel", some "whose"), "whose", "Wheel.whose", defArgs sWheel_whose, defBody sWheel_whose, defScope sWheel_whose, [], []⟩,
  ⟨("Wheel", some "turn"), "turn", "Wheel.turn", defArgs sWheel_turn, defBody sWheel_turn, defScope sWheel_turn, [], []⟩,
  ⟨("Wheel", some "names"), "names", "Wheel.names", defArgs sWheel_names, defBody sWheel_names, defScope sWheel_names, [], []⟩,
  ⟨("Wheel", some "clock_of"), "clock_of", "Wheel.clock_of", defArgs sWheel_clock_of, defBody sWheel_clock_of, defScope sWheel_clock_of, [], []⟩,
  ⟨("Wheel", some "share_of"), "share_of", "Wheel.share_of", defArgs sWheel_share_of, defBody sWheel_share_of, defScope sWheel_share_of, [], []⟩,
  ⟨("Wheel", some "is_ready"), "is_ready", "Wheel.is_ready", defArgs sWheel_is_ready, defBody sWheel_is_ready, defScope sWheel_is_ready, [], []⟩,
  ⟨("Wheel", some "copied"), "copied", "Wheel.copied", defArgs sWheel_copied, defBody sWheel_copied, defScope sWheel_copied, [], []⟩,
  ⟨("is_name", none), "is_name", "is_name", defArgs s_is_name, defBody s_is_name, defScope s_is_name, [], []⟩,
  ⟨("House", some "_need_team"), "_need_team", "House._need_team", defArgs sHouse_need_team, defBody sHouse_need_team, defScope sHouse_need_team, [], []⟩,
  ⟨("House", some "_need_name"), "_need_name", "House._need_name", defArgs sHouse_need_name, defBody sHouse_need_name, defScope sHouse_need_name, [], []⟩,
  ⟨("House", some "_need_hand"), "_need_hand", "House._need_hand", defArgs sHouse_need_hand, defBody sHouse_need_hand, defScope sHouse_need_hand, [], []⟩,
  ⟨("House", some "_wheel_around"), "_wheel_around", "House._wheel_around", defArgs sHouse_wheel_around, defBody sHouse_wheel_around, defScope sHouse_wheel_around, [], []⟩,
  ⟨("House", some "wake"), "wake", "House.wake", defArgs sHouse_wake, defBody sHouse_wake, defScope sHouse_wake, [], []⟩,
  ⟨("House", some "rest"), "rest", "House.rest", defArgs sHouse_rest, defBody sHouse_rest, defScope sHouse_rest, [], []⟩,
  ⟨("House", some "wheel_of"), "wheel_of", "House.wheel_of", defArgs sHouse_wheel_of, defBody sHouse_wheel_of, defScope sHouse_wheel_of, [], []⟩,
  ⟨("House", some "reshare"), "reshare", "House.reshare", defArgs sHouse_reshare, defBody sHouse_reshare, defScope sHouse_reshare, [], []⟩,
  ⟨("House", some "deal"), "deal", "House.deal", defArgs sHouse_deal, defBody sHouse_deal, defScope sHouse_deal, [], []⟩,
  ⟨("House", some "leave"), "leave", "House.leave", defArgs sHouse_leave, defBody sHouse_leave, defScope sHouse_leave, [], []⟩]
def fn1 : List He.DefD := [⟨("House", some "__init__"), "__init__", "House.__init__", defArgs sHouse_init, defBody sHouse_init, defScope sHouse_init, [], []⟩,
  ⟨("House", some "_settle"), "_settle", "House._settle", defArgs sHouse_settle, defBody sHouse_settle, defScope sHouse_settle, [], []⟩,
  ⟨("House", some "hand"), "hand", "House.hand", defArgs sHouse_hand, defBody sHouse_hand, defScope sHouse_hand, [], []⟩,
  ⟨("House", some "team"), "team", "House.team", defArgs sHouse_team, defBody sHouse_team, defScope sHouse_team, [], []⟩,
  ⟨("_law_refusal", none), "_law_refusal", "_law_refusal", defArgs s_L_refusal, defBody s_L_refusal, defScope s_L_refusal, [], []⟩,
  ⟨("_law_is_share", none), "_law_is_share", "_law_is_share", defArgs s_L_is_share, defBody s_L_is_share, defScope s_L_is_share, [], []⟩,
  ⟨("_law_due", none), "_law_due", "_law_due", defArgs s_L_due, defBody s_L_due, defScope s_L_due, [], []⟩,
  ⟨("_law_names_by", none), "_law_names_by", "_law_names_by", defArgs s_L_names_by, defBody s_L_names_by, defScope s_L_names_by, [], []⟩,
  ⟨("_law_done", none), "_law_done", "_law_done", defArgs s_L_done, defBody s_L_done, defScope s_L_done, [], []⟩,
  ⟨("_law_wheel_good", none), "_law_wheel_good", "_law_wheel_good", defArgs s_L_wheel_good, defBody s_L_wheel_good, defScope s_L_wheel_good, [], []⟩,
  ⟨("law", none), "law", "law", defArgs s_law, defBody s_law, defScope s_law, [], []⟩]
def fns : List He.DefD := fn0 ++ fn1
def exB (K : PySem.W.Frag) : Bool := decide (PySem.W.findIn K (.ref (He.ga K "BadName")) "__getattribute__" = some (some (.builtin "BaseException.__getattribute__"))) && decide (PySem.W.findIn K (.ref (He.ga K "BadName")) "__getattr__" = some none) && decide (PySem.W.subIn K (.ref (He.ga K "BadName")) (.type "BaseException") = some true) && decide (PySem.W.hasDictIn K (He.ga K "BadName") = true) && decide (PySem.W.findIn K (.ref (He.ga K "BadName")) "__class__" = some (some (.builtin "object.__class__"))) && decide (PySem.W.specialIn K (.builtin "object.__class__") "__get__" = some (some (.builtin "getset_descriptor.__get__"))) && decide (PySem.W.takesIn K (.builtin "object.__class__") = some true) && decide (PySem.W.mroIn K (He.ga K "BadName") (.type "object") = some true) && decide (PySem.W.findIn K (.ref (He.ga K "Twice")) "__getattribute__" = some (some (.builtin "BaseException.__getattribute__"))) && decide (PySem.W.findIn K (.ref (He.ga K "Twice")) "__getattr__" = some none) && decide (PySem.W.subIn K (.ref (He.ga K "Twice")) (.type "BaseException") = some true) && decide (PySem.W.hasDictIn K (He.ga K "Twice") = true) && decide (PySem.W.findIn K (.ref (He.ga K "Twice")) "__class__" = some (some (.builtin "object.__class__"))) && decide (PySem.W.specialIn K (.builtin "object.__class__") "__get__" = some (some (.builtin "getset_descriptor.__get__"))) && decide (PySem.W.takesIn K (.builtin "object.__class__") = some true) && decide (PySem.W.mroIn K (He.ga K "Twice") (.type "object") = some true) && decide (PySem.W.findIn K (.ref (He.ga K "NoTeam")) "__getattribute__" = some (some (.builtin "BaseException.__getattribute__"))) && decide (PySem.W.findIn K (.ref (He.ga K "NoTeam")) "__getattr__" = some none) && decide (PySem.W.subIn K (.ref (He.ga K "NoTeam")) (.type "BaseException") = some true) && decide (PySem.W.hasDictIn K (He.ga K "NoTeam") = true) && decide (PySem.W.findIn K (.ref (He.ga K "NoTeam")) "__class__" = some (some (.builtin "object.__class__"))) && decide (PySem.W.specialIn K (.builtin "object.__class__") "__get__" = some (some (.builtin "getset_descriptor.__get__"))) && decide (PySem.W.takesIn K (.builtin "object.__class__") = some true) && decide (PySem.W.mroIn K (He.ga K "NoTeam") (.type "object") = some true) && decide (PySem.W.findIn K (.ref (He.ga K "BadShare")) "__getattribute__" = some (some (.builtin "BaseException.__getattribute__"))) && decide (PySem.W.findIn K (.ref (He.ga K "BadShare")) "__getattr__" = some none) && decide (PySem.W.subIn K (.ref (He.ga K "BadShare")) (.type "BaseException") = some true) && decide (PySem.W.hasDictIn K (He.ga K "BadShare") = true) && decide (PySem.W.findIn K (.ref (He.ga K "BadShare")) "__class__" = some (some (.builtin "object.__class__"))) && decide (PySem.W.specialIn K (.builtin "object.__class__") "__get__" = some (some (.builtin "getset_descriptor.__get__"))) && decide (PySem.W.takesIn K (.builtin "object.__class__") = some true) && decide (PySem.W.mroIn K (He.ga K "BadShare") (.type "object") = some true) && decide (PySem.W.findIn K (.ref (He.ga K "NoName")) "__getattribute__" = some (some (.builtin "BaseException.__getattribute__"))) && decide (PySem.W.findIn K (.ref (He.ga K "NoName")) "__getattr__" = some none) && decide (PySem.W.subIn K (.ref (He.ga K "NoName")) (.type "BaseException") = some true) && decide (PySem.W.hasDictIn K (He.ga K "NoName") = true) && decide (PySem.W.findIn K (.ref (He.ga K "NoName")) "__class__" = some (some (.builtin "object.__class__"))) && decide (PySem.W.specialIn K (.builtin "object.__class__") "__get__" = some (some (.builtin "getset_descriptor.__get__"))) && decide (PySem.W.takesIn K (.builtin "object.__class__") = some true) && decide (PySem.W.mroIn K (He.ga K "NoName") (.type "object") = some true) && decide (PySem.W.findIn K (.ref (He.ga K "NotEmpty")) "__getattribute__" = some (some (.builtin "BaseException.__getattribute__"))) && decide (PySem.W.findIn K (.ref (He.ga K "NotEmpty")) "__getattr__" = some none) && decide (PySem.W.subIn K (.ref (He.ga K "NotEmpty")) (.type "BaseException") = some true) && decide (PySem.W.hasDictIn K (He.ga K "NotEmpty") = true) && decide (PySem.W.findIn K (.ref (He.ga K "NotEmpty")) "__class__" = some (some (.builtin "object.__class__"))) && decide (PySem.W.specialIn K (.builtin "object.__class__") "__get__" = some (some (.builtin "getset_descriptor.__get__"))) && decide (PySem.W.takesIn K (.builtin "object.__class__") = some true) && decide (PySem.W.mroIn K (He.ga K "NotEmpty") (.type "object") = some true) && decide (PySem.W.kitOne K (.ref (He.ga K "BadName")) (.ref (He.ga K "BadName")) = some true) && decide (PySem.W.kitOne K (.ref (He.ga K "BadName")) (.ref (He.ga K "Twice")) = some false) && decide (PySem.W.kitOne K (.ref (He.ga K "BadName")) (.ref (He.ga K "NoTeam")) = some false) && decide (PySem.W.kitOne K (.ref (He.ga K "BadName")) (.ref (He.ga K "BadShare")) = some false) && decide (PySem.W.kitOne K (.ref (He.ga K "BadName")) (.ref (He.ga K "NoName")) = some false) && decide (PySem.W.kitOne K (.ref (He.ga K "BadName")) (.ref (He.ga K "NotEmpty")) = some false) && decide (PySem.W.kitOne K (.ref (He.ga K "BadName")) (.ref (He.ga K "NotHand")) = some false) && decide (PySem.W.kitOne K (.ref (He.ga K "BadName")) (.ref (He.ga K "BadCount")) = some false) && decide (PySem.W.kitOne K (.ref (He.ga K "BadName")) (.ref (He.ga K "NoDeed")) = some false) && decide (PySem.W.kitOne K (.ref (He.ga K "Twice")) (.ref (He.ga K "BadName")) = some false) && decide (PySem.W.kitOne K (.ref (He.ga K "Twice")) (.ref (He.ga K "Twice")) = some true) && decide (PySem.W.kitOne K (.ref (He.ga K "Twice")) (.ref (He.ga K "NoTeam")) = some false) && decide (PySem.W.kitOne K (.ref (He.ga K "Twice")) (.ref (He.ga K "BadShare")) = some false) && decide (PySem.W.kitOne K (.ref (He.ga K "Twice")) (.ref (He.ga K "NoName")) = some false) && decide (PySem.W.kitOne K (.ref (He.ga K "Twice")) (.ref (He.ga K "NotEmpty")) = some false) && decide (PySem.W.kitOne K (.ref (He.ga K "Twice")) (.ref (He.ga K "NotHand")) = some false) && decide (PySem.W.kitOne K (.ref (He.ga K "Twice")) (.ref (He.ga K "BadCount")) = some false) && decide (PySem.W.kitOne K (.ref (He.ga K "Twice")) (.ref (He.ga K "NoDeed")) = some false) && decide (PySem.W.kitOne K (.ref (He.ga K "NoTeam")) (.ref (He.ga K "BadName")) = some false) && decide (PySem.W.kitOne K (.ref (He.ga K "NoTeam")) (.ref (He.ga K "Twice")) = some false) && decide (PySem.W.kitOne K (.ref (He.ga K "NoTeam")) (.ref (He.ga K "NoTeam")) = some true) && decide (PySem.W.kitOne K (.ref (He.ga K "NoTeam")) (.ref (He.ga K "BadShare")) = some false) && decide (PySem.W.kitOne K (.ref (He.ga K "NoTeam")) (.ref (He.ga K "NoName")) = some false) && decide (PySem.W.kitOne K (.ref (He.ga K "NoTeam")) (.ref (He.ga K "NotEmpty")) = some false) && decide (PySem.W.kitOne K (.ref (He.ga K "NoTeam")) (.ref (He.ga K "NotHand")) = some false) && decide (PySem.W.kitOne K (.ref (He.ga K "NoTeam")) (.ref (He.ga K "BadCount")) = some false) && decide (PySem.W.kitOne K (.ref (He.ga K "NoTeam")) (.ref (He.ga K "NoDeed")) = some false) && decide (PySem.W.kitOne K (.ref (He.ga K "BadShare")) (.ref (He.ga K "BadName")) = some false) && decide (PySem.W.kitOne K (.ref (He.ga K "BadShare")) (.ref (He.ga K "Twice")) = some false) && decide (PySem.W.kitOne K (.ref (He.ga K "BadShare")) (.ref (He.ga K "NoTeam")) = some false) && decide (PySem.W.kitOne K (.ref (He.ga K "BadShare")) (.ref (He.ga K "BadShare")) = some true) && decide (PySem.W.kitOne K (.ref (He.ga K "BadShare")) (.ref (He.ga K "NoName")) = some false) && decide (PySem.W.kitOne K (.ref (He.ga K "BadShare")) (.ref (He.ga K "NotEmpty")) = some false) && decide (PySem.W.kitOne K (.ref (He.ga K "BadShare")) (.ref (He.ga K "NotHand")) = some false) && decide (PySem.W.kitOne K (.ref (He.ga K "BadShare")) (.ref (He.ga K "BadCount")) = some false) && decide (PySem.W.kitOne K (.ref (He.ga K "BadShare")) (.ref (He.ga K "NoDeed")) = some false) && decide (PySem.W.kitOne K (.ref (He.ga K "NoName")) (.ref (He.ga K "BadName")) = some false) && decide (PySem.W.kitOne K (.ref (He.ga K "NoName")) (.ref (He.ga K "Twice")) = some false) && decide (PySem.W.kitOne K (.ref (He.ga K "NoName")) (.ref (He.ga K "NoTeam")) = some false) && decide (PySem.W.kitOne K (.ref (He.ga K "NoName")) (.ref (He.ga K "BadShare")) = some false) && decide (PySem.W.kitOne K (.ref (He.ga K "NoName")) (.ref (He.ga K "NoName")) = some true) && decide (PySem.W.kitOne K (.ref (He.ga K "NoName")) (.ref (He.ga K "NotEmpty")) = some false) && decide (PySem.W.kitOne K (.ref (He.ga K "NoName")) (.ref (He.ga K "NotHand")) = some false) && decide (PySem.W.kitOne K (.ref (He.ga K "NoName")) (.ref (He.ga K "BadCount")) = some false) && decide (PySem.W.kitOne K (.ref (He.ga K "NoName")) (.ref (He.ga K "NoDeed")) = some false) && decide (PySem.W.kitOne K (.ref (He.ga K "NotEmpty")) (.ref (He.ga K "BadName")) = some false) && decide (PySem.W.kitOne K (.ref (He.ga K "NotEmpty")) (.ref (He.ga K "Twice")) = some false) && decide (PySem.W.kitOne K (.ref (He.ga K "NotEmpty")) (.ref (He.ga K "NoTeam")) = some false) && decide (PySem.W.kitOne K (.ref (He.ga K "NotEmpty")) (.ref (He.ga K "BadShare")) = some false) && decide (PySem.W.kitOne K (.ref (He.ga K "NotEmpty")) (.ref (He.ga K "NoName")) = some false) && decide (PySem.W.kitOne K (.ref (He.ga K "NotEmpty")) (.ref (He.ga K "NotEmpty")) = some true) && decide (PySem.W.kitOne K (.ref (He.ga K "NotEmpty")) (.ref (He.ga K "NotHand")) = some false) && decide (PySem.W.kitOne K (.ref (He.ga K "NotEmpty")) (.ref (He.ga K "BadCount")) = some false) && decide (PySem.W.kitOne K (.ref (He.ga K "NotEmpty")) (.ref (He.ga K "NoDeed")) = some false) && decide (PySem.W.kitOne K (.ref (He.ga K "BadName")) (.type "ValueError") = some true) && decide (PySem.W.kitOne K (.ref (He.ga K "Twice")) (.type "ValueError") = some true) && decide (PySem.W.kitOne K (.ref (He.ga K "NoTeam")) (.type "ValueError") = some true) && decide (PySem.W.kitOne K (.ref (He.ga K "BadShare")) (.type "ValueError") = some true) && decide (PySem.W.kitOne K (.ref (He.ga K "NoName")) (.type "ValueError") = some true) && decide (PySem.W.kitOne K (.ref (He.ga K "NotEmpty")) (.type "ValueError") = some true)
def loose : List Str := [("_wall" : Str), ("ShareError" : Str), ("BadShare" : Str), ("BadName" : Str), ("Twice" : Str), ("NoTeam" : Str), ("NoName" : Str), ("NotHand" : Str), ("NotEmpty" : Str), ("BadCount" : Str), ("NoDeed" : Str), ("LONGEST" : Str), ("is_name" : Str), ("stands_in" : Str), ("ROUND" : Str), ("MOST" : Str), ("is_whole" : Str), ("step" : Str), ("Sharer" : Str), ("Wheel" : Str)] ++ [("TOP" : Str), ("House" : Str), ("_law_names_by" : Str), ("_law_refusal" : Str), ("_law_done" : Str), ("_law_is_share" : Str), ("_law_due" : Str), ("_law_wheel_good" : Str)]
def tbs : List He.Defn := [("is_name", none)]
abbrev Rw : PySem.W.OpenRow := PySem.W.OpenLaw.row PySem.Challenge.rw_sharetime_k09_who_stands_where
abbrev hk : PySem.W.Hook := He.hookX 6 fas fns [] tbs exB
def ob (s : PySem.W.SharedT) : He.AlX := He.obsX 6 fas fns [] tbs exB (HandSHeadRun.getT s)
theorem ob_eq (s : PySem.W.SharedT) : ob s = hk.obs s.abs := He.obsX_eq (HandSHeadRun.getT_eq s)
theorem run_top (w : World) : HandSHeadRun.RunEq Rw (PySem.W.view Rw.prog [34]) hk ob 6000 loose w := by
  intro os
  kernel_rfl
theorem fun_of {K : PySem.W.Frag} {x qual : Str} {st : Stmt} {f : Addr} {fd : FuncData} (F : FunD K x qual (defArgs st) (defBody st) (defScope st) [] [] f fd) : Fun K x qual st f fd := by
  obtain ⟨oc, od, dV, kV, doc, pm, an, cdv, ct, osl, e, lk, hcd, df, _⟩ := F.ex
  rcases df with ⟨_, rfl⟩ | ⟨z, _⟩
  · exact ⟨⟨oc, od, kV, doc, pm, an, cdv, ct, osl, e, lk, hcd⟩, F.kp⟩
  · exact (z rfl).elim
theorem funC_of {K : PySem.W.Frag} {x qual : Str} {st : Stmt} {p : He.Defn} {fd : FuncData} (F : FunD K x qual (defArgs st) (defBody st) (defScope st) [] [] (He.fAd K p) fd) : FunC K x qual st (He.codeOf K p) (He.fAd K p) fd := by
  obtain ⟨oc, od, dV, kV, doc, pm, an, cdv, ct, osl, rfl, lk, hcd, df, _⟩ := F.ex
  obtain ⟨c, rfl⟩ := He.codeIn_ref hcd
  rw [He.codeOf_eq lk rfl]
  rcases df with ⟨_, rfl⟩ | ⟨z, _⟩
  · exact ⟨⟨oc, od, kV, doc, pm, an, ct, osl, rfl, lk, hcd⟩, F.kp⟩
  · exact (z rfl).elim
theorem law_at {w : World} {K : PySem.W.Frag} {h : Heap} {mg : Str → Option Value} {fL : Addr} (X : K.In h) (G : h.Ns mainGlobals mg) (hfa : mg "law" = some (.ref fL)) (c : He.SaysX fas fns [] tbs exB w h K) :
    LamX.LawAtS PySem.Challenge.rw_sharetime_k09_who_stands_where w K CX0 9 63 "_law_script" mg fL h := by
  have e := hfa.symm.trans (He.glo_ok X G (c.t.d.fact 94 rfl))
  cases e
  have exh : exB K = true := c.more
  unfold exB at exh
  simp only [Bool.and_eq_true, decide_eq_true_eq] at exh
  obtain ⟨⟨⟨⟨⟨⟨⟨⟨⟨⟨⟨⟨⟨⟨⟨⟨⟨⟨⟨⟨⟨⟨⟨⟨⟨⟨⟨⟨⟨⟨⟨⟨⟨⟨⟨⟨⟨⟨⟨⟨⟨⟨⟨⟨⟨⟨⟨⟨⟨⟨⟨⟨⟨⟨⟨⟨⟨⟨⟨⟨⟨⟨⟨⟨⟨⟨⟨⟨⟨⟨⟨⟨⟨⟨⟨⟨⟨⟨⟨⟨⟨⟨⟨⟨⟨⟨⟨⟨⟨⟨⟨⟨⟨⟨⟨⟨⟨⟨⟨⟨⟨⟨⟨⟨⟨⟨⟨cc_A_0, cc_A_1⟩, cc_A_2⟩, cc_A_3⟩, cc_A_4⟩, cc_A_5⟩, cc_A_6⟩, cc_A_7⟩, cc_T_0⟩, cc_T_1⟩, cc_T_2⟩, cc_T_3⟩, cc_T_4⟩, cc_T_5⟩, cc_T_6⟩, cc_T_7⟩, cc_M_0⟩, cc_M_1⟩, cc_M_2⟩, cc_M_3⟩, cc_M_4⟩, cc_M_5⟩, cc_M_6⟩, cc_M_7⟩, cc_B_0⟩, cc_B_1⟩, cc_B_2⟩, cc_B_3⟩, cc_B_4⟩, cc_B_5⟩, cc_B_6⟩, cc_B_7⟩, cc_N_0⟩, cc_N_1⟩, cc_N_2⟩, cc_N_3⟩, cc_N_4⟩, cc_N_5⟩, cc_N_6⟩, cc_N_7⟩, cc_Y_0⟩, cc_Y_1⟩, cc_Y_2⟩, cc_Y_3⟩, cc_Y_4⟩, cc_Y_5⟩, cc_Y_6⟩, cc_Y_7⟩, q_AA⟩, q_AT⟩, q_AM⟩, q_AB⟩, q_AN⟩, q_AY⟩, q_AD⟩, q_AU⟩, q_AV⟩, q_TA⟩, q_TT⟩, q_TM⟩, q_TB⟩, q_TN⟩, q_TY⟩, q_TD⟩, q_TU⟩, q_TV⟩, q_MA⟩, q_MT⟩, q_MM⟩, q_MB⟩, q_MN⟩, q_MY⟩, q_MD⟩, q_MU⟩, q_MV⟩, q_BA⟩, q_BT⟩, q_BM⟩, q_BB⟩, q_BN⟩, q_BY⟩, q_BD⟩, q_BU⟩, q_BV⟩, q_NA⟩, q_NT⟩, q_NM⟩, q_NB⟩, q_NN⟩, q_NY⟩, q_ND⟩, q_NU⟩, q_NV⟩, q_YA⟩, q_YT⟩, q_YM⟩, q_YB⟩, q_YN⟩, q_YY⟩, q_YD⟩, q_YU⟩, q_YV⟩, qv_A⟩, qv_T⟩, qv_M⟩, qv_B⟩, qv_N⟩, qv_Y⟩ := exh
  have cc_A : ExcC K (He.ga K "BadName") := ⟨cc_A_0, cc_A_1, cc_A_2, cc_A_3, cc_A_4, cc_A_5, cc_A_6, cc_A_7⟩
  have cc_T : ExcC K (He.ga K "Twice") := ⟨cc_T_0, cc_T_1, cc_T_2, cc_T_3, cc_T_4, cc_T_5, cc_T_6, cc_T_7⟩
  have cc_M : ExcC K (He.ga K "NoTeam") := ⟨cc_M_0, cc_M_1, cc_M_2, cc_M_3, cc_M_4, cc_M_5, cc_M_6, cc_M_7⟩
  have cc_B : ExcC K (He.ga K "BadShare") := ⟨cc_B_0, cc_B_1, cc_B_2, cc_B_3, cc_B_4, cc_B_5, cc_B_6, cc_B_7⟩
  have cc_N : ExcC K (He.ga K "NoName") := ⟨cc_N_0, cc_N_1, cc_N_2, cc_N_3, cc_N_4, cc_N_5, cc_N_6, cc_N_7⟩
  have cc_Y : ExcC K (He.ga K "NotEmpty") := ⟨cc_Y_0, cc_Y_1, cc_Y_2, cc_Y_3, cc_Y_4, cc_Y_5, cc_Y_6, cc_Y_7⟩
  obtain ⟨tR, mR⟩ := He.int_ok X G (c.t.d.fact 0 rfl)
  obtain ⟨tM, mM⟩ := He.int_ok X G (c.t.d.fact 1 rfl)
  have L : LT mg := ⟨He.free_ok X G (c.t.d.fact 2 rfl), He.free_ok X G (c.t.d.fact 3 rfl), He.free_ok X G (c.t.d.fact 4 rfl), He.free_ok X G (c.t.d.fact 5 rfl), He.free_ok X G (c.t.d.fact 6 rfl), He.free_ok X G (c.t.d.fact 7 rfl), He.free_ok X G (c.t.d.fact 8 rfl), He.free_ok X G (c.t.d.fact 9 rfl), He.free_ok X G (c.t.d.fact 10 rfl), He.free_ok X G (c.t.d.fact 11 rfl), He.free_ok X G (c.t.d.fact 12 rfl), He.free_ok X G (c.t.d.fact 13 rfl)⟩
  have T : WT K mg (He.ga K "Sharer") (He.ga K "Wheel") (He.ga K "BadShare") (He.ga K "Twice") (He.ga K "NoName") := ⟨He.cls_ok (c.t.d.fact 14 rfl), He.cls_ok (c.t.d.fact 15 rfl), He.noat_ok (c.t.d.fact 16 rfl), He.noat_ok (c.t.d.fact 17 rfl), He.noat_ok (c.t.d.fact 18 rfl), He.noat_ok (c.t.d.fact 19 rfl), He.noat_ok (c.t.d.fact 20 rfl), He.glo_ok X G (c.t.d.fact 21 rfl), He.glo_ok X G (c.t.d.fact 22 rfl), He.glo_ok X G (c.t.d.fact 23 rfl), (by obtain ⟨h1, h2, h3, h4⟩ := He.exc_ok (c.t.d.fact 24 rfl); exact ⟨h1, h2, h3, h4⟩), (by obtain ⟨h1, h2, h3, h4⟩ := He.exc_ok (c.t.d.fact 25 rfl); exact ⟨h1, h2, h3, h4⟩), (by obtain ⟨h1, h2, h3, h4⟩ := He.exc_ok (c.t.d.fact 26 rfl); exact ⟨h1, h2, h3, h4⟩), He.free_ok X G (c.t.d.fact 4 rfl), He.free_ok X G (c.t.d.fact 5 rfl), He.free_ok X G (c.t.d.fact 6 rfl), He.free_ok X G (c.t.d.fact 7 rfl), He.free_ok X G (c.t.d.fact 8 rfl), He.free_ok X G (c.t.d.fact 10 rfl), ⟨tR, mR⟩, ⟨tM, mM⟩⟩
  have ge_A := He.glo_ok X G (c.t.d.fact 27 rfl)
  have ge_M := He.glo_ok X G (c.t.d.fact 28 rfl)
  have ge_Y := He.glo_ok X G (c.t.d.fact 29 rfl)
  have ge_D := He.glo_ok X G (c.t.d.fact 30 rfl)
  have ge_U := He.glo_ok X G (c.t.d.fact 31 rfl)
  have ge_V := He.glo_ok X G (c.t.d.fact 32 rfl)
  have ge_E := He.glo_ok X G (c.t.d.fact 33 rfl)
  have r_M : ErT K mg "NoTeam" (He.ga K "NoTeam") := ⟨He.glo_ok X G (c.t.d.fact 28 rfl), (by obtain ⟨h1, h2, h3, h4⟩ := He.exc_ok (c.t.d.fact 34 rfl); exact ⟨h1, h2, h3, h4⟩)⟩
  have r_D : ErT K mg "NotHand" (He.ga K "NotHand") := ⟨He.glo_ok X G (c.t.d.fact 30 rfl), (by obtain ⟨h1, h2, h3, h4⟩ := He.exc_ok (c.t.d.fact 35 rfl); exact ⟨h1, h2, h3, h4⟩)⟩
  have r_Y : ErT K mg "NotEmpty" (He.ga K "NotEmpty") := ⟨He.glo_ok X G (c.t.d.fact 29 rfl), (by obtain ⟨h1, h2, h3, h4⟩ := He.exc_ok (c.t.d.fact 36 rfl); exact ⟨h1, h2, h3, h4⟩)⟩
  have r_A : ErT K mg "BadName" (He.ga K "BadName") := ⟨He.glo_ok X G (c.t.d.fact 27 rfl), (by obtain ⟨h1, h2, h3, h4⟩ := He.exc_ok (c.t.d.fact 37 rfl); exact ⟨h1, h2, h3, h4⟩)⟩
  obtain ⟨tT, mT⟩ := He.str_ok X G (c.t.d.fact 38 rfl)
  have h_H : HT K mg (He.ga K "House") := ⟨He.cls_ok (c.t.d.fact 39 rfl), He.noat_ok (c.t.d.fact 40 rfl), He.noat_ok (c.t.d.fact 41 rfl), ⟨tT, mT⟩⟩
  have e_AE := He.exm_ok (c.t.d.fact 42 rfl)
  have e_TE := He.exm_ok (c.t.d.fact 43 rfl)
  have e_ME := He.exm_ok (c.t.d.fact 44 rfl)
  have e_BE := He.exm_ok (c.t.d.fact 45 rfl)
  have e_NE := He.exm_ok (c.t.d.fact 46 rfl)
  have e_YE := He.exm_ok (c.t.d.fact 47 rfl)
  have e_MM := He.exm_ok (c.t.d.fact 48 rfl)
  obtain ⟨fd_g_stands_in, D_g_stands_in⟩ := c.t.d.def_ 0 rfl
  have F_g_stands_in := fun_of (st := s_stands_in) D_g_stands_in
  have b_g_stands_in := F_g_stands_in.binds (ps := ["thing", "table"]) fun _ _ _ _ _ _ us hl => match us, hl with | [_, _], _ => rfl
  obtain ⟨fd_g_is_whole, D_g_is_whole⟩ := c.t.d.def_ 1 rfl
  have F_g_is_whole := fun_of (st := s_is_whole) D_g_is_whole
  have b_g_is_whole := F_g_is_whole.binds (ps := ["thing"]) fun _ _ _ _ _ _ us hl => match us, hl with | [_], _ => rfl
  obtain ⟨fd_g_step, D_g_step⟩ := c.t.d.def_ 2 rfl
  have F_g_step := fun_of (st := s_step) D_g_step
  have b_g_step := F_g_step.binds (ps := ["share"]) fun _ _ _ _ _ _ us hl => match us, hl with | [_], _ => rfl
  obtain ⟨fd_k_Sharer, D_k_Sharer⟩ := c.t.d.def_ 3 rfl
  have F_k_Sharer := fun_of (st := sSharer_init) D_k_Sharer
  have b_k_Sharer := F_k_Sharer.binds (ps := ["self", "share"]) fun _ _ _ _ _ _ us hl => match us, hl with | [_, _], _ => rfl
  obtain ⟨fd_m_S_copied, D_m_S_copied⟩ := c.t.d.def_ 4 rfl
  have F_m_S_copied := fun_of (st := sSharer_copied) D_m_S_copied
  have b_m_S_copied := F_m_S_copied.binds (ps := ["self"]) fun _ _ _ _ _ _ us hl => match us, hl with | [_], _ => rfl
  obtain ⟨fd_k_Wheel, D_k_Wheel⟩ := c.t.d.def_ 5 rfl
  have F_k_Wheel := fun_of (st := sWheel_init) D_k_Wheel
  have b_k_Wheel := F_k_Wheel.binds (ps := ["self"]) fun _ _ _ _ _ _ us hl => match us, hl with | [_], _ => rfl
  obtain ⟨fd_m_W_sharer, D_m_W_sharer⟩ := c.t.d.def_ 6 rfl
  have F_m_W_sharer := fun_of (st := sWheel_sharer) D_m_W_sharer
  have b_m_W_sharer := F_m_W_sharer.binds (ps := ["self", "name"]) fun _ _ _ _ _ _ us hl => match us, hl with | [_, _], _ => rfl
  obtain ⟨fd_m_W_enter, D_m_W_enter⟩ := c.t.d.def_ 7 rfl
  have F_m_W_enter := fun_of (st := sWheel_enter) D_m_W_enter
  have b_m_W_enter := F_m_W_enter.binds (ps := ["self", "name", "share"]) fun _ _ _ _ _ _ us hl => match us, hl with | [_, _, _], _ => rfl
  obtain ⟨fd_m_W_leave, D_m_W_leave⟩ := c.t.d.def_ 8 rfl
  have F_m_W_leave := fun_of (st := sWheel_leave) D_m_W_leave
  have b_m_W_leave := F_m_W_leave.binds (ps := ["self", "name"]) fun _ _ _ _ _ _ us hl => match us, hl with | [_, _], _ => rfl
  obtain ⟨fd_m_W_reshare, D_m_W_reshare⟩ := c.t.d.def_ 9 rfl
  have F_m_W_reshare := fun_of (st := sWheel_reshare) D_m_W_reshare
  have b_m_W_reshare := F_m_W_reshare.binds (ps := ["self", "name", "share"]) fun _ _ _ _ _ _ us hl => match us, hl with | [_, _, _], _ => rfl
  obtain ⟨fd_m_W_wake, D_m_W_wake⟩ := c.t.d.def_ 10 rfl
  have F_m_W_wake := fun_of (st := sWheel_wake) D_m_W_wake
  have b_m_W_wake := F_m_W_wake.binds (ps := ["self", "name"]) fun _ _ _ _ _ _ us hl => match us, hl with | [_, _], _ => rfl
  obtain ⟨fd_m_W_rest, D_m_W_rest⟩ := c.t.d.def_ 11 rfl
  have F_m_W_rest := fun_of (st := sWheel_rest) D_m_W_rest
  have b_m_W_rest := F_m_W_rest.binds (ps := ["self", "name"]) fun _ _ _ _ _ _ us hl => match us, hl with | [_, _], _ => rfl
  obtain ⟨fd_m_W_whose, D_m_W_whose⟩ := c.t.d.def_ 12 rfl
  have F_m_W_whose := fun_of (st := sWheel_whose) D_m_W_whose
  have b_m_W_whose := F_m_W_whose.binds (ps := ["self"]) fun _ _ _ _ _ _ us hl => match us, hl with | [_], _ => rfl
  obtain ⟨fd_m_W_turn, D_m_W_turn⟩ := c.t.d.def_ 13 rfl
  have F_m_W_turn := fun_of (st := sWheel_turn) D_m_W_turn
  have b_m_W_turn := F_m_W_turn.binds (ps := ["self"]) fun _ _ _ _ _ _ us hl => match us, hl with | [_], _ => rfl
  obtain ⟨fd_m_W_names, D_m_W_names⟩ := c.t.d.def_ 14 rfl
  have F_m_W_names := fun_of (st := sWheel_names) D_m_W_names
  have b_m_W_names := F_m_W_names.binds (ps := ["self"]) fun _ _ _ _ _ _ us hl => match us, hl with | [_], _ => rfl
  obtain ⟨fd_m_W_clock_of, D_m_W_clock_of⟩ := c.t.d.def_ 15 rfl
  have F_m_W_clock_of := fun_of (st := sWheel_clock_of) D_m_W_clock_of
  have b_m_W_clock_of := F_m_W_clock_of.binds (ps := ["self", "name"]) fun _ _ _ _ _ _ us hl => match us, hl with | [_, _], _ => rfl
  obtain ⟨fd_m_W_share_of, D_m_W_share_of⟩ := c.t.d.def_ 16 rfl
  have F_m_W_share_of := fun_of (st := sWheel_share_of) D_m_W_share_of
  have b_m_W_share_of := F_m_W_share_of.binds (ps := ["self", "name"]) fun _ _ _ _ _ _ us hl => match us, hl with | [_, _], _ => rfl
  obtain ⟨fd_m_W_is_ready, D_m_W_is_ready⟩ := c.t.d.def_ 17 rfl
  have F_m_W_is_ready := fun_of (st := sWheel_is_ready) D_m_W_is_ready
  have b_m_W_is_ready := F_m_W_is_ready.binds (ps := ["self", "name"]) fun _ _ _ _ _ _ us hl => match us, hl with | [_, _], _ => rfl
  obtain ⟨fd_m_W_copied, D_m_W_copied⟩ := c.t.d.def_ 18 rfl
  have F_m_W_copied := fun_of (st := sWheel_copied) D_m_W_copied
  have b_m_W_copied := F_m_W_copied.binds (ps := ["self"]) fun _ _ _ _ _ _ us hl => match us, hl with | [_], _ => rfl
  obtain ⟨fd_g_is_name, D_g_is_name⟩ := c.t.d.def_ 19 rfl
  have F_g_is_name := funC_of (st := s_is_name) D_g_is_name
  have b_g_is_name := (fun_of (st := s_is_name) D_g_is_name).binds (ps := ["thing"]) fun _ _ _ _ _ _ us hl => match us, hl with | [_], _ => rfl
  obtain ⟨tL, mLong⟩ := He.int_ok X G (c.t.d.fact 70 rfl)
  have zall := He.free_ok X G (c.t.d.fact 71 rfl)
  obtain ⟨fd_m_H_need_team, D_m_H_need_team⟩ := c.t.d.def_ 20 rfl
  have F_m_H_need_team := fun_of (st := sHouse_need_team) D_m_H_need_team
  have b_m_H_need_team := F_m_H_need_team.binds (ps := ["self", "team"]) fun _ _ _ _ _ _ us hl => match us, hl with | [_, _], _ => rfl
  obtain ⟨fd_m_H_need_name, D_m_H_need_name⟩ := c.t.d.def_ 21 rfl
  have F_m_H_need_name := fun_of (st := sHouse_need_name) D_m_H_need_name
  have b_m_H_need_name := F_m_H_need_name.binds (ps := ["self", "name"]) fun _ _ _ _ _ _ us hl => match us, hl with | [_, _], _ => rfl
  obtain ⟨fd_m_H_need_hand, D_m_H_need_hand⟩ := c.t.d.def_ 22 rfl
  have F_m_H_need_hand := fun_of (st := sHouse_need_hand) D_m_H_need_hand
  have b_m_H_need_hand := F_m_H_need_hand.binds (ps := ["self", "name"]) fun _ _ _ _ _ _ us hl => match us, hl with | [_, _], _ => rfl
  obtain ⟨fd_m_H_wheel_around, D_m_H_wheel_around⟩ := c.t.d.def_ 23 rfl
  have F_m_H_wheel_around := fun_of (st := sHouse_wheel_around) D_m_H_wheel_around
  have b_m_H_wheel_around := F_m_H_wheel_around.binds (ps := ["self", "name"]) fun _ _ _ _ _ _ us hl => match us, hl with | [_, _], _ => rfl
  obtain ⟨fd_m_H_wake, D_m_H_wake⟩ := c.t.d.def_ 24 rfl
  have F_m_H_wake := fun_of (st := sHouse_wake) D_m_H_wake
  have b_m_H_wake := F_m_H_wake.binds (ps := ["self", "name"]) fun _ _ _ _ _ _ us hl => match us, hl with | [_, _], _ => rfl
  obtain ⟨fd_m_H_rest, D_m_H_rest⟩ := c.t.d.def_ 25 rfl
  have F_m_H_rest := fun_of (st := sHouse_rest) D_m_H_rest
  have b_m_H_rest := F_m_H_rest.binds (ps := ["self", "name"]) fun _ _ _ _ _ _ us hl => match us, hl with | [_, _], _ => rfl
  obtain ⟨fd_m_H_wheel_of, D_m_H_wheel_of⟩ := c.t.d.def_ 26 rfl
  have F_m_H_wheel_of := fun_of (st := sHouse_wheel_of) D_m_H_wheel_of
  have b_m_H_wheel_of := F_m_H_wheel_of.binds (ps := ["self", "team"]) fun _ _ _ _ _ _ us hl => match us, hl with | [_, _], _ => rfl
  obtain ⟨fd_m_H_reshare, D_m_H_reshare⟩ := c.t.d.def_ 27 rfl
  have F_m_H_reshare := fun_of (st := sHouse_reshare) D_m_H_reshare
  have b_m_H_reshare := F_m_H_reshare.binds (ps := ["self", "name", "share"]) fun _ _ _ _ _ _ us hl => match us, hl with | [_, _, _], _ => rfl
  obtain ⟨fd_m_H_deal, D_m_H_deal⟩ := c.t.d.def_ 28 rfl
  have F_m_H_deal := fun_of (st := sHouse_deal) D_m_H_deal
  have b_m_H_deal := F_m_H_deal.binds (ps := ["self"]) fun _ _ _ _ _ _ us hl => match us, hl with | [_], _ => rfl
  obtain ⟨fd_m_H_leave, D_m_H_leave⟩ := c.t.d.def_ 29 rfl
  have F_m_H_leave := fun_of (st := sHouse_leave) D_m_H_leave
  have b_m_H_leave := F_m_H_leave.binds (ps := ["self", "name"]) fun _ _ _ _ _ _ us hl => match us, hl with | [_, _], _ => rfl
  obtain ⟨fd_k_House, D_k_House⟩ := c.t.d.def_ 30 rfl
  have F_k_House := fun_of (st := sHouse_init) D_k_House
  have b_k_House := F_k_House.binds (ps := ["self"]) fun _ _ _ _ _ _ us hl => match us, hl with | [_], _ => rfl
  obtain ⟨fd_m_H_settle, D_m_H_settle⟩ := c.t.d.def_ 31 rfl
  have F_m_H_settle := fun_of (st := sHouse_settle) D_m_H_settle
  have b_m_H_settle := F_m_H_settle.binds (ps := ["self", "name", "above", "share"]) fun _ _ _ _ _ _ us hl => match us, hl with | [_, _, _, _], _ => rfl
  obtain ⟨fd_m_H_hand, D_m_H_hand⟩ := c.t.d.def_ 32 rfl
  have F_m_H_hand := fun_of (st := sHouse_hand) D_m_H_hand
  have b_m_H_hand := F_m_H_hand.binds (ps := ["self", "name", "above", "share"]) fun _ _ _ _ _ _ us hl => match us, hl with | [_, _, _, _], _ => rfl
  obtain ⟨fd_m_H_team, D_m_H_team⟩ := c.t.d.def_ 33 rfl
  have F_m_H_team := fun_of (st := sHouse_team) D_m_H_team
  have b_m_H_team := F_m_H_team.binds (ps := ["self", "name", "above", "share"]) fun _ _ _ _ _ _ us hl => match us, hl with | [_, _, _, _], _ => rfl
  obtain ⟨fd_g_refusal, D_g_refusal⟩ := c.t.d.def_ 34 rfl
  have F_g_refusal := fun_of (st := s_L_refusal) D_g_refusal
  have b_g_refusal := F_g_refusal.binds (ps := ["_law_error"]) fun _ _ _ _ _ _ us hl => match us, hl with | [_], _ => rfl
  obtain ⟨fd_g_is_share, D_g_is_share⟩ := c.t.d.def_ 35 rfl
  have F_g_is_share := fun_of (st := s_L_is_share) D_g_is_share
  have b_g_is_share := F_g_is_share.binds (ps := ["_law_share"]) fun _ _ _ _ _ _ us hl => match us, hl with | [_], _ => rfl
  obtain ⟨fd_g_due, D_g_due⟩ := c.t.d.def_ 36 rfl
  have F_g_due := fun_of (st := s_L_due) D_g_due
  have b_g_due := F_g_due.binds (ps := ["_law_rows", "_law_names", "_law_kind", "_law_name", "_law_above", "_law_share"]) fun _ _ _ _ _ _ us hl => match us, hl with | [_, _, _, _, _, _], _ => rfl
  obtain ⟨fd_g_names_by, D_g_names_by⟩ := c.t.d.def_ 37 rfl
  have F_g_names_by := fun_of (st := s_L_names_by) D_g_names_by
  have b_g_names_by := F_g_names_by.binds (ps := ["_law_cell"]) fun _ _ _ _ _ _ us hl => match us, hl with | [_], _ => rfl
  obtain ⟨fd_g_done, D_g_done⟩ := c.t.d.def_ 38 rfl
  have F_g_done := fun_of (st := s_L_done) D_g_done
  have b_g_done := F_g_done.binds (ps := ["_law_house", "_law_kind", "_law_name", "_law_above", "_law_share"]) fun _ _ _ _ _ _ us hl => match us, hl with | [_, _, _, _, _], _ => rfl
  obtain ⟨fd_g_wheel_good, D_g_wheel_good⟩ := c.t.d.def_ 39 rfl
  have F_g_wheel_good := fun_of (st := s_L_wheel_good) D_g_wheel_good
  have b_g_wheel_good := F_g_wheel_good.binds (ps := ["_law_house", "_law_rows", "_law_team"]) fun _ _ _ _ _ _ us hl => match us, hl with | [_, _, _], _ => rfl
  obtain ⟨fd_law, D_law⟩ := c.t.d.def_ 40 rfl
  have F_law := fun_of (st := s_law) D_law
  have tb : (("is_name", none) : He.Defn) ∈ tbs := List.mem_cons_self
  have own : ∀ p : Addr × Addr, p ∈ [He.cT K ("is_name", none)] → p = He.cT K ("is_name", none) := fun p hp => List.mem_singleton.mp hp
  refine ⟨fd_law, [He.cT K ("is_name", none)], spLawT K (He.cT K ("is_name", none)).2, fun p hp => by rw [own p hp]; exact c.empty _ tb, fun p hp => by rw [own p hp]; exact c.out _ tb, fun p hp => by rw [own p hp]; exact PySem.W.codeHd_of_K X (c.hd _ tb),
    fun s v => (FunD.bindsA (ps := ["_law_script"]) D_law fun _ _ _ _ _ _ us hl => match us, hl with | [_], _ => rfl) s [v] rfl, fun H a ns hl _ hH hS => ⟨a, ns, rfl, hS, ⟨#[], hH _ List.mem_cons_self, trivial⟩, hl, fun _ => rfl⟩, fun base _ _ hTB => ?_⟩
  have tb0 := hTB _ List.mem_cons_self
  have TB : GxR.TabB base mg (He.codeOf K ("is_name", none)) (He.cT K ("is_name", none)).2 := ⟨tb0.code, tb0.bm, tb0.gP⟩
  have g_stands_in : DOk PySem.Challenge.rw_sharetime_k09_who_stands_where.prog w K mg base 1 "stands_in" ["thing", "table"] spStands := ⟨_, _, He.glo_ok X G (c.t.d.fact 49 rfl), D_g_stands_in.kp, ok_stands F_g_stands_in T, b_g_stands_in⟩
  have g_is_whole : DOk PySem.Challenge.rw_sharetime_k09_who_stands_where.prog w K mg base 1 "is_whole" ["thing"] spWhole := ⟨_, _, He.glo_ok X G (c.t.d.fact 50 rfl), D_g_is_whole.kp, ok_whole F_g_is_whole T, b_g_is_whole⟩
  have g_step : DOk PySem.Challenge.rw_sharetime_k09_who_stands_where.prog w K mg base 2 "step" ["share"] (spStep (He.ga K "BadShare")) := ⟨_, _, He.glo_ok X G (c.t.d.fact 51 rfl), D_g_step.kp, ok_step F_g_step T g_is_whole, b_g_step⟩
  have k_Sharer : KOk PySem.Challenge.rw_sharetime_k09_who_stands_where.prog w K mg base 1 "Sharer" (He.ga K "Sharer") ["self", "share"] (spSInit (He.ga K "Sharer")) := ⟨_, _, He.mkr_ok (c.t.d.fact 52 rfl), ok_sinit F_k_Sharer T, He.glo_ok X G (c.t.d.fact 53 rfl), b_k_Sharer⟩
  have m_S_copied : MOk PySem.Challenge.rw_sharetime_k09_who_stands_where.prog w K mg base 3 (He.ga K "Sharer") "copied" ["self"] (spSCopied (He.ga K "Sharer")) := ⟨_, _, He.meth_ok (c.t.d.fact 54 rfl), ok_scopied F_m_S_copied T k_Sharer, b_m_S_copied⟩
  have k_Wheel : KOk PySem.Challenge.rw_sharetime_k09_who_stands_where.prog w K mg base 1 "Wheel" (He.ga K "Wheel") ["self"] (spWInit (He.ga K "Wheel") (He.ga K "Sharer")) := ⟨_, _, He.mkr_ok (c.t.d.fact 55 rfl), ok_winit F_k_Wheel T, He.glo_ok X G (c.t.d.fact 56 rfl), b_k_Wheel⟩
  have m_W_sharer : MOk PySem.Challenge.rw_sharetime_k09_who_stands_where.prog w K mg base 2 (He.ga K "Wheel") "_sharer" ["self", "name"] (spSharer (He.ga K "Wheel") (He.ga K "Sharer") (He.ga K "NoName")) := ⟨_, _, He.meth_ok (c.t.d.fact 57 rfl), ok_sharer F_m_W_sharer T g_stands_in, b_m_W_sharer⟩
  have m_W_enter : MOk PySem.Challenge.rw_sharetime_k09_who_stands_where.prog w K mg base 3 (He.ga K "Wheel") "enter" ["self", "name", "share"] (spEnter (He.ga K "Wheel") (He.ga K "Sharer") (He.ga K "BadShare") (He.ga K "Twice")) := ⟨_, _, He.meth_ok (c.t.d.fact 58 rfl), ok_enter F_m_W_enter T g_step k_Sharer, b_m_W_enter⟩
  have m_W_leave : MOk PySem.Challenge.rw_sharetime_k09_who_stands_where.prog w K mg base 3 (He.ga K "Wheel") "leave" ["self", "name"] (spLeave (He.ga K "Wheel") (He.ga K "Sharer") (He.ga K "NoName")) := ⟨_, _, He.meth_ok (c.t.d.fact 59 rfl), ok_leave F_m_W_leave T m_W_sharer, b_m_W_leave⟩
  have m_W_reshare : MOk PySem.Challenge.rw_sharetime_k09_who_stands_where.prog w K mg base 3 (He.ga K "Wheel") "reshare" ["self", "name", "share"] (spReshare (He.ga K "Wheel") (He.ga K "Sharer") (He.ga K "BadShare") (He.ga K "NoName")) := ⟨_, _, He.meth_ok (c.t.d.fact 60 rfl), ok_reshare F_m_W_reshare T m_W_sharer g_step, b_m_W_reshare⟩
  have m_W_wake : MOk PySem.Challenge.rw_sharetime_k09_who_stands_where.prog w K mg base 3 (He.ga K "Wheel") "wake" ["self", "name"] (spWake (He.ga K "Wheel") (He.ga K "Sharer") (He.ga K "NoName")) := ⟨_, _, He.meth_ok (c.t.d.fact 61 rfl), ok_wake F_m_W_wake T m_W_sharer, b_m_W_wake⟩
  have m_W_rest : MOk PySem.Challenge.rw_sharetime_k09_who_stands_where.prog w K mg base 3 (He.ga K "Wheel") "rest" ["self", "name"] (spRest (He.ga K "Wheel") (He.ga K "Sharer") (He.ga K "NoName")) := ⟨_, _, He.meth_ok (c.t.d.fact 62 rfl), ok_rest F_m_W_rest T m_W_sharer, b_m_W_rest⟩
  have m_W_whose : MOk PySem.Challenge.rw_sharetime_k09_who_stands_where.prog w K mg base 1 (He.ga K "Wheel") "whose" ["self"] (spWhose (He.ga K "Wheel") (He.ga K "Sharer")) := ⟨_, _, He.meth_ok (c.t.d.fact 63 rfl), ok_whose F_m_W_whose T, b_m_W_whose⟩
  have m_W_turn : MOk PySem.Challenge.rw_sharetime_k09_who_stands_where.prog w K mg base 3 (He.ga K "Wheel") "turn" ["self"] (spTurn (He.ga K "Wheel") (He.ga K "Sharer")) := ⟨_, _, He.meth_ok (c.t.d.fact 64 rfl), ok_turn F_m_W_turn T m_W_whose g_step, b_m_W_turn⟩
  have m_W_names : MOk PySem.Challenge.rw_sharetime_k09_who_stands_where.prog w K mg base 1 (He.ga K "Wheel") "names" ["self"] (spNames (He.ga K "Wheel") (He.ga K "Sharer")) := ⟨_, _, He.meth_ok (c.t.d.fact 65 rfl), ok_names F_m_W_names T, b_m_W_names⟩
  have m_W_clock_of : MOk PySem.Challenge.rw_sharetime_k09_who_stands_where.prog w K mg base 3 (He.ga K "Wheel") "clock_of" ["self", "name"] (spAsk (He.ga K "Wheel") (He.ga K "Sharer") (He.ga K "NoName") fun x => .int x.c) := ⟨_, _, He.meth_ok (c.t.d.fact 66 rfl), ok_clock_of F_m_W_clock_of T m_W_sharer, b_m_W_clock_of⟩
  have m_W_share_of : MOk PySem.Challenge.rw_sharetime_k09_who_stands_where.prog w K mg base 3 (He.ga K "Wheel") "share_of" ["self", "name"] (spAsk (He.ga K "Wheel") (He.ga K "Sharer") (He.ga K "NoName") fun x => .int x.s) := ⟨_, _, He.meth_ok (c.t.d.fact 67 rfl), ok_share_of F_m_W_share_of T m_W_sharer, b_m_W_share_of⟩
  have m_W_is_ready : MOk PySem.Challenge.rw_sharetime_k09_who_stands_where.prog w K mg base 3 (He.ga K "Wheel") "is_ready" ["self", "name"] (spAsk (He.ga K "Wheel") (He.ga K "Sharer") (He.ga K "NoName") fun x => .bl x.r) := ⟨_, _, He.meth_ok (c.t.d.fact 68 rfl), ok_is_ready F_m_W_is_ready T m_W_sharer, b_m_W_is_ready⟩
  have m_W_copied : MOk PySem.Challenge.rw_sharetime_k09_who_stands_where.prog w K mg base 4 (He.ga K "Wheel") "copied" ["self"] (spCopied (He.ga K "Wheel") (He.ga K "Sharer")) := ⟨_, _, He.meth_ok (c.t.d.fact 69 rfl), ok_copied F_m_W_copied T k_Wheel m_S_copied, b_m_W_copied⟩
  have g_is_name : DOk PySem.Challenge.rw_sharetime_k09_who_stands_where.prog w K mg base 2 "is_name" ["thing"] (spIsName (He.cT K ("is_name", none)).2) := ⟨_, _, He.glo_ok X G (c.t.d.fact 72 rfl), F_g_is_name.kp, ok_is_name F_g_is_name L TB mLong zall, b_g_is_name⟩
  have m_H_need_team : MOk PySem.Challenge.rw_sharetime_k09_who_stands_where.prog w K mg base 2 (He.ga K "House") "_need_team" ["self", "team"] (spNeedTeam (He.ga K "House") (He.ga K "Wheel") (He.ga K "Sharer") (He.ga K "NoTeam")) := ⟨_, _, He.meth_ok (c.t.d.fact 73 rfl), ok_H_need_team F_m_H_need_team T L g_stands_in h_H r_M, b_m_H_need_team⟩
  have m_H_need_name : MOk PySem.Challenge.rw_sharetime_k09_who_stands_where.prog w K mg base 2 (He.ga K "House") "_need_name" ["self", "name"] (spNeedName (He.ga K "House") (He.ga K "Wheel") (He.ga K "Sharer") (He.ga K "NoName")) := ⟨_, _, He.meth_ok (c.t.d.fact 74 rfl), ok_H_need_name F_m_H_need_name T L g_stands_in h_H, b_m_H_need_name⟩
  have m_H_need_hand : MOk PySem.Challenge.rw_sharetime_k09_who_stands_where.prog w K mg base 3 (He.ga K "House") "_need_hand" ["self", "name"] (spNeedHand (He.ga K "House") (He.ga K "Wheel") (He.ga K "Sharer") (He.ga K "NoName") (He.ga K "NotHand")) := ⟨_, _, He.meth_ok (c.t.d.fact 75 rfl), ok_H_need_hand F_m_H_need_hand T L h_H m_H_need_name r_D, b_m_H_need_hand⟩
  have m_H_wheel_around : MOk PySem.Challenge.rw_sharetime_k09_who_stands_where.prog w K mg base 1 (He.ga K "House") "_wheel_around" ["self", "name"] (spAround (He.ga K "House") (He.ga K "Wheel") (He.ga K "Sharer")) := ⟨_, _, He.meth_ok (c.t.d.fact 76 rfl), ok_H_wheel_around F_m_H_wheel_around T L h_H, b_m_H_wheel_around⟩
  have m_H_wake : MOk PySem.Challenge.rw_sharetime_k09_who_stands_where.prog w K mg base 4 (He.ga K "House") "wake" ["self", "name"] (spHWake (He.ga K "House") (He.ga K "Wheel") (He.ga K "Sharer") (He.ga K "NoName") (He.ga K "NotHand")) := ⟨_, _, He.meth_ok (c.t.d.fact 77 rfl), ok_H_wake F_m_H_wake T L h_H m_H_need_hand m_H_wheel_around m_W_wake, b_m_H_wake⟩
  have m_H_rest : MOk PySem.Challenge.rw_sharetime_k09_who_stands_where.prog w K mg base 4 (He.ga K "House") "rest" ["self", "name"] (spHRest (He.ga K "House") (He.ga K "Wheel") (He.ga K "Sharer") (He.ga K "NoName") (He.ga K "NotHand")) := ⟨_, _, He.meth_ok (c.t.d.fact 78 rfl), ok_H_rest F_m_H_rest T L h_H m_H_need_hand m_H_wheel_around m_W_rest m_W_whose, b_m_H_rest⟩
  have m_H_wheel_of : MOk PySem.Challenge.rw_sharetime_k09_who_stands_where.prog w K mg base 5 (He.ga K "House") "wheel_of" ["self", "team"] (spWheelOf (He.ga K "House") (He.ga K "Wheel") (He.ga K "Sharer") (He.ga K "NoTeam")) := ⟨_, _, He.meth_ok (c.t.d.fact 79 rfl), ok_H_wheel_of F_m_H_wheel_of T L h_H m_H_need_team m_W_copied, b_m_H_wheel_of⟩
  have m_H_reshare : MOk PySem.Challenge.rw_sharetime_k09_who_stands_where.prog w K mg base 4 (He.ga K "House") "reshare" ["self", "name", "share"] (spHReshare (He.ga K "House") (He.ga K "Wheel") (He.ga K "Sharer") (He.ga K "BadShare") (He.ga K "NoName")) := ⟨_, _, He.meth_ok (c.t.d.fact 80 rfl), ok_H_reshare F_m_H_reshare T L h_H m_H_need_name m_H_wheel_around m_W_reshare, b_m_H_reshare⟩
  have m_H_deal : MOk PySem.Challenge.rw_sharetime_k09_who_stands_where.prog w K mg base 4 (He.ga K "House") "deal" ["self"] (spDeal (He.ga K "House") (He.ga K "Wheel") (He.ga K "Sharer")) := ⟨_, _, He.meth_ok (c.t.d.fact 81 rfl), ok_H_deal F_m_H_deal T L h_H m_W_turn, b_m_H_deal⟩
  have m_H_leave : MOk PySem.Challenge.rw_sharetime_k09_who_stands_where.prog w K mg base 5 (He.ga K "House") "leave" ["self", "name"] (spHLeave (He.ga K "House") (He.ga K "Wheel") (He.ga K "Sharer") (He.ga K "NoName") (He.ga K "NotEmpty")) := ⟨_, _, He.meth_ok (c.t.d.fact 82 rfl), ok_H_leave F_m_H_leave T L h_H m_H_need_name m_H_rest m_H_wheel_around m_W_leave m_W_names r_Y, b_m_H_leave⟩
  have k_House : KOk PySem.Challenge.rw_sharetime_k09_who_stands_where.prog w K mg base 3 "House" (He.ga K "House") ["self"] (spHInit (He.ga K "House") (He.ga K "Wheel") (He.ga K "Sharer")) := ⟨_, _, He.mkr_ok (c.t.d.fact 83 rfl), ok_H_init F_k_House T L h_H k_Wheel, He.glo_ok X G (c.t.d.fact 84 rfl), b_k_House⟩
  have m_H_settle : MOk PySem.Challenge.rw_sharetime_k09_who_stands_where.prog w K mg base 5 (He.ga K "House") "_settle" ["self", "name", "above", "share"] (spSettle (He.cT K ("is_name", none)).2 (He.ga K "House") (He.ga K "Wheel") (He.ga K "Sharer") (He.ga K "BadShare") (He.ga K "Twice") (He.ga K "BadName") (He.ga K "NoTeam")) := ⟨_, _, He.meth_ok (c.t.d.fact 85 rfl), ok_H_settle F_m_H_settle T L g_is_name h_H m_H_need_team m_W_enter r_A, b_m_H_settle⟩
  have m_H_hand : MOk PySem.Challenge.rw_sharetime_k09_who_stands_where.prog w K mg base 6 (He.ga K "House") "hand" ["self", "name", "above", "share"] (spSettle (He.cT K ("is_name", none)).2 (He.ga K "House") (He.ga K "Wheel") (He.ga K "Sharer") (He.ga K "BadShare") (He.ga K "Twice") (He.ga K "BadName") (He.ga K "NoTeam")) := ⟨_, _, He.meth_ok (c.t.d.fact 86 rfl), ok_H_hand F_m_H_hand T L h_H m_H_settle, b_m_H_hand⟩
  have m_H_team : MOk PySem.Challenge.rw_sharetime_k09_who_stands_where.prog w K mg base 6 (He.ga K "House") "team" ["self", "name", "above", "share"] (spTeam (He.cT K ("is_name", none)).2 (He.ga K "House") (He.ga K "Wheel") (He.ga K "Sharer") (He.ga K "BadShare") (He.ga K "Twice") (He.ga K "BadName") (He.ga K "NoTeam")) := ⟨_, _, He.meth_ok (c.t.d.fact 87 rfl), ok_H_team F_m_H_team T L h_H k_Wheel m_H_settle, b_m_H_team⟩
  have g_refusal : DOE PySem.Challenge.rw_sharetime_k09_who_stands_where.prog w K mg base 1 "_law_refusal" ["_law_error"] (spRef9 K (He.ga K "NotHand") (He.ga K "NoName") (He.ga K "NotEmpty") (He.ga K "Twice") (He.ga K "NoTeam") (He.ga K "BadShare") (He.ga K "BadName") (He.ga K "BadCount") (He.ga K "NoDeed")) := ⟨_, _, He.glo_ok X G (c.t.d.fact 88 rfl), D_g_refusal.kp, ok_L_refusal F_g_refusal T L ge_A ge_D ge_M ge_U ge_V ge_Y, b_g_refusal⟩
  have g_is_share : DOk PySem.Challenge.rw_sharetime_k09_who_stands_where.prog w K mg base 1 "_law_is_share" ["_law_share"] spShr9 := ⟨_, _, He.glo_ok X G (c.t.d.fact 89 rfl), D_g_is_share.kp, ok_L_is_share F_g_is_share T L, b_g_is_share⟩
  have g_due : DOk PySem.Challenge.rw_sharetime_k09_who_stands_where.prog w K mg base 2 "_law_due" ["_law_rows", "_law_names", "_law_kind", "_law_name", "_law_above", "_law_share"] spDue9 := ⟨_, _, He.glo_ok X G (c.t.d.fact 90 rfl), D_g_due.kp, ok_L_due F_g_due T L g_is_share, b_g_due⟩
  have g_names_by : DOk PySem.Challenge.rw_sharetime_k09_who_stands_where.prog w K mg base 1 "_law_names_by" ["_law_cell"] spNames9 := ⟨_, _, He.glo_ok X G (c.t.d.fact 91 rfl), D_g_names_by.kp, ok_L_names_by F_g_names_by T L, b_g_names_by⟩
  have g_done : DOk PySem.Challenge.rw_sharetime_k09_who_stands_where.prog w K mg base 7 "_law_done" ["_law_house", "_law_kind", "_law_name", "_law_above", "_law_share"] (spDone9 (He.cT K ("is_name", none)).2 (He.ga K "House") (He.ga K "Wheel") (He.ga K "Sharer")) := ⟨_, _, He.glo_ok X G (c.t.d.fact 92 rfl), D_g_done.kp, ok_L_done F_g_done T L cc_A cc_B cc_M cc_N cc_T cc_Y e_AE e_BE e_ME e_NE e_TE e_YE g_refusal ge_E h_H m_H_hand m_H_leave m_H_reshare m_H_team q_AA q_AB q_AD q_AM q_AN q_AT q_AU q_AV q_AY q_BA q_BB q_BD q_BM q_BN q_BT q_BU q_BV q_BY q_MA q_MB q_MD q_MM q_MN q_MT q_MU q_MV q_MY q_NA q_NB q_ND q_NM q_NN q_NT q_NU q_NV q_NY q_TA q_TB q_TD q_TM q_TN q_TT q_TU q_TV q_TY q_YA q_YB q_YD q_YM q_YN q_YT q_YU q_YV q_YY qv_A qv_B qv_M qv_N qv_T qv_Y, b_g_done⟩
  have n_H_need_team : MOkN PySem.Challenge.rw_sharetime_k09_who_stands_where.prog w K mg base 2 (He.ga K "House") "_need_team" ["self", "team"] (spNeedTeam (He.ga K "House") (He.ga K "Wheel") (He.ga K "Sharer") (He.ga K "NoTeam")) := ⟨_, _, He.meth_ok (c.t.d.fact 73 rfl), ok_NH_need_team F_m_H_need_team T L g_stands_in h_H r_M, b_m_H_need_team⟩
  have n_H_wheel_of : MOkN PySem.Challenge.rw_sharetime_k09_who_stands_where.prog w K mg base 5 (He.ga K "House") "wheel_of" ["self", "team"] (spWheelOf (He.ga K "House") (He.ga K "Wheel") (He.ga K "Sharer") (He.ga K "NoTeam")) := ⟨_, _, He.meth_ok (c.t.d.fact 79 rfl), ok_NH_wheel_of F_m_H_wheel_of T L h_H m_W_copied n_H_need_team, b_m_H_wheel_of⟩
  have g_wheel_good : DOk PySem.Challenge.rw_sharetime_k09_who_stands_where.prog w K mg base 6 "_law_wheel_good" ["_law_house", "_law_rows", "_law_team"] (spGood9 (He.ga K "House") (He.ga K "Wheel") (He.ga K "Sharer")) := ⟨_, _, He.glo_ok X G (c.t.d.fact 93 rfl), D_g_wheel_good.kp, ok_L_wheel_good F_g_wheel_good T L e_MM ge_M h_H m_W_clock_of m_W_enter m_W_is_ready m_W_names m_W_share_of m_W_turn m_W_wake n_H_wheel_of, b_g_wheel_good⟩
  exact ok_law F_law T L g_done g_due g_names_by g_wheel_good k_House
end Mine
open PySem PySem.W PySem.Calls PyProof.Rows
set_option maxRecDepth 100000 in
set_option maxHeartbeats 0 in
theorem PySem.Challenge.cw_sharetime_k09_who_stands_where_holds : PySem.Challenge.rw_sharetime_k09_who_stands_where.Holds := by
  w_on; o_law
  refine HandSHeadRun.head_any (r := (OpenLaw.row PySem.Challenge.rw_sharetime_k09_who_stands_where)) (q := view (OpenLaw.row PySem.Challenge.rw_sharetime_k09_who_stands_where).prog [34]) (H := Mine.hk) (ob := Mine.ob) (M := 6000) (loose := Mine.loose) (d := HandSHeadRun.topDef (OpenLaw.row PySem.Challenge.rw_sharetime_k09_who_stands_where).prog 34) (kwd := []) Mine.ob_eq (by kernel_rfl) (fun s => by kernel_rfl) Mine.run_top (by kernel_rfl) (by kernel_rfl) (by kernel_rfl) (by rfl) (by first | assumption | decide +kernel) (by decide +kernel) ⟨rfl, rfl, rfl, rfl, rfl, by decide +kernel⟩ ?hw ?hc
  case hw => w_witness2
  case hc =>
    refine LamX.walk_ofTsE (l := PySem.Challenge.rw_sharetime_k09_who_stands_where) (n := 63) (k := 9) (x := "_law_script") (CX := fun _ => L2.CX0) rfl (by decide) (by kernel_rfl) ⟨rfl, by decide, by decide⟩ ?F (fun _ _ _ _ _ z => z)
    intro w mg fa h Y G hmg0
    obtain ⟨K, KX, c⟩ := Y
    have hmg : mg ("law" : PySem.Str) = some (.ref fa) := by
      have e : (HandSHeadRun.topDef (OpenLaw.row PySem.Challenge.rw_sharetime_k09_who_stands_where).prog 34).name = ("law" : PySem.Str) := by kernel_rfl
      rw [← e]
      exact hmg0
    exact ⟨K, KX, Mine.law_at KX G hmg c⟩
#print axioms PySem.Challenge.cw_sharetime_k09_who_stands_where_holds
