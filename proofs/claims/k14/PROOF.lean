import PyProof.Rows.All
import Wide.All
import OpenK.AllK
import Wide.FinOn
import KE.RegKIsAll
import HandS.Base
import HandS.Call
import HandS.List
import HandS.Comp
import HandS.Ends
import HandS.Dict
import HandS.Iter
import HandS.Exc
import HandS.TryOnly
import HandS.ExcOwn
import HandS.Words
import HandS.WordsList
import HandS.WordsDict
import HandS.WordsExc
import HandS.IsInst
import HandS.ExcIs
import HandS.FStr
import HandS.Small
import HandS.Walk
import HandS.Conv
import HandS.DictComp
import HandS.Style
import HandS.Codes
import HandS.Flow
import HandS.TryMany
import HandS.Deep
import HandS.AnyAll
import HandS.HotCalls
import KE.KEqNest
import HandS.NoneIn
import HandS.EndTab
import KE.KStateDown
import HandS.Defaults
import HandS.Head0
import HandS.Head1
import HandS.Head2
import HandS.HeadEnd
import HandS.HeadHook1
import HandS.HeadHook2
import HandS.HeadHook3
import HandS.HeadHook4
import HandS.HeadWalk
import HandS.NestedK
import KE.DataEq
import KE.DataFind
import KE.GoesComp
import KE.GoesMore
import KE.GoesZip
import HandS.RaiseMore
import HandS.Star
import PyProof.RulesMatchSeq
import PyProof.Rows.MatchSeqLen
import HandS.WrittenGet
import HandS.StrSplit
import PySem.Challenge.RW_sharetime_k14_deeds_as_texts
set_option Elab.async false
set_option maxRecDepth 100000
set_option maxHeartbeats 4000000
set_option linter.all false
/-! The mirror of a wheel and its mathematics: plain Lean, no Python. Names of any kind with decidable equality. -/
namespace Wm
variable {α : Type} [DecidableEq α]
structure Row (α : Type) where
  n : α
  s : Int
  c : Int
  r : Bool
structure Wh (α : Type) where
  past : Int
  rows : List (Row α)
def stp (s : Int) : Int := Int.fdiv 27720 s
theorem stp_cases {s : Int} (h1 : 1 ≤ s) (h2 : s ≤ 12) : stp s * s = 27720 ∧ 2310 ≤ stp s ∧ stp s ≤ 27720 := by
  have h : s = 1 ∨ s = 2 ∨ s = 3 ∨ s = 4 ∨ s = 5 ∨ s = 6 ∨ s = 7 ∨ s = 8 ∨ s = 9 ∨ s = 10 ∨ s = 11 ∨ s = 12 := by omega
  rcases h with h | h | h | h | h | h | h | h | h | h | h | h <;> (subst h; decide)
theorem stp_ediv {s : Int} (h1 : 1 ≤ s) : stp s = 27720 / s := Int.fdiv_eq_ediv_of_nonneg _ (by omega)
/-! ### who gets the turn -/
/-- the one of two that goes ahead; the left one where they are alike -/
def pick (a : Option (Row α)) (x : Row α) : Option (Row α) := match a with
  | none => if x.r then some x else none
  | some b => if x.r && decide (x.c < b.c) then some x else some b
def best (l : List (Row α)) : Option (Row α) := l.foldl pick none
theorem best_snoc (l : List (Row α)) (x : Row α) : best (l ++ [x]) = pick (best l) x := by
  unfold best
  rw [List.foldl_append]
  rfl
theorem pick_some {a : Option (Row α)} {x b : Row α} (h : pick a x = some b) : a = some b ∨ (b = x ∧ x.r = true) := by
  unfold pick at h
  cases a with
  | none =>
    simp only at h
    split at h
    · next q => exact Or.inr ⟨(Option.some.inj h).symm, q⟩
    · cases h
  | some d =>
    simp only at h
    split at h
    · next q =>
      rw [Bool.and_eq_true] at q
      exact Or.inr ⟨(Option.some.inj h).symm, q.1⟩
    · exact Or.inl h
/-- what best tells, by a list cut into two -/
theorem fold_spec : ∀ (l : List (Row α)) (a : Option (Row α)), (∀ b, a = some b → b.r = true) →
    match l.foldl pick a with
    | none => a = none ∧ ∀ x ∈ l, x.r = false
    | some b => b.r = true ∧ (∀ x ∈ l, x.r = true → b.c ≤ x.c) ∧ (∀ d, a = some d → b.c ≤ d.c) ∧ (a = some b ∨ b ∈ l)
  | [], a, ha => by
    cases a with
    | none => exact ⟨rfl, fun x hx => (nomatch hx)⟩
    | some d => exact ⟨ha d rfl, fun x hx => (nomatch hx), fun e he => (by cases he; exact Int.le_refl _), Or.inl rfl⟩
  | y :: l, a, ha => by
    have ha' : ∀ b, pick a y = some b → b.r = true := fun b hb => by
      rcases pick_some hb with h | ⟨rfl, h⟩
      · exact ha b h
      · exact h
    have ih := fold_spec l (pick a y) ha'
    show match l.foldl pick (pick a y) with
      | none => a = none ∧ ∀ x ∈ y :: l, x.r = false
      | some b => b.r = true ∧ (∀ x ∈ y :: l, x.r = true → b.c ≤ x.c) ∧ (∀ d, a = some d → b.c ≤ d.c) ∧ (a = some b ∨ b ∈ y :: l)
    cases e : l.foldl pick (pick a y) with
    | none =>
      rw [e] at ih
      obtain ⟨h1, h2⟩ := ih
      cases a with
      | none =>
        have hy : y.r = false := by
          unfold pick at h1
          cases q : y.r with
          | false => rfl
          | true => rw [q] at h1; cases h1
        exact ⟨rfl, fun x hx => by
          rcases List.mem_cons.mp hx with rfl | hx
          · exact hy
          · exact h2 x hx⟩
      | some d =>
        exfalso
        unfold pick at h1
        simp only at h1
        split at h1 <;> cases h1
    | some b =>
      rw [e] at ih
      obtain ⟨h1, h2, h3, h4⟩ := ih
      refine ⟨h1, fun x hx hr => ?_, fun d hd => ?_, ?_⟩
      · rcases List.mem_cons.mp hx with rfl | hx
        · -- y itself
          cases a with
          | none =>
            have : pick none x = some x := by unfold pick; simp [hr]
            exact h3 _ this
          | some d =>
            by_cases q : x.c < d.c
            · have : pick (some d) x = some x := by unfold pick; simp [hr, q]
              exact h3 _ this
            · have : pick (some d) x = some d := by unfold pick; simp [q]
              have := h3 _ this
              omega
        · exact h2 x hx hr
      · subst hd
        by_cases q : y.r = true ∧ y.c < d.c
        · have : pick (some d) y = some y := by unfold pick; simp [q.1, q.2]
          have := h3 _ this
          omega
        · have : pick (some d) y = some d := by
            unfold pick
            simp only
            rw [if_neg]
            intro z
            rw [Bool.and_eq_true, decide_eq_true_eq] at z
            exact q z
          exact h3 _ this
      · rcases h4 with h4 | h4
        · rcases pick_some h4 with h | ⟨rfl, _⟩
          · exact Or.inl h
          · exact Or.inr List.mem_cons_self
        · exact Or.inr (List.mem_cons_of_mem _ h4)
theorem best_none {l : List (Row α)} : best l = none ↔ ∀ x ∈ l, x.r = false := by
  have h := fold_spec l none (fun _ e => by cases e)
  unfold best
  constructor
  · intro e
    rw [e] at h
    exact h.2
  · intro q
    cases e : l.foldl pick none with
    | none => rfl
    | some b =>
      rw [e] at h
      obtain ⟨h1, _, _, h4⟩ := h
      rcases h4 with h4 | h4
      · cases h4
      · rw [q b h4] at h1
        cases h1
theorem best_some {l : List (Row α)} {b : Row α} (e : best l = some b) : b.r = true ∧ b ∈ l ∧ ∀ x ∈ l, x.r = true → b.c ≤ x.c := by
  have h := fold_spec l none (fun _ e => by cases e)
  unfold best at e
  rw [e] at h
  obtain ⟨h1, h2, _, h4⟩ := h
  rcases h4 with h4 | h4
  · cases h4
  · exact ⟨h1, h4, h2⟩
/-! ### the deeds -/
/-- every row of that name goes through f -/
def upd (l : List (Row α)) (n : α) (f : Row α → Row α) : List (Row α) := l.map fun x => if x.n = n then f x else x
def enter (W : Wh α) (n : α) (s : Int) : Wh α := { W with rows := W.rows ++ [⟨n, s, 0, false⟩] }
def leave (W : Wh α) (n : α) : Wh α := { W with rows := W.rows.filter fun x => decide (x.n ≠ n) }
def woken (past : Int) (x : Row α) : Row α := if x.r then x else { x with c := if x.c < past then past else x.c, r := true }
def wake (W : Wh α) (n : α) : Wh α := { W with rows := upd W.rows n (woken W.past) }
def rest (W : Wh α) (n : α) : Wh α := { W with rows := upd W.rows n fun x => { x with r := false } }
def shared (past s : Int) (x : Row α) : Row α := { x with s := s, c := if past < x.c then past + Int.fdiv ((x.c - past) * stp s) (stp x.s) else x.c }
def reshare (W : Wh α) (n : α) (s : Int) : Wh α := { W with rows := upd W.rows n (shared W.past s) }
def turned (b : Row α) (x : Row α) : Row α := { x with c := b.c + stp b.s }
def turn (W : Wh α) : Wh α := match best W.rows with
  | none => W
  | some b => ⟨b.c, upd W.rows b.n fun x => { x with c := x.c + stp x.s }⟩
def whose (W : Wh α) : Option α := (best W.rows).map (·.n)
/-! ### points 3 and 8 -/
structure RowOk (past : Int) (x : Row α) : Prop where
  s1 : 1 ≤ x.s
  s2 : x.s ≤ 12
  c0 : 0 ≤ x.c
  up : x.c ≤ past + stp x.s
  lo : x.r = true → past ≤ x.c
structure Ok (W : Wh α) : Prop where
  p0 : 0 ≤ W.past
  rows : ∀ x ∈ W.rows, RowOk W.past x
  nd : (W.rows.map (·.n)).Nodup
theorem mem_upd {l : List (Row α)} {n : α} {f : Row α → Row α} {y : Row α} (h : y ∈ upd l n f) : ∃ x ∈ l, (x.n = n ∧ y = f x) ∨ (x.n ≠ n ∧ y = x) := by
  obtain ⟨x, hx, e⟩ := List.mem_map.mp h
  by_cases q : x.n = n
  · rw [if_pos q] at e
    exact ⟨x, hx, Or.inl ⟨q, e.symm⟩⟩
  · rw [if_neg q] at e
    exact ⟨x, hx, Or.inr ⟨q, e.symm⟩⟩
theorem names_upd {l : List (Row α)} {n : α} {f : Row α → Row α} (hf : ∀ x, (f x).n = x.n) : (upd l n f).map (·.n) = l.map (·.n) := by
  unfold upd
  rw [List.map_map]
  apply List.map_congr_left
  intro x _
  show (if x.n = n then f x else x).n = x.n
  split
  · exact hf x
  · rfl
theorem Ok.new : Ok (⟨0, []⟩ : Wh α) := ⟨Int.le_refl _, fun x h => (nomatch h), List.nodup_nil⟩
theorem nd_snoc {β : Type} {k : β} : ∀ {l : List β}, l.Nodup → ¬ k ∈ l → (l ++ [k]).Nodup
  | [], _, _ => by simp
  | a :: l, h, hk => by
    rw [List.nodup_cons] at h
    rw [List.cons_append, List.nodup_cons]
    refine ⟨fun hm => ?_, nd_snoc h.2 fun q => hk (List.mem_cons_of_mem _ q)⟩
    rcases List.mem_append.mp hm with q | q
    · exact h.1 q
    · exact hk (List.mem_cons.mpr (Or.inl (List.mem_singleton.mp q).symm))
theorem Ok.enter {W : Wh α} (h : Ok W) {n : α} {s : Int} (h1 : 1 ≤ s) (h2 : s ≤ 12) (hn : ¬ n ∈ W.rows.map (·.n)) : Ok (enter W n s) := by
  refine ⟨h.p0, fun x hx => ?_, ?_⟩
  · rcases List.mem_append.mp hx with hx | hx
    · exact h.rows x hx
    · rw [List.mem_singleton.mp hx]
      have := stp_cases h1 h2
      have := h.p0
      exact ⟨h1, h2, Int.le_refl _, by show (0 : Int) ≤ W.past + stp s; omega, fun q => by cases q⟩
  · show ((W.rows ++ [_]).map _).Nodup
    rw [List.map_append]
    exact nd_snoc h.nd hn
theorem Ok.leave {W : Wh α} (h : Ok W) (n : α) : Ok (leave W n) := by
  refine ⟨h.p0, fun x hx => h.rows x (List.mem_filter.mp hx).1, ?_⟩
  exact List.Nodup.sublist (List.Sublist.map _ List.filter_sublist) h.nd
theorem woken_n (p : Int) (x : Row α) : (woken p x).n = x.n := by unfold woken; split <;> rfl
theorem Ok.wake {W : Wh α} (h : Ok W) (n : α) : Ok (wake W n) := by
  refine ⟨h.p0, fun y hy => ?_, ?_⟩
  · obtain ⟨x, hx, ⟨_, rfl⟩ | ⟨_, rfl⟩⟩ := mem_upd hy
    · have k := h.rows x hx
      unfold woken
      by_cases q : x.r = true
      · rw [if_pos q]
        exact k
      · rw [if_neg q]
        have a := stp_cases k.s1 k.s2
        have b := k.up
        have c := k.c0
        have d := h.p0
        by_cases z : x.c < W.past
        · exact ⟨k.s1, k.s2, by simp only [if_pos z]; exact d, by show (if x.c < W.past then _ else _) ≤ W.past + stp x.s; rw [if_pos z]; omega, fun _ => by simp only [if_pos z]; exact Int.le_refl _⟩
        · exact ⟨k.s1, k.s2, by simp only [if_neg z]; exact c, by simp only [if_neg z]; exact b, fun _ => by show W.past ≤ (if x.c < W.past then _ else _); rw [if_neg z]; omega⟩
    · exact h.rows _ hx
  · show ((upd W.rows n (woken W.past)).map (·.n)).Nodup
    rw [names_upd (woken_n _)]
    exact h.nd
theorem Ok.rest {W : Wh α} (h : Ok W) (n : α) : Ok (rest W n) := by
  refine ⟨h.p0, fun y hy => ?_, ?_⟩
  · obtain ⟨x, hx, ⟨_, rfl⟩ | ⟨_, rfl⟩⟩ := mem_upd hy
    · have k := h.rows x hx
      exact ⟨k.s1, k.s2, k.c0, k.up, fun q => by cases q⟩
    · exact h.rows _ hx
  · show ((upd W.rows n _).map (·.n)).Nodup
    rw [names_upd]
    · exact h.nd
    · intro _; rfl
/-- a product of two that are not less than nought, divided: no more than one of them where the other is bounded by the divisor -/
theorem fdiv_le {a b d : Int} (ha : 0 ≤ a) (hd : 0 < d) (h : a ≤ d) (hb : 0 ≤ b) : 0 ≤ Int.fdiv (a * b) d ∧ Int.fdiv (a * b) d ≤ b := by
  rw [Int.fdiv_eq_ediv_of_nonneg _ (Int.le_of_lt hd)]
  refine ⟨Int.ediv_nonneg (Int.mul_nonneg ha hb) (Int.le_of_lt hd), ?_⟩
  have e : a * b ≤ d * b := Int.mul_le_mul_of_nonneg_right h hb
  have f : a * b / d ≤ d * b / d := Int.ediv_le_ediv hd e
  rw [Int.mul_ediv_cancel_left _ (by omega)] at f
  exact f
theorem Ok.reshare {W : Wh α} (h : Ok W) (n : α) {s : Int} (h1 : 1 ≤ s) (h2 : s ≤ 12) : Ok (reshare W n s) := by
  refine ⟨h.p0, fun y hy => ?_, ?_⟩
  · obtain ⟨x, hx, ⟨_, rfl⟩ | ⟨_, rfl⟩⟩ := mem_upd hy
    · have k := h.rows x hx
      have a := stp_cases k.s1 k.s2
      have b := stp_cases h1 h2
      have c := k.up
      have e := k.c0
      have d := h.p0
      by_cases z : W.past < x.c
      · have f := fdiv_le (a := x.c - W.past) (b := stp s) (d := stp x.s) (by omega) (by omega) (by omega) (by omega)
        exact ⟨h1, h2, by show 0 ≤ (if W.past < x.c then _ else _); rw [if_pos z]; omega, by show (if W.past < x.c then _ else _) ≤ W.past + stp s; rw [if_pos z]; omega,
          fun _ => by show W.past ≤ (if W.past < x.c then _ else _); rw [if_pos z]; omega⟩
      · exact ⟨h1, h2, by show 0 ≤ (if W.past < x.c then _ else _); rw [if_neg z]; exact e, by show (if W.past < x.c then _ else _) ≤ W.past + stp s; rw [if_neg z]; omega,
          fun q => by show W.past ≤ (if W.past < x.c then _ else _); rw [if_neg z]; exact k.lo q⟩
    · exact h.rows _ hx
  · show ((upd W.rows n _).map (·.n)).Nodup
    rw [names_upd]
    · exact h.nd
    · intro _; rfl
/-- of rows with unlike names one is told by its name -/
theorem row_of_name : ∀ {l : List (Row α)}, (l.map (·.n)).Nodup → ∀ {x y : Row α}, x ∈ l → y ∈ l → x.n = y.n → x = y
  | [], _, _, _, h, _, _ => (nomatch h)
  | a :: l, hd, x, y, hx, hy, e => by
    rw [List.map_cons, List.nodup_cons] at hd
    rcases List.mem_cons.mp hx with hx | hx
    · rcases List.mem_cons.mp hy with hy | hy
      · rw [hx, hy]
      · rw [hx] at e
        exact (hd.1 (List.mem_map.mpr ⟨y, hy, e.symm⟩)).elim
    · rcases List.mem_cons.mp hy with hy | hy
      · rw [hy] at e
        exact (hd.1 (List.mem_map.mpr ⟨x, hx, e⟩)).elim
      · exact row_of_name hd.2 hx hy e
theorem turn_none {W : Wh α} (e : best W.rows = none) : turn W = W := by
  unfold turn
  rw [e]
theorem turn_some {W : Wh α} {b : Row α} (e : best W.rows = some b) : turn W = ⟨b.c, upd W.rows b.n fun x => { x with c := x.c + stp x.s }⟩ := by
  unfold turn
  rw [e]
theorem Ok.turn {W : Wh α} (h : Ok W) : Ok (turn W) ∧ W.past ≤ (turn W).past := by
  cases e : best W.rows with
  | none =>
    rw [turn_none e]
    exact ⟨h, Int.le_refl _⟩
  | some b =>
    rw [turn_some e]
    obtain ⟨hr, hm, hl⟩ := best_some e
    have kb := h.rows b hm
    have pb := kb.lo hr
    refine ⟨⟨by have := h.p0; show 0 ≤ b.c; omega, fun y hy => ?_, ?_⟩, pb⟩
    · obtain ⟨x, hx, ⟨q, rfl⟩ | ⟨q, rfl⟩⟩ := mem_upd hy
      · have z := row_of_name h.nd hx hm q
        subst z
        have a := stp_cases kb.s1 kb.s2
        have c := kb.c0
        exact ⟨kb.s1, kb.s2, by show 0 ≤ x.c + stp x.s; omega, by show x.c + stp x.s ≤ x.c + stp x.s; omega, fun _ => by show x.c ≤ x.c + stp x.s; omega⟩
      · have k := h.rows _ hx
        have u := k.up
        exact ⟨k.s1, k.s2, k.c0, by show y.c ≤ b.c + stp y.s; omega, fun z => hl _ hx z⟩
    · show ((upd W.rows b.n _).map (·.n)).Nodup
      rw [names_upd]
      · exact h.nd
      · intro _; rfl
/-! ### point 9: of one who was ready all along with one share -/
/-- c0: the clock at the beginning, p0: the past then; n turns since -/
theorem given {s c0 c p0 p n : Int} (hs1 : 1 ≤ s) (hs2 : s ≤ 12) (a0 : p0 ≤ c0) (b0 : c0 ≤ p0 + stp s) (a : p ≤ c) (b : c ≤ p + stp s) (e : c = c0 + stp s * n) :
    stp s * (n - 1) ≤ p - p0 ∧ p - p0 ≤ stp s * (n + 1) := by
  have e1 : stp s * (n - 1) = stp s * n - stp s := by rw [Int.mul_sub, Int.mul_one]
  have e2 : stp s * (n + 1) = stp s * n + stp s := by rw [Int.mul_add, Int.mul_one]
  omega
theorem even_two {s t n m d : Int} (hs1 : 1 ≤ s) (hs2 : s ≤ 12) (ht1 : 1 ≤ t) (ht2 : t ≤ 12) (h1 : stp s * (n - 1) ≤ d) (h2 : d ≤ stp t * (m + 1)) : (n - 1) * t ≤ (m + 1) * s := by
  obtain ⟨es, _, _⟩ := stp_cases hs1 hs2
  obtain ⟨et, _, _⟩ := stp_cases ht1 ht2
  have h : stp s * (n - 1) ≤ stp t * (m + 1) := Int.le_trans h1 h2
  have st : 0 ≤ s * t := Int.mul_nonneg (by omega) (by omega)
  have g := Int.mul_le_mul_of_nonneg_right h st
  have l : stp s * (n - 1) * (s * t) = 27720 * ((n - 1) * t) := by
    rw [← es]
    simp only [Int.mul_assoc, Int.mul_left_comm, Int.mul_comm]
  have r : stp t * (m + 1) * (s * t) = 27720 * ((m + 1) * s) := by
    rw [← et]
    simp only [Int.mul_assoc, Int.mul_left_comm, Int.mul_comm]
  rw [l, r] at g
  omega
end Wm

namespace Mine
open PySem PySem.Spec PyProof.Rows L2
/-! ### short words: defs, methods, classes that keep a promise -/
section
variable (P : Program) (w : World) (K : PySem.W.Frag) (mg : Str → Option Value) (base : Heap)
structure MOk (k : Nat) (C : Addr) (m : Str) (ps : List Str) (sp : Sp) : Prop where
  ex : ∃ f fd, Meth K C m f ∧ FnOk P w K mg base (L2.CX P w) k f fd ps sp ∧ Binds K fd ps []
structure DOk (k : Nat) (x : Str) (ps : List Str) (sp : Sp) : Prop where
  ex : ∃ f fd, mg x = some (.ref f) ∧ PySem.W.keepIn K (.ref f) = true ∧ FnOk P w K mg base (L2.CX P w) k f fd ps sp ∧ Binds K fd ps []
structure KOk (k : Nat) (x : Str) (C : Addr) (ps : List Str) (sp : Sp) : Prop where
  ex : ∃ f fd, Mk K C f ∧ FnOk P w K mg base (L2.CX P w) k f fd ps sp ∧ mg x = some (.ref C) ∧ Binds K fd ps []
end
theorem passN {X : Cx} (σ : L2.St) : PassesAt (L2.CX X.prog X.w) X σ E0 := fun _ _ _ _ _ _ c => by
  obtain ⟨_, _, _, _, _, _, _, _, _, _, _, _, z⟩ := c
  exact z.elim
/-- a def that lets nothing out, told as one that may raise -/
theorem okN {P : Program} {w : World} {K : PySem.W.Frag} {mg : Str → Option Value} {base : Heap} {x qual : Str} {st : Stmt} {f : Addr} {fd : FuncData} {N ps : List Str} {k : Nat} {sp : Sp} (F : Fun K x qual st f fd) (S : FnScope N ps (defScope st))
    (len : ∀ vs H Q E, sp vs H Q E → vs.length = ps.length)
    (body : ∀ (cdv : Value) (A : Around) (outer : List Env) (s : Shared) (H : Hp) (vs : List V) (Q : VK) (E : XK), Room k (A.deeper (envOfC qual (defScope st) s.heap.objs.size f cdv)) → sp vs H Q E →
      ∃ t, PSs (cxOf (L2.CX P w) P w K mg base N qual (defScope st) f cdv A outer s H E).nox (defBody st) t ∧ t ⟨fun _ H' => Q .non H', Q, fun _ _ => False, fun _ _ => False⟩ (start N vs) H) :
    FnOk P w K mg base (L2.CX P w) (k + 1) f fd ps sp :=
  F.okX S len fun cdv A outer s H vs Q E hr h => by
    obtain ⟨t, h1, h2⟩ := body cdv A outer s H vs Q E hr h
    exact ⟨t, h1.nox, h2⟩
/-- o.m(..): what a callee raises is wished for at the slots -/
def tMe (C : Addr) (m : Str) (sp : Sp) (E : L2.St → XK) (ta : TE) (t : TA) : TE := fun σ H Q =>
  ta σ H fun x H1 => ∃ a dx fs, x = .ref a ∧ H1 a = some (.ins C dx fs) ∧ fs.lookup m = none ∧ t σ H1 fun vs H2 => sp (x :: vs) H2 Q (E σ)
section
variable {X : Cx} {j k : Nat} {C : Addr} {x m : Str} {ps : List Str} {sp : Sp} {E : L2.St → XK} {p pos apos : Pos} {e o : Expr} {es : List Expr} {ta : TE} {t : TA}
theorem pe_m {pl : Sem Bool} (c : MOk X.prog X.w X.K X.mg X.base k C m ps sp) (cl : Cls X.K C) (hr : Room j X.A) (hk : k ≤ j) (hx : ∀ σ, PassesAt (L2.CX X.prog X.w) X σ (E σ)) (he : PE X o ta) (ha : PA X (e :: es) t)
    (hst : starEach (e :: es) X.env = (false, eval e X.env) :: starEach es X.env := by rfl) (hpl : (backTo pos (starEach es X.env)).any (·.1) = false := by rfl)
    (ht : eval (.Call (.Attribute o m apos) (e :: es) [] pos) X.env = (do
      let ov ← eval o X.env
      standAt apos.atName
      let (f, first) ← holding [ov] (getMethod ov m pl)
      callWith pos f first (backTo pos (starEach (e :: es) X.env)) (backToKw pos (keywordEach [] X.env))) := by rfl) :
    PE X (.Call (.Attribute o m apos) (e :: es) [] pos) (tMe C m sp E ta t) := by
  obtain ⟨f, fd, hm, F, hb⟩ := c.ex
  refine ⟨fun pins s σ H Q I h => PySem.W.methodCall_KW (pl := pl) (thn (he.run pins s σ H _ I h) ?_) ht⟩
  rintro u s1 ⟨x, H1, I1, rx, a, dx, fs, rfl, ea, l, q⟩
  have eu : u = Value.ref a := rx
  subst eu
  refine getmeth_ok I1 ea cl hm l (PySem.W.callWith_K (first := [.ref a]) (h₀ := X.base) I1.ok.mod.kin hm.kp (thn (ha.run pos pins s1 σ H1 _ I1 q) ?_) hst hpl)
  rintro us s2 ⟨vs, H2, I2, r, q2⟩
  exact ⟨I2.kIn, run_fnS (E := E) (us := .ref a :: us) (vs := .ref a :: vs) F (hr.mono hk) hb (hx σ) I2 (.cons rfl r) q2⟩
theorem pe_m0 {pl : Sem Bool} (c : MOk X.prog X.w X.K X.mg X.base k C m ps sp) (cl : Cls X.K C) (hr : Room j X.A) (hk : k ≤ j) (hx : ∀ σ, PassesAt (L2.CX X.prog X.w) X σ (E σ)) (he : PE X o ta)
    (ht : eval (.Call (.Attribute o m apos) [] [] pos) X.env = (do
      let ov ← eval o X.env
      standAt apos.atName
      let (f, first) ← holding [ov] (getMethod ov m pl)
      callWith pos f first (backTo pos (starEach [] X.env)) (backToKw pos (keywordEach [] X.env))) := by rfl) :
    PE X (.Call (.Attribute o m apos) [] [] pos) (tMe C m sp E ta tNil) := by
  obtain ⟨f, fd, hm, F, hb⟩ := c.ex
  refine ⟨fun pins s σ H Q I h => PySem.W.methodCall_KW (pl := pl) (thn (he.run pins s σ H _ I h) ?_) ht⟩
  rintro u s1 ⟨x, H1, I1, rx, a, dx, fs, rfl, ea, l, q⟩
  have eu : u = Value.ref a := rx
  subst eu
  exact getmeth_ok I1 ea cl hm l (PySem.W.callWith_K0 (first := [.ref a]) I1.kIn hm.kp (run_fnS (E := E) (us := [.ref a]) (vs := [.ref a]) F (hr.mono hk) hb (hx σ) I1 (.cons rfl .nil) q))
theorem pe_f (c : DOk X.prog X.w X.K X.mg X.base k x ps sp) (hr : Room j X.A) (hk : k ≤ j) (hg : Gl X x) (hx : ∀ σ, PassesAt (L2.CX X.prog X.w) X σ (E σ)) (ha : PA X (e :: es) t) (hdb : (x == ("__debug__" : Str)) = false := by decide)
    (he : starEach (e :: es) X.env = (false, eval e X.env) :: starEach es X.env := by rfl) (hpl : (backTo pos (starEach es X.env)).any (·.1) = false := by rfl) : PE X (.Call (.Name x p) (e :: es) [] pos) (tCallS sp E t) := by
  obtain ⟨f, fd, hm, kp, F, hb⟩ := c.ex
  exact pe_callS F (hr.mono hk) hg hm kp hb hx ha hdb he hpl
theorem pe_k (c : KOk X.prog X.w X.K X.mg X.base k x C ps sp) (hr : Room j X.A) (hk : k + 1 ≤ j) (hg : Gl X x) (ha : PA X (e :: es) t) (hdb : (x == ("__debug__" : Str)) = false := by decide)
    (he : starEach (e :: es) X.env = (false, eval e X.env) :: starEach es X.env := by rfl) (hpl : (backTo pos (starEach es X.env)).any (·.1) = false := by rfl) : PE X (.Call (.Name x p) (e :: es) [] pos) (tMake C sp [] E0 t) := by
  obtain ⟨f, fd, M, F, hm, hb⟩ := c.ex
  exact pe_make M F (hr.mono hk) hg hm hb .nil passL ha hdb he hpl
theorem pe_k0 (c : KOk X.prog X.w X.K X.mg X.base k x C ps sp) (hr : Room j X.A) (hk : k + 1 ≤ j) (hg : Gl X x) (hdb : (x == ("__debug__" : Str)) = false := by decide) : PE X (.Call (.Name x p) [] [] pos) (tMake C sp [] E0 tNil) := by
  obtain ⟨f, fd, M, F, hm, hb⟩ := c.ex
  exact pe_make0 M F (hr.mono hk) hg hm hb .nil passL hdb
end
/-! ### own errors -/
structure ExcT (K : PySem.W.Frag) (C : Addr) : Prop where
  x : PySem.W.excIn K C [.type "ValueError", .type "Exception", .type "BaseException", .type "object"] "ValueError.__new__" = true
  k : PySem.W.keepIn K (.ref C) = true
  b : PySem.W.subIn K (.ref C) (.type "BaseException") = some true
  t : PySem.W.typeIn K (.ref C) = some (.type "type")
/-- raise X('..') -/
theorem ps_rs {X : Cx} {W : WX} {C : Addr} {x m : Str} {j : Nat} {p p2 pos pos' : Pos} (hc : X.calm = true) (tk : Takes X W) (T : ExcT X.K C) (gC : X.mg x = some (.ref C)) (hg : Gl X x) (hdb : (x == ("__debug__" : Str)) = false := by decide) :
    PS X (.Raise (some (.Call (.Name x p) [.Constant (.str m) j p2] [] pos)) none pos') (fun _ σ H => W (.ref C) none σ H) :=
  ps_raise hc tk (pmk_own PySem.F.excBase_ValueError T.x gC T.k (raises_own T.b T.t) hg hdb)
/-! ### try, with a name for what it reckons -/
def tTryO (K : PySem.W.Frag) (c : Value) (ts : Addr → Value → Option Addr → TS) (Wout : WX) (tb : WX → TS) : TS := fun D σ H => tb (wOnly K c ts Wout D) D σ H
def tTryA (K : PySem.W.Frag) (c : Value) (i : Nat) (ts : Addr → Value → Option Addr → TS) (Wout : WX) (tb : WX → TS) : TS := fun D σ H => tb (wAs K c i ts Wout D) D σ H
def tTryM (K : PySem.W.Frag) (l : List (Value × (Addr → Value → Option Addr → TS))) (Wout : WX) (tb : WX → TS) : TS := fun D σ H => tb (wMany K Wout D l) D σ H
section
variable {X : Cx} {x n : Str} {c : Value} {i : Nat} {body suite : List Stmt} {b₀ : Stmt} {h₀ : ExceptHandler} {hds : List ExceptHandler} {l : List (Value × (Addr → Value → Option Addr → TS))} {np pos pos' : Pos} {tb : WX → TS} {ts : Addr → Value → Option Addr → TS} {Wout : WX}
theorem pt_only (hs : X.stack = X.env :: X.outer) (hf : X.env.frame = some X.env.locals) (hc : Names X x c) (tk : Takes X Wout)
    (hb : ∀ (W : WX) (pn : List (Addr × Obj)) (xe : Value → Shared → Prop), Takes (X.tr pn xe) W → PassesOwn (model X.prog X.w) X.A X.env xe → PSs (X.tr pn xe) body (tb W))
    (hsu : ∀ (a : Addr) (oe : Obj) (cls : Value) (d : Option Addr) (pn : List (Addr × Obj)), Zc cls d oe → (∃ vs, oe.data = .fields vs) → PSs (X.suite a ((a, oe) :: pn)) (b₀ :: suite) (ts a cls d)) :
    PS X (.Try body [.ExceptHandler (some (.Name x np)) none (b₀ :: suite) pos'] [] [] pos) (tTryO X.K c ts Wout tb) := ps_try_only hs hf hc tk hb hsu
theorem pt_as (hs : X.stack = X.env :: X.outer) (hf : X.env.frame = some X.env.locals) (hN : X.N.Nodup) (hi : X.N[i]? = some n) (hln : X.env.kindOf n = some .local) (hc : Names X x c) (tk : Takes X Wout)
    (hb : ∀ (W : WX) (pn : List (Addr × Obj)) (xe : Value → Shared → Prop), Takes (X.tr pn xe) W → PassesOwn (model X.prog X.w) X.A X.env xe → PSs (X.tr pn xe) body (tb W))
    (hsu : ∀ (a : Addr) (oe : Obj) (cls : Value) (d : Option Addr) (pn : List (Addr × Obj)), Zc cls d oe → (∃ vs, oe.data = .fields vs) → PSs (X.suite a ((a, oe) :: pn)) (b₀ :: suite) (ts a cls d)) :
    PS X (.Try body [.ExceptHandler (some (.Name x np)) (some n) (b₀ :: suite) pos'] [] [] pos) (tTryA X.K c i ts Wout tb) := ps_try_as hs hf hN hi hln hc tk hb hsu
theorem pt_many (hs : X.stack = X.env :: X.outer) (hf : X.env.frame = some X.env.locals) (tk : Takes X Wout)
    (hb : ∀ (W : WX) (pn : List (Addr × Obj)) (xe : Value → Shared → Prop), Takes (X.tr pn xe) W → PassesOwn (model X.prog X.w) X.A X.env xe → PSs (X.tr pn xe) body (tb W))
    (hh : HdsOk X (h₀ :: hds) l) : PS X (.Try body (h₀ :: hds) [] [] pos) (tTryM X.K l Wout tb) := ps_try_many hs hf tk hb hh
end
theorem ix_listK {X : Cx} {K0 : PySem.W.Frag} (hK : X.K = K0 := by rfl) : IxR X (rIxL K0) := by
  subst hK
  exact ix_list
theorem ix_tupK {X : Cx} {K0 : PySem.W.Frag} (hK : X.K = K0 := by rfl) : IxR X (rIxT K0) := by
  subst hK
  exact ix_tup
theorem op_inK {X : Cx} {K0 : PySem.W.Frag} (hK : X.K = K0 := by rfl) : OpR X (compareOp .In) (rIn K0 false) := by
  subst hK
  exact op_in_seq
theorem op_notInK {X : Cx} {K0 : PySem.W.Frag} (hK : X.K = K0 := by rfl) : OpR X (compareOp .NotIn) (rIn K0 true) := by
  subst hK
  exact op_notIn_seq
theorem call_list_ofK {X : Cx} {K0 : PySem.W.Frag} (hK : X.K = K0 := by rfl) : CallR X (.type "list") (fun xs H Q => ∃ p ys, xs = [.ref p] ∧ (SqL K0 H p ys ∨ SqT K0 H p ys) ∧ ∀ l, H l = none → Q (.ref l) (upd H l (.lst ys))) := by
  subst hK
  exact call_list_of
theorem pe_app {X : Cx} {K0 : PySem.W.Frag} {o e : Expr} {to te : TE} {apos cpos : Pos} (ho : PE X o to) (he : PE X e te) (hK : X.K = K0 := by rfl)
    (hbase : attributeBase o "append" X.env (eval o X.env) = eval o X.env := by rfl)
    (hfew : ((backTo cpos (starEach [e] X.env)).all (fun x => !x.1) && (backToKw cpos (keywordEach [] X.env)).all (fun x => x.1.isSome)
      && decide ([e].length + ([] : List Keyword).length + (if ([] : List Keyword).isEmpty then 0 else 1) < 30)) = true := by rfl)
    (hline : (apos.endLine == cpos.line) = true := by rfl) (hs : starEach [e] X.env = (false, eval e X.env) :: starEach [] X.env := by rfl) (hplain : (backTo cpos (starEach [] X.env)).any (·.1) = false := by rfl) :
    PE X (.Call (.Attribute o "append" apos) [e] [] cpos) (tBM K0 "list" rAppend to (tCons te tNil)) := by
  subst hK
  exact pe_bm PySem.F.plainAttrs_list PySem.F.slot_list_append PySem.F.type_list_append mt_append ho (pa_cons he pa_nil hs) hbase hfew hline hs hplain
/-! ### kinds of things -/
inductive Th (H : Hp) : V → Prop where
  | int (i : Int) : Th H (.int i)
  | bl (b : Bool) : Th H (.bl b)
  | non : Th H .non
  | str (z : Str) : Th H (.str z)
  | lst {a : Addr} {xs : List V} (e : H a = some (.lst xs)) : Th H (.ref a)
def isI : V → Bool
  | .int _ => true
  | _ => false
def isB : V → Bool
  | .bl _ => true
  | _ => false
def isS : V → Bool
  | .str _ => true
  | _ => false
def good : V → Bool
  | .int i => decide (1 ≤ i) && decide (i ≤ 12)
  | _ => false
theorem Th.ty {K : PySem.W.Frag} {H : Hp} {x : V} (h : Th H x) : ∃ t, TyX K H x t ∧ PySem.W.kitOne K t (.type "int") = some (isI x || isB x) ∧ PySem.W.kitOne K t (.type "bool") = some (isB x) ∧ PySem.W.kitOne K t (.type "str") = some (isS x) := by
  cases h with
  | int i => exact ⟨_, .base (.int i), kit_ty (by show kitB "int" "int" = some true; decide +kernel), kit_ty (by show kitB "int" "bool" = some false; decide +kernel), kit_ty (by show kitB "int" "str" = some false; decide +kernel)⟩
  | bl b => exact ⟨_, .base (.bl b), kit_ty (by show kitB "bool" "int" = some true; decide +kernel), kit_ty (by show kitB "bool" "bool" = some true; decide +kernel), kit_ty (by show kitB "bool" "str" = some false; decide +kernel)⟩
  | non => exact ⟨_, .base .non, kit_ty (by show kitB "NoneType" "int" = some false; decide +kernel), kit_ty (by show kitB "NoneType" "bool" = some false; decide +kernel), kit_ty (by show kitB "NoneType" "str" = some false; decide +kernel)⟩
  | str z => exact ⟨_, .base (.str z), kit_ty (by show kitB "str" "int" = some false; decide +kernel), kit_ty (by show kitB "str" "bool" = some false; decide +kernel), kit_ty (by show kitB "str" "str" = some true; decide +kernel)⟩
  | lst e => exact ⟨_, .base (.lst e), kit_ty (by show kitB "list" "int" = some false; decide +kernel), kit_ty (by show kitB "list" "bool" = some false; decide +kernel), kit_ty (by show kitB "list" "str" = some false; decide +kernel)⟩
/-! ### heaps: all but what is owned stays -/
def Kept (fp : List Addr) (H H' : Hp) : Prop := ∀ b o, H b = some o → b ∉ fp → H' b = some o
structure Step (fp : List Addr) (H : Hp) (fp' : List Addr) (H' : Hp) : Prop where
  kept : Kept fp H H'
  new : ∀ b ∈ fp', b ∈ fp ∨ H b = none
theorem Step.same {fp : List Addr} {H H' : Hp} (h : Same H H') : Step fp H fp H' := ⟨fun b o e _ => h b o e, fun _ hb => .inl hb⟩
theorem Step.refl (fp : List Addr) (H : Hp) : Step fp H fp H := .same (Same.refl H)
theorem Step.trans {fp fp' fp'' : List Addr} {H H' H'' : Hp} (a : Step fp H fp' H') (b : Step fp' H' fp'' H'') : Step fp H fp'' H'' := by
  refine ⟨fun c o e hc => b.kept c o (a.kept c o e hc) fun hc' => ?_, fun c hc => ?_⟩
  · rcases a.new c hc' with h | h
    · exact hc h
    · rw [h] at e
      cases e
  · rcases b.new c hc with h | h
    · exact a.new c h
    · by_cases hf : c ∈ fp
      · exact .inl hf
      · right
        cases e : H c with
        | none => rfl
        | some o =>
          rw [a.kept c o e hf] at h
          cases h
/-- what stands apart stays apart -/
theorem Step.apart {fp fp' gp : List Addr} {H H' : Hp} (a : Step fp H fp' H') (hg : ∀ b ∈ gp, ∃ o, H b = some o) (h : ∀ b ∈ gp, b ∉ fp) : ∀ b ∈ gp, b ∉ fp' := fun b hb hb' => by
  rcases a.new b hb' with z | z
  · exact h b hb z
  · obtain ⟨o, e⟩ := hg b hb
    rw [z] at e
    cases e
theorem same_upd {H : Hp} {a : Addr} {o : HO} (h : H a = none) : Same H (upd H a o) := fun b u e => by
  rw [upd_ne (ne_of_none e h)]
  exact e
theorem same_made {H : Hp} {x dx C : Addr} {fs : List (Str × V)} (hx : H x = none) (hd : H dx = none) : Same H (upd (upd H dx (.own x)) x (.ins C dx fs)) := fun b u e => by
  rw [upd_ne (ne_of_none e hx), upd_ne (ne_of_none e hd)]
  exact e
theorem upd_self {H : Hp} {a : Addr} {o : HO} (h : H a = some o) : upd H a o = H := by
  funext b
  by_cases q : b = a
  · rw [q, upd_same, h]
  · rw [upd_ne q]
/-! ### attributes -/
theorem lk_same (f : Str) (v : V) (r : List (Str × V)) : List.lookup f ((f, v) :: r) = some v := by
  rw [List.lookup_cons]
  simp
theorem lk_ne {f g : Str} (h : ¬ f = g) (v : V) (r : List (Str × V)) : List.lookup f ((g, v) :: r) = List.lookup f r := by
  rw [List.lookup_cons]
  have : (f == g) = false := beq_eq_false_iff_ne.mpr h
  rw [this]
theorem pf_same (f : Str) (v u : V) (r : List (Str × V)) : putF f v ((f, u) :: r) = (f, v) :: r := by
  show (if f = f then (f, v) :: r else _) = _
  rw [if_pos rfl]
theorem pf_ne {f g : Str} (h : ¬ g = f) (v u : V) (r : List (Str × V)) : putF f v ((g, u) :: r) = (g, u) :: putF f v r := by
  show (if g = f then _ else (g, u) :: putF f v r) = _
  rw [if_neg h]
theorem pf_nil (f : Str) (v : V) : putF f v [] = [(f, v)] := rfl
/-- a dict comprehension over what is walked -/
theorem dc_it {J : It} {n : Nat} {G : Hp → Prop} {Y : Nat → Hp → V → Hp → Prop} (w : Walk J n G Y) {g : TG} {tt : TT} {tk tv : TE} {vs : List Nat} {σ : L2.St} {H1 : Hp} {D : Addr} {Qd : Hp → Prop} (Pv : Nat → Hp → Prop) (h0 : Pv 0 (upd H1 D (.dK []))) (hG : ∀ i H, i ≤ n → Pv i H → G H)
    (hs : ∀ i x H H', i < n → Pv i H → Y i H x H' → g x (wipe σ vs) H' fun σ2 H2 => wipe σ2 vs = wipe σ vs ∧ tt σ2 H2 fun b H3 =>
      if b = true then tk σ2 H3 fun y H4 => tv σ2 H4 fun z H5 => ∃ ks k, y = kV k ∧ H5 D = some (.dK ks) ∧ ks.length < sizeLine ∧ Pv (i + 1) (upd H5 D (.dK (putK ks k z))) else Pv (i + 1) H3)
    (hd : ∀ H, Pv n H → Qd H) :
    ∃ W : Nat → Nat → Hp → Prop, (∃ m, W 0 m (upd H1 D (.dK []))) ∧ ∀ i m H, W i m H →
      (J.stop i H ∧ Qd H) ∨ (J.go i H ∧ ∃ Nx : Hp → Prop, (∀ H', Nx H' → ∃ m', m' < m ∧ W (i + 1) m' H') ∧ ∀ x H', J.yld i H x H' → g x (wipe σ vs) H' fun σ2 H2 => wipe σ2 vs = wipe σ vs ∧ tt σ2 H2 fun b H3 =>
        if b = true then tk σ2 H3 fun y H4 => tv σ2 H4 fun z H5 => ∃ ks k, y = kV k ∧ H5 D = some (.dK ks) ∧ ks.length < sizeLine ∧ Nx (upd H5 D (.dK (putK ks k z))) else Nx H3) := by
  refine ⟨fun i m H => i ≤ n ∧ m = n - i ∧ Pv i H, ⟨n, Nat.zero_le _, by simp, h0⟩, fun i m H ⟨hi, hm, p⟩ => ?_⟩
  subst hm
  rcases Nat.lt_or_ge i n with hlt | hge
  · exact .inr ⟨w.goes i H hlt (hG i H hi p), Pv (i + 1), fun H' p' => ⟨n - (i + 1), by omega, hlt, rfl, p'⟩, fun x H' y => hs i x H H' hlt p (w.yields i H x H' hlt (hG i H hi p) y)⟩
  · have e : i = n := by omega
    rw [e] at p ⊢
    exact .inl ⟨w.stops H (hG n H (Nat.le_refl _) p), hd H p⟩
/-- built-in names that no module's name hides -/
structure LT (mg : Str → Option Value) : Prop where
  len : mg "len" = none
  range : mg "range" = none
  isi : mg "isinstance" = none
  int : mg "int" = none
  bool : mg "bool" = none
  str : mg "str" = none
  max : mg "max" = none
  min : mg "min" = none
  list : mg "list" = none
  dict : mg "dict" = none
  zip : mg "zip" = none
  ValueError : mg "ValueError" = none

/-! ### wheels: how they lie in the heap -/
abbrev WhS := Wm.Wh Str
abbrev RowS := Wm.Row Str
abbrev En := RowS × Addr
theorem n_cs : ¬ (("clock" : Str) = "share") := by decide +kernel
theorem n_sc : ¬ (("share" : Str) = "clock") := by decide +kernel
theorem n_rs : ¬ (("ready" : Str) = "share") := by decide +kernel
theorem n_sr : ¬ (("share" : Str) = "ready") := by decide +kernel
theorem n_rc : ¬ (("ready" : Str) = "clock") := by decide +kernel
theorem n_cr : ¬ (("clock" : Str) = "ready") := by decide +kernel
theorem n_ps : ¬ (("past" : Str) = "_sharers") := by decide +kernel
theorem n_sp : ¬ (("_sharers" : Str) = "past") := by decide +kernel
def sf (s c : Int) (r : Bool) : List (Str × V) := [("share", .int s), ("clock", .int c), ("ready", .bl r)]
def wf (q : Int) (d : Addr) : List (Str × V) := [("past", .int q), ("_sharers", .ref d)]
theorem sf_share (s c : Int) (r : Bool) : (sf s c r).lookup ("share" : Str) = some (.int s) := lk_same _ _ _
theorem sf_clock (s c : Int) (r : Bool) : (sf s c r).lookup ("clock" : Str) = some (.int c) := (lk_ne n_cs _ _).trans (lk_same _ _ _)
theorem sf_ready (s c : Int) (r : Bool) : (sf s c r).lookup ("ready" : Str) = some (.bl r) := (lk_ne n_rs _ _).trans ((lk_ne n_rc _ _).trans (lk_same _ _ _))
theorem sf_no (s c : Int) (r : Bool) {m : Str} (h1 : ¬ m = "share") (h2 : ¬ m = "clock") (h3 : ¬ m = "ready") : (sf s c r).lookup m = none := (lk_ne h1 _ _).trans ((lk_ne h2 _ _).trans ((lk_ne h3 _ _).trans rfl))
theorem sf_pshare (s c : Int) (r : Bool) (t : Int) : putF "share" (.int t) (sf s c r) = sf t c r := pf_same _ _ _ _
theorem sf_pclock (s c : Int) (r : Bool) (t : Int) : putF "clock" (.int t) (sf s c r) = sf s t r := (pf_ne n_sc _ _ _).trans (congrArg _ (pf_same _ _ _ _))
theorem sf_pready (s c : Int) (r t : Bool) : putF "ready" (.bl t) (sf s c r) = sf s c t := (pf_ne n_sr _ _ _).trans (congrArg _ ((pf_ne n_cr _ _ _).trans (congrArg _ (pf_same _ _ _ _))))
theorem wf_past (q : Int) (d : Addr) : (wf q d).lookup ("past" : Str) = some (.int q) := lk_same _ _ _
theorem wf_sh (q : Int) (d : Addr) : (wf q d).lookup ("_sharers" : Str) = some (.ref d) := (lk_ne n_sp _ _).trans (lk_same _ _ _)
theorem wf_no (q : Int) (d : Addr) {m : Str} (h1 : ¬ m = "past") (h2 : ¬ m = "_sharers") : (wf q d).lookup m = none := (lk_ne h1 _ _).trans ((lk_ne h2 _ _).trans rfl)
theorem wf_ppast (q : Int) (d : Addr) (t : Int) : putF "past" (.int t) (wf q d) = wf t d := pf_same _ _ _ _
theorem wf_psh (q : Int) (d e : Addr) : putF "_sharers" (.ref e) (wf q d) = wf q e := (pf_ne n_ps _ _ _).trans (congrArg _ (pf_same _ _ _ _))
/-- the dict's pairs -/
def kvs (es : List En) : List (Key × V) := es.map fun e => (Sum.inr e.1.n, V.ref e.2)
theorem kvs_len (es : List En) : (kvs es).length = es.length := List.length_map _
theorem kvs_some {n : Str} {v : V} : ∀ {es : List En}, valV (kvs es) (Sum.inr n : Key) = some v → ∃ e ∈ es, e.1.n = n ∧ v = .ref e.2
  | [], h => by cases h
  | e :: es, h => by
    by_cases q : e.1.n = n
    · have : valV (kvs (e :: es)) (Sum.inr n : Key) = some (.ref e.2) := valV_pos (p := (Sum.inr e.1.n, V.ref e.2)) (congrArg Sum.inr q)
      rw [this] at h
      exact ⟨e, List.mem_cons_self, q, (Option.some.inj h).symm⟩
    · have : valV (kvs (e :: es)) (Sum.inr n : Key) = valV (kvs es) (Sum.inr n : Key) := valV_neg (p := (Sum.inr e.1.n, V.ref e.2)) fun z => q (Sum.inr.inj z)
      rw [this] at h
      obtain ⟨e', h1, h2⟩ := kvs_some h
      exact ⟨e', List.mem_cons_of_mem _ h1, h2⟩
theorem kvs_none {n : Str} : ∀ {es : List En}, valV (kvs es) (Sum.inr n : Key) = none → ∀ e ∈ es, e.1.n ≠ n
  | [], _, _, h => (nomatch h)
  | e :: es, h, e', he => by
    by_cases q : e.1.n = n
    · have : valV (kvs (e :: es)) (Sum.inr n : Key) = some (.ref e.2) := valV_pos (p := (Sum.inr e.1.n, V.ref e.2)) (congrArg Sum.inr q)
      rw [this] at h
      cases h
    · have : valV (kvs (e :: es)) (Sum.inr n : Key) = valV (kvs es) (Sum.inr n : Key) := valV_neg (p := (Sum.inr e.1.n, V.ref e.2)) fun z => q (Sum.inr.inj z)
      rw [this] at h
      rcases List.mem_cons.mp he with rfl | he
      · exact q
      · exact kvs_none h e' he
theorem kvs_at {es : List En} {e : En} (nd : (es.map (·.1.n)).Nodup) (h : e ∈ es) : valV (kvs es) (Sum.inr e.1.n : Key) = some (.ref e.2) := by
  cases q : valV (kvs es) (Sum.inr e.1.n : Key) with
  | none => exact absurd rfl (kvs_none q e h)
  | some v =>
    obtain ⟨e', h', en, rfl⟩ := kvs_some q
    have : e' = e := by
      clear q
      induction es with
      | nil => cases h
      | cons a es ih =>
        rw [List.map_cons, List.nodup_cons] at nd
        rcases List.mem_cons.mp h with rfl | h1
        · rcases List.mem_cons.mp h' with rfl | h2
          · rfl
          · exact (nd.1 (List.mem_map.mpr ⟨e', h2, en⟩)).elim
        · rcases List.mem_cons.mp h' with rfl | h2
          · exact (nd.1 (List.mem_map.mpr ⟨e, h1, en.symm⟩)).elim
          · exact ih nd.2 h1 h2
    rw [this]
theorem kvs_drop (es : List En) (n : Str) : dropK (kvs es) (Sum.inr n : Key) = kvs (es.filter fun e => decide (e.1.n ≠ n)) := by
  unfold dropK kvs
  rw [List.filter_map]
  congr 1
  apply List.filter_congr
  intro e _
  show decide ((Sum.inr e.1.n : Key) ≠ Sum.inr n) = decide (e.1.n ≠ n)
  exact decide_eq_decide.mpr ⟨fun z q => z (congrArg Sum.inr q), fun z q => z (Sum.inr.inj q)⟩
/-- the entries, one row changed -/
def updE (es : List En) (n : Str) (f : RowS → RowS) : List En := es.map fun e => if e.1.n = n then (f e.1, e.2) else e
theorem updE_rows (es : List En) (n : Str) (f : RowS → RowS) : (updE es n f).map (·.1) = Wm.upd (es.map (·.1)) n f := by
  unfold updE Wm.upd
  rw [List.map_map, List.map_map]
  apply List.map_congr_left
  intro e _
  show (if e.1.n = n then (f e.1, e.2) else e).1 = if e.1.n = n then f e.1 else e.1
  by_cases q : e.1.n = n
  · rw [if_pos q, if_pos q]
  · rw [if_neg q, if_neg q]
theorem updE_addrs (es : List En) (n : Str) (f : RowS → RowS) : (updE es n f).map (·.2) = es.map (·.2) := by
  unfold updE
  rw [List.map_map]
  apply List.map_congr_left
  intro e _
  show (if e.1.n = n then (f e.1, e.2) else e).2 = e.2
  by_cases q : e.1.n = n
  · rw [if_pos q]
  · rw [if_neg q]
theorem updE_kvs (es : List En) (n : Str) (f : RowS → RowS) (hf : ∀ x, (f x).n = x.n) : kvs (updE es n f) = kvs es := by
  unfold updE kvs
  rw [List.map_map]
  apply List.map_congr_left
  intro e _
  show ((Sum.inr (if e.1.n = n then (f e.1, e.2) else e).1.n : Key), V.ref (if e.1.n = n then (f e.1, e.2) else e).2) = (Sum.inr e.1.n, V.ref e.2)
  by_cases q : e.1.n = n
  · rw [if_pos q, hf]
  · rw [if_neg q]
/-- entries with unlike addresses are told by them -/
theorem en_inj : ∀ {l : List En}, (l.map (·.2)).Nodup → ∀ {x y : En}, x ∈ l → y ∈ l → x.2 = y.2 → x = y
  | [], _, _, _, hx, _, _ => (nomatch hx)
  | a :: l, hd, x, y, hx, hy, exy => by
    rw [List.map_cons, List.nodup_cons] at hd
    rcases List.mem_cons.mp hx with ex | hx
    · rcases List.mem_cons.mp hy with ey | hy
      · rw [ex, ey]
      · rw [ex] at exy
        exact (hd.1 (List.mem_map.mpr ⟨y, hy, exy.symm⟩)).elim
    · rcases List.mem_cons.mp hy with ey | hy
      · rw [ey] at exy
        exact (hd.1 (List.mem_map.mpr ⟨x, hx, exy⟩)).elim
      · exact en_inj hd.2 hx hy exy
/-- a wheel at p, its dict at d, with these entries -/
structure WIn (CW CS : Addr) (H : Hp) (p d : Addr) (q : Int) (es : List En) : Prop where
  ob : ∃ dx, H p = some (.ins CW dx (wf q d))
  dc : H d = some (.dK (kvs es))
  sh : ∀ e ∈ es, ∃ dx, H e.2 = some (.ins CS dx (sf e.1.s e.1.c e.1.r))
  nd : (es.map (·.2)).Nodup
/-- .. as the mirror W has it; fp: all its objects -/
def WAt (CW CS : Addr) (H : Hp) (p : Addr) (W : WhS) (fp : List Addr) : Prop :=
  ∃ d es, W.rows = es.map (·.1) ∧ fp = p :: d :: es.map (·.2) ∧ WIn CW CS H p d W.past es ∧ Wm.Ok W
section
variable {CW CS : Addr} {H H' : Hp} {p d : Addr} {q : Int} {es : List En} {W : WhS} {fp gp : List Addr}
theorem WIn.ne_pd (h : WIn CW CS H p d q es) : p ≠ d := by
  obtain ⟨dx, e⟩ := h.ob
  exact ne_of e h.dc (by intro z; cases z)
theorem WIn.ne_ps (h : WIn CW CS H p d q es) {e : En} (he : e ∈ es) : p ≠ e.2 := by
  obtain ⟨dx, e1⟩ := h.ob
  obtain ⟨dy, e2⟩ := h.sh e he
  refine ne_of e1 e2 fun z => ?_
  injection z with _ _ z
  injection z with z _
  injection z with z _
  exact absurd z (by decide +kernel)
theorem WIn.ne_ds (h : WIn CW CS H p d q es) {e : En} (he : e ∈ es) : d ≠ e.2 := by
  obtain ⟨dy, e2⟩ := h.sh e he
  exact ne_of h.dc e2 (by intro z; cases z)
theorem WIn.keep (h : WIn CW CS H p d q es) (k : ∀ b ∈ p :: d :: es.map (·.2), ∀ o, H b = some o → H' b = some o) : WIn CW CS H' p d q es := by
  refine ⟨?_, k d (by simp) _ h.dc, fun e he => ?_, h.nd⟩
  · obtain ⟨dx, e⟩ := h.ob
    exact ⟨dx, k p (by simp) _ e⟩
  · obtain ⟨dx, e1⟩ := h.sh e he
    exact ⟨dx, k _ (by simp only [List.mem_cons, List.mem_map]; exact .inr (.inr ⟨e, he, rfl⟩)) _ e1⟩
theorem WIn.fpt (h : WIn CW CS H p d q es) : ∀ b ∈ p :: d :: es.map (·.2), ∃ o, H b = some o := by
  intro b hb
  rcases List.mem_cons.mp hb with rfl | hb
  · obtain ⟨dx, e⟩ := h.ob
    exact ⟨_, e⟩
  rcases List.mem_cons.mp hb with rfl | hb
  · exact ⟨_, h.dc⟩
  obtain ⟨e, he, rfl⟩ := List.mem_map.mp hb
  obtain ⟨dx, e1⟩ := h.sh e he
  exact ⟨_, e1⟩
theorem WAt.keep (h : WAt CW CS H p W fp) (k : ∀ b ∈ fp, ∀ o, H b = some o → H' b = some o) : WAt CW CS H' p W fp := by
  obtain ⟨d, es, h1, rfl, h3, h4⟩ := h
  exact ⟨d, es, h1, rfl, h3.keep k, h4⟩
theorem WAt.same (h : WAt CW CS H p W fp) (k : Same H H') : WAt CW CS H' p W fp := h.keep fun b _ o e => k b o e
theorem WAt.kept (h : WAt CW CS H p W fp) (k : Kept gp H H') (a : ∀ b ∈ fp, b ∉ gp) : WAt CW CS H' p W fp := h.keep fun b hb o e => k b o e (a b hb)
theorem WAt.fpt (h : WAt CW CS H p W fp) : ∀ b ∈ fp, ∃ o, H b = some o := by
  obtain ⟨d, es, h1, rfl, h3, h4⟩ := h
  exact h3.fpt
theorem WAt.ok (h : WAt CW CS H p W fp) : Wm.Ok W := by
  obtain ⟨d, es, h1, rfl, h3, h4⟩ := h
  exact h4
theorem WAt.mem (h : WAt CW CS H p W fp) : p ∈ fp := by
  obtain ⟨d, es, h1, rfl, h3, h4⟩ := h
  exact List.mem_cons_self
theorem WAt.at (h : WAt CW CS H p W fp) : ∃ dx d, H p = some (.ins CW dx (wf W.past d)) := by
  obtain ⟨d, es, h1, rfl, ⟨⟨dx, e⟩, _, _, _⟩, h4⟩ := h
  exact ⟨dx, d, e⟩
/-- what is neither an instance nor a dict is none of a wheel's -/
theorem WAt.notin (h : WAt CW CS H p W fp) {b : Addr} {o : HO} (e : H b = some o) (h1 : ∀ C dx fs, o ≠ .ins C dx fs) (h2 : ∀ k, o ≠ .dK k) : b ∉ fp := by
  obtain ⟨d, es, _, rfl, h3, _⟩ := h
  intro hb
  rcases List.mem_cons.mp hb with rfl | hb
  · obtain ⟨dx, e1⟩ := h3.ob
    rw [e] at e1
    exact h1 _ _ _ (Option.some.inj e1)
  rcases List.mem_cons.mp hb with rfl | hb
  · have e1 := h3.dc
    rw [e] at e1
    exact h2 _ (Option.some.inj e1)
  obtain ⟨x, hx, rfl⟩ := List.mem_map.mp hb
  obtain ⟨dx, e1⟩ := h3.sh x hx
  rw [e] at e1
  exact h1 _ _ _ (Option.some.inj e1)
theorem WAt.lst (h : WAt CW CS H p W fp) {b : Addr} {xs : List V} (e : H b = some (.lst xs)) : b ∉ fp := h.notin e (fun _ _ _ z => by cases z) fun _ z => by cases z
theorem WAt.tup (h : WAt CW CS H p W fp) {b : Addr} {xs : List V} (e : H b = some (.tup xs)) : b ∉ fp := h.notin e (fun _ _ _ z => by cases z) fun _ z => by cases z
theorem WAt.frz (h : WAt CW CS H p W fp) {b : Addr} {x : Obj} {u : HO} (e : H b = some (.frz x u)) : b ∉ fp := h.notin e (fun _ _ _ z => by cases z) fun _ z => by cases z
/-- a list or the script stands as before -/
theorem WAt.seq (h : WAt CW CS H p W fp) (k : Kept fp H H') {K : PySem.W.Frag} {a : Addr} {xs : List V} (e : SqL K H a xs) : SqL K H' a xs := by
  rcases e with (e | ⟨o, e⟩) | e
  · exact .inl (.inl (k _ _ e (h.lst e)))
  · exact .inl (.inr ⟨o, k _ _ e (h.frz e)⟩)
  · exact .inr e
/-- one sharer is written -/
theorem WIn.set (h : WIn CW CS H p d q es) {e : En} (he : e ∈ es) (nn : (es.map (·.1.n)).Nodup) (f : RowS → RowS) (hf : ∀ x, (f x).n = x.n) (dx : Addr) :
    WIn CW CS (upd H e.2 (.ins CS dx (sf (f e.1).s (f e.1).c (f e.1).r))) p d q (updE es e.1.n f) := by
  refine ⟨?_, ?_, fun x hx => ?_, ?_⟩
  · obtain ⟨dy, e1⟩ := h.ob
    exact ⟨dy, by rw [upd_ne (h.ne_ps he)]; exact e1⟩
  · rw [upd_ne (h.ne_ds he), updE_kvs _ _ _ hf]
    exact h.dc
  · obtain ⟨y, hy, rfl⟩ := List.mem_map.mp hx
    by_cases qn : y.1.n = e.1.n
    · have : y = e := by
        have a1 := kvs_at nn hy
        have a2 := kvs_at nn he
        rw [qn, a2] at a1
        have a3 : e.2 = y.2 := V.ref.inj (Option.some.inj a1)
        exact en_inj h.nd hy he a3.symm
      subst this
      rw [if_pos qn]
      exact ⟨dx, upd_same⟩
    · rw [if_neg qn]
      obtain ⟨dy, e1⟩ := h.sh y hy
      refine ⟨dy, ?_⟩
      rw [upd_ne]
      · exact e1
      · intro z
        apply qn
        rw [en_inj h.nd hy he z]
  · rw [updE_addrs]
    exact h.nd
end
theorem names_nd {W : WhS} {es : List En} (h : Wm.Ok W) (e : W.rows = es.map (·.1)) : (es.map (·.1.n)).Nodup := by
  have := h.nd
  rw [e, List.map_map] at this
  exact this

/-! ### the text by places -/
def top (i : Nat) : Stmt := PySem.Challenge.pw_sharetime_k14_deeds_as_texts.main.body.getD i (.Pass ⟨0, 0, 0, 0⟩)
abbrev s_wall : Stmt := top 0
abbrev s_is_name : Stmt := top 14
abbrev s_stands_in : Stmt := top 15
abbrev s_is_whole : Stmt := top 19
abbrev s_step : Stmt := top 20
abbrev sSharer_init : Stmt := inClass (top 22) 0
abbrev sSharer_copied : Stmt := inClass (top 22) 1
abbrev sWheel_init : Stmt := inClass (top 23) 0
abbrev sWheel_enter : Stmt := inClass (top 23) 1
abbrev sWheel_leave : Stmt := inClass (top 23) 2
abbrev sWheel_reshare : Stmt := inClass (top 23) 3
abbrev sWheel_wake : Stmt := inClass (top 23) 4
abbrev sWheel_rest : Stmt := inClass (top 23) 5
abbrev sWheel_turn : Stmt := inClass (top 23) 6
abbrev sWheel_whose : Stmt := inClass (top 23) 7
abbrev sWheel_names : Stmt := inClass (top 23) 8
abbrev sWheel_clock_of : Stmt := inClass (top 23) 9
abbrev sWheel_share_of : Stmt := inClass (top 23) 10
abbrev sWheel_is_ready : Stmt := inClass (top 23) 11
abbrev sWheel_copied : Stmt := inClass (top 23) 12
abbrev sWheel_sharer : Stmt := inClass (top 23) 13
abbrev sHouse_init : Stmt := inClass (top 26) 0
abbrev sHouse_team : Stmt := inClass (top 26) 1
abbrev sHouse_hand : Stmt := inClass (top 26) 2
abbrev sHouse_leave : Stmt := inClass (top 26) 3
abbrev sHouse_reshare : Stmt := inClass (top 26) 4
abbrev sHouse_wake : Stmt := inClass (top 26) 5
abbrev sHouse_rest : Stmt := inClass (top 26) 6
abbrev sHouse_deal : Stmt := inClass (top 26) 7
abbrev sHouse_coming : Stmt := inClass (top 26) 8
abbrev sHouse_wheel_of : Stmt := inClass (top 26) 9
abbrev sHouse_settle : Stmt := inClass (top 26) 10
abbrev sHouse_need_team : Stmt := inClass (top 26) 11
abbrev sHouse_need_name : Stmt := inClass (top 26) 12
abbrev sHouse_need_hand : Stmt := inClass (top 26) 13
abbrev sHouse_wheel_around : Stmt := inClass (top 26) 14
abbrev sHouse_copied : Stmt := inClass (top 26) 15
abbrev s_shown : Stmt := top 30
abbrev s_read : Stmt := top 31
abbrev s_read_part : Stmt := top 32
abbrev s_read_share : Stmt := top 33
abbrev s_play : Stmt := top 34
abbrev s_answer : Stmt := top 35
abbrev s_do : Stmt := top 36
abbrev s_L_names_by : Stmt := top 38
abbrev s_L_deed_by : Stmt := top 39
abbrev s_L_text_by : Stmt := top 40
abbrev s_L_changed : Stmt := top 41
abbrev s_L_is_name : Stmt := top 42
abbrev s_L_is_share : Stmt := top 43
abbrev s_L_due : Stmt := top 44
abbrev s_L_read : Stmt := top 45
abbrev s_L_answer : Stmt := top 46
abbrev s_law : Stmt := top 47
/-! ### an error leaves a list comprehension -/
theorem frames_on {B B2 h h' : Heap} : ∀ {l : List Env}, h.FunFrames B l → (∀ L ∈ frs l, ∀ o, h.get? L = some o → h'.get? L = some o) → (∀ L ∈ frs l, B2.get? L = none) → h'.FunFrames B2 l
  | [], _, _, _ => trivial
  | env :: l, ff, same, off => by
    obtain ⟨hk, ⟨L, o, hf, _, ho, hd⟩, rest⟩ := ff
    have hL : L ∈ frs (env :: l) := List.mem_filterMap.mpr ⟨env, List.mem_cons_self, hf⟩
    have sub : ∀ b ∈ frs l, b ∈ frs (env :: l) := fun b hb => by
      obtain ⟨e, he, q⟩ := List.mem_filterMap.mp hb
      exact List.mem_filterMap.mpr ⟨e, List.mem_cons_of_mem _ he, q⟩
    exact ⟨hk, ⟨L, o, hf, off L hL, same L hL o ho, hd⟩, frames_on rest (fun b hb => same b (sub b hb)) fun b hb => off b (sub b hb)⟩
/-- an error of a call within a comprehension's block is one of the def's -/
theorem raise_out {X : Cx} {W : WX} {Ew : XK} {pins pins0 : List (Addr × Obj)} {σ σ0 : L2.St} {H3 H0 : Hp} {s3 s0 s1 : Shared} {scope : Scope} {ce : Env} {fp : List Addr} {e : Value} (hs : X.stack = X.env :: X.outer) (hf : X.env.frame = some X.env.locals) (tk : Takes X W) (hW : ∀ cls d τ H, Ew cls d H → W cls d τ H)
    (I3 : Inv X pins σ H3 s3) (f3 : ∀ b ∈ fp, FpOk X pins H3 b) (eC : ce.locals = s3.heap.objs.size) (eF : ce.frame = X.env.frame) (I0 : Inv (X.blk s3 H3 scope ce fp) pins0 σ0 H0 s0) (c : L2.CX X.prog X.w X.stack H0 s0 Ew e s1) :
    notedBy (model X.prog X.w) X.A ce (CompFails (model X.prog X.w) X.A X.xe ce) e s1 := by
  obtain ⟨a, B, H', cls, d, rfl, fl, hok, ub, na, os, ag, hE⟩ := c
  show wpAny _ _ (noteFrame (.ref a) ce) (fun _ s2 => CompFails (model X.prog X.w) X.A X.xe ce (.ref a) s2) _ _
  have note : noteFrame (.ref a) ce = noteFrame (.ref a) X.env := by
    unfold noteFrame PySem.frameOf
    rw [eF]
  rw [note]
  obtain ⟨m, ⟨oC, es, ep, gC, dC, kC, fC⟩, _⟩ := I0.loc
  have gC : s0.heap.get? ce.locals = some oC := gC
  have freeC : H0 ce.locals = none := I0.free
  have nC : ce.locals ∉ frs X.stack := fun z => by
    rcases List.mem_cons.mp (I3.stkSub _ z) with z | z
    · have := I3.lt
      rw [eC] at z
      rw [← z] at this
      exact Nat.lt_irrefl _ this
    · exact I3.nofs (Nat.le_of_eq eC.symm) z
  have BC := ub.keep _ _ gC freeC nC
  have freeC' := ub.free _ _ gC freeC
  have hfr : X.A.frames = some (X.env :: X.outer) := by rw [I3.ok.frames, hs]
  have aC : a ≠ ce.locals := fun z => by
    have := fl.2.1
    rw [z, BC] at this
    cases this
  refine HandSPX.looks_onZ Zc.steady hfr hf (by rw [← hs]; exact fl) fun h1 held up1 => ?_
  obtain ⟨st1, Ba, ff1, oe, vs, T, oT, tvs, ga, hz, da, v1, BT, Ta, gT, dT, t3⟩ := held
  have TC : T ≠ ce.locals := fun z => by
    rw [z, BC] at BT
    cases BT
  refine ⟨_, ⟨oC, es, ep, st1 _ _ BC, dC, kC, fC⟩, fun h' m' _ sb => ?_⟩
  -- the ground without the block
  obtain ⟨B2, b1, b2⟩ := restrict B fun b => !decide (b = ce.locals)
  have B2of : ∀ b o, B2.get? b = some o → b ≠ ce.locals ∧ B.get? b = some o := fun b o q => by
    by_cases z : b = ce.locals
    · rw [b2 b (by rw [decide_eq_true z]; rfl)] at q
      cases q
    · rw [b1 b (by rw [decide_eq_false z]; rfl)] at q
      exact ⟨z, q⟩
  have toB2 : ∀ b o, b ≠ ce.locals → B.get? b = some o → B2.get? b = some o := fun b o z q => by
    rw [b1 b (by rw [decide_eq_false z]; rfl)]
    exact q
  have offB2 : ∀ b, B.get? b = none → B2.get? b = none := fun b z => by
    cases q : B2.get? b with
    | none => rfl
    | some o => rw [(B2of b o q).2] at z; cases z
  have frB : ∀ L ∈ frs X.stack, B.get? L = none := fun L hL => (fl.2.2.1.mem hL).1
  have held2 : HandSPX.HeldZ B2 (X.env :: X.outer) a (Zc cls d) X.env.locals h' := by
    refine ⟨fun b o q => ?_, offB2 a Ba, ?_, oe, vs, T, oT, tvs, (sb.2 _ aC).trans ga, hz, da, v1, offB2 T BT, Ta, (sb.2 _ TC).trans gT, dT, t3⟩
    · obtain ⟨q1, q2⟩ := B2of b o q
      exact (sb.2 b q1).trans (st1 b o q2)
    · rw [← hs] at ff1 ⊢
      exact frames_on ff1 (fun L hL o q => (sb.2 L fun z => nC (by rw [← z]; exact hL)).trans q) fun L hL => offB2 L (frB L hL)
  unfold PySem.passOn
  refine wpAny_bind (wpAny_field ((sb.2 _ aC).trans ga) da v1 ?_)
  rw [if_neg (show ¬ (Value.ref T == Value.none) = true from Bool.false_ne_true)]
  refine wpAny_bind ?_
  rw [eF, hf]
  refine HandSPX.setFlight_onZ held2 fun hF heldF upF => wpAny_throw ?_
  obtain ⟨G, g1, g2⟩ := restrict s1.heap fun b => (B2.get? b).isSome || decide (b ∈ frs X.stack)
  have GB : ∀ b o, B2.get? b = some o → G.get? b = some o := fun b o q => by
    rw [g1 b (by rw [q]; rfl)]
    exact fl.1 b o (B2of b o q).2
  have Gfr : ∀ b, b ∈ frs X.stack → G.get? b = s1.heap.get? b := fun b hb => g1 b (by rw [decide_eq_true hb, Bool.or_true])
  have Gof : ∀ b o, G.get? b = some o → s1.heap.get? b = some o ∧ b ≠ ce.locals ∧ (b ∉ frs X.stack → B2.get? b = some o) := fun b o q => by
    by_cases hb : b ∈ frs X.stack
    · exact ⟨by rw [← Gfr b hb]; exact q, fun z => nC (by rw [← z]; exact hb), fun n => (n hb).elim⟩
    · cases e2 : B2.get? b with
      | none =>
        rw [g2 b (by rw [e2, decide_eq_false hb]; rfl)] at q
        cases q
      | some u =>
        have q2 := GB b u e2
        rw [q] at q2
        cases q2
        exact ⟨fl.1 b o (B2of b o e2).2, (B2of b o e2).1, fun _ => rfl⟩
  have old : ∀ b o, s3.heap.get? b = some o → b ≠ ce.locals := fun b o q z => by
    have := Heap.lt_size q
    rw [z, eC] at this
    exact Nat.lt_irrefl _ this
  have ib := I0.base
  have IX : Inv X pins σ H' { s3 with heap := G, gens := s1.gens, drawn := s1.drawn, toks := s1.toks } := by
    refine I3.call (ch := fp) ⟨fun b o q n hb hx => ?_, fun b o q n hb hx => ?_, fun b o q n hx => ?_, fun b o q hx => ?_, fun b xs q => ub.tups b xs (ib.tups b xs q), fun b o u q => ub.frzs b o u (ib.frzs b o u q), fun b ps q => ?_⟩ (fun b o q => (hok b o q).stay (fun u ou hc r => ?_) (fun _ r => r) fun _ _ r => r) ag fun b hb => ⟨(f3 b hb).2.2.2.1, (f3 b hb).2.1, (f3 b hb).2.2.2.2.1, (f3 b hb).2.2.2.2.2⟩
    · exact GB b o (toB2 b o (old b o q) (ub.keep b o (ib.keep b o q n hb hx) (ib.free b o q n hx) hb))
    · obtain ⟨sl, q1⟩ := ib.slot b o q n hb hx
      obtain ⟨sl2, q2⟩ := ub.slot b _ q1 hb
      exact ⟨sl2, by rw [Gfr b hb]; exact q2⟩
    · obtain ⟨o', q1⟩ := ib.there b o q hx
      exact ub.free b o' q1 (ib.free b o q n hx)
    · obtain ⟨o', q1⟩ := ib.there b o q hx
      by_cases hb : b ∈ frs X.stack
      · obtain ⟨sl2, q2⟩ := ub.slot b _ q1 hb
        exact ⟨_, by rw [Gfr b hb]; exact q2⟩
      · obtain ⟨o2, q2⟩ := ub.there b o' q1 hb
        exact ⟨o2, GB b o2 (toB2 b o2 (old b o q) q2)⟩
    · obtain ⟨m1, q1⟩ := ib.tbls b ps q
      obtain ⟨m2, q2⟩ := ub.tbls b _ q1
      exact ⟨m1 ++ m2, by rw [q2, Array.append_assoc]⟩
    · refine GB u ou (toB2 u ou (fun z => ?_) r)
      rcases hc with hc | hc
      · rw [← hc, z, freeC'] at q
        cases q
      · rw [z, freeC'] at hc
        cases hc
  refine tk _ _ ⟨a, B2, _, pins, σ, H', cls, d, rfl, IX, fun b o q hb => (Gof b o q).2.2 hb, fun b o q hn => ?_, ?_, na, ?_, ag, hW _ _ _ _ hE⟩
  · obtain ⟨q1, q2, _⟩ := Gof b o q
    obtain ⟨sl, q3⟩ := up1 b o q1 hn
    obtain ⟨sl2, q4⟩ := upF b _ ((sb.2 b q2).trans q3) hn
    exact ⟨sl2, q4⟩
  · rw [hs]
    exact .inr (.inr heldF)
  · exact os.trans I0.os
/-- the ground does not know what is wanted of an error -/
theorem inv_xe {X : Cx} {pins : List (Addr × Obj)} {σ : L2.St} {H : Hp} {s : Shared} (xe : Value → Shared → Prop) (I : Inv X pins σ H s) : Inv { X with xe := xe } pins σ H s :=
  ⟨⟨I.ok.mod, I.ok.kind, I.ok.glob, I.ok.blt, I.ok.above, I.ok.inj, I.ok.has, I.ok.cab, I.ok.hd, I.ok.frames, I.ok.stk, I.ok.exf, I.ok.bs, I.ok.bsz, I.ok.noex, I.ok.exfs, I.ok.funs, I.ok.frf⟩, I.os, I.bare, I.base, I.loc, I.cell, I.free, I.freeC, I.pin, I.hok, I.len⟩
theorem inv_ex {X : Cx} {pins : List (Addr × Obj)} {σ : L2.St} {H : Hp} {s : Shared} {xe : Value → Shared → Prop} (I : Inv { X with xe := xe } pins σ H s) : Inv X pins σ H s :=
  ⟨⟨I.ok.mod, I.ok.kind, I.ok.glob, I.ok.blt, I.ok.above, I.ok.inj, I.ok.has, I.ok.cab, I.ok.hd, I.ok.frames, I.ok.stk, I.ok.exf, I.ok.bs, I.ok.bsz, I.ok.noex, I.ok.exfs, I.ok.funs, I.ok.frf⟩, I.os, I.bare, I.base, I.loc, I.cell, I.free, I.freeC, I.pin, I.hok, I.len⟩
/-- name = [elt for tg in src if ..] on one line, an element that may raise -/
theorem ps_setLcX {X : Cx} {W : WX} {Ew : XK} {i : Nat} {y : Str} {py : Pos} {elt tg src : Expr} {ifs : List Expr} {scope : Scope} {own : List (Str × Nat)} {pos spos : Pos} {wi : TI} {g : TG} {tt : TT} {te : L2.TE} (calm : X.calm = true) (nd : X.N.Nodup)
    (hs : X.stack = X.env :: X.outer) (hf : X.env.frame = some X.env.locals) (tk : Takes X W) (hW : ∀ cls d τ H, Ew cls d H → W cls d τ H) (ny : X.N[i]? = some y) (yl : X.env.scope.names.lookup y = some .local)
    (sw : swapsWith (.ListComp elt [⟨tg, src, ifs, 0⟩] scope pos) (some (.Name y py)) spos.line X.env = pure true) (hi : PI X tg src wi) (ok : BlkOk X.N X.env.scope scope own)
    (hg : ∀ (s : Shared) (H : Hp) (C : Addr) (cl : List (Str × Addr)) (fp : List Addr), PG (X.blk s H scope (compEnvC scope cl C X.env) fp) tg g)
    (ht : ∀ (s : Shared) (H : Hp) (C : Addr) (cl : List (Str × Addr)) (fp : List Addr), PTs (X.blk s H scope (compEnvC scope cl C X.env) fp) ifs tt)
    (he : ∀ (s : Shared) (H : Hp) (C : Addr) (cl : List (Str × Addr)) (fp : List Addr) (xe : Value → Shared → Prop), Passes (L2.CX X.prog X.w) { X.blk s H scope (compEnvC scope cl C X.env) fp with xe := xe } Ew → PE { X.blk s H scope (compEnvC scope cl C X.env) fp with xe := xe } elt te)
    (plain : ∀ x, foldedSetIterable src X.env x = pure x := by intro _; rfl) :
    PS X (.Assign [.Name y py] (.ListComp elt [⟨tg, src, ifs, 0⟩] scope pos) spos) (tAsg (tLc wi g tt te (own.map (·.2))) (gName i)) := by
  refine ⟨fun pins s σ H O I h => ?_⟩
  rw [exec_Assign_Name_used _ _ _ _ sw]
  refine wpAny_bind (wpAny_standAt (wpAny_bind ?_))
  change wpAny _ X.A ((comprehension (.ListComp elt [⟨tg, src, ifs, 0⟩] scope pos) scope X.env (firstIterPos [⟨tg, src, ifs, 0⟩] pos) (newList []) false (eval src X.env) (some (assign (.Name y py) X.env))) >>= fun _ => pure ()) _ _ s
  have h : tLc wi g tt te (own.map (·.2)) σ H (fun x H1 => gName i x σ H1 O.nx) := h
  refine wpAny_bind (thn (comprehension_at (use := some (assign (.Name y py) X.env)) (Q := fun _ s' => SP X pins O .next s') rfl plain (closure_ok fun z hz e => ?free) ok.kind (fun z hz e => by rw [ok.uniq z hz, e]) (thn (hi.run pins s σ H _ I h) fun xv s1 hx => thn hx ?walk)) fun _ s' q => wpAny_pure (wpAny_pure q))
  case free => exact (ok.free z hz e).elim (fun k => I.ok.has _ (.inl k)) fun k => I.ok.has _ (.inr k)
  case walk =>
  rintro _ s2 ⟨it, fp, tn, J, H2, rfl, I2, T, st2, f2, q⟩
  refine wpAny_newObj_type (newEnv_comp ?_) (by show 0 ≤ sizeLine; decide)
  obtain ⟨V1, ⟨m0, w0⟩, turn⟩ := q s2.heap.objs.size (I2.hok.fresh (Nat.le_refl _))
  obtain ⟨s3, e3, I3, k3⟩ : ∃ s3 : Shared, s3 = { s2 with heap := s2.heap.push { cls := .type "list", data := .seq ([] : List Value).toArray } } ∧ Inv X pins σ (upd H2 s2.heap.objs.size (.lst [])) s3 ∧ ∀ b o, s2.heap.get? b = some o → s3.heap.get? b = some o :=
    ⟨_, rfl, I2.laid (t' := s2.toks) (fun b o e => Heap.get?_push_of_some _ e) (Nat.le_refl _) ⟨Nat.zero_le _, [], 0, .nil, Heap.get?_push_size _ rfl⟩, fun b o e => Heap.get?_push_of_some _ e⟩
  rw [← e3]
  have f3 : ∀ b ∈ fp, FpOk X pins (upd H2 s2.heap.objs.size (.lst [])) b ∧ b < s3.heap.objs.size := fun b hb => by
    obtain ⟨o, e, _⟩ := T.obj _ _ st2 b hb
    exact ⟨⟨by rw [upd_ne (Nat.ne_of_lt (Heap.lt_size e))]; exact (f2 b hb).1, (f2 b hb).2⟩, Heap.lt_size (k3 _ _ e)⟩
  have st3 : tn 0 s3.heap := T.keep _ _ _ st2 fun b _ o e => k3 b o e
  clear e3
  generalize s2.heap.objs.size = L at I3 w0 turn f3 ⊢
  generalize upd H2 L (.lst []) = H3 at I3 w0 f3 ⊢
  have I4 := block_start I3 ok nd f3
  have kc : ∀ b o, s3.heap.get? b = some o → (pushCells (s3.heap.push { cls := .type "dict", data := .dict #[] }) scope.names).get? b = some o := fun b o e => pushCells_keeps _ _ _ _ (Heap.get?_push_of_some _ e)
  have pg := hg s3 H3 s3.heap.objs.size (cellsFrom (s3.heap.objs.size + 1) scope.names (cloFrom X.env.cells scope.names [])) fp
  have pt := ht s3 H3 s3.heap.objs.size (cellsFrom (s3.heap.objs.size + 1) scope.names (cloFrom X.env.cells scope.names [])) fp
  have pe := he s3 H3 s3.heap.objs.size (cellsFrom (s3.heap.objs.size + 1) scope.names (cloFrom X.env.cells scope.names [])) fp
  change codeAny _ _ (.compStart (.ListComp elt [⟨tg, src, ifs, 0⟩] scope pos) 0 (.ref it) (.ref L) (compEnvC scope (cellsFrom (s3.heap.objs.size + 1) scope.names (cloFrom X.env.cells scope.names [])) s3.heap.objs.size X.env)) (compEnds (model X.prog X.w) X.A X.xe (some (assign (.Name y py) X.env)) (fun _ s' => SP X pins O .next s') (.ref L) (compEnvC scope (cellsFrom (s3.heap.objs.size + 1) scope.names (cloFrom X.env.cells scope.names [])) s3.heap.objs.size X.env)) _
  have st4 : tn 0 (pushCells (s3.heap.push { cls := .type "dict", data := .dict #[] }) scope.names) := T.keep _ _ _ st3 fun b _ o e => kc b o e
  generalize hce : compEnvC scope (cellsFrom (s3.heap.objs.size + 1) scope.names (cloFrom X.env.cells scope.names [])) s3.heap.objs.size X.env = ce at I4 pg pt pe ⊢
  have cL : ce.locals = s3.heap.objs.size := by rw [← hce]; rfl
  have cF : ce.frame = X.env.frame := by rw [← hce]; rfl
  have stat : ∀ {σ' : L2.St} {H' : Hp} {s' : Shared}, Inv (X.blk s3 H3 scope ce fp) [] σ' H' s' → (∀ b ∈ fp, H' b = none) → ∀ b ∈ fp, FpOk (X.blk s3 H3 scope ce fp) [] H' b := fun J n b hb =>
    ⟨n b hb, (J.ok.exf b hb).1, J.ok.exfs b hb, .inl hb, fun x c e => (J.ok.exf b hb).2 x c e, fun p hp => (List.not_mem_nil hp).elim⟩
  have loop : codeAny (model X.prog X.w) X.A (.compLoop (.ListComp elt [⟨tg, src, ifs, 0⟩] scope pos) 0 (.ref it) (.ref L) ce) (compEnds (model X.prog X.w) X.A X.xe (some (assign (.Name y py) X.env)) (fun _ s' => SP X pins O .next s') (.ref L) ce) { s3 with heap := pushCells (s3.heap.push { cls := .type "dict", data := .dict #[] }) scope.names } := by
    refine compLoop_any (fun n s' => ∃ i H', Inv (X.blk s3 H3 scope ce fp) [] (wipe σ (own.map (·.2))) H' s' ∧ tn i s'.heap ∧ (∀ b ∈ fp, H' b = none) ∧ V1 i n H') ?_ m0 ⟨0, H3, I4, st4, fun b hb => (f3 b hb).1.1, w0⟩
    rintro n s5 ⟨k, H5, J5, st5, n5, w5⟩
    rcases turn k n H5 w5 with ⟨stop, qq⟩ | ⟨more, Nx, hNx, step⟩
    · refine thnF (T.done (X.blk s3 H3 scope ce fp) rfl rfl rfl calm k [] s5 _ H5 (fun _ _ => False) J5 (stat J5 n5) st5 stop) ?_
      rintro _ s6 ⟨rfl, J6⟩
      have home : Inv X pins σ H5 s6 := I3.call' (ch := fp) J6.os J6.base J6.hok J6.bare fun b hb => ⟨(f3 b hb).1.2.2.2.1, (f3 b hb).1.2.1, (f3 b hb).1.2.2.2.2.1, (f3 b hb).1.2.2.2.2.2⟩
      obtain ⟨m, ns, _⟩ := J6.loc
      have ns : s6.heap.Ns ce.locals m := ns
      have nC : H5 ce.locals = none := J6.free
      rw [cL] at nC
      obtain ⟨z0, z1, z2, z3, z4, z5⟩ := I3.fpOk (Nat.le_refl _) nC
      rw [← cL] at z0 z1 z2 z3 z4 z5
      change wpAny _ _ (assign (.Name y py) X.env (.ref L)) _ _ _
      refine wpAny_assign_Name (store_ok2 (v := V.ref L) home nd ny (.inl yl) rfl ?_ (.inr yl))
      rintro s7 J7 ⟨a, sb, ha⟩
      have na : ce.locals ≠ a := by
        rcases ha with z | z
        · rw [z]; exact z1
        · exact fun e => z4 y a z e.symm
      exact ⟨m, ns.sameBut sb na, fun h3 sb3 => ⟨_, H5, J7.turned (t' := s7.toks) (fun b o nb e => (sb3.2 b nb).trans e) z0 z1 z3 z4 z5, qq⟩⟩
    · refine thnF (T.item (X.blk s3 H3 scope ce fp) rfl rfl rfl calm k [] s5 _ H5 (fun _ _ => False) J5 (stat J5 n5) st5 more) ?_
      rintro _ s6 ⟨u, rfl, h6⟩
      refine thnF h6 ?_
      rintro _ s7 ⟨x, H7, J7, r7, y7, st7, n7⟩
      have P7 := J7.pinned (stat J7 n7) (T.obj _ _ st7)
      refine thnF (pg.run _ _ _ H7 x u _ P7 r7 (step x H7 y7)) ?_
      rintro _ s8 ⟨σ8, H8, J8, w8, q8⟩
      refine thnF (pt.run _ _ _ _ _ J8 q8) ?_
      rintro b s9 ⟨H9, J9, q9⟩
      have next : ∀ {s' : Shared} {H' : Hp}, Inv (X.blk s3 H3 scope ce fp) ([] ++ pinsAt fp s7.heap) σ8 H' s' → Nx H' → ∃ m, m < n ∧ ∃ i H', Inv (X.blk s3 H3 scope ce fp) [] (wipe σ (own.map (·.2))) H' s' ∧ tn i s'.heap ∧ (∀ b ∈ fp, H' b = none) ∧ V1 i m H' := fun {s' H'} J nx => by
        obtain ⟨m', lt', w'⟩ := hNx H' nx
        have same : ∀ b ∈ fp, ∀ o, s7.heap.get? b = some o → s'.heap.get? b = some o ∧ H' b = none := fun b hb o e =>
          ⟨(J.pin (b, o) (List.mem_append_right _ (List.mem_append_right _ (mem_pinsAt hb e)))).1, (J.pin (b, o) (List.mem_append_right _ (List.mem_append_right _ (mem_pinsAt hb e)))).2.1⟩
        refine ⟨m', lt', k + 1, H', (J.unpinned (pins := [])).weak (by rw [← w8, wipe_length]) fun j v e => ?_, T.keep _ _ _ st7 fun b hb o e => (same b hb o e).1, fun b hb => ?_, w'⟩
        · rw [← w8] at e
          exact (wipe_some e).1
        · obtain ⟨o, e, _⟩ := T.obj _ _ st7 b hb
          exact (same b hb o e).2
      cases b with
      | false => exact next J9 (by simpa using q9)
      | true =>
        simp only [if_true] at q9 ⊢
        refine wpAny_mono ((pe (fun e s' => ∃ (pins : List (Addr × Obj)) (τ : L2.St) (H' : Hp) (s0 : Shared), Inv (X.blk s3 H3 scope ce fp) pins τ H' s0 ∧ L2.CX X.prog X.w X.stack H' s0 Ew e s') fun pins τ H' s0 e s' J c => ⟨pins, τ, H', s0, inv_ex J, c⟩).run _ _ _ _ _ (inv_xe _ J9) q9) ?_ ?_
        · rintro z s10 ⟨v, H10, J10, r10, acc, hD, small, nx⟩
          exact app_ok (X := X.blk s3 H3 scope ce fp) (inv_ex J10) hD small r10 fun s11 J11 => next J11 nx
        · rintro e s10 ⟨pins', τ, H', s0, J, c⟩
          exact raise_out hs hf tk hW I3 (fun b hb => (f3 b hb).1) cL cF J c
  exact codeAny_compStart_list loop (T.self X.A 0 _ _ _ st4 loop)
theorem passOf {CX : CXT} {X : Cx} {E : XK} (h : Passes CX X E) (σ : L2.St) : PassesAt CX X σ E := fun pins H s e s' I c => h pins σ H s e s' I c
theorem call_str_any {X : Cx} : CallR X (.type "str") (fun xs H Q => (∃ i : Int, xs = [.int i] ∧ i.natAbs.log2 < 1920 ∧ Q (.str (Str.ofString (toString i))) H) ∨ ∃ a, xs = [.str a] ∧ Q (.str a) H) := by
  intro pins s σ H xs us Q I r h
  rcases h with ⟨i, rfl, hz, q⟩ | ⟨a, rfl, q⟩
  · exact call_str_int pins s σ H _ us Q I r ⟨i, rfl, hz, q⟩
  · exact SkE.call_str_str pins s σ H _ us Q I r ⟨a, rfl, q⟩
theorem pe_orK {X : Cx} {K0 : PySem.W.Frag} {a b : Expr} {ta tb : L2.TE} {rest : List Expr} {pos : Pos} (ha : PE X a ta) (hb : PE X (.BoolOp .Or (b :: rest) pos) tb) (hK : X.K = K0 := by rfl) : PE X (.BoolOp .Or (a :: b :: rest) pos) (tOrT K0 ta tb) := by
  subst hK
  exact pe_orT ha hb
theorem pe_joinK {X : Cx} {K0 : PySem.W.Frag} {o e : Expr} {to te : L2.TE} {apos pos : Pos} (ho : PE X o to) (he : PE X e te) (hK : X.K = K0 := by rfl) (hs : starEach [e] X.env = [(false, eval e X.env)] := by rfl) (hbase : attributeBase o "join" X.env (eval o X.env) = eval o X.env := by rfl) (hline : (apos.endLine == pos.line) = true := by rfl) :
    PE X (.Call (.Attribute o "join" apos) [e] [] pos) (tM1 (fun x xs H Q => ∃ a p, ∃ ys : List Str, x = .str a ∧ xs = [.ref p] ∧ (SqL K0 H p (ys.map V.str) ∨ SqT K0 H p (ys.map V.str)) ∧ (ys.map (·.length)).sum + ys.length * a.length ≤ 16777216 ∧ Q (.str (Txt.join a ys)) H) to te) := by
  subst hK
  exact pe_join ho he hs hbase hline
theorem call_isiK {X : Cx} {K0 : PySem.W.Frag} (hK : X.K = K0 := by rfl) : CallR X (.builtin "isinstance") (rIsi K0) := by
  subst hK
  exact call_isi

/-! ### zip of two of any kind -/
inductive Kd where
  | l (a : Addr) | t (a : Addr) | s (x : Str)
def Kd.v : Kd → V
  | .l a => .ref a
  | .t a => .ref a
  | .s x => .str x
def signs (x : Str) : List V := x.cps.toList.map fun c => V.str ⟨#[c]⟩
def Kd.src (K : PySem.W.Frag) (H : Hp) : Kd → List V → Prop
  | .l a, xs => SqL K H a xs
  | .t a, xs => SqT K H a xs
  | .s x, xs => xs = signs x
def Kd.at : Kd → Addr → Nat → Heap → Prop
  | .l a, it, i, h => h.IsListIter it a i
  | .t a, it, i, h => h.IsTupleIter it a i
  | .s x, it, i, h => ∃ t, h.IsStrIter it (strIterType x) x t i
def Kd.low : Kd → Nat → Prop
  | .l a, n => a < n
  | .t a, n => a < n
  | .s _, _ => True
theorem Kd.at_obj {k : Kd} {it : Addr} {i : Nat} {h : Heap} (z : k.at it i h) : ∃ o, h.get? it = some o ∧ ∀ v, o.data ≠ .cell v := by
  cases k with
  | l a => obtain ⟨o, e, _, d⟩ := z; exact ⟨o, e, fun v q => by rw [d] at q; cases q⟩
  | t a => obtain ⟨o, e, _, d⟩ := z; exact ⟨o, e, fun v q => by rw [d] at q; cases q⟩
  | s x => obtain ⟨t, o, e, _, d⟩ := z; exact ⟨o, e, fun v q => by rw [d] at q; cases q⟩
theorem Kd.at_keep {k : Kd} {it : Addr} {i : Nat} {h h' : Heap} (z : k.at it i h) (e : ∀ o, h.get? it = some o → h'.get? it = some o) : k.at it i h' := by
  cases k with
  | l a => obtain ⟨o, q, r⟩ := z; exact ⟨o, e o q, r⟩
  | t a => obtain ⟨o, q, r⟩ := z; exact ⟨o, e o q, r⟩
  | s x => obtain ⟨t, o, q, r⟩ := z; exact ⟨t, o, e o q, r⟩
section
variable {X : Cx} {pins : List (Addr × Obj)} {σ : L2.St} {H : Hp} {s : Shared}
theorem Kd.src_inj (I : Inv X pins σ H s) {k : Kd} {xs ys : List V} (a : k.src X.K H xs) (b : k.src X.K H ys) : xs = ys := by
  cases k with
  | l p => exact I.list_inj a b
  | t p => exact I.tuple_inj a b
  | s x =>
    have a : xs = signs x := a
    have b : ys = signs x := b
    rw [a, b]
theorem Kd.draws {A : Around} (hh : A.handled = none) (I : Inv X pins σ H s) {k : Kd} {xs : List V} {it : Addr} {i n : Nat} (a : k.src X.K H xs) (z : k.at it i s.heap) (lo : k.low n) (hn : n ≤ it) :
    ∃ (fp : List Addr) (m : Nat) (P : Nat → Value → Prop) (St : Nat → Heap → Prop), Draws X.prog X.w A it fp m P St ∧ St i s.heap ∧ m = xs.length ∧ it ∈ fp ∧ (∀ b ∈ fp, b = it ∨ b < n) ∧ (∀ j u, P j u → ∃ x, xs[j]? = some x ∧ RelV x u) ∧ ∀ j h, St j h → k.at it j h := by
  cases k with
  | l p =>
    obtain ⟨its, rv, q, _⟩ := I.list a
    have lo : p < n := lo
    refine ⟨[it, p], _, _, _, Draws.list hh it p (Nat.ne_of_lt (Nat.lt_of_lt_of_le lo hn)) its.toArray, ⟨z, q.isList⟩, ?_, List.mem_cons_self, fun b hb => ?_, fun j u hu => ?_, fun j h st => st.1⟩
    · rw [List.size_toArray, rv.length]
    · rcases List.mem_cons.mp hb with e | hb
      · exact .inl e
      · rw [List.mem_singleton.mp hb]
        exact .inr lo
    · have hu : its[j]? = some u := by simpa using hu
      cases e : xs[j]? with
      | none => rw [rv.none_of e] at hu; cases hu
      | some x =>
        obtain ⟨u', e', r⟩ := rv.get e
        rw [hu] at e'
        cases e'
        exact ⟨x, rfl, r⟩
  | t p =>
    obtain ⟨its, rv, q, _⟩ := I.tuple a
    have lo : p < n := lo
    refine ⟨[it, p], _, _, _, Draws.tuple hh it p (Nat.ne_of_lt (Nat.lt_of_lt_of_le lo hn)) its.toArray, ⟨z, q⟩, ?_, List.mem_cons_self, fun b hb => ?_, fun j u hu => ?_, fun j h st => st.1⟩
    · rw [List.size_toArray, rv.length]
    · rcases List.mem_cons.mp hb with e | hb
      · exact .inl e
      · rw [List.mem_singleton.mp hb]
        exact .inr lo
    · have hu : its[j]? = some u := by simpa using hu
      cases e : xs[j]? with
      | none => rw [rv.none_of e] at hu; cases hu
      | some x =>
        obtain ⟨u', e', r⟩ := rv.get e
        rw [hu] at e'
        cases e'
        exact ⟨x, rfl, r⟩
  | s x =>
    obtain ⟨t, z⟩ := z
    have a : xs = signs x := a
    refine ⟨[it], _, _, _, Draws.text hh it x t, z, ?_, List.mem_cons_self, fun b hb => .inl (List.mem_singleton.mp hb), fun j u hu => ?_, fun j h st => ⟨t, st⟩⟩
    · rw [a]
      unfold signs
      rw [List.length_map, Array.length_toList]
    · obtain ⟨c, tu, hc, rfl⟩ := hu
      refine ⟨.str ⟨#[c]⟩, ?_, tu, rfl⟩
      rw [a]
      unfold signs
      rw [List.getElem?_map, Array.getElem?_toList, hc]
      rfl
theorem Kd.begins (I : Inv X pins σ H s) {k : Kd} {xs : List V} {u : Value} (a : k.src X.K H xs) (r : RelV k.v u) :
    ∃ (o : Obj) (F : Heap → Prop), Begins u o F ∧ F s.heap ∧ (∀ (h : Heap) (it : Addr), h.get? it = some o → k.at it 0 h) ∧ k.low s.heap.objs.size := by
  cases k with
  | l p =>
    obtain ⟨its, rv, q, _⟩ := I.list a
    cases r
    exact ⟨_, _, begins_list p its.toArray, q.isList, fun h it e => ⟨_, e, rfl, rfl⟩, q.lt⟩
  | t p =>
    obtain ⟨its, rv, q, _⟩ := I.tuple a
    cases r
    obtain ⟨o, e, _⟩ := id q
    exact ⟨_, _, begins_tuple p its.toArray, q, fun h it e => ⟨_, e, rfl, rfl⟩, Heap.lt_size e⟩
  | s x =>
    obtain ⟨t, rfl⟩ := r
    exact ⟨_, _, begins_text x t, trivial, fun h it e => ⟨t, _, e, rfl, rfl⟩, trivial⟩
end
def ItzM (K : PySem.W.Frag) (k1 k2 : Kd) : It :=
  ⟨fun i H => ∃ (xs ys : List V) (x y : V), k1.src K H xs ∧ k2.src K H ys ∧ xs[i]? = some x ∧ ys[i]? = some y,
    fun i H v H' => ∃ T x y, v = .ref T ∧ H T = none ∧ H' = upd H T (.tup [x, y]) ∧ (∀ xs, k1.src K H xs → xs[i]? = some x) ∧ ∀ ys, k2.src K H ys → ys[i]? = some y,
    fun i H => ∃ xs ys : List V, k1.src K H xs ∧ k2.src K H ys ∧ i = min xs.length ys.length⟩
def zcells (n : Nat) : List Addr := [n + 4, n + 2, n + 3, n, n + 1]
theorem zsepN {n : Nat} {f1 f2 : List Nat} (l1 : ∀ b ∈ f1, b = n ∨ b < n) (l2 : ∀ b ∈ f2, b = n + 1 ∨ b < n) : (n + 2 ≠ n + 4 ∧ n + 3 ≠ n + 4 ∧ n + 2 ≠ n + 3 ∧ n + 2 ≠ n ∧ n + 2 ≠ n + 1) ∧ (n + 4 ∉ f1 ∧ n + 3 ∉ f1 ∧ n + 1 ∉ f1) ∧ (n + 4 ∉ f2 ∧ n + 3 ∉ f2 ∧ n ∉ f2) := by
  refine ⟨by omega, ⟨fun h => ?_, fun h => ?_, fun h => ?_⟩, fun h => ?_, fun h => ?_, fun h => ?_⟩
  · have := l1 _ h; omega
  · have := l1 _ h; omega
  · have := l1 _ h; omega
  · have := l2 _ h; omega
  · have := l2 _ h; omega
  · have := l2 _ h; omega
theorem zsep {n : Nat} {f1 f2 : List Addr} (m1 : n ∈ f1) (m2 : n + 1 ∈ f2) (l1 : ∀ b ∈ f1, b = n ∨ b < n) (l2 : ∀ b ∈ f2, b = n + 1 ∨ b < n) : ZipSep2 (n + 4) (n + 2) (n + 3) n (n + 1) f1 f2 := by
  obtain ⟨⟨a1, a2, a3, a4, a5⟩, ⟨b1, b2, b3⟩, c1, c2, c3⟩ := zsepN l1 l2
  exact ⟨a1, a2, a3, a4, m1, b1, b2, a5, m2, c1, c2, c3, b3⟩
theorem turn_zipM {P : Program} {w : World} {K : PySem.W.Frag} {elts : List Expr} {kk : Nat} {tpos : Pos} {k1 k2 : Kd} {n : Nat} (lo1 : k1.low n) (lo2 : k2.low n) :
    Turn P w K (.Tuple elts kk tpos) (ItzM K k1 k2) (zcells n) (n + 4) (fun i h => IsZip h (n + 4) (n + 2) (n + 3) .none ∧ IsTupOf2 h (n + 2) (.ref n) (.ref (n + 1)) ∧ (∃ x y, IsTupOf2 h (n + 3) x y) ∧ k1.at n i h ∧ k2.at (n + 1) i h) where
  mem := List.mem_cons_self
  obj := fun i h st c hc => by
    obtain ⟨hz, hTI, ⟨x, y, hTO⟩, h1, h2⟩ := st
    have e' : c = n + 4 ∨ c = n + 2 ∨ c = n + 3 ∨ c = n ∨ c = n + 1 := by simpa [zcells] using hc
    rcases e' with q | q | q | q | q <;> rw [q]
    · exact ⟨_, hz, fun v q => nomatch q⟩
    · exact ⟨_, hTI, fun v q => nomatch q⟩
    · exact ⟨_, hTO, fun v q => nomatch q⟩
    · exact Kd.at_obj h1
    · exact Kd.at_obj h2
  keep := fun i h h' st k => by
    obtain ⟨hz, hTI, ⟨x, y, hTO⟩, h1, h2⟩ := st
    exact ⟨k _ (by simp [zcells]) _ hz, k _ (by simp [zcells]) _ hTI, ⟨x, y, k _ (by simp [zcells]) _ hTO⟩, Kd.at_keep h1 (k _ (by simp [zcells])), Kd.at_keep h2 (k _ (by simp [zcells]))⟩
  item := by
    intro X hP hw hK hc i pins s σ H E I hf st hg
    subst hP hw hK
    obtain ⟨hz, hTI, ⟨x0, y0, hTO⟩, h1, h2⟩ := st
    obtain ⟨xs, ys, x, y, sx, sy, hx, hy⟩ := hg
    have hh : X.A.in1.handled = none := I.ok.hd hc
    obtain ⟨f1, m1, P1, S1, D1, a1, e1, b1, c1, d1, g1⟩ := Kd.draws hh I sx h1 lo1 (Nat.le_refl _)
    obtain ⟨f2, m2, P2, S2, D2, a2, e2, b2, c2, d2, g2⟩ := Kd.draws hh I sy h2 lo2 (Nat.le_succ _)
    have S := zsep b1 b2 c1 c2
    have lx := (List.getElem?_eq_some_iff.mp hx).1
    have ly := (List.getElem?_eq_some_iff.mp hy).1
    have wr : ∀ b ∈ [n + 4, n + 3, n, n + 1], b ∈ zcells n := fun b hb => by
      have e' : b = n + 4 ∨ b = n + 3 ∨ b = n ∨ b = n + 1 := by simpa using hb
      rcases e' with q | q | q | q <;> rw [q] <;> simp [zcells]
    refine (WalksT.zipD2 S D1 D2).item i s _ _ (by omega) ⟨hz, hTI, ⟨_, _, hTO⟩, a1, a2⟩ fun T vals h' tk hP hle isT mid kp => ?_
    obtain ⟨u1, u2, p1, p2, rfl⟩ := hP
    have nT := (WalksT.zipD2 S D1 D2).apart _ _ _ mid
    refine ⟨_, rfl, (WalksT.zipD2 S D1 D2).go _ _ _ i T _ _ _ mid fun h'' st'' kp2 => ?_⟩
    obtain ⟨z3, t3, o3, s3, s4⟩ := st''
    obtain ⟨x', ex, rx⟩ := d1 _ _ p1
    obtain ⟨y', ey, ry⟩ := d2 _ _ p2
    have isT2 : IsTup h'' T #[u1, u2] := by
      obtain ⟨o, q, r⟩ := isT
      exact ⟨o, kp2 _ _ nT q, r⟩
    have new : ObjOk X.prog X.w (upd H T (.tup [x', y'])) h'' T (.tup [x', y']) := ⟨by show 2 ≤ sizeLine; decide, [u1, u2], .cons rx (.cons ry .nil), isT2⟩
    have I1 : Inv X pins σ (upd H T (.tup [x', y'])) { s with heap := h'', toks := tk } :=
      I.turnedNew (ch := [n + 4, n + 3, n, n + 1]) (fun c o hb q => kp2 c o hb (kp c o hb q)) (fun b hb => hf b (wr b hb)) hle new
    have old : ∀ c ∈ zcells n, upd H T (.tup [x', y']) c = none := fun c hcm => by
      obtain ⟨o, e, _⟩ : ∃ o, s.heap.get? c = some o ∧ True := by
        have e' : c = n + 4 ∨ c = n + 2 ∨ c = n + 3 ∨ c = n ∨ c = n + 1 := by simpa [zcells] using hcm
        rcases e' with q | q | q | q | q <;> rw [q]
        · exact ⟨_, hz, trivial⟩
        · exact ⟨_, hTI, trivial⟩
        · exact ⟨_, hTO, trivial⟩
        · obtain ⟨o, e, _⟩ := Kd.at_obj h1; exact ⟨o, e, trivial⟩
        · obtain ⟨o, e, _⟩ := Kd.at_obj h2; exact ⟨o, e, trivial⟩
      rw [upd_ne (Nat.ne_of_lt (Nat.lt_of_lt_of_le (Heap.lt_size e) hle))]
      exact (hf c hcm).1
    exact ⟨.ref T, _, I1, rfl, ⟨T, x', y', rfl, I.hok.fresh hle, rfl, fun l hl => by rw [Kd.src_inj I hl sx]; exact ex, fun l hl => by rw [Kd.src_inj I hl sy]; exact ey⟩, ⟨z3, t3, o3, g1 _ _ s3, g2 _ _ s4⟩, old⟩
  done := by
    intro X hP hw hK hc i pins s σ H E I hf st hg
    subst hP hw hK
    obtain ⟨hz, hTI, ⟨x0, y0, hTO⟩, h1, h2⟩ := st
    obtain ⟨xs, ys, sx, sy, hi⟩ := hg
    have hh : X.A.in1.handled = none := I.ok.hd hc
    obtain ⟨f1, m1, P1, S1, D1, a1, e1, b1, c1, d1, g1⟩ := Kd.draws hh I sx h1 lo1 (Nat.le_refl _)
    obtain ⟨f2, m2, P2, S2, D2, a2, e2, b2, c2, d2, g2⟩ := Kd.draws hh I sy h2 lo2 (Nat.le_succ _)
    have S := zsep b1 b2 c1 c2
    have wr : ∀ b ∈ [n + 4, n + 3, n, n + 1], b ∈ zcells n := fun b hb => by
      have e' : b = n + 4 ∨ b = n + 3 ∨ b = n ∨ b = n + 1 := by simpa using hb
      rcases e' with q | q | q | q <;> rw [q] <;> simp [zcells]
    rw [← e1, ← e2] at hi
    subst hi
    exact (WalksT.zipD2 S D1 D2).done s _ _ ⟨hz, hTI, ⟨_, _, hTO⟩, a1, a2⟩ fun h' tk kp => ⟨rfl, I.turnedL kp fun b hb => hf b (wr b hb)⟩
  self := fun A i s Q E st h => wpAny_pyIter_zip st.1 h
def iZipM (K : PySem.W.Frag) (ta : TA) : TI := fun σ H R => ta σ H fun vs H1 => ∃ (k1 k2 : Kd) (xs ys : List V), vs = [k1.v, k2.v] ∧ k1.src K H1 xs ∧ k2.src K H1 ys ∧ R (ItzM K k1 k2) H1
theorem pi_zipM {X : Cx} {e e2 : Expr} {ta : TA} {p pos tpos : Pos} {elts : List Expr} {kk : Nat} (hg : Gl X "zip") (hm : X.mg "zip" = none) (ha : PA X [e, e2] ta)
    (hs : starEach [e, e2] X.env = (false, eval e X.env) :: starEach [e2] X.env := by rfl) (plain : (backTo pos (starEach [e2] X.env)).any (·.1) = false := by rfl) :
    PI X (.Tuple elts kk tpos) (.Call (.Name "zip" p) [e, e2] [] pos) (iZipM X.K ta) := by
  refine ⟨fun pins s σ H R I h => ?_⟩
  refine Call_ (ld_blt I hg hm PyProof.Rows.boot_zip (PyProof.Rows.callWith_type1 (thn (ha.run pos pins s σ H _ I h) ?_) hs plain))
  rintro us s1 ⟨vs, H1, I1, r1, k1, k2, xs, ys, rfl, sx, sy, q⟩
  cases r1 with
  | cons r rr =>
    cases rr with
    | cons r' rr =>
      cases rr
      obtain ⟨o1, F1, B1, f1, a1, lo1⟩ := Kd.begins I1 sx r
      obtain ⟨o2, F2, B2, f2, a2, lo2⟩ := Kd.begins I1 sy r'
      refine zip_begins2 B1 B2 f1 f2 fun h' hz hTI hTO h1 h2 hsz hk => wpAny_pyIter_zip hz ?_
      have I2 : Inv X pins σ H1 { s1 with heap := h' } := I1.kept (t' := s1.toks) hk
      refine ⟨s1.heap.objs.size + 4, zcells s1.heap.objs.size, _, _, H1, rfl, I2, turn_zipM lo1 lo2, ⟨hz, hTI, ⟨_, _, hTO⟩, a1 _ _ h1, a2 _ _ h2⟩, fun c hcm => ?_, q⟩
      have hle : s1.heap.objs.size ≤ c := by
        have e' : c = s1.heap.objs.size + 4 ∨ c = s1.heap.objs.size + 2 ∨ c = s1.heap.objs.size + 3 ∨ c = s1.heap.objs.size ∨ c = s1.heap.objs.size + 1 := by simpa [zcells] using hcm
        rcases e' with z | z | z | z | z <;> rw [z]
        · exact Nat.le_add_right _ _
        · exact Nat.le_add_right _ _
        · exact Nat.le_add_right _ _
        · exact Nat.le_refl _
        · exact Nat.le_add_right _ _
      exact I1.fpOk hle (I1.hok.fresh hle)
/-- a loop over zip of two of one length -/
theorem for_zipM {K : PySem.W.Frag} {k1 k2 : Kd} {xs ys : List V} {g : TG} {tb : TS} {D : Ends} {σ : L2.St} {H : Hp} (hl : xs.length = ys.length) (Pv : Nat → L2.St → Hp → Prop) (h0 : Pv 0 σ H) (hq : ∀ i σ H, Pv i σ H → k1.src K H xs ∧ k2.src K H ys)
    (hs : ∀ (i : Nat) (x y : V) (T : Addr) (σ : L2.St) (H : Hp), xs[i]? = some x → ys[i]? = some y → Pv i σ H → H T = none → g (.ref T) σ (upd H T (.tup [x, y])) fun σ2 H2 => tb { D with nx := Pv (i + 1), ct := Pv (i + 1), bk := D.nx } σ2 H2) (hd : ∀ σ H, Pv xs.length σ H → D.nx σ H) :
    ∃ W : Nat → Nat → L2.St → Hp → Prop, (∃ m, W 0 m σ H) ∧ ∀ i m σ H, W i m σ H →
      ((ItzM K k1 k2).stop i H ∧ D.nx σ H) ∨ ((ItzM K k1 k2).go i H ∧ ∃ N : L2.St → Hp → Prop, (∀ σ' H', N σ' H' → ∃ m', m' < m ∧ W (i + 1) m' σ' H') ∧ ∀ v H', (ItzM K k1 k2).yld i H v H' → g v σ H' fun σ2 H2 => tb { D with nx := N, ct := N, bk := D.nx } σ2 H2) := by
  refine ⟨fun i m σ H => m = xs.length - i ∧ i ≤ xs.length ∧ Pv i σ H, ⟨_, rfl, Nat.zero_le _, h0⟩, ?_⟩
  rintro i m σ H ⟨rfl, hi, p⟩
  obtain ⟨qx, qy⟩ := hq i σ H p
  rcases Nat.lt_or_ge i xs.length with lt | ge
  · have hx : xs[i]? = some xs[i] := List.getElem?_eq_getElem lt
    have hy : ys[i]? = some (ys[i]'(by omega)) := List.getElem?_eq_getElem (by omega)
    refine .inr ⟨⟨xs, ys, _, _, qx, qy, hx, hy⟩, Pv (i + 1), fun σ' H' p' => ⟨_, by omega, rfl, lt, p'⟩, ?_⟩
    rintro v H' ⟨T, x', y', rfl, hT, rfl, z1, z2⟩
    exact hs i x' y' T σ H (z1 xs qx) (z2 ys qy) p hT
  · have e : i = xs.length := by omega
    subst e
    exact .inl ⟨⟨xs, ys, qx, qy, by omega⟩, hd σ H p⟩
/-- a comprehension over zip of two of one length -/
theorem lc_zipM {K : PySem.W.Frag} {k1 k2 : Kd} {xs ys : List V} {g : TG} {tt : TT} {te : L2.TE} {vs : List Nat} {σ : L2.St} {H1 : Hp} {D : Addr} {Qd : Hp → Prop} (hl : xs.length = ys.length) (Pv : Nat → Hp → Prop) (h0 : Pv 0 (upd H1 D (.lst []))) (hq : ∀ i H, Pv i H → k1.src K H xs ∧ k2.src K H ys)
    (hs : ∀ (i : Nat) (x y : V) (T : Addr) (H : Hp), xs[i]? = some x → ys[i]? = some y → Pv i H → H T = none → g (.ref T) (wipe σ vs) (upd H T (.tup [x, y])) fun σ2 H2 => wipe σ2 vs = wipe σ vs ∧ tt σ2 H2 fun b H3 =>
      if b = true then te σ2 H3 fun y H4 => ∃ acc, H4 D = some (.lst acc) ∧ acc.length < sizeLine ∧ Pv (i + 1) (upd H4 D (.lst (acc ++ [y]))) else Pv (i + 1) H3) (hd : ∀ H, Pv xs.length H → Qd H) :
    ∃ W : Nat → Nat → Hp → Prop, (∃ m, W 0 m (upd H1 D (.lst []))) ∧ ∀ i m H, W i m H →
      ((ItzM K k1 k2).stop i H ∧ Qd H) ∨ ((ItzM K k1 k2).go i H ∧ ∃ Nx : Hp → Prop, (∀ H', Nx H' → ∃ m', m' < m ∧ W (i + 1) m' H') ∧ ∀ x H', (ItzM K k1 k2).yld i H x H' → g x (wipe σ vs) H' fun σ2 H2 => wipe σ2 vs = wipe σ vs ∧ tt σ2 H2 fun b H3 =>
        if b = true then te σ2 H3 fun y H4 => ∃ acc, H4 D = some (.lst acc) ∧ acc.length < sizeLine ∧ Nx (upd H4 D (.lst (acc ++ [y]))) else Nx H3) := by
  refine ⟨fun i m H => m = xs.length - i ∧ i ≤ xs.length ∧ Pv i H, ⟨_, rfl, Nat.zero_le _, h0⟩, ?_⟩
  rintro i m H ⟨rfl, hi, p⟩
  obtain ⟨qx, qy⟩ := hq i H p
  rcases Nat.lt_or_ge i xs.length with lt | ge
  · have hx : xs[i]? = some xs[i] := List.getElem?_eq_getElem lt
    have hy : ys[i]? = some (ys[i]'(by omega)) := List.getElem?_eq_getElem (by omega)
    refine .inr ⟨⟨xs, ys, _, _, qx, qy, hx, hy⟩, Pv (i + 1), fun H' p' => ⟨_, by omega, rfl, lt, p'⟩, ?_⟩
    rintro v H' ⟨T, x', y', rfl, hT, rfl, z1, z2⟩
    exact hs i x' y' T H (z1 xs qx) (z2 ys qy) p hT
  · have e : i = xs.length := by omega
    subst e
    exact .inl ⟨⟨xs, ys, qx, qy, by omega⟩, hd H p⟩

/-! ### match: a word and captures -/
inductive CapsOk (X : Cx) : List Pattern → List Nat → Prop
  | nil : CapsOk X [] []
  | cons {n : Str} {p : Pos} {i : Nat} {ps : List Pattern} {is : List Nat} (hi : X.N[i]? = some n) (hx : Loc X.env.scope n) (hf : X.fn n = true ∨ X.env.scope.names.lookup n = some .local) (r : CapsOk X ps is) : CapsOk X (.MatchAs none (some n) p :: ps) (i :: is)
def capN : Pattern → Str
  | .MatchAs _ (some n) _ => n
  | _ => ""
def bnd (ps : List Pattern) (us : List Value) : List (Str × Value) := (ps.map capN).zip us
def tSets : List Nat → List V → L2.St → L2.St
  | i :: is, x :: xs, σ => tSets is xs (σ.set i (some x))
  | _, _, σ => σ
section
variable {X : Cx} {ps : List Pattern} {is : List Nat}
theorem CapsOk.len (c : CapsOk X ps is) : ps.length = is.length := by
  induction c with
  | nil => rfl
  | cons _ _ _ _ ih => exact congrArg (· + 1) ih
theorem CapsOk.star (c : CapsOk X ps is) : ps.findIdx? (·.isStar) = none := by
  induction c with
  | nil => rfl
  | cons _ _ _ _ ih =>
    rw [List.findIdx?_cons, ih]
    rfl
theorem CapsOk.each {M : Model} {A : Around} {E : Value → Shared → Prop} {env : Env} {Q : Option (List (Str × Value)) → Shared → Prop} {s : Shared} (c : CapsOk X ps is) : ∀ {us : List Value}, us.length = ps.length → Q (some (bnd ps us)) s → wpAny M A (matchEach ps env us) Q E s := by
  induction c generalizing Q with
  | nil =>
    intro us hl h
    cases us with
    | nil => exact wpAny_matchEach_nil h
    | cons _ _ => cases hl
  | cons _ _ _ _ ih =>
    intro us hl h
    cases us with
    | nil => cases hl
    | cons u us => exact wpAny_matchEach_cons (wpAny_matchPattern_Capture (ih (Nat.succ.inj hl) h))
theorem CapsOk.store {M : Model} {E : Value → Shared → Prop} {pins : List (Addr × Obj)} {H : Hp} (nd : X.N.Nodup) (c : CapsOk X ps is) : ∀ {σ : L2.St} {s : Shared} {xs : List V} {us : List Value} {Q : Unit → Shared → Prop}, Inv X pins σ H s → Vals xs us → xs.length = is.length →
    (∀ s', Inv X pins (tSets is xs σ) H s' → Q () s') → wpAny M X.A (assignInOrder ((bnd ps us).map fun (n, _) => bindName X.env n) ((bnd ps us).map (·.2))) Q E s := by
  induction c with
  | nil =>
    intro σ s xs us Q I r hl h
    cases r with
    | nil => exact wpAny_assignInOrder_none (h s I)
    | cons _ _ => cases hl
  | cons hi hx hf _ ih =>
    intro σ s xs us Q I r hl h
    cases r with
    | nil => cases hl
    | cons r rr => exact wpAny_assignInOrder_more (wpAny_bindName (store_ok I nd hi hx r (fun s' I' => ih I' rr (Nat.succ.inj hl) h) hf))
end
inductive CsOk (X : Cx) : List MatchCase → List (Str × List Nat × TS) → Prop
  | nil : CsOk X [] []
  | cons {k : Str} {j : Nat} {p1 p2 p3 : Pos} {ps : List Pattern} {is : List Nat} {body : List Stmt} {ts : TS} {cs : List MatchCase} {l : List (Str × List Nat × TS)} (hc : CapsOk X ps is) (hb : PSs X body ts) (r : CsOk X cs l) :
      CsOk X (⟨.MatchSequence (.MatchValue (.Constant (.str k) j p1) p2 :: ps) p3, none, body⟩ :: cs) ((k, is, ts) :: l)
def tMC : List (Str × List Nat × TS) → Str → List V → TS
  | [], _, _ => fun D σ H => D.nx σ H
  | (k, is, ts) :: r, w, xs => fun D σ H => if xs.length = is.length ∧ w = k then ts D (tSets is xs σ) H else tMC r w xs D σ H
def tMatch (K : PySem.W.Frag) (te : L2.TE) (l : List (Str × List Nat × TS)) : TS := fun D σ H => te σ H fun v H1 => ∃ (a : Addr) (w : Str) (xs : List V), v = .ref a ∧ SqT K H1 a (.str w :: xs) ∧ tMC l w xs D σ H1
theorem ps_match {X : Cx} {e : Expr} {te : L2.TE} {cs : List MatchCase} {l : List (Str × List Nat × TS)} {pos : Pos} (calm : X.calm = true) (nd : X.N.Nodup) (he : PE X e te) (hc : CsOk X cs l) : PS X (.Match e cs pos) (tMatch X.K te l) := by
  refine ⟨fun pins s σ H D I h => wpAny_Match (thn (he.run pins s σ H _ I h) ?_)⟩
  rintro v s1 ⟨x, H1, I1, r1, a, w, xs, rfl, sq, q⟩
  cases r1
  have go : ∀ (b : Bool) (s : Shared), Inv X pins σ H1 s → wpAny (model X.prog X.w) X.A (matchCases cs X.env (.ref a) b) (SP X pins D) X.xe s := by
    clear h he
    induction hc with
    | nil => exact fun b s I => wpAny_matchCases_nil ⟨σ, H1, I, q⟩
    | @cons k j p1 p2 p3 ps is body ts cs l hcap hb _ ih =>
      intro b s I
      obtain ⟨its, rv, p, small⟩ := I.tuple sq
      have len := rv.length
      have z0 : if xs.length = is.length ∧ w = k then ts D (tSets is xs σ) H1 else tMC l w xs D σ H1 := q
      have fit : ((its.toArray.size : Nat) : Int) < 2 ^ 63 := by
        have s63 : sizeLine < 2 ^ 63 := by decide +kernel
        rw [List.size_toArray]
        omega
      have star : (Pattern.MatchValue (.Constant (.str k) j p1) p2 :: ps).findIdx? (·.isStar) = none := by
        rw [List.findIdx?_cons, hcap.star]
        rfl
      refine wpAny_matchCases_cons ?_
      by_cases hl : xs.length = is.length
      · have hl2 : its.toArray.size = (Pattern.MatchValue (.Constant (.str k) j p1) p2 :: ps).length := by
          rw [List.size_toArray, ← len, List.length_cons, List.length_cons, hcap.len, hl]
        refine matchSeq_tuple_hit p fit hl2 ?_ star rfl
        rw [← hl2]
        refine wpAny_unpackItems_tuple (s := { s with toks := s.toks + 1 + 1 }) (I.ok.hd calm) p fun h' hx => ?_
        have I2 : Inv X pins σ H1 { s with heap := h', toks := s.toks + 1 + 1 } := I.kept fun b o e => hx b o (Nat.ne_of_lt (Heap.lt_size e)) e
        cases rv with
        | @cons _ u _ us r rr =>
          obtain ⟨t, rfl⟩ := r
          have lu : us.length = ps.length := by rw [← rr.length, hl, hcap.len]
          refine wpAny_matchEach_cons (wpAny_matchPattern_Value (Calls.Constant_str (PyProof.Rows.eq_str (wpAny_truthy_bool ?_))))
          by_cases hw : w = k
          · rw [if_pos ⟨hl, hw⟩] at z0
            clear q
            subst hw
            rw [if_pos (beq_self_eq_true w)]
            refine hcap.each lu ?_
            show wpAny _ _ (assignInOrder ((bnd ps us).map fun (n, _) => bindName X.env n) ((bnd ps us).map (·.2))) _ _ _
            exact hcap.store nd (I2.tok _) rr hl fun s' I' => hb.run pins s' _ H1 D I' z0
          · rw [if_neg fun z => hw z.2] at z0
            rw [if_neg fun z => hw (eq_of_beq z)]
            exact ih z0 _ _ (I2.tok _)
      · rw [if_neg fun z => hl z.1] at z0
        refine matchSeq_tuple_miss p fit (fun z => hl ?_) ?_ star rfl
        · rw [List.size_toArray, ← len, List.length_cons, List.length_cons, hcap.len] at z
          exact Nat.succ.inj z
        · exact ih z0 _ _ (I.tok _)
  exact go true s1 I1

/-! ### what the top has written of the wheels -/
structure WT (K : PySem.W.Frag) (mg : Str → Option Value) (CS CW CB CT CN : Addr) : Prop where
  clS : Cls K CS
  clW : Cls K CW
  aShare : NoAttr K CS "share"
  aClock : NoAttr K CS "clock"
  aReady : NoAttr K CS "ready"
  aPast : NoAttr K CW "past"
  aSh : NoAttr K CW "_sharers"
  gB : mg "BadShare" = some (.ref CB)
  gT : mg "Twice" = some (.ref CT)
  gN : mg "NoName" = some (.ref CN)
  eB : ExcT K CB
  eT : ExcT K CT
  eN : ExcT K CN
  isi : mg "isinstance" = none
  int : mg "int" = none
  bool : mg "bool" = none
  str : mg "str" = none
  max : mg "max" = none
  list : mg "list" = none
  mR : ∃ t, mg "ROUND" = some (.int 27720 t)
  mM : ∃ t, mg "MOST" = some (.int 12 t)
/-! ### what each def promises -/
def spStands : Sp := fun vs H Q _ => ∃ x d ks, vs = [x, .ref d] ∧ Th H x ∧ H d = some (.dK ks) ∧ (∀ z, x = .str z → Q (.bl (valV ks (Sum.inr z : Key)).isSome) H) ∧ (isS x = false → Q (.bl false) H)
def spWhole : Sp := fun vs H Q _ => ∃ x, vs = [x] ∧ Th H x ∧ Q (.bl (isI x)) H
def spStep (CB : Addr) : Sp := fun vs H Q E => ∃ x, vs = [x] ∧ Th H x ∧ (∀ i, x = .int i → 1 ≤ i → i ≤ 12 → Q (.int (Wm.stp i)) H) ∧ (good x = false → E (.ref CB) none H)
def spSInit (CS : Addr) : Sp := fun vs H Q _ => ∃ p dx s, vs = [.ref p, .int s] ∧ H p = some (.ins CS dx []) ∧ Q .non (upd H p (.ins CS dx (sf s 0 false)))
def spSCopied (CS : Addr) : Sp := fun vs H Q _ => ∃ a dx s c r, vs = [.ref a] ∧ H a = some (.ins CS dx (sf s c r)) ∧ ∀ b dy H', H b = none → Same H H' → H' b = some (.ins CS dy (sf s c r)) → Q (.ref b) H'
def spWInit (CW CS : Addr) : Sp := fun vs H Q _ => ∃ p dx, vs = [.ref p] ∧ H p = some (.ins CW dx []) ∧ ∀ d H', H d = none → WIn CW CS H' p d 0 [] → (∀ b o, H b = some o → b ≠ p → H' b = some o) → Q .non H'
def spSharer (CW CS CN : Addr) : Sp := fun vs H Q E => ∃ p d q es n, vs = [.ref p, .str n] ∧ WIn CW CS H p d q es ∧ (∀ e ∈ es, e.1.n = n → Q (.ref e.2) H) ∧ ((∀ e ∈ es, e.1.n ≠ n) → E (.ref CN) none H)
/-- is the name there -/
def Has (W : WhS) (n : Str) : Prop := ∃ x ∈ W.rows, x.n = n
def spEnter (CW CS CB CT : Addr) : Sp := fun vs H Q E => ∃ p W fp n x, vs = [.ref p, .str n, x] ∧ WAt CW CS H p W fp ∧ W.rows.length ≤ 1000 ∧ Th H x ∧ (Has W n → E (.ref CT) none H) ∧ (¬ Has W n → good x = false → E (.ref CB) none H) ∧
  (¬ Has W n → ∀ s, x = .int s → 1 ≤ s → s ≤ 12 → ∀ H' fp', WAt CW CS H' p (Wm.enter W n s) fp' → Step fp H fp' H' → Q .non H')
def spLeave (CW CS CN : Addr) : Sp := fun vs H Q E => ∃ p W fp n, vs = [.ref p, .str n] ∧ WAt CW CS H p W fp ∧ (¬ Has W n → E (.ref CN) none H) ∧ (Has W n → ∀ H' fp', WAt CW CS H' p (Wm.leave W n) fp' → Step fp H fp' H' → Q .non H')
def spReshare (CW CS CB CN : Addr) : Sp := fun vs H Q E => ∃ p W fp n x, vs = [.ref p, .str n, x] ∧ WAt CW CS H p W fp ∧ Th H x ∧ (¬ Has W n → E (.ref CN) none H) ∧ (Has W n → good x = false → E (.ref CB) none H) ∧
  (Has W n → ∀ s, x = .int s → 1 ≤ s → s ≤ 12 → ∀ H', WAt CW CS H' p (Wm.reshare W n s) fp → Step fp H fp H' → Q .non H')
def spWake (CW CS CN : Addr) : Sp := fun vs H Q E => ∃ p W fp n, vs = [.ref p, .str n] ∧ WAt CW CS H p W fp ∧ (¬ Has W n → E (.ref CN) none H) ∧
  (∀ x ∈ W.rows, x.n = n → ∀ H', WAt CW CS H' p (Wm.wake W n) fp → Step fp H fp H' → Q (.bl (!x.r)) H')
def spRest (CW CS CN : Addr) : Sp := fun vs H Q E => ∃ p W fp n, vs = [.ref p, .str n] ∧ WAt CW CS H p W fp ∧ (¬ Has W n → E (.ref CN) none H) ∧
  (∀ x ∈ W.rows, x.n = n → ∀ H', WAt CW CS H' p (Wm.rest W n) fp → Step fp H fp H' → Q (.bl x.r) H')
/-- a name, or None -/
def optN : Option Str → V
  | none => .non
  | some n => .str n
def spWhose (CW CS : Addr) : Sp := fun vs H Q _ => ∃ p W fp, vs = [.ref p] ∧ WAt CW CS H p W fp ∧ ∀ H', Same H H' → Q (optN (Wm.whose W)) H'
def spTurn (CW CS : Addr) : Sp := fun vs H Q _ => ∃ p W fp, vs = [.ref p] ∧ WAt CW CS H p W fp ∧ ∀ H', WAt CW CS H' p (Wm.turn W) fp → Step fp H fp H' → Q (optN (Wm.whose W)) H'
def spNames (CW CS : Addr) : Sp := fun vs H Q _ => ∃ p W fp, vs = [.ref p] ∧ WAt CW CS H p W fp ∧ ∀ l, H l = none → Q (.ref l) (upd H l (.lst (W.rows.map fun x => V.str x.n)))
def spAsk (CW CS CN : Addr) (g : RowS → V) : Sp := fun vs H Q E => ∃ p W fp n, vs = [.ref p, .str n] ∧ WAt CW CS H p W fp ∧ (¬ Has W n → E (.ref CN) none H) ∧ (∀ x ∈ W.rows, x.n = n → Q (g x) H)
def spCopied (CW CS : Addr) : Sp := fun vs H Q _ => ∃ p W fp, vs = [.ref p] ∧ WAt CW CS H p W fp ∧ W.rows.length ≤ 1000 ∧ ∀ p' fp' H', WAt CW CS H' p' W fp' → Same H H' → (∀ b ∈ fp', H b = none) → Q (.ref p') H'
/-- a new wheel, made -/
theorem mk_wheel {CW CS : Addr} {E : XK} {H : Hp} {Q : VK} {x dx : Addr} (hx : H x = none) (hdx : H dx = none) (k : ∀ H' fp, WAt CW CS H' x ⟨0, []⟩ fp → Same H H' → (∀ b ∈ fp, H b = none) → Q .non H') :
    spWInit CW CS [.ref x] (upd (upd H dx (.own x)) x (.ins CW dx [])) Q E := by
  refine ⟨x, dx, rfl, upd_same, fun d H' hd w k' => k H' [x, d] ⟨d, [], rfl, rfl, w, Wm.Ok.new⟩ (fun b o e => k' b o ?_ (ne_of_none e hx)) fun b hb => ?_⟩
  · rw [upd_ne (ne_of_none e hx), upd_ne (ne_of_none e hdx)]
    exact e
  · rcases List.mem_cons.mp hb with rfl | hb
    · exact hx
    · have e := List.mem_singleton.mp hb
      subst e
      cases q : H b with
      | none => rfl
      | some o =>
        have := same_made (C := CW) (fs := []) hx hdx b o q
        rw [hd] at this
        cases this
section
variable {P : Program} {w : World} {K : PySem.W.Frag} {mg : Str → Option Value} {base : Heap} {CS CW CB CT CN : Addr}
theorem has_of {W : WhS} {es : List En} (e : W.rows = es.map (·.1)) {n : Str} : Has W n ↔ ∃ x ∈ es, x.1.n = n := by
  unfold Has
  rw [e]
  constructor
  · rintro ⟨x, hx, h⟩
    obtain ⟨y, hy, rfl⟩ := List.mem_map.mp hx
    exact ⟨y, hy, h⟩
  · rintro ⟨y, hy, h⟩
    exact ⟨y.1, List.mem_map.mpr ⟨y, hy, rfl⟩, h⟩
theorem sc_stands : FnScope ["thing", "table"] ["thing", "table"] (defScope s_stands_in) := ⟨rfl, rfl, rfl, by decide +kernel, rfl, by decide +kernel, by decide +kernel⟩
theorem ok_stands {f : Addr} {fd : FuncData} (F : Fun K "stands_in" "stands_in" s_stands_in f fd) (T : WT K mg CS CW CB CT CN) : FnOk P w K mg base (L2.CX P w) 1 f fd ["thing", "table"] spStands := by
  refine okN F sc_stands (fun vs H Q E h => ?_) (fun cdv A outer s H vs Q E hr h => ?_)
  · obtain ⟨x, d, ks, rfl, _⟩ := h
    rfl
  · obtain ⟨x, d, ks, rfl, hx, hd, k1, k2⟩ := h
    have hu := hu_of hr
    refine ⟨_, pss_one (ps_ret (pe_and (pe_callB call_isi (by rfl) T.isi boot_isinstance (pa_cons (pv 0) (pa_cons (pe_bltn (v := .ty "str") (by rfl) T.str PyProof.Rows.boot_str rfl) pa_nil))) (pe_one (pe_cmp (pc_din hu (pv 0) (pv 1)))))), ?_⟩
    obtain ⟨t, ty, _, _, e3⟩ := hx.ty (K := K)
    refine ⟨_, rfl, _, _, t, _, _, rfl, .ty _, ty, e3, _, rfl, ?_⟩
    cases hx with
    | int i => exact iteF (k2 rfl)
    | bl b => exact iteF (k2 rfl)
    | non => exact iteF (k2 rfl)
    | lst e => exact iteF (k2 rfl)
    | str z => exact iteT ⟨_, rfl, _, rfl, d, _, rfl, DGet.k (k := Sum.inr z) hd, k1 z rfl⟩
theorem sc_whole : FnScope ["thing"] ["thing"] (defScope s_is_whole) := ⟨rfl, rfl, rfl, by decide +kernel, rfl, by decide +kernel, by decide +kernel⟩
theorem ok_whole {f : Addr} {fd : FuncData} (F : Fun K "is_whole" "is_whole" s_is_whole f fd) (T : WT K mg CS CW CB CT CN) : FnOk P w K mg base (L2.CX P w) 1 f fd ["thing"] spWhole := by
  refine okN F sc_whole (fun vs H Q E h => ?_) (fun cdv A outer s H vs Q E hr h => ?_)
  · obtain ⟨x, rfl, _⟩ := h
    rfl
  · obtain ⟨x, rfl, hx, k⟩ := h
    refine ⟨_, pss_one (ps_ret (pe_and (pe_callB call_isi (by rfl) T.isi boot_isinstance (pa_cons (pv 0) (pa_cons (pe_bltn (v := .ty "int") (by rfl) T.int PyProof.Rows.boot_int rfl) pa_nil)))
      (pe_one (pe_not (pe_callB call_isi (by rfl) T.isi boot_isinstance (pa_cons (pv 0) (pa_cons (pe_bltn (v := .ty "bool") (by rfl) T.bool PyProof.Rows.boot_bool rfl) pa_nil))))))), ?_⟩
    obtain ⟨t, ty, e1, e2, _⟩ := hx.ty (K := K)
    refine ⟨_, rfl, _, _, t, _, _, rfl, .ty _, ty, e1, _, rfl, ?_⟩
    have k2 : isI x = false → Q (.bl false) H := fun z => by rw [← z]; exact k
    cases hx with
    | int i => exact iteT ⟨_, rfl, _, _, t, _, _, rfl, .ty _, ty, e2, _, rfl, k⟩
    | bl b => exact iteT ⟨_, rfl, _, _, t, _, _, rfl, .ty _, ty, e2, _, rfl, k⟩
    | non => exact iteF (k2 rfl)
    | str z => exact iteF (k2 rfl)
    | lst e => exact iteF (k2 rfl)
theorem sc_step : FnScope ["share"] ["share"] (defScope s_step) := ⟨rfl, rfl, rfl, by decide +kernel, rfl, by decide +kernel, by decide +kernel⟩
theorem ok_step {f : Addr} {fd : FuncData} (F : Fun K "step" "step" s_step f fd) (T : WT K mg CS CW CB CT CN) (GW : DOk P w K mg base 1 "is_whole" ["thing"] spWhole) : FnOk P w K mg base (L2.CX P w) 2 f fd ["share"] (spStep CB) := by
  refine F.okX sc_step (fun vs H Q E h => ?_) (fun cdv A outer s H vs Q E hr h => ?_)
  · obtain ⟨x, rfl, _⟩ := h
    rfl
  · obtain ⟨x, rfl, hx, k, e⟩ := h
    obtain ⟨tR, mR⟩ := T.mR
    obtain ⟨tM, mM⟩ := T.mM
    refine ⟨_, pss_cons (ps_if (PW.pt (pw_or (pt_not (pt_val (pe_f GW hr (Nat.le_refl _) (by rfl) (fun σ => passN σ) (pa_cons (pv 0) pa_nil)))) (pw_or1 (pt_not (pt_chain op_le op_le pe_int (pv 0) (pe_glob (v := .int 12) rfl mM ⟨_, rfl⟩))))))
        (pss_one (ps_raise rfl (takes_of rfl rfl rfl rfl) (pmk_ownA PySem.F.excBase_ValueError T.eB.x T.gB T.eB.k (raises_own T.eB.b T.eB.t) (by exact rfl)
          (pa_cons (pe_joined (.cons pe_str (.cons (pe_fmt (pe_glob (v := .int 12) rfl mM ⟨_, rfl⟩)) .nil))) pa_nil)))) pss_nil)
      (pss_one (ps_ret (pe_op op_fdivN (pe_glob (v := .int 27720) rfl mR ⟨_, rfl⟩) (pv 0)))), ?_⟩
    refine ⟨_, rfl, x, rfl, hx, _, rfl, ?_⟩
    have bad : good x = false → tJs [tC (.str "a share is a whole number from 1 to "), tFmt (tC (.int 12))] Str.empty [some x] H fun out H1 => (1 ≤ sizeLine ∧ E (.ref CB) none H1) := fun z => by
      refine ⟨_, rfl, (by decide +kernel), .inr ⟨12, rfl, by decide +kernel, _, rfl, (by decide +kernel), by decide, e z⟩⟩
    cases hx with
    | int i =>
      refine iteF ⟨_, rfl, _, _, rfl, rfl, _, rfl, ?_⟩
      by_cases h1 : (1 : Int) ≤ i
      · rw [if_pos (decide_eq_true h1)]
        refine ⟨_, _, rfl, rfl, _, rfl, ?_⟩
        by_cases h2 : i ≤ 12
        · rw [decide_eq_true h2]
          refine iteF ?_
          exact ⟨_, rfl, _, _, rfl, rfl, ⟨by omega, by omega⟩, k i rfl h1 h2⟩
        · rw [decide_eq_false h2]
          refine iteT ?_
          exact bad (by show (decide (1 ≤ i) && decide (i ≤ 12)) = false; rw [decide_eq_false h2, Bool.and_false])
      · rw [if_neg (by rw [decide_eq_false h1]; exact Bool.false_ne_true)]
        refine ⟨_, rfl, ?_⟩
        refine iteT ?_
        exact bad (by show (decide (1 ≤ i) && decide (i ≤ 12)) = false; rw [decide_eq_false h1, Bool.false_and])
    | bl b => exact iteT (iteT (bad rfl))
    | non => exact iteT (iteT (bad rfl))
    | str z => exact iteT (iteT (bad rfl))
    | lst e => exact iteT (iteT (bad rfl))
theorem sc_sinit : FnScope ["self", "share"] ["self", "share"] (defScope sSharer_init) := ⟨rfl, rfl, rfl, by decide +kernel, rfl, by decide +kernel, by decide +kernel⟩
theorem ok_sinit {f : Addr} {fd : FuncData} (F : Fun K "__init__" "Sharer.__init__" sSharer_init f fd) (T : WT K mg CS CW CB CT CN) : FnOk P w K mg base (L2.CX P w) 1 f fd ["self", "share"] (spSInit CS) := by
  refine okN F sc_sinit (fun vs H Q E h => ?_) (fun cdv A outer s H vs Q E hr h => ?_)
  · obtain ⟨p, dx, z, rfl, _⟩ := h
    rfl
  · obtain ⟨p, dx, z, rfl, hp, k⟩ := h
    refine ⟨_, pss_cons (ps_fld (pv 0) (pv 1) rfl) (pss_cons (ps_fld (pv 0) pe_int rfl) (pss_one (ps_fld (pv 0) pe_bl rfl))), ?_⟩
    refine ⟨_, rfl, _, rfl, p, CS, dx, [], rfl, hp, T.clS, T.aShare, (by show 0 < 1000; decide), _, rfl, p, CS, dx, _, rfl, upd_same, T.clS, T.aClock, (by show 1 < 1000; decide), _, rfl, p, CS, dx, _, rfl, upd_same, T.clS, T.aReady, ?_, ?_⟩
    · rw [pf_nil, pf_ne n_sc, pf_nil]
      show 2 < 1000
      decide
    · rw [upd_upd, upd_upd, pf_nil, pf_ne n_sc, pf_nil, pf_ne n_sr, pf_ne n_cr, pf_nil]
      exact k
theorem sc_winit : FnScope ["self"] ["self"] (defScope sWheel_init) := ⟨rfl, rfl, rfl, by decide +kernel, rfl, by decide +kernel, by decide +kernel⟩
theorem ok_winit {f : Addr} {fd : FuncData} (F : Fun K "__init__" "Wheel.__init__" sWheel_init f fd) (T : WT K mg CS CW CB CT CN) : FnOk P w K mg base (L2.CX P w) 1 f fd ["self"] (spWInit CW CS) := by
  refine okN F sc_winit (fun vs H Q E h => ?_) (fun cdv A outer s H vs Q E hr h => ?_)
  · obtain ⟨p, dx, rfl, _⟩ := h
    rfl
  · obtain ⟨p, dx, rfl, hp, k⟩ := h
    refine ⟨_, pss_cons (ps_fld (pv 0) pe_int rfl) (pss_one (ps_fld (pv 0) pe_dnewK rfl)), ?_⟩
    refine ⟨_, rfl, p, CW, dx, [], rfl, hp, T.clW, T.aPast, (by show 0 < 1000; decide), fun d hd => ?_⟩
    have npd : p ≠ d := ne_of_none upd_same hd
    rw [upd_ne npd.symm] at hd
    refine ⟨_, rfl, p, CW, dx, _, rfl, (by rw [upd_ne npd]; exact upd_same), T.clW, T.aSh, (by show 1 < 1000; decide), ?_⟩
    refine k d _ hd ⟨⟨dx, ?_⟩, by rw [upd_ne npd.symm]; exact upd_same, fun e he => (nomatch he), List.nodup_nil⟩ fun b o e hb => ?_
    · rw [upd_same, pf_nil, pf_ne n_ps, pf_nil]
      rfl
    · rw [upd_ne hb, upd_ne (ne_of_none e hd), upd_ne hb]
      exact e
theorem sc_sharer : FnScope ["self", "name"] ["self", "name"] (defScope sWheel_sharer) := ⟨rfl, rfl, rfl, by decide +kernel, rfl, by decide +kernel, by decide +kernel⟩
theorem ok_sharer {f : Addr} {fd : FuncData} (F : Fun K "_sharer" "Wheel._sharer" sWheel_sharer f fd) (T : WT K mg CS CW CB CT CN) (GS : DOk P w K mg base 1 "stands_in" ["thing", "table"] spStands) : FnOk P w K mg base (L2.CX P w) 2 f fd ["self", "name"] (spSharer CW CS CN) := by
  refine F.okX sc_sharer (fun vs H Q E h => ?_) (fun cdv A outer s H vs Q E hr h => ?_)
  · obtain ⟨p, d, q, es, n, rfl, _⟩ := h
    rfl
  · obtain ⟨p, d, q, es, n, rfl, I, k1, k2⟩ := h
    have hu := hu_of hr
    obtain ⟨dx, hp⟩ := I.ob
    refine ⟨_, pss_cons (ps_if (pt_not (pt_val (pe_f GS hr (Nat.le_refl _) (by rfl) (fun σ => passN σ) (pa_cons (pv 1) (pa_cons (pe_fld (pv 0) rfl) pa_nil))))) (pss_one (ps_rs rfl (takes_of rfl rfl rfl rfl) T.eN T.gN (by rfl))) pss_nil)
      (pss_one (ps_ret (pe_dget hu (pe_fld (pv 0) rfl) (pv 1) (fun _ _ => rfl)))), ?_⟩
    refine ⟨_, rfl, _, rfl, p, CW, dx, _, _, rfl, hp, T.clW, T.aSh, wf_sh _ _, .str n, d, _, rfl, .str n, I.dc, fun z ez => ?_, fun z => by cases z⟩
    cases ez
    refine ⟨_, rfl, ?_⟩
    cases e : valV (kvs es) (Sum.inr n : Key) with
    | none =>
      refine iteT ?_
      exact k2 (kvs_none e)
    | some v =>
      obtain ⟨x, hx, hn, rfl⟩ := kvs_some e
      refine iteF ?_
      refine ⟨_, rfl, p, CW, dx, _, _, rfl, hp, T.clW, T.aSh, wf_sh _ _, _, rfl, d, _, rfl, ?_, k1 x hx hn⟩
      have g := DGet.k (k := Sum.inr n) I.dc
      rw [e] at g
      exact g
theorem sc_enter : FnScope ["self", "name", "share"] ["self", "name", "share"] (defScope sWheel_enter) := ⟨rfl, rfl, rfl, by decide +kernel, rfl, by decide +kernel, by decide +kernel⟩
theorem ok_enter {f : Addr} {fd : FuncData} (F : Fun K "enter" "Wheel.enter" sWheel_enter f fd) (T : WT K mg CS CW CB CT CN) (GS : DOk P w K mg base 2 "step" ["share"] (spStep CB)) (MS : KOk P w K mg base 1 "Sharer" CS ["self", "share"] (spSInit CS)) :
    FnOk P w K mg base (L2.CX P w) 3 f fd ["self", "name", "share"] (spEnter CW CS CB CT) := by
  refine F.okX sc_enter (fun vs H Q E h => ?_) (fun cdv A outer s H vs Q E hr h => ?_)
  · obtain ⟨p, W, fp, n, x, rfl, _⟩ := h
    rfl
  · obtain ⟨p, W, fp, n, x, rfl, ⟨d, es, hrows, rfl, I, ok⟩, hlen, hx, k1, k2, k3⟩ := h
    have hu := hu_of hr
    obtain ⟨dx, hp⟩ := I.ob
    have hl : es.length ≤ 1000 := by
      rw [hrows, List.length_map] at hlen
      exact hlen
    refine ⟨_, pss_cons (ps_if (pt_cmp (pc_din hu (pv 1) (pe_fld (pv 0) rfl))) (pss_one (ps_rs rfl (takes_of rfl rfl rfl rfl) T.eT T.gT (by rfl))) pss_nil)
      (pss_cons (ps_expr (pe_f GS hr (Nat.le_refl _) (by rfl) (fun σ => passAt (takes_of rfl rfl rfl rfl) σ) (pa_cons (pv 2) pa_nil)))
      (pss_one (ps_dput hu (pe_fld (pv 0) rfl) (pv 1) (pe_k MS hr (Nat.le_refl _) (by rfl) (pa_cons (pv 2) pa_nil)) rfl))), ?_⟩
    refine ⟨_, rfl, _, rfl, p, CW, dx, _, _, rfl, hp, T.clW, T.aSh, wf_sh _ _, d, _, rfl, DGet.k (k := Sum.inr n) I.dc, _, rfl, ?_⟩
    cases e : valV (kvs es) (Sum.inr n : Key) with
    | some v =>
      obtain ⟨y, hy, hn, rfl⟩ := kvs_some e
      exact iteT (k1 ((has_of hrows).mpr ⟨y, hy, hn⟩))
    | none =>
      have nn := kvs_none e
      have nh : ¬ Has W n := fun z => by
        obtain ⟨y, hy, hn⟩ := (has_of hrows).mp z
        exact nn y hy hn
      refine iteF ?_
      refine ⟨_, rfl, x, rfl, hx, fun i ei h1 h2 => ?_, fun z => k2 nh z⟩
      subst ei
      -- the new one
      refine ⟨_, rfl, fun a dy ha hdy ne => ⟨a, dy, i, rfl, upd_same, rfl, ?_⟩⟩
      rw [upd_upd]
      have sm : Same H (upd (upd H dy (.own a)) a (.ins CS dy (sf i 0 false))) := same_made ha hdy
      refine ⟨_, rfl, p, CW, dx, _, _, rfl, sm _ _ hp, T.clW, T.aSh, wf_sh _ _, _, rfl, d, _, rfl, DPut.k (k := Sum.inr n) (sm _ _ I.dc) (small1000 (by rw [kvs_len]; exact hl)), ?_⟩
      have epl : putK (kvs es) (Sum.inr n : Key) (V.ref a) = kvs (es ++ [((⟨n, i, 0, false⟩ : RowS), a)]) := by
        rw [putK_new _ e]
        unfold kvs
        rw [List.map_append]
        rfl
      rw [epl]
      have npd := I.ne_pd
      have nda : d ≠ a := ne_of_none I.dc ha
      refine k3 nh i rfl h1 h2 _ (p :: d :: (es ++ [((⟨n, i, 0, false⟩ : RowS), a)]).map (·.2)) ⟨d, es ++ [(⟨n, i, 0, false⟩, a)], ?_, rfl, ⟨⟨dx, ?_⟩, upd_same, fun y hy => ?_, ?_⟩, ok.enter h1 h2 fun z => ?_⟩ ⟨fun b o eb hb => ?_, fun b hb => ?_⟩
      · show W.rows ++ [_] = _
        rw [hrows, List.map_append]
        rfl
      · rw [upd_ne npd]
        exact sm _ _ hp
      · rcases List.mem_append.mp hy with hy | hy
        · obtain ⟨dz, ez⟩ := I.sh y hy
          exact ⟨dz, by rw [upd_ne (I.ne_ds hy).symm]; exact sm _ _ ez⟩
        · rw [List.mem_singleton.mp hy]
          exact ⟨dy, by rw [upd_ne nda.symm]; exact upd_same⟩
      · rw [List.map_append]
        refine Wm.nd_snoc I.nd fun z => ?_
        obtain ⟨y, hy, ey⟩ := List.mem_map.mp z
        obtain ⟨dz, ez⟩ := I.sh y hy
        rw [ey, ha] at ez
        cases ez
      · obtain ⟨y, hy, hn⟩ := List.mem_map.mp z
        exact nh ⟨y, hy, hn⟩
      · rw [upd_ne (fun z => hb (by rw [z]; simp))]
        exact sm _ _ eb
      · rw [List.map_append] at hb
        rcases List.mem_cons.mp hb with rfl | hb
        · exact .inl List.mem_cons_self
        rcases List.mem_cons.mp hb with rfl | hb
        · exact .inl (List.mem_cons_of_mem _ List.mem_cons_self)
        rcases List.mem_append.mp hb with hb | hb
        · exact .inl (List.mem_cons_of_mem _ (List.mem_cons_of_mem _ hb))
        · rw [List.mem_singleton.mp hb]
          exact .inr ha
theorem sc_leave : FnScope ["self", "name"] ["self", "name"] (defScope sWheel_leave) := ⟨rfl, rfl, rfl, by decide +kernel, rfl, by decide +kernel, by decide +kernel⟩
theorem ok_leave {f : Addr} {fd : FuncData} (F : Fun K "leave" "Wheel.leave" sWheel_leave f fd) (T : WT K mg CS CW CB CT CN) (GS : MOk P w K mg base 2 CW "_sharer" ["self", "name"] (spSharer CW CS CN)) : FnOk P w K mg base (L2.CX P w) 3 f fd ["self", "name"] (spLeave CW CS CN) := by
  refine F.okX sc_leave (fun vs H Q E h => ?_) (fun cdv A outer s H vs Q E hr h => ?_)
  · obtain ⟨p, W, fp, n, rfl, _⟩ := h
    rfl
  · obtain ⟨p, W, fp, n, rfl, ⟨d, es, hrows, rfl, I, ok⟩, k1, k2⟩ := h
    obtain ⟨dx, hp⟩ := I.ob
    refine ⟨_, pss_cons (ps_expr (pe_m GS T.clW hr (Nat.le_refl _) (fun σ => passAt (takes_of rfl rfl rfl rfl) σ) (pv 0) (pa_cons (pv 1) pa_nil))) (pss_one (ps_ddel (pe_fld (pv 0) rfl) (pv 1))), ?_⟩
    refine ⟨_, rfl, p, dx, _, rfl, hp, wf_no _ _ (by decide +kernel) (by decide +kernel), _, rfl, p, d, _, es, n, rfl, I, fun x hx hn => ?_, fun z => k1 fun h => ?_⟩
    · refine ⟨_, rfl, p, CW, dx, _, _, rfl, hp, T.clW, T.aSh, wf_sh _ _, _, rfl, d, _, Sum.inr n, rfl, I.dc, rfl, ?_, ?_⟩
      · rw [← hn, kvs_at (names_nd ok hrows) hx]
        rfl
      · rw [kvs_drop]
        refine k2 ((has_of hrows).mpr ⟨x, hx, hn⟩) _ (p :: d :: (es.filter fun e => decide (e.1.n ≠ n)).map (·.2)) ⟨d, _, ?_, rfl, ⟨⟨dx, ?_⟩, upd_same, fun y hy => ?_, ?_⟩, ok.leave n⟩ ⟨fun b o eb hb => ?_, fun b hb => ?_⟩
        · show W.rows.filter _ = _
          rw [hrows, List.filter_map]
          rfl
        · rw [upd_ne I.ne_pd]
          exact hp
        · have hy' := (List.mem_filter.mp hy).1
          obtain ⟨dz, ez⟩ := I.sh y hy'
          exact ⟨dz, by rw [upd_ne (I.ne_ds hy').symm]; exact ez⟩
        · exact List.Nodup.sublist (List.Sublist.map _ List.filter_sublist) I.nd
        · rw [upd_ne (fun z => hb (by rw [z]; simp))]
          exact eb
        · left
          rcases List.mem_cons.mp hb with rfl | hb
          · exact List.mem_cons_self
          rcases List.mem_cons.mp hb with rfl | hb
          · exact List.mem_cons_of_mem _ List.mem_cons_self
          obtain ⟨y, hy, rfl⟩ := List.mem_map.mp hb
          exact List.mem_cons_of_mem _ (List.mem_cons_of_mem _ (List.mem_map.mpr ⟨y, (List.mem_filter.mp hy).1, rfl⟩))
    · obtain ⟨y, hy, hn⟩ := (has_of hrows).mp h
      exact z y hy hn

theorem WIn.past {CW CS : Addr} {H : Hp} {p d : Addr} {q q' : Int} {es : List En} (h : WIn CW CS H p d q es) (dx : Addr) : WIn CW CS (upd H p (.ins CW dx (wf q' d))) p d q' es := by
  refine ⟨⟨dx, upd_same⟩, by rw [upd_ne h.ne_pd.symm]; exact h.dc, fun e he => ?_, h.nd⟩
  obtain ⟨dy, e1⟩ := h.sh e he
  exact ⟨dy, by rw [upd_ne (h.ne_ps he).symm]; exact e1⟩
theorem step_upd {fp : List Addr} {H : Hp} {a : Addr} {o : HO} (h : a ∈ fp) : Step fp H fp (upd H a o) := ⟨fun b u e hb => by
  rw [upd_ne (fun z => hb (by rw [z]; exact h))]
  exact e, fun _ hb => .inl hb⟩
theorem fp_s {p d : Addr} {es : List En} {e : En} (he : e ∈ es) : e.2 ∈ p :: d :: es.map (·.2) := List.mem_cons_of_mem _ (List.mem_cons_of_mem _ (List.mem_map.mpr ⟨e, he, rfl⟩))
/-- the row of a name is told by it -/
theorem en_of {W : WhS} {es : List En} (ok : Wm.Ok W) (hr : W.rows = es.map (·.1)) {e : En} (he : e ∈ es) {x : RowS} (hx : x ∈ W.rows) (hn : x.n = e.1.n) : x = e.1 :=
  Wm.row_of_name ok.nd hx (by rw [hr]; exact List.mem_map.mpr ⟨e, he, rfl⟩) hn
theorem sc_reshare : FnScope ["self", "name", "share", "sharer", "new", "beyond"] ["self", "name", "share"] (defScope sWheel_reshare) := ⟨rfl, rfl, rfl, by decide +kernel, rfl, by decide +kernel, by decide +kernel⟩
theorem ok_reshare {f : Addr} {fd : FuncData} (F : Fun K "reshare" "Wheel.reshare" sWheel_reshare f fd) (T : WT K mg CS CW CB CT CN) (GS : MOk P w K mg base 2 CW "_sharer" ["self", "name"] (spSharer CW CS CN)) (GP : DOk P w K mg base 2 "step" ["share"] (spStep CB)) :
    FnOk P w K mg base (L2.CX P w) 3 f fd ["self", "name", "share"] (spReshare CW CS CB CN) := by
  refine F.okX sc_reshare (fun vs H Q E h => ?_) (fun cdv A outer s H vs Q E hr h => ?_)
  · obtain ⟨p, W, fp, n, x, rfl, _⟩ := h
    rfl
  · obtain ⟨p, W, fp, n, x, rfl, ⟨d, es, hrows, rfl, I, ok⟩, hx, k1, k2, k3⟩ := h
    obtain ⟨dx, hp⟩ := I.ob
    refine ⟨_, pss_cons (ps_set (i := 3) sc_reshare.nd rfl (Or.inl rfl) (pe_m GS T.clW hr (Nat.le_refl _) (fun σ => passAt (takes_of rfl rfl rfl rfl) σ) (pv 0) (pa_cons (pv 1) pa_nil)))
      (pss_cons (ps_set (i := 4) sc_reshare.nd rfl (Or.inl rfl) (pe_f GP hr (Nat.le_refl _) (by rfl) (fun σ => passAt (takes_of rfl rfl rfl rfl) σ) (pa_cons (pv 2) pa_nil)))
      (pss_cons (ps_set (i := 5) sc_reshare.nd rfl (Or.inl rfl) (pe_op op_sub (pe_fld (pv 3) rfl) (pe_fld (pv 0) rfl)))
      (pss_cons (ps_if (pt_cmpR op_gt (pv 5) pe_int (nomark _))
        (pss_one (ps_fld (pv 3) (pe_op op_add (pe_fld (pv 0) rfl) (pe_op op_fdivN (pe_op op_mul (pv 5) (pv 4)) (pe_f GP hr (Nat.le_refl _) (by rfl) (fun σ => passAt (takes_of rfl rfl rfl rfl) σ) (pa_cons (pe_fld (pv 3) rfl) pa_nil)))) rfl)) pss_nil)
      (pss_one (ps_fld (pv 3) (pv 2) rfl))))), ?_⟩
    refine ⟨_, rfl, p, dx, _, rfl, hp, wf_no _ _ (by decide +kernel) (by decide +kernel), _, rfl, p, d, _, es, n, rfl, I, fun e he hn => ?_, fun z => k1 fun h => ?_⟩
    · have hh : Has W n := (has_of hrows).mpr ⟨e, he, hn⟩
      refine ⟨_, rfl, x, rfl, hx, fun i ei h1 h2 => ?_, fun z => k2 hh z⟩
      subst ei
      obtain ⟨dy, ha⟩ := I.sh e he
      refine ⟨_, rfl, e.2, CS, dy, _, _, rfl, ha, T.clS, T.aClock, sf_clock _ _ _, _, rfl, p, CW, dx, _, _, rfl, hp, T.clW, T.aPast, wf_past _ _, _, _, rfl, rfl, ?_⟩
      have ro := ok.rows e.1 (by rw [hrows]; exact List.mem_map.mpr ⟨e, he, rfl⟩)
      have c1 := Wm.stp_cases h1 h2
      have c2 := Wm.stp_cases ro.s1 ro.s2
      have W1 := I.set he (names_nd ok hrows) (Wm.shared W.past i) (fun _ => rfl) dy
      rw [hn] at W1
      have fin : WAt CW CS (upd H e.2 (.ins CS dy (sf (Wm.shared W.past i e.1).s (Wm.shared W.past i e.1).c (Wm.shared W.past i e.1).r))) p (Wm.reshare W n i) (p :: d :: es.map (·.2)) :=
        ⟨d, _, by rw [updE_rows, ← hrows]; rfl, by rw [updE_addrs], W1, ok.reshare n h1 h2⟩
      refine ⟨_, rfl, _, _, rfl, rfl, _, rfl, ?_⟩
      by_cases hb : W.past < e.1.c
      · rw [decide_eq_true (show (0 : Int) < e.1.c - W.past by omega)]
        refine iteT ?_
        refine ⟨_, rfl, p, CW, dx, _, _, rfl, hp, T.clW, T.aPast, wf_past _ _, _, rfl, _, rfl, _, _, rfl, rfl, .inr ⟨by omega, by omega⟩, _, rfl, e.2, CS, dy, _, _, rfl, ha, T.clS, T.aShare, sf_share _ _ _, .int e.1.s, rfl, .int _, fun i' ei' _ _ => ?_, fun z => ?_⟩
        · cases ei'
          refine ⟨_, _, rfl, rfl, ⟨by omega, by omega⟩, _, _, rfl, rfl, _, rfl, e.2, CS, dy, _, rfl, ha, T.clS, T.aClock, (by show 3 < 1000; decide), ?_⟩
          rw [sf_pclock]
          refine ⟨_, rfl, _, rfl, e.2, CS, dy, _, rfl, upd_same, T.clS, T.aShare, (by show 3 < 1000; decide), ?_⟩
          rw [upd_upd, sf_pshare]
          have ec : (Wm.shared W.past i e.1).c = W.past + Int.fdiv ((e.1.c - W.past) * Wm.stp i) (Wm.stp e.1.s) := by
            show (if W.past < e.1.c then _ else _) = _
            rw [if_pos hb]
          have es' : (Wm.shared W.past i e.1).s = i := rfl
          rw [ec] at fin
          exact k3 hh i rfl h1 h2 _ fin (step_upd (fp_s he))
        · exfalso
          have : (decide (1 ≤ e.1.s) && decide (e.1.s ≤ 12)) = false := z
          rw [decide_eq_true ro.s1, decide_eq_true ro.s2] at this
          cases this
      · rw [decide_eq_false (show ¬ (0 : Int) < e.1.c - W.past by omega)]
        refine iteF ?_
        refine ⟨_, rfl, _, rfl, e.2, CS, dy, _, rfl, ha, T.clS, T.aShare, (by show 3 < 1000; decide), ?_⟩
        rw [sf_pshare]
        have ec : (Wm.shared W.past i e.1).c = e.1.c := by
          show (if W.past < e.1.c then _ else _) = _
          rw [if_neg hb]
        rw [ec] at fin
        exact k3 hh i rfl h1 h2 _ fin (step_upd (fp_s he))
    · obtain ⟨y, hy, hn⟩ := (has_of hrows).mp h
      exact z y hy hn
theorem sc_wake : FnScope ["self", "name", "sharer"] ["self", "name"] (defScope sWheel_wake) := ⟨rfl, rfl, rfl, by decide +kernel, rfl, by decide +kernel, by decide +kernel⟩
theorem ok_wake {f : Addr} {fd : FuncData} (F : Fun K "wake" "Wheel.wake" sWheel_wake f fd) (T : WT K mg CS CW CB CT CN) (GS : MOk P w K mg base 2 CW "_sharer" ["self", "name"] (spSharer CW CS CN)) :
    FnOk P w K mg base (L2.CX P w) 3 f fd ["self", "name"] (spWake CW CS CN) := by
  refine F.okX sc_wake (fun vs H Q E h => ?_) (fun cdv A outer s H vs Q E hr h => ?_)
  · obtain ⟨p, W, fp, n, rfl, _⟩ := h
    rfl
  · obtain ⟨p, W, fp, n, rfl, ⟨d, es, hrows, rfl, I, ok⟩, k1, k2⟩ := h
    obtain ⟨dx, hp⟩ := I.ob
    refine ⟨_, pss_cons (ps_set (i := 2) sc_wake.nd rfl (Or.inl rfl) (pe_m GS T.clW hr (Nat.le_refl _) (fun σ => passAt (takes_of rfl rfl rfl rfl) σ) (pv 0) (pa_cons (pv 1) pa_nil)))
      (pss_cons (ps_if (pt_val (pe_fld (pv 2) rfl)) (pss_one (ps_ret pe_bl)) pss_nil)
      (pss_cons (ps_fld (pv 2) pe_bl rfl)
      (pss_cons (ps_fld (pv 2) (pe_callB (call_max2 rfl) (by rfl) T.max (by decide +kernel) (pa_cons (pe_fld (pv 2) rfl) (pa_cons (pe_fld (pv 0) rfl) pa_nil))) rfl)
      (pss_one (ps_ret pe_bl))))), ?_⟩
    refine ⟨_, rfl, p, dx, _, rfl, hp, wf_no _ _ (by decide +kernel) (by decide +kernel), _, rfl, p, d, _, es, n, rfl, I, fun e he hn => ?_, fun z => k1 fun h => ?_⟩
    · obtain ⟨dy, ha⟩ := I.sh e he
      have hm : e.1 ∈ W.rows := by rw [hrows]; exact List.mem_map.mpr ⟨e, he, rfl⟩
      have W1 := I.set he (names_nd ok hrows) (Wm.woken W.past) (Wm.woken_n _) dy
      rw [hn] at W1
      have fin : WAt CW CS (upd H e.2 (.ins CS dy (sf (Wm.woken W.past e.1).s (Wm.woken W.past e.1).c (Wm.woken W.past e.1).r))) p (Wm.wake W n) (p :: d :: es.map (·.2)) :=
        ⟨d, _, by rw [updE_rows, ← hrows]; rfl, by rw [updE_addrs], W1, ok.wake n⟩
      refine ⟨_, rfl, e.2, CS, dy, _, _, rfl, ha, T.clS, T.aReady, sf_ready _ _ _, _, rfl, ?_⟩
      cases er : e.1.r with
      | true =>
        refine iteT ?_
        have ew : Wm.woken W.past e.1 = e.1 := by
          unfold Wm.woken
          rw [if_pos er]
        rw [ew, upd_self ha] at fin
        have := k2 e.1 hm hn H fin (Step.refl _ _)
        rw [er] at this
        exact this
      | false =>
        refine iteF ?_
        rw [er] at ha
        refine ⟨_, rfl, e.2, CS, dy, _, rfl, ha, T.clS, T.aReady, (by show 3 < 1000; decide), ?_⟩
        rw [sf_pready]
        refine ⟨_, rfl, e.2, CS, dy, _, _, rfl, upd_same, T.clS, T.aClock, sf_clock _ _ _, _, rfl, p, CW, dx, _, _, rfl, (by rw [upd_ne (I.ne_ps he)]; exact hp), T.clW, T.aPast, wf_past _ _, _, _, rfl, _, rfl, e.2, CS, dy, _, rfl, upd_same, T.clS, T.aClock, (by show 3 < 1000; decide), ?_⟩
        rw [upd_upd, sf_pclock]
        have ew : Wm.woken W.past e.1 = { e.1 with c := if e.1.c < W.past then W.past else e.1.c, r := true } := by
          unfold Wm.woken
          rw [if_neg (by rw [er]; exact Bool.false_ne_true)]
        rw [ew] at fin
        have := k2 e.1 hm hn _ fin (step_upd (fp_s he))
        rw [er] at this
        exact this
    · obtain ⟨y, hy, hn⟩ := (has_of hrows).mp h
      exact z y hy hn
theorem sc_rest : FnScope ["self", "name", "sharer", "changed"] ["self", "name"] (defScope sWheel_rest) := ⟨rfl, rfl, rfl, by decide +kernel, rfl, by decide +kernel, by decide +kernel⟩
theorem ok_rest {f : Addr} {fd : FuncData} (F : Fun K "rest" "Wheel.rest" sWheel_rest f fd) (T : WT K mg CS CW CB CT CN) (GS : MOk P w K mg base 2 CW "_sharer" ["self", "name"] (spSharer CW CS CN)) :
    FnOk P w K mg base (L2.CX P w) 3 f fd ["self", "name"] (spRest CW CS CN) := by
  refine F.okX sc_rest (fun vs H Q E h => ?_) (fun cdv A outer s H vs Q E hr h => ?_)
  · obtain ⟨p, W, fp, n, rfl, _⟩ := h
    rfl
  · obtain ⟨p, W, fp, n, rfl, ⟨d, es, hrows, rfl, I, ok⟩, k1, k2⟩ := h
    obtain ⟨dx, hp⟩ := I.ob
    refine ⟨_, pss_cons (ps_set (i := 2) sc_rest.nd rfl (Or.inl rfl) (pe_m GS T.clW hr (Nat.le_refl _) (fun σ => passAt (takes_of rfl rfl rfl rfl) σ) (pv 0) (pa_cons (pv 1) pa_nil)))
      (pss_cons (ps_set (i := 3) sc_rest.nd rfl (Or.inl rfl) (pe_fld (pv 2) rfl))
      (pss_cons (ps_fld (pv 2) pe_bl rfl) (pss_one (ps_ret (pv 3))))), ?_⟩
    refine ⟨_, rfl, p, dx, _, rfl, hp, wf_no _ _ (by decide +kernel) (by decide +kernel), _, rfl, p, d, _, es, n, rfl, I, fun e he hn => ?_, fun z => k1 fun h => ?_⟩
    · obtain ⟨dy, ha⟩ := I.sh e he
      have hm : e.1 ∈ W.rows := by rw [hrows]; exact List.mem_map.mpr ⟨e, he, rfl⟩
      have W1 := I.set he (names_nd ok hrows) (fun x => { x with r := false }) (fun _ => rfl) dy
      rw [hn] at W1
      have fin : WAt CW CS (upd H e.2 (.ins CS dy (sf e.1.s e.1.c false))) p (Wm.rest W n) (p :: d :: es.map (·.2)) :=
        ⟨d, _, by rw [updE_rows, ← hrows]; rfl, by rw [updE_addrs], W1, ok.rest n⟩
      refine ⟨_, rfl, e.2, CS, dy, _, _, rfl, ha, T.clS, T.aReady, sf_ready _ _ _, _, rfl, e.2, CS, dy, _, rfl, ha, T.clS, T.aReady, (by show 3 < 1000; decide), ?_⟩
      rw [sf_pready]
      exact ⟨_, rfl, k2 e.1 hm hn _ fin (step_upd (fp_s he))⟩
    · obtain ⟨y, hy, hn⟩ := (has_of hrows).mp h
      exact z y hy hn
/-! ### who gets the turn -/
theorem best_take {l : List RowS} {i : Nat} {x : RowS} (h : l[i]? = some x) : Wm.best (l.take (i + 1)) = Wm.pick (Wm.best (l.take i)) x := by
  rw [List.take_succ, h]
  exact Wm.best_snoc _ _
def optC : Option RowS → Int
  | none => 0
  | some b => b.c
theorem sc_whose : FnScope ["self", "first", "least", "name", "sharer"] ["self"] (defScope sWheel_whose) := ⟨rfl, rfl, rfl, by decide +kernel, rfl, by decide +kernel, by decide +kernel⟩
theorem ok_whose {f : Addr} {fd : FuncData} (F : Fun K "whose" "Wheel.whose" sWheel_whose f fd) (T : WT K mg CS CW CB CT CN) : FnOk P w K mg base (L2.CX P w) 1 f fd ["self"] (spWhose CW CS) := by
  refine okN F sc_whose (fun vs H Q E h => ?_) (fun cdv A outer s H vs Q E hr h => ?_)
  · obtain ⟨p, W, fp, rfl, _⟩ := h
    rfl
  · obtain ⟨p, W, fp, rfl, ⟨d, es, hrows, rfl, I, ok⟩, k⟩ := h
    obtain ⟨dx, hp⟩ := I.ob
    refine ⟨_, pss_cons (ps_set (i := 1) sc_whose.nd rfl (Or.inl rfl) pe_non) (pss_cons (ps_set (i := 2) sc_whose.nd rfl (Or.inl rfl) pe_int)
      (pss_cons (ps_lock (ps_for PassesOwn.never rfl (pi_items (pe_fld (pv 0) rfl)) (pg_tup rfl (pgs_cons (pg_name (i := 3) sc_whose.nd rfl (Or.inl rfl)) (pgs_cons (pg_name (i := 4) sc_whose.nd rfl (Or.inl rfl)) pgs_nil)))
        (pss_one (ps_if (PW.pt (pw_and (pt_val (pe_fld (pv 4) rfl)) (pw_and1 (PW.pt (pw_or (pt_cmpR op_isN (pv 1) pe_non (nomark _)) (pw_or1 (pt_cmpR op_lt (pe_fld (pv 4) rfl) (pv 2) (nomark _))))))))
          (pss_cons (ps_set (i := 1) sc_whose.nd rfl (Or.inl rfl) (pv 3)) (pss_one (ps_set (i := 2) sc_whose.nd rfl (Or.inl rfl) (pe_fld (pv 4) rfl)))) pss_nil))))
      (pss_one (ps_ret (pv 1))))), ?_⟩
    refine ⟨d, .dK (kvs es), I.dc, trivial, fun od => ?_⟩
    have hp' : (upd H d (.frz od (.dK (kvs es)))) p = some (.ins CW dx (wf W.past d)) := by rw [upd_ne I.ne_pd]; exact hp
    refine ⟨_, rfl, p, CW, dx, _, _, rfl, hp', T.clW, T.aSh, wf_sh _ _, d, od, kvs es, rfl, upd_same, ?_⟩
    refine for_it (walk_items (d := d) (o := od) (kvs := kvs es)) (fun i σ H' => ∃ v3 v4, σ = [some (.ref p), some (optN ((Wm.best (W.rows.take i)).map (·.n))), some (.int (optC (Wm.best (W.rows.take i)))), v3, v4] ∧ Same (upd H d (.frz od (.dK (kvs es)))) H')
      ⟨none, none, rfl, Same.refl _⟩ (fun i σ H' _ ⟨_, _, _, sm⟩ => sm _ _ upd_same) ?_ ?_
    · rintro i y σ H1 H2 hi ⟨v3, v4, rfl, sm⟩ ⟨U, x, z, rfl, hU, rfl, e1, e2⟩
      have hi' : i < es.length := by rw [kvs_len] at hi; exact hi
      have ei : es[i]? = some es[i] := by simp [hi']
      generalize es[i] = en at ei
      have hen : en ∈ es := List.mem_of_getElem? ei
      have ek : (kvs es)[i]? = some (Sum.inr en.1.n, V.ref en.2) := by
        unfold kvs
        rw [List.getElem?_map, ei]
        rfl
      simp only [ek] at e1 e2
      have ex : x = .str en.1.n := (Option.some.inj e1).symm
      have ez : z = .ref en.2 := (Option.some.inj e2).symm
      subst ex ez
      obtain ⟨dy, ha⟩ := I.sh en hen
      have hr1 : W.rows[i]? = some en.1 := by rw [hrows, List.getElem?_map, ei]; rfl
      have sm2 : Same (upd H d (.frz od (.dK (kvs es)))) (upd H1 U (.tup [.str en.1.n, .ref en.2])) := sm.trans (same_upd hU)
      have ha' : ∀ {H3 : Hp}, Same (upd H d (.frz od (.dK (kvs es)))) H3 → H3 en.2 = some (.ins CS dy (sf en.1.s en.1.c en.1.r)) := fun sm => sm _ _ (by rw [upd_ne (I.ne_ds hen).symm]; exact ha)
      refine ⟨U, [.str en.1.n, .ref en.2], rfl, SqT.of upd_same, rfl, _, _, rfl, _, _, rfl, rfl, ?_⟩
      refine ⟨_, rfl, en.2, CS, dy, _, _, rfl, ha' sm2, T.clS, T.aReady, sf_ready _ _ _, _, rfl, ?_⟩
      have eb := best_take hr1
      generalize Wm.best (W.rows.take (i + 1)) = B1 at eb
      generalize Wm.best (W.rows.take i) = B0 at eb
      subst eb
      cases er : en.1.r with
      | false =>
        refine iteF (iteF ?_)
        have : Wm.pick B0 en.1 = B0 := by
          unfold Wm.pick
          cases B0 with
          | none => simp [er]
          | some b => simp [er]
        rw [this]
        exact ⟨_, _, rfl, sm2⟩
      | true =>
        refine iteT ⟨_, rfl, rfl, _, rfl, ?_⟩
        cases B0 with
        | none =>
          refine iteT (iteT ?_)
          have : Wm.pick none en.1 = some en.1 := by
            unfold Wm.pick
            simp [er]
          rw [this]
          refine ⟨_, rfl, _, rfl, en.2, CS, dy, _, _, rfl, ha' sm2, T.clS, T.aClock, sf_clock _ _ _, ?_⟩
          exact ⟨_, _, rfl, sm2⟩
        | some b =>
          refine iteF ⟨_, rfl, en.2, CS, dy, _, _, rfl, ha' sm2, T.clS, T.aClock, sf_clock _ _ _, _, rfl, _, _, rfl, rfl, _, rfl, ?_⟩
          have hp : Wm.pick (some b) en.1 = if en.1.c < b.c then some en.1 else some b := by
            unfold Wm.pick
            simp [er]
          show if decide (en.1.c < b.c) = true then _ else _
          by_cases q : en.1.c < b.c
          · rw [decide_eq_true q]
            refine iteT ?_
            rw [hp, if_pos q]
            refine ⟨_, rfl, _, rfl, en.2, CS, dy, _, _, rfl, ha' sm2, T.clS, T.aClock, sf_clock _ _ _, ?_⟩
            exact ⟨_, _, rfl, sm2⟩
          · rw [decide_eq_false q]
            refine iteF ?_
            rw [hp, if_neg q]
            exact ⟨_, _, rfl, sm2⟩
    · rintro σ H1 ⟨v3, v4, rfl, sm⟩
      refine ⟨sm _ _ upd_same, _, rfl, ?_⟩
      have : W.rows.take (kvs es).length = W.rows := by
        rw [kvs_len, List.take_of_length_le]
        rw [hrows, List.length_map]
        exact Nat.le_refl _
      rw [this]
      refine k _ fun b o e => ?_
      by_cases q : b = d
      · rw [q] at e ⊢
        rw [I.dc] at e
        cases e
        exact upd_same
      · rw [upd_ne q]
        exact sm _ _ (by rw [upd_ne q]; exact e)
theorem sc_turn : FnScope ["self", "name", "sharer"] ["self"] (defScope sWheel_turn) := ⟨rfl, rfl, rfl, by decide +kernel, rfl, by decide +kernel, by decide +kernel⟩
theorem ok_turn {f : Addr} {fd : FuncData} (F : Fun K "turn" "Wheel.turn" sWheel_turn f fd) (T : WT K mg CS CW CB CT CN) (GW : MOk P w K mg base 1 CW "whose" ["self"] (spWhose CW CS)) (GP : DOk P w K mg base 2 "step" ["share"] (spStep CB)) :
    FnOk P w K mg base (L2.CX P w) 3 f fd ["self"] (spTurn CW CS) := by
  refine okN F sc_turn (fun vs H Q E h => ?_) (fun cdv A outer s H vs Q E hr h => ?_)
  · obtain ⟨p, W, fp, rfl, _⟩ := h
    rfl
  · obtain ⟨p, W, fp, rfl, hW, k⟩ := h
    obtain ⟨d, es, hrows, rfl, I, ok⟩ := id hW
    obtain ⟨dx, hp⟩ := I.ob
    have hu := hu_of hr
    refine ⟨_, pss_cons (ps_set (i := 1) sc_turn.nd rfl (Or.inl rfl) (pe_m0 GW T.clW hr (by decide) (fun σ => passN σ) (pv 0)))
      (pss_cons (ps_if (pt_cmpR op_notN (pv 1) pe_non (nomark _))
        (pss_cons (ps_set (i := 2) sc_turn.nd rfl (Or.inl rfl) (pe_dget hu (pe_fld (pv 0) rfl) (pv 1) (fun _ _ => rfl)))
        (pss_cons (ps_fld (pv 0) (pe_fld (pv 2) rfl) rfl)
        (pss_one (ps_fldaug (pv 2) (pe_f GP hr (Nat.le_refl _) (by rfl) (fun σ => passN σ) (pa_cons (pe_fld (pv 2) rfl) pa_nil)) in_add)))) pss_nil)
      (pss_one (ps_ret (pv 1)))), ?_⟩
    refine ⟨_, rfl, p, dx, _, rfl, hp, wf_no _ _ (by decide +kernel) (by decide +kernel), p, W, _, rfl, hW, fun H1 sm => ?_⟩
    refine ⟨_, rfl, rfl, _, rfl, ?_⟩
    have I1 : WIn CW CS H1 p d W.past es := I.keep fun b _ o e => sm b o e
    cases eb : Wm.best W.rows with
    | none =>
      have ew : Wm.whose W = none := by
        unfold Wm.whose
        rw [eb]
        rfl
      rw [ew]
      refine iteF ⟨_, rfl, ?_⟩
      have := k H1 (by rw [Wm.turn_none eb]; exact hW.same sm) (.same sm)
      rw [ew] at this
      exact this
    | some b =>
      have ew : Wm.whose W = some b.n := by
        unfold Wm.whose
        rw [eb]
        rfl
      rw [ew]
      obtain ⟨_, hb, _⟩ := Wm.best_some eb
      have hb' := hb
      rw [hrows] at hb'
      obtain ⟨e, he, eq⟩ := List.mem_map.mp hb'
      subst eq
      obtain ⟨dy, ha⟩ := I1.sh e he
      have ro := ok.rows e.1 hb
      refine iteT ?_
      have g := DGet.k (k := Sum.inr e.1.n) I1.dc
      have g2 : valV (kvs es) (Sum.inr e.1.n : Key) = some (.ref e.2) := kvs_at (names_nd ok hrows) he
      rw [g2] at g
      refine ⟨_, rfl, p, CW, dx, _, _, rfl, sm _ _ hp, T.clW, T.aSh, wf_sh _ _, _, rfl, d, _, rfl, g, ?_⟩
      refine ⟨_, rfl, e.2, CS, dy, _, _, rfl, ha, T.clS, T.aClock, sf_clock _ _ _, _, rfl, p, CW, dx, _, rfl, sm _ _ hp, T.clW, T.aPast, (by show 2 < 1000; decide), ?_⟩
      rw [wf_ppast]
      have ha2 : (upd H1 p (.ins CW dx (wf e.1.c d))) e.2 = some (.ins CS dy (sf e.1.s e.1.c e.1.r)) := by rw [upd_ne (I1.ne_ps he).symm]; exact ha
      refine ⟨_, rfl, e.2, CS, dy, _, _, rfl, ha2, T.clS, T.aClock, sf_clock _ _ _, _, rfl, e.2, CS, dy, _, _, rfl, ha2, T.clS, T.aShare, sf_share _ _ _, .int e.1.s, rfl, .int _, fun i ei _ _ => ?_, fun z => ?_⟩
      · cases ei
        refine ⟨_, _, rfl, rfl, dy, _, ha2, (by show 3 < 1000; decide), ?_⟩
        rw [sf_pclock]
        refine ⟨_, rfl, ?_⟩
        have I2 := (I1.past (q' := e.1.c) dx).set he (names_nd ok hrows) (fun x => { x with c := x.c + Wm.stp x.s }) (fun _ => rfl) dy
        have := k _ ⟨d, updE es e.1.n (fun x => { x with c := x.c + Wm.stp x.s }), by rw [Wm.turn_some eb, updE_rows, ← hrows], by rw [updE_addrs], by rw [Wm.turn_some eb]; exact I2, (ok.turn).1⟩ ((Step.same sm).trans ((step_upd List.mem_cons_self).trans (step_upd (fp_s he))))
        rw [ew] at this
        exact this
      · exfalso
        have : (decide (1 ≤ e.1.s) && decide (e.1.s ≤ 12)) = false := z
        rw [decide_eq_true ro.s1, decide_eq_true ro.s2] at this
        cases this
theorem sc_names : FnScope ["self"] ["self"] (defScope sWheel_names) := ⟨rfl, rfl, rfl, by decide +kernel, rfl, by decide +kernel, by decide +kernel⟩
theorem ok_names {f : Addr} {fd : FuncData} (F : Fun K "names" "Wheel.names" sWheel_names f fd) (T : WT K mg CS CW CB CT CN) : FnOk P w K mg base (L2.CX P w) 1 f fd ["self"] (spNames CW CS) := by
  refine okN F sc_names (fun vs H Q E h => ?_) (fun cdv A outer s H vs Q E hr h => ?_)
  · obtain ⟨p, W, fp, rfl, _⟩ := h
    rfl
  · obtain ⟨p, W, fp, rfl, ⟨d, es, hrows, rfl, I, ok⟩, k⟩ := h
    obtain ⟨dx, hp⟩ := I.ob
    refine ⟨_, pss_one (ps_ret (pe_callTy (call_list_dK rfl) (by rfl) T.list (by decide +kernel) (pa_cons (pe_fld (pv 0) rfl) pa_nil))), ?_⟩
    refine ⟨_, rfl, p, CW, dx, _, _, rfl, hp, T.clW, T.aSh, wf_sh _ _, d, _, rfl, I.dc, fun l hl => ?_⟩
    have := k l hl
    rw [hrows, List.map_map] at this
    unfold kvs
    rw [List.map_map]
    exact this
end

/-! ### rows by their place -/
theorem upd_set {l : List RowS} (nd : (l.map (·.n)).Nodup) {k : Nat} {x : RowS} (h : l[k]? = some x) (f : RowS → RowS) : Wm.upd l x.n f = l.set k (f x) := by
  unfold Wm.upd
  apply List.ext_getElem?
  intro j
  rw [List.getElem?_map, List.getElem?_set]
  by_cases q : k = j
  · subst q
    rw [h, if_pos rfl]
    obtain ⟨hk, _⟩ := List.getElem?_eq_some_iff.mp h
    rw [if_pos hk]
    show some (if x.n = x.n then f x else x) = _
    rw [if_pos rfl]
  · rw [if_neg q]
    cases e : l[j]? with
    | none => rfl
    | some y =>
      show some (if y.n = x.n then f y else y) = some y
      rw [if_neg]
      intro z
      apply q
      have a1 : (l.map (·.n))[k]? = some x.n := by rw [List.getElem?_map, h]; rfl
      have a2 : (l.map (·.n))[j]? = some x.n := by rw [List.getElem?_map, e]; exact congrArg some z
      exact nd_ix nd a1 a2
theorem set_at {α : Type} {l : List α} {k : Nat} {x : α} (h : l[k]? = some x) : l.set k x = l := by
  apply List.ext_getElem?
  intro j
  rw [List.getElem?_set]
  by_cases q : k = j
  · subst q
    obtain ⟨hk, _⟩ := List.getElem?_eq_some_iff.mp h
    rw [if_pos rfl, if_pos hk, h]
  · rw [if_neg q]
theorem map_set {α β : Type} (g : α → β) (l : List α) (k : Nat) (x : α) : (l.set k x).map g = (l.map g).set k (g x) := List.map_set
theorem at_map {α β : Type} {l : List α} {k : Nat} {x : α} (g : α → β) (h : l[k]? = some x) : (l.map g)[k]? = some (g x) := by
  rw [List.getElem?_map, h]
  rfl
/-- the rows of W have these names, by places -/
theorem row_at {l : List RowS} {nm : Nat → Str} {m : Nat} (h : l.map (·.n) = (List.range m).map nm) {k : Nat} (hk : k < m) : ∃ x, l[k]? = some x ∧ x.n = nm k := by
  have a : (l.map (·.n))[k]? = some (nm k) := by
    rw [h, List.getElem?_map, List.getElem?_range hk]
    rfl
  rw [List.getElem?_map] at a
  cases e : l[k]? with
  | none =>
    rw [e] at a
    cases a
  | some x =>
    rw [e] at a
    exact ⟨x, rfl, Option.some.inj a⟩
theorem len_rows {l : List RowS} {nm : Nat → Str} {m : Nat} (h : l.map (·.n) = (List.range m).map nm) : l.length = m := by
  have := congrArg List.length h
  rw [List.length_map, List.length_map, List.length_range] at this
  exact this
theorem map_at {β : Type} {m k : Nat} (f : Nat → β) (hk : k < m) : ((List.range m).map f)[k]? = some (f k) := by
  rw [List.getElem?_map, List.getElem?_range hk]
  rfl
theorem range_snoc {β : Type} (f : Nat → β) (i : Nat) : (List.range (i + 1)).map f = (List.range i).map f ++ [f i] := by
  rw [List.range_succ, List.map_append]
  rfl
theorem small5000 {n : Nat} (h : n ≤ 5000) : n < sizeLine := Nat.lt_of_le_of_lt h (by decide)
/-! ### a text so many times -/
theorem foldl_app (xs : Array Nat) : ∀ (n : Nat) (acc : Array Nat), ((List.replicate n xs).foldl (fun x y => x ++ y) acc).toList = acc.toList ++ (List.replicate n xs.toList).flatten
  | 0, acc => by simp
  | n + 1, acc => by
    rw [List.replicate_succ, List.foldl_cons, foldl_app xs n (acc ++ xs), List.replicate_succ, List.flatten_cons, Array.toList_append, List.append_assoc]
theorem mul_codes (z : Str) (i : Int) : (Txt.mul z i).cps.toList = (List.replicate i.toNat z.cps.toList).flatten := by
  unfold Txt.mul
  by_cases h1 : i < 1
  · rw [if_pos h1]
    have : i.toNat = 0 := by omega
    rw [this]
    rfl
  · rw [if_neg h1]
    by_cases h2 : (i == 1 || z.length == 0) = true
    · rw [if_pos h2]
      rw [Bool.or_eq_true] at h2
      rcases h2 with h2 | h2
      · have : i = 1 := by simpa using h2
        subst this
        simp
      · have : z.cps.size = 0 := by
          have : z.length = 0 := by simpa using h2
          exact this
        have e : z.cps.toList = [] := by
          rw [← List.length_eq_zero_iff, Array.length_toList]
          exact this
        rw [e]
        induction i.toNat with
        | zero => rfl
        | succ n ih => rw [List.replicate_succ, List.flatten_cons, ← ih]; rfl
    · rw [if_neg h2]
      show ((List.replicate i.toNat z.cps).foldl (fun x y => x ++ y) #[]).toList = _
      rw [foldl_app]
      rfl
theorem op_mul_str {X : Cx} : OpR X (binaryOp .Mult) (fun x y H Q => ∃ z i, x = .str z ∧ y = .int i ∧ z.length ≤ 16 ∧ 0 ≤ i ∧ i ≤ 1048576 ∧ Q (.str (Txt.mul z i)) H) := by
  intro pins s σ H x y v u Q I rx ry h
  obtain ⟨z, i, rfl, rfl, h1, h2, h3, q⟩ := h
  obtain ⟨t, rfl⟩ := rx
  obtain ⟨t', rfl⟩ := ry
  refine SB.mul (mulOk_of 16 1048576 h1 h3 (by omega) (by decide) (by decide)) fun t2 k => ⟨.str (Txt.mul z i), H, I.tok k, ⟨t2, rfl⟩, q⟩
theorem ext_codes {x y : Str} (h : x.cps.toList = y.cps.toList) : x = y := by
  cases x
  cases y
  congr 1
  exact Array.toList_inj.mp h
theorem codes_app (x y : Str) : (x ++ y).cps.toList = x.cps.toList ++ y.cps.toList := by
  show (x.cps ++ y.cps).toList = _
  rw [Array.toList_append]
theorem codes_len (x : Str) : x.cps.toList.length = x.length := Array.length_toList
theorem mul_len (z : Str) (i : Nat) : (Txt.mul z (i : Int)).length = i * z.length := by
  rw [← codes_len, mul_codes, Int.toNat_natCast]
  induction i with
  | zero => simp
  | succ n ih => rw [List.replicate_succ, List.flatten_cons, List.length_append, ih, codes_len, Nat.succ_mul, Nat.add_comm]
/-! ### what all laws share -/
/-- any whole number comes -/
def spCell (K : PySem.W.Frag) : Sp := fun vs H Q _ => ∃ (a : Addr) (ns : List Int) (k : Int), vs = [.ref a, .int k] ∧ SqL K H a (ns.map V.int) ∧ 0 ≤ k ∧ ∀ z : Int, Q (.int z) H
def spTruth : Sp := fun vs H Q _ => ∃ b c, vs = [.bl b, .bl c] ∧ Q (.bl (decide (b = c))) H
/-- the script: a list that is locked, or of the written part -/
def Scr (K : PySem.W.Frag) (H : Hp) (a : Addr) (xs : List V) : Prop :=
  (∃ o, H a = some (.frz o (.lst xs))) ∨ (∃ (o : Obj) (its : Array Value) (n : Nat), K.lookup a = some o ∧ o.cls = .type "list" ∧ o.dict = none ∧ o.data = .seq its n ∧ its.size ≤ sizeLine ∧ Vals xs its.toList)
theorem Scr.sq {K : PySem.W.Frag} {H : Hp} {a : Addr} {xs : List V} (h : Scr K H a xs) : SqL K H a xs := by
  rcases h with h | h
  · exact .inl (.inr h)
  · exact .inr h
theorem Scr.of {K : PySem.W.Frag} {H : Hp} {a : Addr} {xs : List V} (hO : Only H) (h : SqL K H a xs) : Scr K H a xs := by
  rcases h with (h | h) | h
  · rcases hO a with q | ⟨o, ys, q⟩
    · rw [h] at q
      cases q
    · rw [h] at q
      cases q
  · exact .inl h
  · exact .inr h
theorem Scr.same {K : PySem.W.Frag} {H H' : Hp} {a : Addr} {xs : List V} (h : Scr K H a xs) (s : Same H H') : Scr K H' a xs := by
  rcases h with ⟨o, h⟩ | h
  · exact .inl ⟨o, s _ _ h⟩
  · exact .inr h
/-- through the store of what is no locked thing -/
theorem Scr.upd {K : PySem.W.Frag} {H : Hp} {a l : Addr} {xs : List V} {u v : HO} (h : Scr K H a xs) (e : H l = some u) (n : ∀ o w, u ≠ .frz o w) : Scr K (upd H l v) a xs := by
  rcases h with ⟨o, h⟩ | h
  · exact .inl ⟨o, by rw [upd_ne (fun z => by rw [z, e] at h; exact n _ _ (Option.some.inj h))]; exact h⟩
  · exact .inr h
theorem Scr.upl {K : PySem.W.Frag} {H : Hp} {a l : Addr} {xs ys : List V} {v : HO} (h : Scr K H a xs) (e : H l = some (.lst ys)) : Scr K (L2.upd H l v) a xs := h.upd e fun _ _ z => by cases z
theorem WAt.scr {CW CS : Addr} {H H' : Hp} {p : Addr} {W : WhS} {fp : List Addr} (h : WAt CW CS H p W fp) (k : Kept fp H H') {K : PySem.W.Frag} {a : Addr} {xs : List V} (e : Scr K H a xs) : Scr K H' a xs := by
  rcases e with ⟨o, e⟩ | e
  · exact .inl ⟨o, k _ _ e (h.frz e)⟩
  · exact .inr e
def spLaw (K : PySem.W.Frag) : Sp := fun vs H Q _ => ∃ (a : Addr) (ns : List Int), vs = [.ref a] ∧ Scr K H a (ns.map V.int) ∧ ns.length ≤ 63 ∧ ∀ H', Q (.bl true) H'
theorem ty_bl {K : PySem.W.Frag} {H : Hp} (b : Bool) : TyX K H (.bl b) (.type "bool") := .base (.bl b)
theorem ty_int {K : PySem.W.Frag} {H : Hp} (i : Int) : TyX K H (.int i) (.type "int") := .base (.int i)
theorem ty_str {K : PySem.W.Frag} {H : Hp} (z : Str) : TyX K H (.str z) (.type "str") := .base (.str z)
theorem kbb {K : PySem.W.Frag} : PySem.W.kitOne K (.type "bool") (.type "bool") = some true := kit_ty (by show kitB "bool" "bool" = some true; decide +kernel)
theorem kib {K : PySem.W.Frag} : PySem.W.kitOne K (.type "int") (.type "bool") = some false := kit_ty (by show kitB "int" "bool" = some false; decide +kernel)
theorem kii {K : PySem.W.Frag} : PySem.W.kitOne K (.type "int") (.type "int") = some true := kit_ty (by show kitB "int" "int" = some true; decide +kernel)
theorem kss {K : PySem.W.Frag} : PySem.W.kitOne K (.type "str") (.type "str") = some true := kit_ty (by show kitB "str" "str" = some true; decide +kernel)
section
variable {P : Program} {w : World} {K : PySem.W.Frag} {mg : Str → Option Value} {base : Heap} {CS CW CB CT CN : Addr}
end
theorem ixN_nat {n k : Nat} (h : k < n) : ixN n (k : Int) = some k := by
  unfold ixN
  rw [if_pos (by omega), if_pos (by omega)]
  rfl
theorem rep_flat {α : Type} (x : α) (n : Nat) : (List.replicate n [x]).flatten = List.replicate n x := by
  induction n with
  | zero => rfl
  | succ n ih => rw [List.replicate_succ, List.flatten_cons, ih, List.replicate_succ]; rfl
/-- only one is ready: it gets the turn -/
theorem best_own {l : List RowS} {k : Nat} {x : RowS} (h : l[k]? = some x) (hr : x.r = true) (ho : ∀ (j : Nat) (y : RowS), l[j]? = some y → y.r = true → j = k) : Wm.best l = some x := by
  cases e : Wm.best l with
  | none =>
    have := Wm.best_none.mp e x (List.mem_of_getElem? h)
    rw [hr] at this
    cases this
  | some b =>
    obtain ⟨h1, h2, _⟩ := Wm.best_some e
    obtain ⟨j, hj⟩ := List.getElem?_of_mem h2
    have := ho j b hj h1
    subst this
    rw [hj] at h
    exact h
theorem whose_some {W : WhS} {b : RowS} (e : Wm.best W.rows = some b) : Wm.whose W = some b.n := by
  unfold Wm.whose
  rw [e]
  rfl
theorem whose_none {W : WhS} (e : Wm.best W.rows = none) : Wm.whose W = none := by
  unfold Wm.whose
  rw [e]
  rfl
/-- a list stands through what a wheel does -/
theorem kl {CW CS : Addr} {H H' : Hp} {p l : Addr} {W : WhS} {fp fp' : List Addr} {xs : List V} (hW : WAt CW CS H p W fp) (st : Step fp H fp' H') (h : H l = some (.lst xs)) : H' l = some (.lst xs) := st.kept _ _ h (hW.lst h)
/-- a wheel stands through a list's store -/
theorem wl {CW CS : Addr} {H : Hp} {p l : Addr} {W : WhS} {fp : List Addr} {xs ys : List V} (hW : WAt CW CS H p W fp) (h : H l = some (.lst xs)) : WAt CW CS (upd H l (.lst ys)) p W fp :=
  hW.keep fun b hb o e => by
    rw [upd_ne]
    · exact e
    · intro z
      rw [z] at hb
      exact hW.lst h hb
theorem wf_m {q : Int} {d : Addr} {m : Str} (h1 : ¬ m = "past" := by decide +kernel) (h2 : ¬ m = "_sharers" := by decide +kernel) : (wf q d).lookup m = none := wf_no q d h1 h2
/-- a name among the names -/
theorem inV_names {W : WhS} {n : Str} : inV (.str n) (W.rows.map fun x => V.str x.n) = true ↔ Has W n := by
  unfold inV Has
  rw [List.any_map, List.any_eq_true]
  constructor
  · rintro ⟨x, hx, e⟩
    refine ⟨x, hx, ?_⟩
    have e : (x.n == n) = true := e
    exact eq_of_beq e
  · rintro ⟨x, hx, e⟩
    refine ⟨x, hx, ?_⟩
    show (x.n == n) = true
    rw [e]
    exact beq_self_eq_true _
theorem inV_strs {l : List Str} {n : Str} : inV (.str n) (l.map V.str) = true ↔ n ∈ l := by
  unfold inV
  rw [List.any_map, List.any_eq_true]
  constructor
  · rintro ⟨x, hx, e⟩
    have e : (x == n) = true := e
    rw [← eq_of_beq e]
    exact hx
  · intro h
    refine ⟨n, h, ?_⟩
    show (n == n) = true
    exact beq_self_eq_true _
theorem flat_strs (l : List Str) : (l.map V.str).all flatV = true := by
  rw [List.all_map, List.all_eq_true]
  intro x _
  rfl
theorem flat_names (l : List RowS) : (l.map fun x => V.str x.n).all flatV = true := by
  rw [List.all_map, List.all_eq_true]
  intro x _
  rfl
theorem upd_len (l : List RowS) (n : Str) (f : RowS → RowS) : (Wm.upd l n f).length = l.length := List.length_map _
theorem turn_len (W : WhS) : (Wm.turn W).rows.length = W.rows.length := by
  cases e : Wm.best W.rows with
  | none => rw [Wm.turn_none e]
  | some b => rw [Wm.turn_some e]; exact upd_len _ _ _
theorem turn_names (W : WhS) : (Wm.turn W).rows.map (·.n) = W.rows.map (·.n) := by
  cases e : Wm.best W.rows with
  | none => rw [Wm.turn_none e]
  | some b => rw [Wm.turn_some e]; exact Wm.names_upd fun _ => rfl
theorem rest_names (W : WhS) (n : Str) : (Wm.rest W n).rows.map (·.n) = W.rows.map (·.n) := Wm.names_upd (f := fun x => { x with r := false }) fun _ => rfl
theorem reshare_names (W : WhS) (n : Str) (s : Int) : (Wm.reshare W n s).rows.map (·.n) = W.rows.map (·.n) := Wm.names_upd (f := Wm.shared W.past s) fun _ => rfl
theorem wake_names (W : WhS) (n : Str) : (Wm.wake W n).rows.map (·.n) = W.rows.map (·.n) := Wm.names_upd (Wm.woken_n _)
theorem has_n {W : WhS} {n : Str} : Has W n ↔ n ∈ W.rows.map (·.n) := by
  unfold Has
  rw [List.mem_map]
theorem good_share {i : Int} (h1 : 1 ≤ i) (h2 : i ≤ 12) (h : good (.int i) = false) : False := by
  have : (decide (1 ≤ i) && decide (i ≤ 12)) = false := h
  rw [decide_eq_true h1, decide_eq_true h2] at this
  cases this
/-- a text's number -/
def num (k : Nat) : Str := Str.ofString (toString ((k : Nat) : Int))
theorem Th.same {H H' : Hp} {x : V} (h : Th H x) (s : Same H H') : Th H' x := by
  cases h with
  | lst e => exact .lst (s _ _ e)
  | int i => exact .int i
  | bl b => exact .bl b
  | non => exact .non
  | str z => exact .str z
/-! ### isinstance of a caught error, of any class of ours -/
def rIsA (K : PySem.W.Frag) (a : Addr) (cls : Value) (d : Option Addr) : List V → Hp → VK → Prop := fun xs H Q => ∃ D, ExcC K D ∧ cls = .ref D ∧ d = none ∧ rIsE K D a xs H Q
theorem call_isA {X : Cx} {a : Addr} {oe : Obj} {pn : List (Addr × Obj)} {cls : Value} {d : Option Addr} (hz : Zc cls d oe) (hf : ∃ vs, oe.data = .fields vs) :
    CallR (X.suite a ((a, oe) :: pn)) (.builtin "isinstance") (rIsA X.K a cls d) := by
  intro pins s σ H xs us Q I r h
  obtain ⟨D, C, rfl, rfl, h⟩ := h
  exact call_isE C hz hf pins s σ H xs us Q I r h
structure InsT (K : PySem.W.Frag) (C : Addr) : Prop where
  ha : PySem.W.findIn K (.ref C) "__class__" = some (some (.builtin "object.__class__"))
  hn : PySem.W.specialIn K (.builtin "object.__class__") "__get__" = some (some (.builtin "getset_descriptor.__get__"))
  ht : PySem.W.takesIn K (.builtin "object.__class__") = some true
  hm : PySem.W.mroIn K C (.type "object") = some true
theorem InsT.ty {K : PySem.W.Frag} {C a dx : Addr} {H : Hp} {fs : List (Str × V)} (h : InsT K C) (cl : Cls K C) (e : H a = some (.ins C dx fs)) : TyX K H (.ref a) (.ref C) := .base (.ins e cl h.ha h.hn h.ht h.hm)
/-! ### data compared -/
def rEqP (K : PySem.W.Frag) : R2 := fun x y H Q => ∃ d e, Dp K H x d ∧ Dp K H y e ∧ d.plain = true ∧ e.plain = true ∧ d.depth ≤ 64 ∧ Q (.bl (PyData.eqv d e)) H
def rNeP (K : PySem.W.Frag) : R2 := fun x y H Q => ∃ d e, Dp K H x d ∧ Dp K H y e ∧ d.plain = true ∧ e.plain = true ∧ d.depth ≤ 64 ∧ Q (.bl (!PyData.eqv d e)) H
theorem room64 {A : Around} {d e : PyData} (h : d.depth ≤ 64) (hu : A.units + 64 < cLine) : A.units + min d.depth e.depth < cLine := by
  have := Nat.min_le_left d.depth e.depth
  omega
theorem op_eqP {X : Cx} {K0 : PySem.W.Frag} (hu : X.A.units + 64 < cLine) (hK : X.K = K0 := by rfl) : OpR X (compareOp .Eq) (rEqP K0) := by
  subst hK
  intro pins s σ H x y v u Q I rx ry h
  obtain ⟨d, e, hd, he, sd, se, dd, q⟩ := h
  obtain ⟨as, r1⟩ := Dp.reads I d x v hd rx
  obtain ⟨bs, r2⟩ := Dp.reads I e y u he ry
  exact SeqAt.eq_plain r1 r2 sd se (room64 dd hu) ⟨.bl _, H, I, rfl, q⟩
theorem op_neP {X : Cx} {K0 : PySem.W.Frag} (hu : X.A.units + 64 < cLine) (hK : X.K = K0 := by rfl) : OpR X (compareOp .NotEq) (rNeP K0) := by
  subst hK
  intro pins s σ H x y v u Q I rx ry h
  obtain ⟨d, e, hd, he, sd, se, dd, q⟩ := h
  obtain ⟨as, r1⟩ := Dp.reads I d x v hd rx
  obtain ⟨bs, r2⟩ := Dp.reads I e y u he ry
  exact SeqAt.ne_plain r1 r2 sd se (room64 dd hu) ⟨.bl _, H, I, rfl, q⟩
theorem plain_all : ∀ {ds : List PyData}, (∀ d ∈ ds, d.plain = true) → PyData.plainAll ds = true
  | [], _ => rfl
  | d :: ds, h => by
    show (d.plain && PyData.plainAll ds) = true
    rw [h d List.mem_cons_self, plain_all fun x hx => h x (List.mem_cons_of_mem _ hx)]
    rfl
theorem dep_all {k : Nat} : ∀ {ds : List PyData}, (∀ d ∈ ds, d.depth ≤ k) → PyData.depthAll ds ≤ k
  | [], _ => Nat.zero_le _
  | d :: ds, h => by
    show max d.depth (PyData.depthAll ds) ≤ k
    exact Nat.max_le.mpr ⟨h d List.mem_cons_self, dep_all fun x hx => h x (List.mem_cons_of_mem _ hx)⟩
/-- a list of small data -/
def Sm (k : Nat) (d : PyData) : Prop := d.plain = true ∧ d.depth ≤ k
theorem Sm.list {k : Nat} {ds : List PyData} (h : ∀ d ∈ ds, Sm k d) : Sm (k + 1) (.list ds) := ⟨plain_all fun d hd => (h d hd).1, Nat.succ_le_succ (dep_all fun d hd => (h d hd).2)⟩
theorem Sm.tup {k : Nat} {ds : List PyData} (h : ∀ d ∈ ds, Sm k d) : Sm (k + 1) (.tuple ds) := ⟨plain_all fun d hd => (h d hd).1, Nat.succ_le_succ (dep_all fun d hd => (h d hd).2)⟩
theorem Sm.str (k : Nat) (s : Str) : Sm k (.str s) := ⟨rfl, Nat.zero_le _⟩
theorem Sm.int (k : Nat) (s : Int) : Sm k (.int s) := ⟨rfl, Nat.zero_le _⟩
theorem Sm.bl (k : Nat) (s : Bool) : Sm k (.bool s) := ⟨rfl, Nat.zero_le _⟩
theorem Sm.up {j k : Nat} {d : PyData} (h : Sm j d) (e : j ≤ k) : Sm k d := ⟨h.1, Nat.le_trans h.2 e⟩
theorem Sm.strs {k : Nat} (ss : List Str) : Sm (k + 1) (.list (ss.map PyData.str)) := Sm.list fun d hd => by
  obtain ⟨s, _, rfl⟩ := List.mem_map.mp hd
  exact .str _ _
theorem DpAll.map {α : Type} {K : PySem.W.Frag} {H : Hp} {f : α → V} {g : α → PyData} : ∀ {l : List α}, (∀ x ∈ l, Dp K H (f x) (g x)) → DpAll K H (l.map f) (l.map g)
  | [], _ => .nil
  | a :: l, h => .cons (h a List.mem_cons_self) (DpAll.map fun x hx => h x (List.mem_cons_of_mem _ hx))
theorem DpAll.app {K : PySem.W.Frag} {H : Hp} : ∀ {xs ys : List V} {ds es : List PyData}, DpAll K H xs ds → DpAll K H ys es → DpAll K H (xs ++ ys) (ds ++ es)
  | _, _, _, _, .nil, h => h
  | _, _, _, _, .cons a b, h => .cons a (DpAll.app b h)
/-- by places -/
theorem DpAll.of {K : PySem.W.Frag} {H : Hp} : ∀ {xs : List V} {ds : List PyData}, xs.length = ds.length → (∀ (i : Nat) (x : V) (d : PyData), xs[i]? = some x → ds[i]? = some d → Dp K H x d) → DpAll K H xs ds
  | [], [], _, _ => .nil
  | [], _ :: _, h, _ => by simp at h
  | _ :: _, [], h, _ => by simp at h
  | x :: xs, d :: ds, h, f => .cons (f 0 x d rfl rfl) (DpAll.of (by simpa using h) fun i y e h1 h2 => f (i + 1) y e (by simpa using h1) (by simpa using h2))
theorem Dp.strs {K : PySem.W.Frag} {H : Hp} {l : Addr} {ss : List Str} (h : SqL K H l (ss.map V.str)) : Dp K H (.ref l) (.list (ss.map PyData.str)) := .lst h (DpAll.map fun x _ => .str x)
/-- x == y of the same data -/
theorem eq_same {K : PySem.W.Frag} {H : Hp} {x y : V} {d : PyData} {Q : VK} (h1 : Dp K H x d) (h2 : Dp K H y d) (h : Sm 64 d) (q : Q (.bl true) H) : rEqP K x y H Q := ⟨d, d, h1, h2, h.1, h.1, h.2, by rw [SeqAt.eqv_refl_plain d h.1]; exact q⟩
theorem ne_same {K : PySem.W.Frag} {H : Hp} {x y : V} {d : PyData} {Q : VK} (h1 : Dp K H x d) (h2 : Dp K H y d) (h : Sm 64 d) (q : Q (.bl false) H) : rNeP K x y H Q := ⟨d, d, h1, h2, h.1, h.1, h.2, by rw [SeqAt.eqv_refl_plain d h.1]; exact q⟩
theorem names_v {l : List RowS} {nl : List Str} (h : l.map (·.n) = nl) : (l.map fun x => V.str x.n) = nl.map V.str := by
  rw [← h, List.map_map]
  rfl
/-! ### lists of tuples -/
inductive TA2 (H : Hp) : List Addr → List (List V) → Prop
  | nil : TA2 H [] []
  | cons {t : Addr} {vs : List V} {ts : List Addr} {vss : List (List V)} : H t = some (.tup vs) → TA2 H ts vss → TA2 H (t :: ts) (vs :: vss)
theorem TA2.mono {H H' : Hp} (k : ∀ t vs, H t = some (.tup vs) → H' t = some (.tup vs)) : ∀ {ts : List Addr} {vss : List (List V)}, TA2 H ts vss → TA2 H' ts vss
  | _, _, .nil => .nil
  | _, _, .cons a b => .cons (k _ _ a) (b.mono k)
theorem TA2.len {H : Hp} : ∀ {ts : List Addr} {vss : List (List V)}, TA2 H ts vss → ts.length = vss.length
  | _, _, .nil => rfl
  | _, _, .cons _ b => congrArg (· + 1) b.len
theorem TA2.app {H : Hp} : ∀ {ts us : List Addr} {vss wss : List (List V)}, TA2 H ts vss → TA2 H us wss → TA2 H (ts ++ us) (vss ++ wss)
  | _, _, _, _, .nil, h => h
  | _, _, _, _, .cons a b, h => .cons a (b.app h)
theorem TA2.at {H : Hp} : ∀ {ts : List Addr} {vss : List (List V)} {i : Nat} {vs : List V}, TA2 H ts vss → vss[i]? = some vs → ∃ t, ts[i]? = some t ∧ H t = some (.tup vs)
  | _, _, 0, _, .cons a _, h => by
    cases h
    exact ⟨_, rfl, a⟩
  | _, _, i + 1, _, .cons _ b, h => b.at (i := i) (by simpa using h)
  | _, _, _, _, .nil, h => by simp at h
theorem TA2.dp {α : Type} {K : PySem.W.Frag} {H : Hp} {f : α → List V} {g : α → List PyData} (fg : ∀ x, DpAll K H (f x) (g x)) : ∀ {l : List α} {ts : List Addr}, TA2 H ts (l.map f) → DpAll K H (ts.map V.ref) (l.map fun x => PyData.tuple (g x))
  | [], [], .nil => .nil
  | x :: l, t :: ts, .cons a b => .cons (.tup (.inl (.inl a)) (fg x)) (TA2.dp fg b)
/-- a list of tuples -/
def Tl (H : Hp) (l : Addr) (vss : List (List V)) : Prop := ∃ ts, H l = some (.lst (ts.map V.ref)) ∧ TA2 H ts vss
theorem Tl.same {H H' : Hp} {l : Addr} {vss : List (List V)} (h : Tl H l vss) (s : Same H H') : Tl H' l vss := by
  obtain ⟨ts, a, b⟩ := h
  exact ⟨ts, s _ _ a, b.mono fun t vs e => s _ _ e⟩
theorem Tl.kept {CW CS : Addr} {H H' : Hp} {p l : Addr} {W : WhS} {fp : List Addr} {vss : List (List V)} (h : Tl H l vss) (hW : WAt CW CS H p W fp) (k : Kept fp H H') : Tl H' l vss := by
  obtain ⟨ts, a, b⟩ := h
  exact ⟨ts, k _ _ a (hW.lst a), b.mono fun t vs e => k _ _ e (hW.tup e)⟩
theorem Tl.nil {H : Hp} {l : Addr} (h : H l = some (.lst [])) : Tl H l [] := ⟨[], h, .nil⟩
theorem Tl.at {H : Hp} {l : Addr} {vss : List (List V)} {i : Nat} {vs : List V} (h : Tl H l vss) (e : vss[i]? = some vs) : ∃ xs t, H l = some (.lst xs) ∧ xs[i]? = some (.ref t) ∧ H t = some (.tup vs) := by
  obtain ⟨ts, a, b⟩ := h
  obtain ⟨t, t1, t2⟩ := b.at e
  exact ⟨_, t, a, by rw [List.getElem?_map, t1]; rfl, t2⟩
theorem Tl.len {H : Hp} {l : Addr} {vss : List (List V)} (h : Tl H l vss) : ∃ xs, H l = some (.lst xs) ∧ xs.length = vss.length := by
  obtain ⟨ts, a, b⟩ := h
  exact ⟨_, a, by rw [List.length_map, b.len]⟩
/-- one more tuple at the end, in place -/
theorem Tl.snoc {H : Hp} {l t : Addr} {vss : List (List V)} {vs : List V} (h : Tl H l vss) (ht : H t = none) : ∃ xs, H l = some (.lst xs) ∧ xs.length = vss.length ∧ Tl (upd (upd H t (.tup vs)) l (.lst (xs ++ [.ref t]))) l (vss ++ [vs]) := by
  obtain ⟨ts, a, b⟩ := h
  refine ⟨_, a, by rw [List.length_map, b.len], ts ++ [t], by rw [upd_same, List.map_append]; rfl, TA2.app (b.mono fun u us e => ?_) (.cons ?_ .nil)⟩
  · rw [upd_ne (fun z => by rw [z, a] at e; cases e), upd_ne (ne_of_none e ht)]
    exact e
  · rw [upd_ne (ne_of_none a ht).symm, upd_same]
theorem Tl.dp {α : Type} {K : PySem.W.Frag} {H : Hp} {l : Addr} {f : α → List V} {g : α → List PyData} (fg : ∀ x, DpAll K H (f x) (g x)) {as : List α} (h : Tl H l (as.map f)) : Dp K H (.ref l) (.list (as.map fun x => PyData.tuple (g x))) := by
  obtain ⟨ts, a, b⟩ := h
  exact .lst (SqL.of a) (b.dp fg)
theorem TA2.take {H : Hp} {α : Type} {f : α → List V} {ps : List α} {ts : List Addr} (h : TA2 H ts (ps.map f)) {i : Nat} {x : α} (e : ps[i]? = some x) : ∃ t, ts[i]? = some t ∧ H t = some (.tup (f x)) :=
  h.at (by rw [List.getElem?_map, e]; rfl)
theorem take_snoc {α : Type} {l : List α} {i : Nat} {x : α} (e : l[i]? = some x) : l.take (i + 1) = l.take i ++ [x] := by
  rw [List.take_add_one, e]
  rfl
/-- a comprehension over a list of tuples, with a test: the tuples themselves -/
theorem lc_tf {K : PySem.W.Frag} {α : Type} {f : α → List V} {ps : List α} {a : Addr} {g : TG} {tt : TT} {te : TE} {vs : List Nat} {σ : L2.St} {H : Hp} {D : Addr} {Qd : Hp → Prop} (pr : α → Bool) (h : Tl H a (ps.map f)) (hD : H D = none) (hlen : ps.length ≤ 1000)
    (hs : ∀ x ∈ ps, ∀ t H', Same H H' → H' t = some (.tup (f x)) → ∀ (Y : V → Hp → Prop) (Z : Hp → Prop), (pr x = true → Y (.ref t) H') → (pr x = false → Z H') →
      g (.ref t) (wipe σ vs) H' fun σ2 H2 => wipe σ2 vs = wipe σ vs ∧ tt σ2 H2 fun b H3 => if b = true then te σ2 H3 Y else Z H3)
    (hd : ∀ H', Same H H' → Tl H' D ((ps.filter pr).map f) → Qd H') :
    ∃ W : Nat → Nat → Hp → Prop, (∃ m, W 0 m (upd H D (.lst []))) ∧ ∀ i m H, W i m H →
      ((Itl K a).stop i H ∧ Qd H) ∨ ((Itl K a).go i H ∧ ∃ Nx : Hp → Prop, (∀ H', Nx H' → ∃ m', m' < m ∧ W (i + 1) m' H') ∧ ∀ x H', (Itl K a).yld i H x H' → g x (wipe σ vs) H' fun σ2 H2 => wipe σ2 vs = wipe σ vs ∧ tt σ2 H2 fun b H3 =>
        if b = true then te σ2 H3 fun y H4 => ∃ acc, H4 D = some (.lst acc) ∧ acc.length < sizeLine ∧ Nx (upd H4 D (.lst (acc ++ [y]))) else Nx H3) := by
  obtain ⟨ts, h1, h2⟩ := h
  have hl : (ts.map V.ref).length = ps.length := by rw [List.length_map, h2.len, List.length_map]
  refine lc_list (K := K) (a := a) (xs := ts.map V.ref) (fun i H' => Same H H' ∧ ∃ us, H' D = some (.lst (us.map V.ref)) ∧ TA2 H' us (((ps.take i).filter pr).map f)) ⟨same_upd hD, [], upd_same, .nil⟩ (fun i H' _ e => SqL.of (e.1 _ _ h1)) ?_ ?_
  · rintro i v H' hv ⟨s, us, u1, u2⟩
    have hi : i < ps.length := by rw [← hl]; exact (List.getElem?_eq_some_iff.mp hv).1
    have ex : ps[i]? = some ps[i] := by simp [hi]
    generalize ps[i] = x at ex
    obtain ⟨t, t1, t2⟩ := h2.take ex
    rw [List.getElem?_map, t1] at hv
    cases hv
    refine hs x (List.mem_of_getElem? ex) t H' s (s _ _ t2) _ _ (fun e => ?_) (fun e => ?_)
    · refine ⟨us.map V.ref, u1, ?_, fun b o e2 => ?_, us ++ [t], by rw [upd_same, List.map_append]; rfl, ?_⟩
      · rw [List.length_map, u2.len, List.length_map]
        refine small1000 (Nat.le_trans (List.length_filter_le _ _) ?_)
        rw [List.length_take]
        omega
      · rw [upd_ne (fun z => by rw [z, hD] at e2; cases e2)]
        exact s _ _ e2
      · rw [take_snoc ex, List.filter_append, List.map_append]
        have : [x].filter pr = [x] := by simp [e]
        rw [this]
        exact TA2.app (u2.mono fun z w e2 => by rw [upd_ne (fun q => by rw [q, u1] at e2; cases e2)]; exact e2) (.cons (by rw [upd_ne (fun q => by rw [q] at t2; rw [hD] at t2; cases t2)]; exact s _ _ t2) .nil)
    · refine ⟨s, us, u1, ?_⟩
      rw [take_snoc ex, List.filter_append]
      have : [x].filter pr = [] := by simp [e]
      rw [this, List.append_nil]
      exact u2
  · rintro H' ⟨s, us, u1, u2⟩
    rw [hl, List.take_length] at u2
    exact hd H' s ⟨us, u1, u2⟩
/-- a comprehension over a list of tuples, without a test: flat values -/
theorem lc_tm {K : PySem.W.Frag} {α : Type} {f : α → List V} {ps : List α} {a : Addr} {g : TG} {tt : TT} {te : TE} {vs : List Nat} {σ : L2.St} {H : Hp} {D : Addr} {Qd : Hp → Prop} (fv : α → V) (h : Tl H a (ps.map f)) (hD : H D = none) (hlen : ps.length ≤ 1000)
    (hs : ∀ x ∈ ps, ∀ t H', Same H H' → H' t = some (.tup (f x)) → ∀ (Y : V → Hp → Prop) (Z : Hp → Prop), Y (fv x) H' →
      g (.ref t) (wipe σ vs) H' fun σ2 H2 => wipe σ2 vs = wipe σ vs ∧ tt σ2 H2 fun b H3 => if b = true then te σ2 H3 Y else Z H3)
    (hd : ∀ H', Same H H' → H' D = some (.lst (ps.map fv)) → Qd H') :
    ∃ W : Nat → Nat → Hp → Prop, (∃ m, W 0 m (upd H D (.lst []))) ∧ ∀ i m H, W i m H →
      ((Itl K a).stop i H ∧ Qd H) ∨ ((Itl K a).go i H ∧ ∃ Nx : Hp → Prop, (∀ H', Nx H' → ∃ m', m' < m ∧ W (i + 1) m' H') ∧ ∀ x H', (Itl K a).yld i H x H' → g x (wipe σ vs) H' fun σ2 H2 => wipe σ2 vs = wipe σ vs ∧ tt σ2 H2 fun b H3 =>
        if b = true then te σ2 H3 fun y H4 => ∃ acc, H4 D = some (.lst acc) ∧ acc.length < sizeLine ∧ Nx (upd H4 D (.lst (acc ++ [y]))) else Nx H3) := by
  obtain ⟨ts, h1, h2⟩ := h
  have hl : (ts.map V.ref).length = ps.length := by rw [List.length_map, h2.len, List.length_map]
  refine lc_list (K := K) (a := a) (xs := ts.map V.ref) (fun i H' => Same H H' ∧ H' D = some (.lst ((ps.take i).map fv))) ⟨same_upd hD, upd_same⟩ (fun i H' _ e => SqL.of (e.1 _ _ h1)) ?_ ?_
  · rintro i v H' hv ⟨s, u1⟩
    have hi : i < ps.length := by rw [← hl]; exact (List.getElem?_eq_some_iff.mp hv).1
    have ex : ps[i]? = some ps[i] := by simp [hi]
    generalize ps[i] = x at ex
    obtain ⟨t, t1, t2⟩ := h2.take ex
    rw [List.getElem?_map, t1] at hv
    cases hv
    refine hs x (List.mem_of_getElem? ex) t H' s (s _ _ t2) _ _ ?_
    refine ⟨_, u1, ?_, fun b o e2 => ?_, ?_⟩
    · rw [List.length_map]
      refine small1000 ?_
      rw [List.length_take]
      omega
    · rw [upd_ne (fun z => by rw [z, hD] at e2; cases e2)]
      exact s _ _ e2
    · rw [upd_same, take_snoc ex, List.map_append]
      rfl
  · rintro H' ⟨s, u1⟩
    rw [hl, List.take_length] at u1
    exact hd H' s u1
theorem eqv_nils : PyData.eqv (.list []) (.list []) = true := SeqAt.eqv_refl_plain _ rfl
theorem eqv_cons_nil (d : PyData) (ds : List PyData) : PyData.eqv (.list (d :: ds)) (.list []) = false := by
  show PyData.eqvAll (d :: ds) [] = false
  rw [PyData.eqvAll]
/-- a list of tuples != [] -/
theorem ne_empty {K : PySem.W.Frag} {α : Type} {H : Hp} {l l0 : Addr} {f : α → List V} {g : α → List PyData} {as : List α} {Q : VK} (fg : ∀ x, DpAll K H (f x) (g x)) (h : Tl H l (as.map f)) (h0 : H l0 = some (.lst [])) (gs : ∀ x, ∀ d ∈ g x, Sm 60 d) (q : Q (.bl (!as.isEmpty)) H) : rNeP K (.ref l) (.ref l0) H Q := by
  have sm : Sm 64 (.list (as.map fun x => PyData.tuple (g x))) := Sm.up (j := 62) (Sm.list fun d hd => by
    obtain ⟨x, _, rfl⟩ := List.mem_map.mp hd
    exact Sm.tup (gs x)) (by decide)
  refine ⟨_, _, h.dp fg, .lst (SqL.of h0) .nil, sm.1, rfl, sm.2, ?_⟩
  cases as with
  | nil => rw [List.map_nil, eqv_nils]; exact q
  | cons x as => rw [List.map_cons, eqv_cons_nil]; exact q
theorem TA2.set {H : Hp} : ∀ {ts : List Addr} {vss : List (List V)} {k : Nat} {t : Addr} {vs : List V}, TA2 H ts vss → H t = some (.tup vs) → TA2 H (ts.set k t) (vss.set k vs)
  | _, _, _, _, _, .nil, _ => .nil
  | _, _, 0, _, _, .cons _ b, h => .cons h b
  | _, _, k + 1, _, _, .cons a b, h => .cons a (b.set (k := k) h)
/-- one tuple set anew -/
theorem Tl.set {H : Hp} {l t : Addr} {vss : List (List V)} {k : Nat} {vs : List V} (h : Tl H l vss) (hk : k < vss.length) (ht : H t = none) :
    ∃ xs, H l = some (.lst xs) ∧ ixN xs.length (k : Int) = some k ∧ Tl (upd (upd H t (.tup vs)) l (.lst (xs.set k (.ref t)))) l (vss.set k vs) := by
  obtain ⟨ts, a, b⟩ := h
  have hl := b.len
  refine ⟨_, a, ixN_nat (by rw [List.length_map, hl]; exact hk), ts.set k t, by rw [upd_same, List.map_set], TA2.set (b.mono fun u us e => ?_) ?_⟩
  · rw [upd_ne (fun z => by rw [z, a] at e; cases e), upd_ne (ne_of_none e ht)]
    exact e
  · rw [upd_ne (ne_of_none a ht).symm, upd_same]
/-- a list of tuples stands while another list is stored to -/
theorem Tl.upl {H : Hp} {l l' : Addr} {vss : List (List V)} {xs ys : List V} (h : Tl H l vss) (e : H l' = some (.lst xs)) (ne : l ≠ l') : Tl (upd H l' (.lst ys)) l vss := by
  obtain ⟨ts, a, b⟩ := h
  exact ⟨ts, by rw [upd_ne ne]; exact a, b.mono fun t vs h2 => by rw [upd_ne (fun z => by rw [z, e] at h2; cases h2)]; exact h2⟩
/-- a comprehension over names: tuples of what was told of each -/
theorem lc_nt {K : PySem.W.Frag} {rows : List RowS} {ln : Addr} {g : TG} {tt : TT} {te : TE} {vs : List Nat} {σ : L2.St} {H : Hp} {D : Addr} {Qd : Hp → Prop} (tv : RowS → List V) (hn : H ln = some (.lst (rows.map fun x => V.str x.n))) (hD : H D = none) (hlen : rows.length ≤ 1000)
    (hs : ∀ x ∈ rows, ∀ H', Same H H' → ∀ (Y : V → Hp → Prop) (Z : Hp → Prop), (∀ t, H' t = none → Y (.ref t) (upd H' t (.tup (tv x)))) →
      g (.str x.n) (wipe σ vs) H' fun σ2 H2 => wipe σ2 vs = wipe σ vs ∧ tt σ2 H2 fun b H3 => if b = true then te σ2 H3 Y else Z H3)
    (hd : ∀ H', Same H H' → Tl H' D (rows.map tv) → Qd H') :
    ∃ W : Nat → Nat → Hp → Prop, (∃ m, W 0 m (upd H D (.lst []))) ∧ ∀ i m H, W i m H →
      ((Itl K ln).stop i H ∧ Qd H) ∨ ((Itl K ln).go i H ∧ ∃ Nx : Hp → Prop, (∀ H', Nx H' → ∃ m', m' < m ∧ W (i + 1) m' H') ∧ ∀ x H', (Itl K ln).yld i H x H' → g x (wipe σ vs) H' fun σ2 H2 => wipe σ2 vs = wipe σ vs ∧ tt σ2 H2 fun b H3 =>
        if b = true then te σ2 H3 fun y H4 => ∃ acc, H4 D = some (.lst acc) ∧ acc.length < sizeLine ∧ Nx (upd H4 D (.lst (acc ++ [y]))) else Nx H3) := by
  have hl : (rows.map fun x => V.str x.n).length = rows.length := List.length_map _
  refine lc_list (K := K) (a := ln) (xs := rows.map fun x => V.str x.n) (fun i H' => Same H H' ∧ Tl H' D ((rows.take i).map tv)) ⟨same_upd hD, Tl.nil upd_same⟩ (fun i H' _ e => SqL.of (e.1 _ _ hn)) ?_ ?_
  · rintro i v H' hv ⟨s, u1⟩
    have hi : i < rows.length := by rw [← hl]; exact (List.getElem?_eq_some_iff.mp hv).1
    have ex : rows[i]? = some rows[i] := by simp [hi]
    generalize rows[i] = x at ex
    rw [List.getElem?_map, ex] at hv
    cases hv
    refine hs x (List.mem_of_getElem? ex) H' s _ _ fun t ht => ?_
    obtain ⟨xs, x1, x2, x3⟩ := u1.snoc (vs := tv x) ht
    refine ⟨xs, ?_, ?_, fun b o e2 => ?_, ?_⟩
    · rw [upd_ne (ne_of_none x1 ht)]
      exact x1
    · rw [x2, List.length_map, List.length_take]
      exact small1000 (by omega)
    · rw [upd_ne (fun z => by rw [z, hD] at e2; cases e2)]
      exact same_upd ht _ _ (s _ _ e2)
    · rw [take_snoc ex, List.map_append]
      exact x3
  · rintro H' ⟨s, u1⟩
    rw [hl, List.take_length] at u1
    exact hd H' s u1
/-- the place of the one who gets the turn -/
def bestV (rows : List RowS) (v : V) : Prop := (Wm.best rows = none ∧ v = .non) ∨ ∃ (k : Nat) (b : RowS), rows[k]? = some b ∧ Wm.best rows = some b ∧ v = .int (k : Int)
theorem bestV_keep {l : List RowS} {x : RowS} {v : V} (h : bestV l v) (e : Wm.pick (Wm.best l) x = Wm.best l) : bestV (l ++ [x]) v := by
  rcases h with ⟨a, b⟩ | ⟨k, b, h1, h2, h3⟩
  · exact .inl ⟨by rw [Wm.best_snoc, e]; exact a, b⟩
  · refine .inr ⟨k, b, ?_, by rw [Wm.best_snoc, e]; exact h2, h3⟩
    rw [List.getElem?_append_left (List.getElem?_eq_some_iff.mp h1).1]
    exact h1
theorem bestV_new {l : List RowS} {x : RowS} (e : Wm.pick (Wm.best l) x = some x) : bestV (l ++ [x]) (.int (l.length : Int)) :=
  .inr ⟨l.length, x, by simp, by rw [Wm.best_snoc, e], rfl⟩
theorem scal_optN (o : Option Str) : scal (optN o) (optN o) = true := by cases o <;> rfl
theorem ne_self {H : Hp} {x : V} {Q : VK} (h : scal x x = true) (q : Q (.bl false) H) : rNe x x H Q := ⟨h, by rw [decide_eq_true rfl]; exact q⟩

/-! ### the mirror of a house -/
section
variable {β : Type}
def keys (l : List (Str × β)) : List Str := l.map (·.1)
def lk : List (Str × β) → Str → Option β
  | [], _ => none
  | e :: r, n => if e.1 = n then some e.2 else lk r n
def pt (l : List (Str × β)) (n : Str) (v : β) : List (Str × β) := l.map fun e => if e.1 = n then (e.1, v) else e
def dp (l : List (Str × β)) (n : Str) : List (Str × β) := l.filter fun e => decide (e.1 ≠ n)
theorem lk_mem : ∀ {l : List (Str × β)} {n : Str} {v : β}, lk l n = some v → (n, v) ∈ l
  | [], _, _, h => by cases h
  | e :: r, n, v, h => by
    unfold lk at h
    by_cases q : e.1 = n
    · rw [if_pos q] at h
      cases h
      subst q
      exact List.mem_cons_self
    · rw [if_neg q] at h
      exact List.mem_cons_of_mem _ (lk_mem h)
theorem lk_none_iff : ∀ {l : List (Str × β)} {n : Str}, lk l n = none ↔ n ∉ keys l
  | [], _ => by simp [lk, keys]
  | e :: r, n => by
    unfold lk keys
    by_cases q : e.1 = n
    · rw [if_pos q]
      simp [q]
    · rw [if_neg q, lk_none_iff]
      simp [keys, Ne.symm q, eq_comm, q]
theorem lk_of : ∀ {l : List (Str × β)} {n : Str} {v : β}, (keys l).Nodup → (n, v) ∈ l → lk l n = some v
  | [], _, _, _, h => (nomatch h)
  | e :: r, n, v, nd, h => by
    unfold keys at nd
    rw [List.map_cons, List.nodup_cons] at nd
    unfold lk
    rcases List.mem_cons.mp h with h | h
    · rw [← h, if_pos rfl]
    · have : e.1 ≠ n := fun z => nd.1 (by rw [z]; exact List.mem_map.mpr ⟨_, h, rfl⟩)
      rw [if_neg this]
      exact lk_of nd.2 h
theorem lk_some_key {l : List (Str × β)} {n : Str} {v : β} (h : lk l n = some v) : n ∈ keys l := List.mem_map.mpr ⟨_, lk_mem h, rfl⟩
theorem key_lk {l : List (Str × β)} {n : Str} (h : n ∈ keys l) : ∃ v, lk l n = some v := by
  cases e : lk l n with
  | none => exact (lk_none_iff.mp e h).elim
  | some v => exact ⟨v, rfl⟩
theorem keys_pt (l : List (Str × β)) (n : Str) (v : β) : keys (pt l n v) = keys l := by
  unfold keys pt
  rw [List.map_map]
  refine List.map_congr_left fun e _ => ?_
  by_cases q : e.1 = n <;> simp [Function.comp, q]
theorem lk_pt_ne : ∀ {l : List (Str × β)} {n m : Str} {v : β}, m ≠ n → lk (pt l n v) m = lk l m
  | [], _, _, _, _ => rfl
  | e :: r, n, m, v, h => by
    show lk ((if e.1 = n then (e.1, v) else e) :: pt r n v) m = lk (e :: r) m
    unfold lk
    by_cases q : e.1 = n
    · rw [if_pos q]
      have : e.1 ≠ m := fun z => h (by rw [← z, q])
      rw [if_neg this, if_neg this]
      exact lk_pt_ne h
    · rw [if_neg q]
      by_cases q2 : e.1 = m
      · rw [if_pos q2, if_pos q2]
      · rw [if_neg q2, if_neg q2]
        exact lk_pt_ne h
theorem lk_pt : ∀ {l : List (Str × β)} {n : Str} {v u : β}, lk l n = some u → lk (pt l n v) n = some v
  | [], _, _, _, h => by cases h
  | e :: r, n, v, u, h => by
    show lk ((if e.1 = n then (e.1, v) else e) :: pt r n v) n = some v
    unfold lk at h ⊢
    by_cases q : e.1 = n
    · rw [if_pos q]
      rw [if_pos q]
    · rw [if_neg q] at h
      rw [if_neg q, if_neg q]
      exact lk_pt h
theorem lk_app {l : List (Str × β)} {n m : Str} {v : β} : lk (l ++ [(m, v)]) n = match lk l n with
    | some u => some u
    | none => if m = n then some v else none := by
  induction l with
  | nil => rfl
  | cons e r ih =>
    show lk (e :: (r ++ [(m, v)])) n = _
    unfold lk
    by_cases q : e.1 = n
    · rw [if_pos q, if_pos q]
    · rw [if_neg q, if_neg q]
      exact ih
theorem lk_app_old {l : List (Str × β)} {n m : Str} {v : β} (h : n ≠ m) : lk (l ++ [(m, v)]) n = lk l n := by
  rw [lk_app]
  cases lk l n with
  | some u => rfl
  | none => rw [if_neg (Ne.symm h)]
theorem lk_app_new {l : List (Str × β)} {m : Str} {v : β} (h : lk l m = none) : lk (l ++ [(m, v)]) m = some v := by
  rw [lk_app, h]
  dsimp only
  rw [if_pos rfl]
theorem lk_dp_ne : ∀ {l : List (Str × β)} {n m : Str}, m ≠ n → lk (dp l n) m = lk l m
  | [], _, _, _ => rfl
  | e :: r, n, m, h => by
    unfold dp
    by_cases q : e.1 = n
    · rw [List.filter_cons, if_neg (by simp [q])]
      have : e.1 ≠ m := fun z => h (by rw [← z, q])
      show lk (dp r n) m = (if e.1 = m then some e.2 else lk r m)
      rw [if_neg this]
      exact lk_dp_ne h
    · rw [List.filter_cons, if_pos (by simpa using q)]
      show (if e.1 = m then some e.2 else lk (dp r n) m) = (if e.1 = m then some e.2 else lk r m)
      by_cases q2 : e.1 = m
      · rw [if_pos q2, if_pos q2]
      · rw [if_neg q2, if_neg q2]
        exact lk_dp_ne h
theorem lk_dp {l : List (Str × β)} {n : Str} : lk (dp l n) n = none := lk_none_iff.mpr fun h => by
  obtain ⟨e, he, q⟩ := List.mem_map.mp h
  exact of_decide_eq_true (List.mem_filter.mp he).2 q
theorem keys_dp_nd {l : List (Str × β)} (nd : (keys l).Nodup) (n : Str) : (keys (dp l n)).Nodup := nd.sublist (List.Sublist.map _ List.filter_sublist)
theorem keys_app_nd {l : List (Str × β)} (nd : (keys l).Nodup) {n : Str} (v : β) (h : lk l n = none) : (keys (l ++ [(n, v)])).Nodup := by
  unfold keys
  rw [List.map_append]
  exact Wm.nd_snoc nd (lk_none_iff.mp h)
end
structure Hs where
  ab : List (Str × Str)
  wh : List (Str × WhS)
def setW (h : Hs) (t : Str) (W : WhS) : Hs := { h with wh := pt h.wh t W }
structure HOk (h : Hs) : Prop where
  k1 : (keys h.ab).Nodup
  k2 : (keys h.wh).Nodup
  top : ∃ W, lk h.wh "" = some W
  nt : lk h.ab "" = none
  wt : ∀ t W, lk h.wh t = some W → t = "" ∨ ∃ a, lk h.ab t = some a
  rk : ∃ (rk : Str → Nat) (N : Nat), ∀ n a, lk h.ab n = some a → rk a < rk n ∧ rk n ≤ N
  aw : ∀ n a, lk h.ab n = some a → ∃ W, lk h.wh a = some W
  ok : ∀ t W, lk h.wh t = some W → Wm.Ok W
  sub : ∀ t W n, lk h.wh t = some W → (Has W n ↔ lk h.ab n = some t)
/-- somebody is ready -/
def Rdy (W : WhS) : Prop := ∃ x ∈ W.rows, x.r = true
theorem rdy_best {W : WhS} : Rdy W ↔ Wm.best W.rows ≠ none := by
  constructor
  · rintro ⟨x, hx, e⟩ q
    have := Wm.best_none.mp q x hx
    rw [e] at this
    cases this
  · intro q
    cases e : Wm.best W.rows with
    | none => exact (q e).elim
    | some b => exact ⟨b, (Wm.best_some e).2.1, (Wm.best_some e).1⟩
/-- a team is ready where it stands just where somebody is ready in it; but perhaps for one -/
def Rd (h : Hs) (ex : Str) : Prop := ∀ t W a Wa, lk h.wh t = some W → t ≠ "" → t ≠ ex → lk h.ab t = some a → lk h.wh a = some Wa → ∀ x ∈ Wa.rows, x.n = t → (x.r = true ↔ Rdy W)
theorem HOk.ne_above {h : Hs} (o : HOk h) {n a : Str} (e : lk h.ab n = some a) : n ≠ a := fun z => by
  obtain ⟨rk, N, q⟩ := o.rk
  have := (q n a e).1
  rw [z] at this
  omega
theorem HOk.ne_top {h : Hs} (o : HOk h) {n a : Str} (e : lk h.ab n = some a) : n ≠ "" := fun z => by
  rw [z, o.nt] at e
  cases e
theorem HOk.setW {h : Hs} (o : HOk h) {t : Str} {W W' : WhS} (e : lk h.wh t = some W) (ok' : Wm.Ok W') (hn : ∀ n, Has W' n ↔ Has W n) : HOk (setW h t W') := by
  have look : ∀ u U, lk (pt h.wh t W') u = some U → (u = t ∧ U = W') ∨ (u ≠ t ∧ lk h.wh u = some U) := fun u U q => by
    by_cases z : u = t
    · subst z
      rw [lk_pt e] at q
      cases q
      exact .inl ⟨rfl, rfl⟩
    · rw [lk_pt_ne z] at q
      exact .inr ⟨z, q⟩
  have back : ∀ u U, lk h.wh u = some U → ∃ U', lk (pt h.wh t W') u = some U' := fun u U q => by
    by_cases z : u = t
    · subst z
      exact ⟨_, lk_pt e⟩
    · exact ⟨U, by rw [lk_pt_ne z]; exact q⟩
  refine ⟨o.k1, ?_, ?_, o.nt, fun u U q => ?_, o.rk, fun n a q => ?_, fun u U q => ?_, fun u U n q => ?_⟩
  · show (keys (pt h.wh t W')).Nodup
    rw [keys_pt]
    exact o.k2
  · obtain ⟨W0, q⟩ := o.top
    exact back _ _ q
  · rcases look u U q with ⟨rfl, rfl⟩ | ⟨_, q⟩
    · exact o.wt _ _ e
    · exact o.wt _ _ q
  · obtain ⟨Wa, q2⟩ := o.aw n a q
    exact back _ _ q2
  · rcases look u U q with ⟨rfl, rfl⟩ | ⟨_, q⟩
    · exact ok'
    · exact o.ok _ _ q
  · rcases look u U q with ⟨rfl, rfl⟩ | ⟨_, q⟩
    · rw [hn]
      exact o.sub _ _ n e
    · exact o.sub _ _ n q
/-- what does not change names and readiness leaves the teams as ready as they are -/
theorem Rd.keep {h : Hs} {ex : Str} (r : Rd h ex) {t : Str} {W W' : WhS} (e : lk h.wh t = some W) (hr : ∀ x', x' ∈ W'.rows → ∃ x ∈ W.rows, x.n = x'.n ∧ x.r = x'.r) (hr2 : ∀ x ∈ W.rows, ∃ x' ∈ W'.rows, x.n = x'.n ∧ x.r = x'.r) : Rd (setW h t W') ex := by
  have look : ∀ u U, lk (pt h.wh t W') u = some U → ∃ U0, lk h.wh u = some U0 ∧ (∀ x', x' ∈ U.rows → ∃ x ∈ U0.rows, x.n = x'.n ∧ x.r = x'.r) ∧ (∀ x ∈ U0.rows, ∃ x' ∈ U.rows, x.n = x'.n ∧ x.r = x'.r) := fun u U q => by
    by_cases z : u = t
    · subst z
      rw [lk_pt e] at q
      cases q
      exact ⟨W, e, hr, hr2⟩
    · rw [lk_pt_ne z] at q
      exact ⟨U, q, fun x hx => ⟨x, hx, rfl, rfl⟩, fun x hx => ⟨x, hx, rfl, rfl⟩⟩
  intro u U a Ua q1 n1 n2 q2 q3 x hx xn
  obtain ⟨U0, u1, u2, u3⟩ := look u U q1
  obtain ⟨A0, a1, a2, a3⟩ := look a Ua q3
  obtain ⟨y, hy, y1, y2⟩ := a2 x hx
  rw [← y2]
  refine (r u U0 a A0 u1 n1 n2 q2 a1 y hy (y1.trans xn)).trans ?_
  constructor
  · rintro ⟨z, hz, e⟩
    obtain ⟨z', hz', _, e'⟩ := u3 z hz
    exact ⟨z', hz', by rw [← e']; exact e⟩
  · rintro ⟨z, hz, e⟩
    obtain ⟨z', hz', _, e'⟩ := u2 z hz
    exact ⟨z', hz', by rw [e']; exact e⟩
/-- one wakes or rests: a deed at its own row alone -/
theorem Rd.stir {h : Hs} (o : HOk h) {n a : Str} {W W' : WhS} (r : Rd h n) (ea : lk h.ab n = some a) (e : lk h.wh a = some W) (v : Bool) (own : ∀ x ∈ W'.rows, x.n = n → x.r = v) (oth : ∀ x, x.n ≠ n → (x ∈ W'.rows ↔ x ∈ W.rows))
    (hn : ∀ Wn, lk h.wh n = some Wn → (v = true ↔ Rdy Wn)) : Rd (setW h a W') a := by
  have na := o.ne_above ea
  intro u U b Ub q1 n1 n2 q2 q3 x hx xn
  have p1 : lk h.wh u = some U := by
    rw [← lk_pt_ne (n := a) (v := W') n2]
    exact q1
  by_cases hb : b = a
  · subst hb
    have : Ub = W' := by
      have := lk_pt (v := W') e
      rw [show (setW h b W').wh = pt h.wh b W' from rfl, this] at q3
      exact (Option.some.inj q3).symm
    subst this
    by_cases hu : u = n
    · subst hu
      rw [own x hx xn]
      exact hn U p1
    · exact r u U b W p1 n1 hu q2 e x ((oth x (by rw [xn]; exact hu)).mp hx) xn
  · have p3 : lk h.wh b = some Ub := by
      rw [← lk_pt_ne (n := a) (v := W') hb]
      exact q3
    have hu : u ≠ n := fun z => hb (by
      have q2 : lk h.ab u = some b := q2
      rw [z, ea] at q2
      exact (Option.some.inj q2).symm)
    exact r u U b Ub p1 n1 hu q2 p3 x hx xn
/-- nobody's name is let out -/
theorem Rd.all {h : Hs} {ex : Str} (r : Rd h ex) (he : ex = "" ∨ ∀ W a Wa, lk h.wh ex = some W → lk h.ab ex = some a → lk h.wh a = some Wa → ∀ x ∈ Wa.rows, x.n = ex → (x.r = true ↔ Rdy W)) : Rd h "" := by
  intro u U b Ub q1 n1 _ q2 q3 x hx xn
  by_cases hu : u = ex
  · rcases he with he | he
    · exact (n1 (hu.trans he)).elim
    · subst hu
      exact he U b Ub q1 q2 q3 x hx xn
  · exact r u U b Ub q1 n1 hu q2 q3 x hx xn
theorem Rd.weak {h : Hs} {ex : Str} (r : Rd h "") : Rd h ex := fun u U b Ub q1 n1 _ q2 q3 x hx xn => r u U b Ub q1 n1 n1 q2 q3 x hx xn
/-- up from one on: a deed in each wheel above, as long as `go` of the wheel ahead and behind -/
inductive Up (f : WhS → Str → WhS) (go : WhS → WhS → Prop) : Hs → Str → Hs → Prop
  | stop {h : Hs} {n a : Str} {W : WhS} : lk h.ab n = some a → lk h.wh a = some W → (a = "" ∨ ¬ go W (f W n)) → Up f go h n (setW h a (f W n))
  | next {h h' : Hs} {n a : Str} {W : WhS} : lk h.ab n = some a → lk h.wh a = some W → a ≠ "" → go W (f W n) → Up f go (setW h a (f W n)) a h' → Up f go h n h'
theorem Up.det {f : WhS → Str → WhS} {go : WhS → WhS → Prop} {h h1 h2 : Hs} {n : Str} (a : Up f go h n h1) (b : Up f go h n h2) : h1 = h2 := by
  induction a generalizing h2 with
  | stop e1 e2 e3 =>
    cases b with
    | stop d1 d2 d3 =>
      rw [e1] at d1
      cases d1
      rw [e2] at d2
      cases d2
      rfl
    | next d1 d2 d3 d4 d5 =>
      rw [e1] at d1
      cases d1
      rw [e2] at d2
      cases d2
      rcases e3 with e3 | e3
      · exact (d3 e3).elim
      · exact (e3 d4).elim
  | next e1 e2 e3 e4 e5 ih =>
    cases b with
    | stop d1 d2 d3 =>
      rw [e1] at d1
      cases d1
      rw [e2] at d2
      cases d2
      rcases d3 with d3 | d3
      · exact (e3 d3).elim
      · exact (d3 e4).elim
    | next d1 d2 d3 d4 d5 =>
      rw [e1] at d1
      cases d1
      rw [e2] at d2
      cases d2
      exact ih d5
def WakeUp : Hs → Str → Hs → Prop := Up Wm.wake fun W _ => ¬ Rdy W
def RestUp : Hs → Str → Hs → Prop := Up Wm.rest fun _ W' => ¬ Rdy W'
/-- what holds behind a deed that goes up -/
theorem wake_own {W : WhS} {n : Str} : (∀ x ∈ (Wm.wake W n).rows, x.n = n → x.r = true) ∧ ∀ x, x.n ≠ n → (x ∈ (Wm.wake W n).rows ↔ x ∈ W.rows) := by
  refine ⟨fun x hx e => ?_, fun x e => ?_⟩
  · obtain ⟨y, hy, ⟨_, rfl⟩ | ⟨q, rfl⟩⟩ := Wm.mem_upd hx
    · unfold Wm.woken
      split
      · next q => exact q
      · rfl
    · exact (q e).elim
  · constructor
    · intro hx
      obtain ⟨y, hy, ⟨q, rfl⟩ | ⟨_, rfl⟩⟩ := Wm.mem_upd hx
      · exact (e (by rw [Wm.woken_n]; exact q)).elim
      · exact hy
    · intro hx
      exact List.mem_map.mpr ⟨x, hx, by rw [if_neg e]⟩
theorem rest_own {W : WhS} {n : Str} : (∀ x ∈ (Wm.rest W n).rows, x.n = n → x.r = false) ∧ ∀ x, x.n ≠ n → (x ∈ (Wm.rest W n).rows ↔ x ∈ W.rows) := by
  refine ⟨fun x hx e => ?_, fun x e => ?_⟩
  · obtain ⟨y, hy, ⟨_, rfl⟩ | ⟨q, rfl⟩⟩ := Wm.mem_upd hx
    · rfl
    · exact (q e).elim
  · constructor
    · intro hx
      obtain ⟨y, hy, ⟨q, rfl⟩ | ⟨_, rfl⟩⟩ := Wm.mem_upd hx
      · exact (e q).elim
      · exact hy
    · intro hx
      exact List.mem_map.mpr ⟨x, hx, by rw [if_neg e]⟩
theorem has_names {W W' : WhS} (h : W'.rows.map (·.n) = W.rows.map (·.n)) (n : Str) : Has W' n ↔ Has W n := by
  rw [has_n, has_n, h]
/-- waking up from n, of which is known that somebody is ready in it -/
theorem wake_up {h h' : Hs} {n : Str} (u : WakeUp h n h') (o : HOk h) (r : Rd h n) (hn : ∀ Wn, lk h.wh n = some Wn → Rdy Wn) : HOk h' ∧ Rd h' "" ∧ h'.ab = h.ab ∧ keys h'.wh = keys h.wh := by
  induction u with
  | @stop h n a W e1 e2 e3 =>
    have o' : HOk (setW h a (Wm.wake W n)) := o.setW e2 ((o.ok _ _ e2).wake n) (has_names (wake_names W n))
    have r' := r.stir o e1 e2 true wake_own.1 wake_own.2 fun Wn q => ⟨fun _ => hn Wn q, fun _ => rfl⟩
    refine ⟨o', r'.all ?_, rfl, keys_pt _ _ _⟩
    rcases e3 with e3 | e3
    · exact .inl e3
    · right
      intro U b Ub q1 q2 q3 x hx xn
      have q1' := q1
      rw [show (setW h a (Wm.wake W n)).wh = pt h.wh a (Wm.wake W n) from rfl, lk_pt e2] at q1
      cases q1
      have hrd : Rdy W := Classical.byContradiction fun z => e3 z
      have na := o.ne_above e1
      have nb := o.ne_above (n := a) (a := b) q2
      have q3 : lk h.wh b = some Ub := by
        rw [← lk_pt_ne (n := a) (v := Wm.wake W n) nb.symm]
        exact q3
      have old := r a W b Ub e2 (fun z => o.ne_top (n := a) q2 z) (fun z => na z.symm) q2 q3 x hx xn
      rw [old]
      refine ⟨fun _ => ?_, fun _ => hrd⟩
      obtain ⟨y, hy, e⟩ := hrd
      by_cases hyn : y.n = n
      · have : Has (Wm.wake W n) n := (has_names (wake_names W n) n).mpr ⟨y, hy, hyn⟩
        obtain ⟨z, hz, en⟩ := this
        exact ⟨z, hz, wake_own.1 z hz en⟩
      · exact ⟨y, (wake_own.2 y hyn).mpr hy, e⟩
  | @next h h' n a W e1 e2 e3 e4 e5 ih =>
    have o' : HOk (setW h a (Wm.wake W n)) := o.setW e2 ((o.ok _ _ e2).wake n) (has_names (wake_names W n))
    have r' := r.stir o e1 e2 true wake_own.1 wake_own.2 fun Wn q => ⟨fun _ => hn Wn q, fun _ => rfl⟩
    obtain ⟨i1, i2, i3, i4⟩ := ih o' r' fun Wa q => by
      rw [show (setW h a (Wm.wake W n)).wh = pt h.wh a (Wm.wake W n) from rfl, lk_pt e2] at q
      cases q
      have : Has (Wm.wake W n) n := (has_names (wake_names W n) n).mpr ((o.sub _ _ n e2).mpr e1)
      obtain ⟨z, hz, en⟩ := this
      exact ⟨z, hz, wake_own.1 z hz en⟩
    exact ⟨i1, i2, i3, i4.trans (keys_pt _ _ _)⟩
/-- resting up from n, in which nobody is ready -/
theorem rest_up {h h' : Hs} {n : Str} (u : RestUp h n h') (o : HOk h) (r : Rd h n) (hn : ∀ Wn, lk h.wh n = some Wn → ¬ Rdy Wn) : HOk h' ∧ Rd h' "" ∧ h'.ab = h.ab ∧ keys h'.wh = keys h.wh := by
  induction u with
  | @stop h n a W e1 e2 e3 =>
    have o' : HOk (setW h a (Wm.rest W n)) := o.setW e2 ((o.ok _ _ e2).rest n) (has_names (rest_names W n))
    have r' := r.stir o e1 e2 false rest_own.1 rest_own.2 fun Wn q => ⟨(by intro z; cases z), fun z => (hn Wn q z).elim⟩
    refine ⟨o', r'.all ?_, rfl, keys_pt _ _ _⟩
    rcases e3 with e3 | e3
    · exact .inl e3
    · right
      intro U b Ub q1 q2 q3 x hx xn
      rw [show (setW h a (Wm.rest W n)).wh = pt h.wh a (Wm.rest W n) from rfl, lk_pt e2] at q1
      cases q1
      have hrd : Rdy (Wm.rest W n) := Classical.byContradiction fun z => e3 z
      have na := o.ne_above e1
      have nb := o.ne_above (n := a) (a := b) q2
      have q3 : lk h.wh b = some Ub := by
        rw [← lk_pt_ne (n := a) (v := Wm.rest W n) nb.symm]
        exact q3
      have old := r a W b Ub e2 (fun z => o.ne_top (n := a) q2 z) (fun z => na z.symm) q2 q3 x hx xn
      rw [old]
      refine ⟨fun _ => hrd, fun _ => ?_⟩
      obtain ⟨y, hy, e⟩ := hrd
      by_cases hyn : y.n = n
      · rw [rest_own.1 y hy hyn] at e
        cases e
      · exact ⟨y, (rest_own.2 y hyn).mp hy, e⟩
  | @next h h' n a W e1 e2 e3 e4 e5 ih =>
    have o' : HOk (setW h a (Wm.rest W n)) := o.setW e2 ((o.ok _ _ e2).rest n) (has_names (rest_names W n))
    have r' := r.stir o e1 e2 false rest_own.1 rest_own.2 fun Wn q => ⟨(by intro z; cases z), fun z => (hn Wn q z).elim⟩
    obtain ⟨i1, i2, i3, i4⟩ := ih o' r' fun Wa q => by
      rw [show (setW h a (Wm.rest W n)).wh = pt h.wh a (Wm.rest W n) from rfl, lk_pt e2] at q
      cases q
      exact e4
    exact ⟨i1, i2, i3, i4.trans (keys_pt _ _ _)⟩
/-! coming and going -/
def enterH (h : Hs) (n a : Str) (W : WhS) (s : Int) : Hs := ⟨h.ab ++ [(n, a)], pt h.wh a (Wm.enter W n s)⟩
def enterT (h : Hs) (n a : Str) (W : WhS) (s : Int) : Hs := ⟨h.ab ++ [(n, a)], pt h.wh a (Wm.enter W n s) ++ [(n, ⟨0, []⟩)]⟩
def leaveN (h : Hs) (n a : Str) (W : WhS) : Hs := ⟨dp h.ab n, pt (dp h.wh n) a (Wm.leave W n)⟩
theorem has_enter {W : WhS} {n m : Str} {s : Int} : Has (Wm.enter W n s) m ↔ Has W m ∨ m = n := by
  rw [has_n, has_n]
  show m ∈ (W.rows ++ [_]).map _ ↔ _
  rw [List.map_append, List.mem_append]
  simp
theorem has_leave {W : WhS} {n m : Str} : Has (Wm.leave W n) m ↔ Has W m ∧ m ≠ n := by
  unfold Has
  constructor
  · rintro ⟨x, hx, e⟩
    obtain ⟨h1, h2⟩ := List.mem_filter.mp hx
    exact ⟨⟨x, h1, e⟩, by rw [← e]; exact of_decide_eq_true h2⟩
  · rintro ⟨⟨x, hx, e⟩, h⟩
    exact ⟨x, List.mem_filter.mpr ⟨hx, decide_eq_true (by rw [e]; exact h)⟩, e⟩
theorem HOk.no_team {h : Hs} (o : HOk h) {n : Str} (e : lk h.ab n = none) (hn : n ≠ "") : lk h.wh n = none := by
  cases q : lk h.wh n with
  | none => rfl
  | some W =>
    rcases o.wt n W q with z | ⟨a, z⟩
    · exact (hn z).elim
    · rw [e] at z
      cases z
theorem HOk.enterH {h : Hs} (o : HOk h) {n a : Str} {W : WhS} {s : Int} (e : lk h.ab n = none) (hn : n ≠ "") (ea : lk h.wh a = some W) (s1 : 1 ≤ s) (s2 : s ≤ 12) : HOk (enterH h n a W s) := by
  have nt := o.no_team e hn
  have na : a ≠ n := fun z => by rw [z, nt] at ea; cases ea
  have nh : ¬ Has W n := fun z => by
    have := (o.sub a W n ea).mp z
    rw [e] at this
    cases this
  have ab : ∀ m b, lk (h.ab ++ [(n, a)]) m = some b → (m = n ∧ b = a) ∨ (m ≠ n ∧ lk h.ab m = some b) := fun m b q => by
    by_cases z : m = n
    · subst z
      rw [lk_app_new e] at q
      cases q
      exact .inl ⟨rfl, rfl⟩
    · rw [lk_app_old z] at q
      exact .inr ⟨z, q⟩
  have look : ∀ u U, lk (pt h.wh a (Wm.enter W n s)) u = some U → (u = a ∧ U = Wm.enter W n s) ∨ (u ≠ a ∧ lk h.wh u = some U) := fun u U q => by
    by_cases z : u = a
    · subst z
      rw [lk_pt ea] at q
      cases q
      exact .inl ⟨rfl, rfl⟩
    · rw [lk_pt_ne z] at q
      exact .inr ⟨z, q⟩
  have back : ∀ u U, lk h.wh u = some U → ∃ U', lk (pt h.wh a (Wm.enter W n s)) u = some U' := fun u U q => by
    by_cases z : u = a
    · subst z
      exact ⟨_, lk_pt ea⟩
    · exact ⟨U, by rw [lk_pt_ne z]; exact q⟩
  have old : ∀ m b, lk h.ab m = some b → lk (h.ab ++ [(n, a)]) m = some b := fun m b q => by
    rw [lk_app_old (fun z => by rw [z, e] at q; cases q)]
    exact q
  obtain ⟨rk, N, hrk⟩ := o.rk
  refine ⟨keys_app_nd o.k1 _ e, ?_, ?_, ?_, fun t U q => ?_, ⟨fun m => if m = n then max N (rk a) + 1 else rk m, max N (rk a) + 1, fun m b q => ?_⟩, fun m b q => ?_, fun t U q => ?_, fun t U m q => ?_⟩
  · show (keys (pt h.wh a _)).Nodup
    rw [keys_pt]
    exact o.k2
  · obtain ⟨W0, q⟩ := o.top
    exact back _ _ q
  · show lk (h.ab ++ [(n, a)]) "" = none
    rw [lk_app_old (Ne.symm hn)]
    exact o.nt
  · rcases look t U q with ⟨rfl, _⟩ | ⟨_, q⟩
    · rcases o.wt _ _ ea with z | ⟨b, z⟩
      · exact .inl z
      · exact .inr ⟨b, old _ _ z⟩
    · rcases o.wt _ _ q with z | ⟨b, z⟩
      · exact .inl z
      · exact .inr ⟨b, old _ _ z⟩
  · rcases ab m b q with ⟨rfl, rfl⟩ | ⟨z, q⟩
    · dsimp only
      rw [if_pos rfl, if_neg na]
      omega
    · have := hrk m b q
      have zb : b ≠ n := fun y => by
        obtain ⟨U, u⟩ := o.aw m b q
        rw [y, nt] at u
        cases u
      dsimp only
      rw [if_neg z, if_neg zb]
      omega
  · rcases ab m b q with ⟨rfl, rfl⟩ | ⟨z, q⟩
    · exact back _ _ ea
    · obtain ⟨U, u⟩ := o.aw m b q
      exact back _ _ u
  · rcases look t U q with ⟨rfl, rfl⟩ | ⟨_, q⟩
    · exact (o.ok _ _ ea).enter s1 s2 fun z => nh (has_n.mpr z)
    · exact o.ok _ _ q
  · rcases look t U q with ⟨rfl, rfl⟩ | ⟨zt, q⟩
    · rw [has_enter, o.sub _ _ m ea]
      constructor
      · rintro (z | rfl)
        · exact old _ _ z
        · exact lk_app_new e
      · intro z
        rcases ab _ _ z with ⟨rfl, _⟩ | ⟨_, z⟩
        · exact .inr rfl
        · exact .inl z
    · rw [o.sub _ _ m q]
      constructor
      · exact fun z => old _ _ z
      · intro z
        rcases ab _ _ z with ⟨_, z⟩ | ⟨_, z⟩
        · exact (zt z).elim
        · exact z
theorem HOk.addT {h : Hs} (o : HOk h) {n a : Str} (e : lk h.ab n = some a) (en : lk h.wh n = none) (no : ∀ m, lk h.ab m ≠ some n) : HOk ⟨h.ab, h.wh ++ [(n, ⟨0, []⟩)]⟩ := by
  have look : ∀ u U, lk (h.wh ++ [(n, (⟨0, []⟩ : WhS))]) u = some U → (u = n ∧ U = ⟨0, []⟩) ∨ lk h.wh u = some U := fun u U q => by
    by_cases z : u = n
    · subst z
      rw [lk_app_new en] at q
      cases q
      exact .inl ⟨rfl, rfl⟩
    · rw [lk_app_old z] at q
      exact .inr q
  have back : ∀ u U, lk h.wh u = some U → lk (h.wh ++ [(n, (⟨0, []⟩ : WhS))]) u = some U := fun u U q => by
    rw [lk_app_old (fun z => by rw [z, en] at q; cases q)]
    exact q
  refine ⟨o.k1, keys_app_nd o.k2 _ en, ?_, o.nt, fun t U q => ?_, o.rk, fun m b q => ?_, fun t U q => ?_, fun t U m q => ?_⟩
  · obtain ⟨W0, q⟩ := o.top
    exact ⟨W0, back _ _ q⟩
  · rcases look t U q with ⟨rfl, rfl⟩ | q
    · exact .inr ⟨a, e⟩
    · exact o.wt _ _ q
  · obtain ⟨U, u⟩ := o.aw m b q
    exact ⟨U, back _ _ u⟩
  · rcases look t U q with ⟨rfl, rfl⟩ | q
    · exact Wm.Ok.new
    · exact o.ok _ _ q
  · rcases look t U q with ⟨rfl, rfl⟩ | q
    · exact ⟨fun ⟨x, hx, _⟩ => (nomatch hx), fun z => (no m z).elim⟩
    · exact o.sub _ _ m q
theorem HOk.leaveN {h : Hs} (o : HOk h) {n a : Str} {W : WhS} (e : lk h.ab n = some a) (ea : lk h.wh a = some W) (no : ∀ m, lk h.ab m ≠ some n) : HOk (leaveN h n a W) := by
  have na := o.ne_above e
  have nt := o.ne_top e
  have ea' : lk (dp h.wh n) a = some W := by rw [lk_dp_ne na.symm]; exact ea
  have ab : ∀ m b, lk (dp h.ab n) m = some b → m ≠ n ∧ lk h.ab m = some b := fun m b q => by
    by_cases z : m = n
    · rw [z, lk_dp] at q
      cases q
    · rw [lk_dp_ne z] at q
      exact ⟨z, q⟩
  have look : ∀ u U, lk (pt (dp h.wh n) a (Wm.leave W n)) u = some U → (u = a ∧ U = Wm.leave W n) ∨ (u ≠ a ∧ u ≠ n ∧ lk h.wh u = some U) := fun u U q => by
    by_cases z : u = a
    · subst z
      rw [lk_pt ea'] at q
      cases q
      exact .inl ⟨rfl, rfl⟩
    · rw [lk_pt_ne z] at q
      by_cases z2 : u = n
      · rw [z2, lk_dp] at q
        cases q
      · rw [lk_dp_ne z2] at q
        exact .inr ⟨z, z2, q⟩
  have back : ∀ u U, u ≠ n → lk h.wh u = some U → ∃ U', lk (pt (dp h.wh n) a (Wm.leave W n)) u = some U' := fun u U z2 q => by
    by_cases z : u = a
    · subst z
      exact ⟨_, lk_pt ea'⟩
    · exact ⟨U, by rw [lk_pt_ne z, lk_dp_ne z2]; exact q⟩
  obtain ⟨rk, N, hrk⟩ := o.rk
  refine ⟨keys_dp_nd o.k1 _, ?_, ?_, ?_, fun t U q => ?_, ⟨rk, N, fun m b q => hrk m b (ab m b q).2⟩, fun m b q => ?_, fun t U q => ?_, fun t U m q => ?_⟩
  · show (keys (pt (dp h.wh n) a _)).Nodup
    rw [keys_pt]
    exact keys_dp_nd o.k2 _
  · obtain ⟨W0, q⟩ := o.top
    exact back _ _ (Ne.symm nt) q
  · show lk (dp h.ab n) "" = none
    rw [lk_dp_ne (Ne.symm nt)]
    exact o.nt
  · have step : ∀ u U, u ≠ n → lk h.wh u = some U → u = "" ∨ ∃ b, lk (dp h.ab n) u = some b := fun u U z q => by
      rcases o.wt _ _ q with y | ⟨b, y⟩
      · exact .inl y
      · exact .inr ⟨b, by rw [lk_dp_ne z]; exact y⟩
    rcases look t U q with ⟨rfl, _⟩ | ⟨_, z, q⟩
    · exact step _ _ na.symm ea
    · exact step _ _ z q
  · obtain ⟨z, q⟩ := ab m b q
    obtain ⟨U, u⟩ := o.aw m b q
    exact back _ _ (fun y => no m (by rw [q, y])) u
  · rcases look t U q with ⟨rfl, rfl⟩ | ⟨_, _, q⟩
    · exact (o.ok _ _ ea).leave n
    · exact o.ok _ _ q
  · rcases look t U q with ⟨rfl, rfl⟩ | ⟨zt, zn, q⟩
    · rw [has_leave, o.sub _ _ m ea]
      constructor
      · rintro ⟨z, y⟩
        show lk (dp h.ab n) m = some t
        rw [lk_dp_ne y]
        exact z
      · intro z
        obtain ⟨y, z⟩ := ab _ _ z
        exact ⟨z, y⟩
    · rw [o.sub _ _ m q]
      constructor
      · intro z
        show lk (dp h.ab n) m = some t
        rw [lk_dp_ne (fun y => zt (by rw [y, e] at z; exact (Option.some.inj z).symm))]
        exact z
      · exact fun z => (ab _ _ z).2
theorem Rd.enterH {h : Hs} (o : HOk h) (r : Rd h "") {n a : Str} {W : WhS} {s : Int} (e : lk h.ab n = none) (hn : n ≠ "") (ea : lk h.wh a = some W) : Rd (enterH h n a W s) "" := by
  have nt := o.no_team e hn
  have look : ∀ u U, lk (pt h.wh a (Wm.enter W n s)) u = some U → ∃ U0, lk h.wh u = some U0 ∧ (Rdy U ↔ Rdy U0) ∧ ∀ x ∈ U.rows, x.n ≠ n → x ∈ U0.rows := fun u U q => by
    by_cases z : u = a
    · subst z
      rw [lk_pt ea] at q
      cases q
      refine ⟨W, ea, ⟨?_, ?_⟩, fun x hx hxn => ?_⟩
      · rintro ⟨x, hx, er⟩
        rcases List.mem_append.mp hx with hx | hx
        · exact ⟨x, hx, er⟩
        · rw [List.mem_singleton.mp hx] at er
          cases er
      · rintro ⟨x, hx, er⟩
        exact ⟨x, List.mem_append.mpr (.inl hx), er⟩
      · rcases List.mem_append.mp hx with hx | hx
        · exact hx
        · exact (hxn (by rw [List.mem_singleton.mp hx])).elim
    · rw [lk_pt_ne z] at q
      exact ⟨U, q, Iff.rfl, fun x hx _ => hx⟩
  intro u U b Ub q1 n1 n2 q2 q3 x hx xn
  obtain ⟨U0, u1, u2, _⟩ := look u U q1
  obtain ⟨A0, a1, _, a3⟩ := look b Ub q3
  have un : u ≠ n := fun z => by rw [z, nt] at u1; cases u1
  have q2 : lk h.ab u = some b := by
    rw [← lk_app_old (m := n) (v := a) un]
    exact q2
  rw [u2]
  exact r u U0 b A0 u1 n1 n2 q2 a1 x (a3 x hx (by rw [xn]; exact un)) xn
theorem Rd.addT {h : Hs} (r : Rd h "") {n a : Str} {W : WhS} (e : lk h.ab n = some a) (ea : lk h.wh a = some W) (en : lk h.wh n = none) (nr : ∀ x ∈ W.rows, x.n = n → x.r = false) : Rd ⟨h.ab, h.wh ++ [(n, ⟨0, []⟩)]⟩ "" := by
  have look : ∀ u U, lk (h.wh ++ [(n, (⟨0, []⟩ : WhS))]) u = some U → (u = n ∧ U = ⟨0, []⟩) ∨ lk h.wh u = some U := fun u U q => by
    by_cases z : u = n
    · subst z
      rw [lk_app_new en] at q
      cases q
      exact .inl ⟨rfl, rfl⟩
    · rw [lk_app_old z] at q
      exact .inr q
  intro u U b Ub q1 n1 n2 q2 q3 x hx xn
  rcases look b Ub q3 with ⟨rfl, rfl⟩ | p3
  · exact (nomatch hx)
  · clear q3
    have q3 := p3
    clear p3
    rcases look u U q1 with ⟨rfl, rfl⟩ | q1
    · have q2 : lk h.ab u = some b := q2
      rw [e] at q2
      cases q2
      rw [ea] at q3
      cases q3
      rw [nr x hx xn]
      exact ⟨(by intro z; cases z), fun ⟨y, hy, _⟩ => (nomatch hy)⟩
    · exact r u U b Ub q1 n1 n2 q2 q3 x hx xn
theorem Rd.leaveN {h : Hs} (o : HOk h) (r : Rd h "") {n a : Str} {W : WhS} (e : lk h.ab n = some a) (ea : lk h.wh a = some W) (nr : ∀ x ∈ W.rows, x.n = n → x.r = false) : Rd (leaveN h n a W) "" := by
  have na := o.ne_above e
  have ea' : lk (dp h.wh n) a = some W := by rw [lk_dp_ne na.symm]; exact ea
  have look : ∀ u U, lk (pt (dp h.wh n) a (Wm.leave W n)) u = some U → u ≠ n ∧ ∃ U0, lk h.wh u = some U0 ∧ (Rdy U ↔ Rdy U0) ∧ ∀ x ∈ U.rows, x ∈ U0.rows := fun u U q => by
    by_cases z : u = a
    · subst z
      rw [lk_pt ea'] at q
      cases q
      refine ⟨na.symm, W, ea, ⟨?_, ?_⟩, fun x hx => (List.mem_filter.mp hx).1⟩
      · rintro ⟨x, hx, er⟩
        exact ⟨x, (List.mem_filter.mp hx).1, er⟩
      · rintro ⟨x, hx, er⟩
        refine ⟨x, List.mem_filter.mpr ⟨hx, decide_eq_true fun y => ?_⟩, er⟩
        rw [nr x hx y] at er
        cases er
    · rw [lk_pt_ne z] at q
      by_cases z2 : u = n
      · rw [z2, lk_dp] at q
        cases q
      · rw [lk_dp_ne z2] at q
        exact ⟨z2, U, q, Iff.rfl, fun x hx => hx⟩
  intro u U b Ub q1 n1 n2 q2 q3 x hx xn
  obtain ⟨un, U0, u1, u2, _⟩ := look u U q1
  obtain ⟨_, A0, a1, _, a3⟩ := look b Ub q3
  have q2 : lk h.ab u = some b := by
    rw [← lk_dp_ne (n := n) un]
    exact q2
  rw [u2]
  exact r u U0 b A0 u1 n1 n2 q2 a1 x (a3 x hx) xn
/-! a deal -/
inductive Deal : Hs → Str → List Str → Hs → Prop
  | none {h : Hs} {t : Str} {W : WhS} : lk h.wh t = some W → Wm.best W.rows = none → Deal h t [] (setW h t (Wm.turn W))
  | hand {h : Hs} {t : Str} {W : WhS} {b : RowS} : lk h.wh t = some W → Wm.best W.rows = some b → lk h.wh b.n = none → Deal h t [b.n] (setW h t (Wm.turn W))
  | team {h h' : Hs} {t : Str} {W U : WhS} {b : RowS} {l : List Str} : lk h.wh t = some W → Wm.best W.rows = some b → lk h.wh b.n = some U → Deal (setW h t (Wm.turn W)) b.n l h' → Deal h t (b.n :: l) h'
theorem turn_keep (W : WhS) : (∀ x', x' ∈ (Wm.turn W).rows → ∃ x ∈ W.rows, x.n = x'.n ∧ x.r = x'.r) ∧ ∀ x ∈ W.rows, ∃ x' ∈ (Wm.turn W).rows, x.n = x'.n ∧ x.r = x'.r := by
  cases e : Wm.best W.rows with
  | none =>
    rw [Wm.turn_none e]
    exact ⟨fun x hx => ⟨x, hx, rfl, rfl⟩, fun x hx => ⟨x, hx, rfl, rfl⟩⟩
  | some b =>
    rw [Wm.turn_some e]
    refine ⟨fun x hx => ?_, fun x hx => ?_⟩
    · obtain ⟨y, hy, ⟨_, rfl⟩ | ⟨_, rfl⟩⟩ := Wm.mem_upd hx
      · exact ⟨y, hy, rfl, rfl⟩
      · exact ⟨x, hy, rfl, rfl⟩
    · refine ⟨_, List.mem_map.mpr ⟨x, hx, rfl⟩, ?_⟩
      by_cases q : x.n = b.n
      · rw [if_pos q]
        exact ⟨rfl, rfl⟩
      · rw [if_neg q]
        exact ⟨rfl, rfl⟩
theorem turn_setW {h : Hs} (o : HOk h) {t : Str} {W : WhS} (e : lk h.wh t = some W) : HOk (setW h t (Wm.turn W)) := o.setW e (o.ok _ _ e).turn.1 (has_names (turn_names W))
theorem Deal.ok {h h' : Hs} {t : Str} {l : List Str} (d : Deal h t l h') : HOk h → Rd h "" → HOk h' ∧ Rd h' "" ∧ h'.ab = h.ab ∧ keys h'.wh = keys h.wh := by
  induction d with
  | none e _ => exact fun o r => ⟨turn_setW o e, r.keep e (turn_keep _).1 (turn_keep _).2, rfl, keys_pt _ _ _⟩
  | hand e _ _ => exact fun o r => ⟨turn_setW o e, r.keep e (turn_keep _).1 (turn_keep _).2, rfl, keys_pt _ _ _⟩
  | team e _ _ _ ih =>
    intro o r
    obtain ⟨a, b, c, d⟩ := ih (turn_setW o e) (r.keep e (turn_keep _).1 (turn_keep _).2)
    exact ⟨a, b, c, d.trans (keys_pt _ _ _)⟩
theorem Deal.det {h h1 h2 : Hs} {t : Str} {l1 l2 : List Str} (a : Deal h t l1 h1) (b : Deal h t l2 h2) : l1 = l2 ∧ h1 = h2 := by
  induction a generalizing l2 h2 with
  | none e1 e2 =>
    cases b with
    | none d1 d2 => rw [e1] at d1; cases d1; exact ⟨rfl, rfl⟩
    | hand d1 d2 d3 => rw [e1] at d1; cases d1; rw [e2] at d2; cases d2
    | team d1 d2 d3 d4 => rw [e1] at d1; cases d1; rw [e2] at d2; cases d2
  | hand e1 e2 e3 =>
    cases b with
    | none d1 d2 => rw [e1] at d1; cases d1; rw [e2] at d2; cases d2
    | hand d1 d2 d3 => rw [e1] at d1; cases d1; rw [e2] at d2; cases d2; exact ⟨rfl, rfl⟩
    | team d1 d2 d3 d4 => rw [e1] at d1; cases d1; rw [e2] at d2; cases d2; rw [e3] at d3; cases d3
  | team e1 e2 e3 e4 ih =>
    cases b with
    | none d1 d2 => rw [e1] at d1; cases d1; rw [e2] at d2; cases d2
    | hand d1 d2 d3 => rw [e1] at d1; cases d1; rw [e2] at d2; cases d2; rw [e3] at d3; cases d3
    | team d1 d2 d3 d4 =>
      rw [e1] at d1
      cases d1
      rw [e2] at d2
      cases d2
      obtain ⟨a, b⟩ := ih d4
      exact ⟨by rw [a], b⟩
/-- what is left to do when waking goes on at a team -/
def RemW (h : Hs) (t : Str) (h'' : Hs) : Prop := (t = "" ∧ h'' = h) ∨ (t ≠ "" ∧ ∃ a Wa x, lk h.ab t = some a ∧ lk h.wh a = some Wa ∧ x ∈ Wa.rows ∧ x.n = t ∧ ((x.r = true ∧ h'' = h) ∨ (x.r = false ∧ WakeUp h t h'')))
theorem remW_up {h h'' : Hs} {n a : Str} {W : WhS} (o : HOk h) (r : Rd h n) (ea : lk h.ab n = some a) (e : lk h.wh a = some W) (m : RemW (setW h a (Wm.wake W n)) a h'') : WakeUp h n h'' := by
  rcases m with ⟨z, rfl⟩ | ⟨na, b, Wb, x, b1, b2, hx, xn, c⟩
  · exact .stop ea e (.inl z)
  · have nb := o.ne_above (n := a) (a := b) b1
    have b2 : lk h.wh b = some Wb := by
      rw [← lk_pt_ne (n := a) (v := Wm.wake W n) nb.symm]
      exact b2
    have iff := r a W b Wb e na (fun z => o.ne_above ea z.symm) b1 b2 x hx xn
    rcases c with ⟨xr, rfl⟩ | ⟨xr, u⟩
    · exact .stop ea e (.inr fun z => z (iff.mp xr))
    · exact .next ea e na (fun z => by rw [iff.mpr z] at xr; cases xr) u
/-- what is left to do when resting goes on at a team -/
def RemR (h : Hs) (t : Str) (h'' : Hs) : Prop := (t = "" ∧ h'' = h) ∨ (t ≠ "" ∧ ∃ W, lk h.wh t = some W ∧ ((Rdy W ∧ h'' = h) ∨ (¬ Rdy W ∧ RestUp h t h'')))
theorem remR_up {h h'' : Hs} {n a : Str} {W : WhS} (ea : lk h.ab n = some a) (e : lk h.wh a = some W) (m : RemR (setW h a (Wm.rest W n)) a h'') : RestUp h n h'' := by
  rcases m with ⟨z, rfl⟩ | ⟨na, W', b1, c⟩
  · exact .stop ea e (.inl z)
  · rw [show (setW h a (Wm.rest W n)).wh = pt h.wh a (Wm.rest W n) from rfl, lk_pt e] at b1
    cases b1
    rcases c with ⟨xr, rfl⟩ | ⟨xr, u⟩
    · exact .stop ea e (.inr fun z => z xr)
    · exact .next ea e na xr u
theorem pt_self {β : Type} {l : List (Str × β)} {t : Str} {v : β} (nd : (keys l).Nodup) (h : lk l t = some v) : pt l t v = l := by
  unfold pt
  have : ∀ e ∈ l, (if e.1 = t then (e.1, v) else e) = e := fun e he => by
    by_cases q : e.1 = t
    · rw [if_pos q]
      have := lk_of nd (show (e.1, e.2) ∈ l from he)
      rw [q, h] at this
      cases this
      rfl
    · rw [if_neg q]
  rw [List.map_congr_left this, List.map_id']
theorem upd_same_rows {l : List RowS} {n : Str} {f : RowS → RowS} (h : ∀ x ∈ l, x.n = n → f x = x) : Wm.upd l n f = l := by
  unfold Wm.upd
  have : ∀ e ∈ l, (if e.n = n then f e else e) = e := fun e he => by
    by_cases q : e.n = n
    · rw [if_pos q, h e he q]
    · rw [if_neg q]
  rw [List.map_congr_left this, List.map_id']
theorem reshare_keep (W : WhS) (n : Str) (s : Int) : (∀ x', x' ∈ (Wm.reshare W n s).rows → ∃ x ∈ W.rows, x.n = x'.n ∧ x.r = x'.r) ∧ ∀ x ∈ W.rows, ∃ x' ∈ (Wm.reshare W n s).rows, x.n = x'.n ∧ x.r = x'.r := by
  refine ⟨fun x hx => ?_, fun x hx => ?_⟩
  · obtain ⟨y, hy, ⟨_, rfl⟩ | ⟨_, rfl⟩⟩ := Wm.mem_upd hx
    · exact ⟨y, hy, rfl, rfl⟩
    · exact ⟨x, hy, rfl, rfl⟩
  · refine ⟨_, List.mem_map.mpr ⟨x, hx, rfl⟩, ?_⟩
    by_cases q : x.n = n
    · rw [if_pos q]
      exact ⟨rfl, rfl⟩
    · rw [if_neg q]
      exact ⟨rfl, rfl⟩
/-- what is left of a deal when b has got a turn -/
def RemD (h : Hs) (b : Str) (l : List Str) (h'' : Hs) : Prop := (lk h.wh b = none ∧ l = [] ∧ h'' = h) ∨ (∃ U, lk h.wh b = some U ∧ Deal h b l h'')
theorem remD_up {h h'' : Hs} {t : Str} {W : WhS} {b : RowS} {l : List Str} (e : lk h.wh t = some W) (eb : Wm.best W.rows = some b) (nb : b.n ≠ t) (m : RemD (setW h t (Wm.turn W)) b.n l h'') : Deal h t (b.n :: l) h'' := by
  have lkb : lk (setW h t (Wm.turn W)).wh b.n = lk h.wh b.n := lk_pt_ne nb
  rcases m with ⟨z, rfl, rfl⟩ | ⟨U, z, d⟩
  · exact .hand e eb (by rw [← lkb]; exact z)
  · exact .team e eb (by rw [← lkb]; exact z) d
theorem nodup_sub {α : Type} [BEq α] [LawfulBEq α] : ∀ (l1 l2 : List α), l1.Nodup → (∀ x ∈ l1, x ∈ l2) → l1.length ≤ l2.length
  | [], _, _, _ => Nat.zero_le _
  | x :: l1, l2, nd, h => by
    rw [List.nodup_cons] at nd
    have hx := h x List.mem_cons_self
    have := nodup_sub l1 (l2.erase x) nd.2 fun y hy => (List.mem_erase_of_ne fun z => nd.1 (by rw [← z]; exact hy)).mpr (h y (List.mem_cons_of_mem _ hy))
    rw [List.length_erase_of_mem hx] at this
    have : 0 < l2.length := List.length_pos_of_mem hx
    show l1.length + 1 ≤ l2.length
    omega
theorem dp_none {β : Type} {l : List (Str × β)} {n : Str} (h : lk l n = none) : dp l n = l := List.filter_eq_self.mpr fun e he => decide_eq_true fun q => lk_none_iff.mp h (List.mem_map.mpr ⟨e, he, q⟩)
theorem up_keep {f : WhS → Str → WhS} {go : WhS → WhS → Prop} {h h' : Hs} {n : Str} (u : Up f go h n h') (rk : Str → Nat) (hrk : ∀ n a, lk h.ab n = some a → rk a < rk n) : ∀ t, rk n ≤ rk t → lk h'.wh t = lk h.wh t := by
  induction u with
  | stop e1 e2 e3 =>
    intro t ht
    have := hrk _ _ e1
    exact lk_pt_ne fun z => by rw [z] at ht; omega
  | next e1 e2 e3 e4 e5 ih =>
    intro t ht
    have := hrk _ _ e1
    rw [ih hrk t (by omega)]
    exact lk_pt_ne fun z => by rw [z] at ht; omega
theorem rest_at {h h' : Hs} {n a : Str} {W : WhS} (u : RestUp h n h') (o : HOk h) (ea : lk h.ab n = some a) (ew : lk h.wh a = some W) : lk h'.wh a = some (Wm.rest W n) := by
  obtain ⟨rk, N, hrk⟩ := o.rk
  cases u with
  | stop e1 e2 e3 =>
    rw [ea] at e1
    cases e1
    rw [ew] at e2
    cases e2
    exact lk_pt ew
  | next e1 e2 e3 e4 e5 =>
    rw [ea] at e1
    cases e1
    rw [ew] at e2
    cases e2
    rw [up_keep e5 rk (fun n a z => (hrk n a z).1) a (Nat.le_refl _)]
    exact lk_pt ew

/-! ### a house in the heap -/
theorem n_aw : ¬ (("_above" : Str) = "_wheels") := by decide +kernel
theorem n_wa : ¬ (("_wheels" : Str) = "_above") := by decide +kernel
def hf (da dw : Addr) : List (Str × V) := [("_above", .ref da), ("_wheels", .ref dw)]
theorem hf_ab (da dw : Addr) : (hf da dw).lookup ("_above" : Str) = some (.ref da) := lk_same _ _ _
theorem hf_wh (da dw : Addr) : (hf da dw).lookup ("_wheels" : Str) = some (.ref dw) := (lk_ne n_wa _ _).trans (lk_same _ _ _)
theorem hf_no (da dw : Addr) {m : Str} (h1 : ¬ m = "_above" := by decide +kernel) (h2 : ¬ m = "_wheels" := by decide +kernel) : (hf da dw).lookup m = none := (lk_ne h1 _ _).trans ((lk_ne h2 _ _).trans rfl)
/-- a team: its name, its wheel, where it lies, its places -/
structure TE where
  t : Str
  W : WhS
  q : Addr
  fp : List Addr
/-- dicts by names -/
def kvn {β : Type} (f : β → V) (l : List (Str × β)) : List (Key × V) := l.map fun e => (Sum.inr e.1, f e.2)
theorem kvn_val {β : Type} {f : β → V} : ∀ {l : List (Str × β)} {n : Str}, valV (kvn f l) (Sum.inr n : Key) = (lk l n).map f
  | [], _ => rfl
  | e :: r, n => by
    unfold lk
    by_cases q : e.1 = n
    · have : valV (kvn f (e :: r)) (Sum.inr n : Key) = some (f e.2) := valV_pos (p := (Sum.inr e.1, f e.2)) (congrArg Sum.inr q)
      rw [this, if_pos q]
      rfl
    · have : valV (kvn f (e :: r)) (Sum.inr n : Key) = valV (kvn f r) (Sum.inr n : Key) := valV_neg (p := (Sum.inr e.1, f e.2)) fun z => q (Sum.inr.inj z)
      rw [this, if_neg q, kvn_val]
theorem kvn_drop {β : Type} (f : β → V) (l : List (Str × β)) (n : Str) : dropK (kvn f l) (Sum.inr n : Key) = kvn f (dp l n) := by
  unfold dropK kvn dp
  rw [List.filter_map]
  congr 1
  refine List.filter_congr fun e _ => ?_
  show decide (¬ (Sum.inr e.1 : Key) = Sum.inr n) = decide (e.1 ≠ n)
  exact decide_eq_decide.mpr ⟨fun z q => z (congrArg Sum.inr q), fun z q => z (Sum.inr.inj q)⟩
theorem kvn_new {β : Type} {f : β → V} {l : List (Str × β)} {n : Str} (v : β) (h : lk l n = none) : putK (kvn f l) (Sum.inr n : Key) (f v) = kvn f (l ++ [(n, v)]) := by
  have : ¬ ((kvn f l).any fun kv => decide (kv.1 = (Sum.inr n : Key))) = true := fun z => by
    rw [List.any_eq_true] at z
    obtain ⟨kv, hkv, e⟩ := z
    obtain ⟨x, hx, rfl⟩ := List.mem_map.mp hkv
    exact lk_none_iff.mp h (List.mem_map.mpr ⟨x, hx, Sum.inr.inj (of_decide_eq_true e)⟩)
  unfold putK
  rw [if_neg this]
  unfold kvn
  rw [List.map_append]
  rfl
theorem kvn_len {β : Type} (f : β → V) (l : List (Str × β)) : (kvn f l).length = l.length := List.length_map _
def qs (es : List TE) : List (Str × Addr) := es.map fun e => (e.t, e.q)
def ws (es : List TE) : List (Str × WhS) := es.map fun e => (e.t, e.W)
structure HIn (CH CW CS : Addr) (H : Hp) (p da dw : Addr) (ab : List (Str × Str)) (es : List TE) : Prop where
  ob : ∃ dx, H p = some (.ins CH dx (hf da dw))
  hda : H da = some (.dK (kvn V.str ab))
  hdw : H dw = some (.dK (kvn V.ref (qs es)))
  hws : ∀ e ∈ es, WAt CW CS H e.q e.W e.fp
  dj : es.Pairwise fun e f => ∀ b ∈ e.fp, b ∉ f.fp
  own : ∀ e ∈ es, p ∉ e.fp ∧ da ∉ e.fp ∧ dw ∉ e.fp
  ne : da ≠ dw
def hfp (p da dw : Addr) (es : List TE) : List Addr := p :: da :: dw :: es.flatMap (·.fp)
def HAt (CH CW CS : Addr) (H : Hp) (p : Addr) (h : Hs) (fp : List Addr) : Prop := ∃ da dw es, h.wh = ws es ∧ fp = hfp p da dw es ∧ HIn CH CW CS H p da dw h.ab es ∧ HOk h
section
variable {CH CW CS : Addr} {H H' : Hp} {p da dw : Addr} {ab : List (Str × Str)} {es : List TE} {h : Hs} {fp gp : List Addr}
theorem lk_qs {t : Str} : ∀ {es : List TE} {W : WhS}, lk (ws es) t = some W → ∃ e ∈ es, e.t = t ∧ e.W = W ∧ lk (qs es) t = some e.q
  | [], _, h => by cases h
  | e :: r, W, h => by
    have h : (if e.t = t then some e.W else lk (Mine.ws r) t) = some W := h
    show ∃ e' ∈ e :: r, e'.t = t ∧ e'.W = W ∧ (if e.t = t then some e.q else lk (qs r) t) = some e'.q
    by_cases q : e.t = t
    · rw [if_pos q] at h
      exact ⟨e, List.mem_cons_self, q, Option.some.inj h, by rw [if_pos q]⟩
    · rw [if_neg q] at h
      obtain ⟨e', h1, h2, h3, h4⟩ := lk_qs h
      exact ⟨e', List.mem_cons_of_mem _ h1, h2, h3, by rw [if_neg q]; exact h4⟩
theorem lk_qs_none {t : Str} : ∀ {es : List TE}, lk (ws es) t = none → lk (qs es) t = none
  | [], _ => rfl
  | e :: r, h => by
    have h : (if e.t = t then some e.W else lk (Mine.ws r) t) = none := h
    show (if e.t = t then some e.q else lk (qs r) t) = none
    by_cases q : e.t = t
    · rw [if_pos q] at h
      cases h
    · rw [if_neg q] at h ⊢
      exact lk_qs_none h
theorem mem_hfp {b : Addr} {e : TE} (he : e ∈ es) (hb : b ∈ e.fp) : b ∈ hfp p da dw es := List.mem_cons_of_mem _ (List.mem_cons_of_mem _ (List.mem_cons_of_mem _ (List.mem_flatMap.mpr ⟨e, he, hb⟩)))
theorem HIn.keep (i : HIn CH CW CS H p da dw ab es) (k : ∀ b ∈ hfp p da dw es, ∀ o, H b = some o → H' b = some o) : HIn CH CW CS H' p da dw ab es := by
  refine ⟨?_, k _ (by simp [hfp]) _ i.hda, k _ (by simp [hfp]) _ i.hdw, fun e he => (i.hws e he).keep fun b hb o q => k b (mem_hfp he hb) o q, i.dj, i.own, i.ne⟩
  obtain ⟨dx, e⟩ := i.ob
  exact ⟨dx, k _ (by simp [hfp]) _ e⟩
theorem HAt.keep (a : HAt CH CW CS H p h fp) (k : ∀ b ∈ fp, ∀ o, H b = some o → H' b = some o) : HAt CH CW CS H' p h fp := by
  obtain ⟨da, dw, es, h1, rfl, h3, h4⟩ := a
  exact ⟨da, dw, es, h1, rfl, h3.keep k, h4⟩
theorem HAt.same (a : HAt CH CW CS H p h fp) (k : Same H H') : HAt CH CW CS H' p h fp := a.keep fun b _ o e => k b o e
theorem HAt.kept (a : HAt CH CW CS H p h fp) (k : Kept gp H H') (n : ∀ b ∈ fp, b ∉ gp) : HAt CH CW CS H' p h fp := a.keep fun b hb o e => k b o e (n b hb)
theorem HIn.fpt (i : HIn CH CW CS H p da dw ab es) : ∀ b ∈ hfp p da dw es, ∃ o, H b = some o := by
  intro b hb
  rcases List.mem_cons.mp hb with rfl | hb
  · obtain ⟨dx, e⟩ := i.ob
    exact ⟨_, e⟩
  rcases List.mem_cons.mp hb with rfl | hb
  · exact ⟨_, i.hda⟩
  rcases List.mem_cons.mp hb with rfl | hb
  · exact ⟨_, i.hdw⟩
  obtain ⟨e, he, hb⟩ := List.mem_flatMap.mp hb
  exact (i.hws e he).fpt b hb
theorem HAt.fpt (a : HAt CH CW CS H p h fp) : ∀ b ∈ fp, ∃ o, H b = some o := by
  obtain ⟨da, dw, es, h1, rfl, h3, h4⟩ := a
  exact h3.fpt
theorem HAt.ok (a : HAt CH CW CS H p h fp) : HOk h := by
  obtain ⟨_, _, _, _, _, _, h4⟩ := a
  exact h4
theorem HAt.notin (a : HAt CH CW CS H p h fp) {b : Addr} {o : HO} (e : H b = some o) (h1 : ∀ C dx fs, o ≠ .ins C dx fs) (h2 : ∀ k, o ≠ .dK k) : b ∉ fp := by
  obtain ⟨da, dw, es, _, rfl, i, _⟩ := a
  intro hb
  rcases List.mem_cons.mp hb with rfl | hb
  · obtain ⟨dx, e1⟩ := i.ob
    rw [e] at e1
    exact h1 _ _ _ (Option.some.inj e1)
  rcases List.mem_cons.mp hb with rfl | hb
  · have e1 := i.hda
    rw [e] at e1
    exact h2 _ (Option.some.inj e1)
  rcases List.mem_cons.mp hb with rfl | hb
  · have e1 := i.hdw
    rw [e] at e1
    exact h2 _ (Option.some.inj e1)
  obtain ⟨x, hx, hb⟩ := List.mem_flatMap.mp hb
  exact (i.hws x hx).notin e h1 h2 hb
theorem HAt.lst (a : HAt CH CW CS H p h fp) {b : Addr} {xs : List V} (e : H b = some (.lst xs)) : b ∉ fp := a.notin e (fun _ _ _ z => by cases z) fun _ z => by cases z
theorem HAt.tup (a : HAt CH CW CS H p h fp) {b : Addr} {xs : List V} (e : H b = some (.tup xs)) : b ∉ fp := a.notin e (fun _ _ _ z => by cases z) fun _ z => by cases z
theorem HAt.frz (a : HAt CH CW CS H p h fp) {b : Addr} {x : Obj} {u : HO} (e : H b = some (.frz x u)) : b ∉ fp := a.notin e (fun _ _ _ z => by cases z) fun _ z => by cases z
/-- the team's entry, moved -/
def mvE (es : List TE) (t : Str) (W' : WhS) (fp' : List Addr) : List TE := es.map fun e => if e.t = t then { e with W := W', fp := fp' } else e
theorem mvE_qs (es : List TE) (t : Str) (W' : WhS) (fp' : List Addr) : qs (mvE es t W' fp') = qs es := by
  unfold qs mvE
  rw [List.map_map]
  refine List.map_congr_left fun e _ => ?_
  by_cases q : e.t = t <;> simp [Function.comp, q]
theorem mvE_ws (es : List TE) (t : Str) (W' : WhS) (fp' : List Addr) : ws (mvE es t W' fp') = pt (ws es) t W' := by
  unfold ws mvE pt
  rw [List.map_map, List.map_map]
  refine List.map_congr_left fun e _ => ?_
  by_cases q : e.t = t <;> simp [Function.comp, q]
theorem te_inj : ∀ {es : List TE}, (keys (ws es)).Nodup → ∀ {e f : TE}, e ∈ es → f ∈ es → e.t = f.t → e = f
  | [], _, _, _, h, _, _ => (nomatch h)
  | x :: r, nd, e, f, he, hf, q => by
    have nd : (x.t :: keys (Mine.ws r)).Nodup := nd
    rw [List.nodup_cons] at nd
    have mem : ∀ g ∈ r, g.t ∈ keys (Mine.ws r) := fun g hg => List.mem_map.mpr ⟨(g.t, g.W), List.mem_map.mpr ⟨g, hg, rfl⟩, rfl⟩
    rcases List.mem_cons.mp he with he | he
    · rcases List.mem_cons.mp hf with hf | hf
      · rw [he, hf]
      · exact (nd.1 (by rw [← he, q]; exact mem f hf)).elim
    · rcases List.mem_cons.mp hf with hf | hf
      · exact (nd.1 (by rw [← hf, ← q]; exact mem e he)).elim
      · exact te_inj nd.2 he hf q
/-- one team's wheel moves: the house is as before but for it -/
theorem HIn.move (i : HIn CH CW CS H p da dw ab es) (nd : (keys (ws es)).Nodup) {e : TE} (he : e ∈ es) {W' : WhS} {fp' : List Addr} (w' : WAt CW CS H' e.q W' fp') (st : Step e.fp H fp' H') :
    HIn CH CW CS H' p da dw ab (mvE es e.t W' fp') ∧ Step (hfp p da dw es) H (hfp p da dw (mvE es e.t W' fp')) H' := by
  obtain ⟨o1, o2, o3⟩ := i.own e he
  have old : ∀ f ∈ es, f.t ≠ e.t → ∀ b ∈ f.fp, b ∉ e.fp := fun f hf q b hb hb' => by
    have : ∀ {l : List TE}, l.Pairwise (fun e f => ∀ b ∈ e.fp, b ∉ f.fp) → ∀ x ∈ l, ∀ y ∈ l, x.t ≠ y.t → ∀ b ∈ x.fp, b ∉ y.fp := by
      intro l pw
      induction l with
      | nil => exact fun x hx => (nomatch hx)
      | cons a l ih =>
        rw [List.pairwise_cons] at pw
        intro x hx y hy q b hb hb'
        rcases List.mem_cons.mp hx with ex | mx
        · rcases List.mem_cons.mp hy with ey | my
          · exact q (by rw [ex, ey])
          · exact pw.1 y my b (by rw [← ex]; exact hb) hb'
        · rcases List.mem_cons.mp hy with ey | my
          · exact pw.1 x mx b (by rw [← ey]; exact hb') hb
          · exact ih pw.2 x mx y my q b hb hb'
    exact this i.dj f hf e he q b hb hb'
  have apart : ∀ f ∈ es, f.t ≠ e.t → ∀ b ∈ f.fp, b ∉ fp' := fun f hf q => st.apart (i.hws f hf).fpt (old f hf q)
  have alloc : ∀ {b : Addr} {o : HO}, H b = some o → b ∉ e.fp → b ∉ fp' := fun {b o} q n => st.apart (gp := [b]) (fun c hc => by rw [List.mem_singleton.mp hc]; exact ⟨_, q⟩) (fun c hc => by rw [List.mem_singleton.mp hc]; exact n) b List.mem_cons_self
  obtain ⟨dx, eob⟩ := i.ob
  have cases_ : ∀ g ∈ mvE es e.t W' fp', (g.t = e.t ∧ g.q = e.q ∧ g.W = W' ∧ g.fp = fp') ∨ (g ∈ es ∧ g.t ≠ e.t) := fun g hg => by
    obtain ⟨f, hf, rfl⟩ := List.mem_map.mp hg
    by_cases q : f.t = e.t
    · rw [if_pos q]
      have := te_inj nd hf he q
      subst this
      exact .inl ⟨rfl, rfl, rfl, rfl⟩
    · rw [if_neg q]
      exact .inr ⟨hf, q⟩
  refine ⟨⟨⟨dx, st.kept _ _ eob o1⟩, st.kept _ _ i.hda o2, by rw [mvE_qs]; exact st.kept _ _ i.hdw o3, fun g hg => ?_, ?_, fun g hg => ?_, i.ne⟩, ⟨fun b o q hb => st.kept _ _ q fun z => hb (mem_hfp he z), fun b hb => ?_⟩⟩
  · rcases cases_ g hg with ⟨_, g2, g3, g4⟩ | ⟨g1, g2⟩
    · rw [g2, g3, g4]
      exact w'
    · exact (i.hws g g1).kept st.kept (old g g1 g2)
  · unfold mvE
    rw [List.pairwise_map]
    refine List.Pairwise.imp_of_mem ?_ (List.Pairwise.and i.dj ((List.nodup_iff_pairwise_ne.mp nd) |> fun h => by
      unfold keys Mine.ws at h
      rw [List.map_map, List.pairwise_map] at h
      exact h))
    intro f g hf hg ⟨d1, d2⟩ b hb hb'
    have d2 : f.t ≠ g.t := d2
    by_cases qf : f.t = e.t
    · rw [if_pos qf] at hb
      rw [if_neg (fun z => d2 (qf.trans z.symm))] at hb'
      exact apart g hg (fun z => d2 (qf.trans z.symm)) b hb' hb
    · rw [if_neg qf] at hb
      by_cases qg : g.t = e.t
      · rw [if_pos qg] at hb'
        exact apart f hf qf b hb hb'
      · rw [if_neg qg] at hb'
        exact d1 b hb hb'
  · rcases cases_ g hg with ⟨_, _, _, g4⟩ | ⟨g1, g2⟩
    · rw [g4]
      exact ⟨alloc eob o1, alloc i.hda o2, alloc i.hdw o3⟩
    · exact i.own g g1
  · rcases List.mem_cons.mp hb with rfl | hb
    · exact .inl (by simp [hfp])
    rcases List.mem_cons.mp hb with rfl | hb
    · exact .inl (by simp [hfp])
    rcases List.mem_cons.mp hb with rfl | hb
    · exact .inl (by simp [hfp])
    obtain ⟨g, hg, hb⟩ := List.mem_flatMap.mp hb
    rcases cases_ g hg with ⟨_, _, _, g4⟩ | ⟨g1, g2⟩
    · rw [g4] at hb
      rcases st.new b hb with z | z
      · exact .inl (mem_hfp he z)
      · exact .inr z
    · exact .inl (mem_hfp g1 hb)
end
theorem mvE_self {es : List TE} (nd : (keys (ws es)).Nodup) {e : TE} (he : e ∈ es) : mvE es e.t e.W e.fp = es := by
  unfold mvE
  have : ∀ f ∈ es, (if f.t = e.t then { f with W := e.W, fp := e.fp } else f) = f := fun f hf => by
    by_cases q : f.t = e.t
    · rw [if_pos q]
      have := te_inj nd hf he q
      subst this
      rfl
    · rw [if_neg q]
  rw [List.map_congr_left this, List.map_id']
/-- a team's wheel in a house moves -/
theorem HAt.move {CH CW CS : Addr} {H H' : Hp} {p da dw : Addr} {h : Hs} {es : List TE} (e1 : h.wh = ws es) (i : HIn CH CW CS H p da dw h.ab es) (o : HOk h) {e : TE} (he : e ∈ es) {W' : WhS} {fp' : List Addr} (w' : WAt CW CS H' e.q W' fp') (st : Step e.fp H fp' H')
    (hn : W'.rows.map (·.n) = e.W.rows.map (·.n)) : HAt CH CW CS H' p (setW h e.t W') (hfp p da dw (mvE es e.t W' fp')) ∧ Step (hfp p da dw es) H (hfp p da dw (mvE es e.t W' fp')) H' := by
  have nd : (keys (ws es)).Nodup := by rw [← e1]; exact o.k2
  obtain ⟨a, b⟩ := i.move nd he w' st
  have el : lk h.wh e.t = some e.W := by
    rw [e1]
    exact lk_of nd (List.mem_map.mpr ⟨e, he, rfl⟩)
  refine ⟨⟨da, dw, _, ?_, rfl, a, o.setW el w'.ok (has_names hn)⟩, b⟩
  show pt h.wh e.t W' = _
  rw [mvE_ws, e1]
theorem HAt.stay {CH CW CS : Addr} {H H' : Hp} {p da dw : Addr} {h : Hs} {es : List TE} (e1 : h.wh = ws es) (i : HIn CH CW CS H p da dw h.ab es) (o : HOk h) {e : TE} (he : e ∈ es) (w' : WAt CW CS H' e.q e.W e.fp) (st : Step e.fp H e.fp H') :
    HAt CH CW CS H' p h (hfp p da dw es) ∧ Step (hfp p da dw es) H (hfp p da dw es) H' := by
  have nd : (keys (ws es)).Nodup := by rw [← e1]; exact o.k2
  have el : lk h.wh e.t = some e.W := by
    rw [e1]
    exact lk_of nd (List.mem_map.mpr ⟨e, he, rfl⟩)
  have a := HAt.move e1 i o he w' st rfl
  rw [mvE_self nd he] at a
  have : setW h e.t e.W = h := by
    unfold setW
    rw [pt_self o.k2 el]
  rw [this] at a
  exact a
theorem wake_self {W : WhS} (ok : Wm.Ok W) {y : RowS} (hy : y ∈ W.rows) (hr : y.r = true) : Wm.wake W y.n = W := by
  unfold Wm.wake
  rw [upd_same_rows fun x hx e => by
    cases Wm.row_of_name ok.nd hx hy e
    unfold Wm.woken
    rw [if_pos hr]]
theorem rest_self {W : WhS} (ok : Wm.Ok W) {y : RowS} (hy : y ∈ W.rows) (hr : y.r = false) : Wm.rest W y.n = W := by
  unfold Wm.rest
  rw [upd_same_rows fun x hx e => by
    cases Wm.row_of_name ok.nd hx hy e
    cases y
    cases hr
    rfl]
def dropE (es : List TE) (n : Str) : List TE := es.filter fun e => decide (e.t ≠ n)
theorem dropE_qs (es : List TE) (n : Str) : qs (dropE es n) = dp (qs es) n := by
  unfold qs dropE dp
  rw [List.filter_map]
  rfl
theorem dropE_ws (es : List TE) (n : Str) : ws (dropE es n) = dp (ws es) n := by
  unfold ws dropE dp
  rw [List.filter_map]
  rfl
theorem dropE_none {es : List TE} {n : Str} (h : lk (ws es) n = none) : dropE es n = es := List.filter_eq_self.mpr fun e he => decide_eq_true fun q => lk_none_iff.mp h (List.mem_map.mpr ⟨(e.t, e.W), List.mem_map.mpr ⟨e, he, rfl⟩, q⟩)
theorem dropE_fp {p da dw : Addr} {es : List TE} {n : Str} : ∀ b ∈ hfp p da dw (dropE es n), b ∈ hfp p da dw es := fun b hb => by
  rcases List.mem_cons.mp hb with rfl | hb
  · exact List.mem_cons_self
  rcases List.mem_cons.mp hb with rfl | hb
  · exact List.mem_cons_of_mem _ List.mem_cons_self
  rcases List.mem_cons.mp hb with rfl | hb
  · exact List.mem_cons_of_mem _ (List.mem_cons_of_mem _ List.mem_cons_self)
  obtain ⟨e, he, hb⟩ := List.mem_flatMap.mp hb
  exact mem_hfp (List.mem_filter.mp he).1 hb
/-- a team's wheel is forgotten -/
theorem HIn.drop {CH CW CS : Addr} {H : Hp} {p da dw : Addr} {ab : List (Str × Str)} {es : List TE} (i : HIn CH CW CS H p da dw ab es) (n : Str) :
    HIn CH CW CS (upd H dw (.dK (dropK (kvn V.ref (qs es)) (Sum.inr n : Key)))) p da dw ab (dropE es n) ∧ Step (hfp p da dw es) H (hfp p da dw (dropE es n)) (upd H dw (.dK (dropK (kvn V.ref (qs es)) (Sum.inr n : Key)))) := by
  have k : ∀ b o, b ≠ dw → H b = some o → upd H dw (.dK (dropK (kvn V.ref (qs es)) (Sum.inr n : Key))) b = some o := fun b o h e => by
    rw [upd_ne h]
    exact e
  obtain ⟨dx, ob⟩ := i.ob
  have pw : p ≠ dw := fun z => by
    have := i.hdw
    rw [← z, ob] at this
    cases this
  refine ⟨⟨⟨dx, k _ _ pw ob⟩, k _ _ i.ne i.hda, by rw [upd_same, kvn_drop, dropE_qs], fun e he => ?_, i.dj.sublist List.filter_sublist, fun e he => i.own e (List.mem_filter.mp he).1, i.ne⟩, ⟨fun b o e hb => k b o (fun z => hb (by rw [z]; simp [hfp])) e, fun b hb => .inl (dropE_fp b hb)⟩⟩
  have he' := (List.mem_filter.mp he).1
  exact (i.hws e he').keep fun b hb o e => k b o (fun z => (i.own _ he').2.2 (by rw [← z]; exact hb)) e
/-- who stands where is written anew -/
theorem HIn.above {CH CW CS : Addr} {H : Hp} {p da dw : Addr} {ab : List (Str × Str)} {es : List TE} (i : HIn CH CW CS H p da dw ab es) (ab' : List (Str × Str)) :
    HIn CH CW CS (upd H da (.dK (kvn V.str ab'))) p da dw ab' es ∧ Step (hfp p da dw es) H (hfp p da dw es) (upd H da (.dK (kvn V.str ab'))) := by
  have k : ∀ b o, b ≠ da → H b = some o → upd H da (.dK (kvn V.str ab')) b = some o := fun b o h e => by
    rw [upd_ne h]
    exact e
  obtain ⟨dx, ob⟩ := i.ob
  have pw : p ≠ da := fun z => by
    have := i.hda
    rw [← z, ob] at this
    cases this
  refine ⟨⟨⟨dx, k _ _ pw ob⟩, upd_same, k _ _ i.ne.symm i.hdw, fun e he => ?_, i.dj, i.own, i.ne⟩, ⟨fun b o e hb => k b o (fun z => hb (by rw [z]; simp [hfp])) e, fun b hb => .inl hb⟩⟩
  exact (i.hws e he).keep fun b hb o e => k b o (fun z => (i.own _ he).2.1 (by rw [← z]; exact hb)) e
/-- one more team's wheel -/
theorem HIn.add {CH CW CS : Addr} {H : Hp} {p da dw : Addr} {ab : List (Str × Str)} {es : List TE} (i : HIn CH CW CS H p da dw ab es) {n : Str} {W : WhS} {q : Addr} {fp0 : List Addr} (w : WAt CW CS H q W fp0) (fr : ∀ b ∈ fp0, b ∉ hfp p da dw es) :
    HIn CH CW CS (upd H dw (.dK (kvn V.ref (qs es ++ [(n, q)])))) p da dw ab (es ++ [⟨n, W, q, fp0⟩]) := by
  have k : ∀ b o, b ≠ dw → H b = some o → upd H dw (.dK (kvn V.ref (qs es ++ [(n, q)]))) b = some o := fun b o h e => by
    rw [upd_ne h]
    exact e
  obtain ⟨dx, ob⟩ := i.ob
  have pw : p ≠ dw := fun z => by
    have := i.hdw
    rw [← z, ob] at this
    cases this
  have f1 : p ∉ fp0 := fun z => fr p z (by simp [hfp])
  have f2 : da ∉ fp0 := fun z => fr da z (by simp [hfp])
  have f3 : dw ∉ fp0 := fun z => fr dw z (by simp [hfp])
  refine ⟨⟨dx, k _ _ pw ob⟩, k _ _ i.ne i.hda, ?_, fun e he => ?_, ?_, fun e he => ?_, i.ne⟩
  · rw [upd_same]
    unfold qs
    rw [List.map_append]
    rfl
  · rcases List.mem_append.mp he with he | he
    · exact (i.hws e he).keep fun b hb o z => k b o (fun y => (i.own e he).2.2 (by rw [← y]; exact hb)) z
    · rw [List.mem_singleton.mp he]
      exact w.keep fun b hb o z => k b o (fun y => f3 (by rw [← y]; exact hb)) z
  · rw [List.pairwise_append]
    refine ⟨i.dj, List.pairwise_singleton _ _, fun a ha b hb => ?_⟩
    rw [List.mem_singleton.mp hb]
    exact fun c hc hc' => fr c hc' (mem_hfp ha hc)
  · rcases List.mem_append.mp he with he | he
    · exact i.own e he
    · rw [List.mem_singleton.mp he]
      exact ⟨f1, f2, f3⟩

/-! ### rows of a law beside the mirror of a house -/
/-- one's readiness where it stands -/
def Fl (h : Hs) (n : Str) (v : Bool) : Prop := ∃ a W y, lk h.ab n = some a ∧ lk h.wh a = some W ∧ y ∈ W.rows ∧ y.n = n ∧ y.r = v
theorem Fl.det {h : Hs} (o : HOk h) {n : Str} {v u : Bool} (f : Fl h n v) (g : Fl h n u) : v = u := by
  obtain ⟨a, W, y, e1, e2, e3, e4, e5⟩ := f
  obtain ⟨b, U, z, d1, d2, d3, d4, d5⟩ := g
  rw [e1] at d1
  cases d1
  rw [e2] at d2
  cases d2
  cases Wm.row_of_name (o.ok _ _ e2).nd e3 d3 (e4.trans d4.symm)
  exact e5.symm.trans d5
theorem Fl.ex {h : Hs} (o : HOk h) {n a : Str} (e : lk h.ab n = some a) : ∃ v, Fl h n v := by
  obtain ⟨W, w⟩ := o.aw n a e
  obtain ⟨y, hy, yn⟩ := (o.sub a W n w).mpr e
  exact ⟨_, a, W, y, e, w, hy, yn, rfl⟩
theorem Fl.setW {h : Hs} {t : Str} {W W' : WhS} (e : lk h.wh t = some W) {n : Str} {v : Bool} (f : Fl h n v) (k : ∀ y ∈ W.rows, y.n = n → ∃ y' ∈ W'.rows, y'.n = n ∧ y'.r = y.r) : Fl (setW h t W') n v := by
  obtain ⟨a, U, y, e1, e2, e3, e4, e5⟩ := f
  by_cases z : a = t
  · subst z
    rw [e] at e2
    cases e2
    obtain ⟨y', k1, k2, k3⟩ := k y e3 e4
    exact ⟨a, W', y', e1, lk_pt e, k1, k2, k3.trans e5⟩
  · exact ⟨a, U, y, e1, by show lk (pt h.wh t W') a = _; rw [lk_pt_ne z]; exact e2, e3, e4, e5⟩
theorem up_fl {f : WhS → Str → WhS} {go : WhS → WhS → Prop} {h h' : Hs} {n : Str} (u : Up f go h n h') (oth : ∀ W n x, x.n ≠ n → (x ∈ (f W n).rows ↔ x ∈ W.rows)) {m : Str} {v : Bool} (hm : lk h.wh m = none) (ne : m ≠ n) (g : Fl h m v) : Fl h' m v := by
  induction u with
  | stop e1 e2 e3 => exact g.setW e2 fun y hy yn => ⟨y, (oth _ _ y (by rw [yn]; exact ne)).mpr hy, yn, rfl⟩
  | @next h h' n a W e1 e2 e3 e4 e5 ih =>
    have ma : m ≠ a := fun z => by rw [z, e2] at hm; cases hm
    refine ih ?_ ma (g.setW e2 fun y hy yn => ⟨y, (oth _ _ y (by rw [yn]; exact ne)).mpr hy, yn, rfl⟩)
    show lk (pt h.wh a _) m = none
    rw [lk_pt_ne ma]
    exact hm
theorem up_own {f : WhS → Str → WhS} {go : WhS → WhS → Prop} {v : Bool} {h h' : Hs} {n : Str} (u : Up f go h n h') (oth : ∀ W n x, x.n ≠ n → (x ∈ (f W n).rows ↔ x ∈ W.rows)) (own : ∀ W n, ∀ x ∈ (f W n).rows, x.n = n → x.r = v) (nm : ∀ W n, (f W n).rows.map (·.n) = W.rows.map (·.n)) (o : HOk h) (hn : lk h.wh n = none) : Fl h' n v := by
  have at1 : ∀ {h : Hs} {n a : Str} {W : WhS}, HOk h → lk h.ab n = some a → lk h.wh a = some W → Fl (setW h a (f W n)) n v := fun {h n a W} o e1 e2 => by
    obtain ⟨y, hy, yn⟩ := (has_names (nm W n) n).mpr ((o.sub a W n e2).mpr e1)
    exact ⟨a, f W n, y, e1, lk_pt e2, hy, yn, own W n y hy yn⟩
  cases u with
  | stop e1 e2 e3 => exact at1 o e1 e2
  | @next _ _ _ a W e1 e2 e3 e4 e5 =>
    have na : n ≠ a := o.ne_above e1
    refine up_fl e5 oth ?_ na (at1 o e1 e2)
    show lk (pt h.wh a _) n = none
    rw [lk_pt_ne na]
    exact hn
theorem wake_fl {h h' : Hs} {n : Str} (u : WakeUp h n h') (o : HOk h) (hn : lk h.wh n = none) : Fl h' n true ∧ ∀ m v, lk h.wh m = none → m ≠ n → Fl h m v → Fl h' m v :=
  ⟨up_own u (fun _ _ => wake_own.2) (fun _ _ => wake_own.1) wake_names o hn, fun _ _ hm ne g => up_fl u (fun _ _ => wake_own.2) hm ne g⟩
theorem rest_fl {h h' : Hs} {n : Str} (u : RestUp h n h') (o : HOk h) (hn : lk h.wh n = none) : Fl h' n false ∧ ∀ m v, lk h.wh m = none → m ≠ n → Fl h m v → Fl h' m v :=
  ⟨up_own u (fun _ _ => rest_own.2) (fun _ _ => rest_own.1) rest_names o hn, fun _ _ hm ne g => up_fl u (fun _ _ => rest_own.2) hm ne g⟩
theorem turn_fl {h : Hs} {t : Str} {W : WhS} (e : lk h.wh t = some W) {n : Str} {v : Bool} (f : Fl h n v) : Fl (setW h t (Wm.turn W)) n v :=
  f.setW e fun y hy yn => by
    obtain ⟨y', q1, q2, q3⟩ := (turn_keep W).2 y hy
    exact ⟨y', q1, q2.symm.trans yn, q3.symm⟩
theorem Deal.fl {h h' : Hs} {t : Str} {l : List Str} (d : Deal h t l h') {n : Str} {v : Bool} : Fl h n v → Fl h' n v := by
  induction d with
  | none e _ => exact turn_fl e
  | hand e _ _ => exact turn_fl e
  | team e _ _ _ ih => exact fun f => ih (turn_fl e f)
theorem rdy_up {h : Hs} (o : HOk h) (r : Rd h "") {t : Str} {W : WhS} (e : lk h.wh t = some W) (w : Rdy W) : ∃ U, lk h.wh "" = some U ∧ Rdy U := by
  obtain ⟨rk, N, hrk⟩ := o.rk
  generalize hk : rk t = k
  induction k using Nat.strongRecOn generalizing t W with
  | _ k ih =>
    rcases o.wt t W e with z | ⟨a, ea⟩
    · rw [z] at e
      exact ⟨W, e, w⟩
    · obtain ⟨Wa, ewa⟩ := o.aw t a ea
      obtain ⟨x, hx, xn⟩ := (o.sub a Wa t ewa).mpr ea
      have xr := (r t W a Wa e (o.ne_top ea) (o.ne_top ea) ea ewa x hx xn).mpr w
      exact ih (rk a) (by rw [← hk]; exact (hrk t a ea).1) ewa ⟨x, hx, xr⟩ rfl
/-- where somebody is ready, a hand is -/
theorem rdy_down {h : Hs} (o : HOk h) (r : Rd h "") {t : Str} {W : WhS} (e : lk h.wh t = some W) (w : Rdy W) : ∃ n, lk h.wh n = none ∧ Fl h n true := by
  obtain ⟨rk, N, hrk⟩ := o.rk
  generalize hk : N - rk t = k
  induction k using Nat.strongRecOn generalizing t W with
  | _ k ih =>
    obtain ⟨y, hy, yr⟩ := w
    have ey := (o.sub t W y.n e).mp ⟨y, hy, rfl⟩
    cases en : lk h.wh y.n with
    | none => exact ⟨y.n, en, t, W, y, ey, e, hy, rfl, yr⟩
    | some U =>
      have := (r y.n U t W en (o.ne_top ey) (o.ne_top ey) ey e y hy rfl).mp yr
      obtain ⟨q1, q2⟩ := hrk _ _ ey
      exact ih (N - rk y.n) (by omega) en this rfl
structure HR where
  n : Str
  a : Str
  s : Int
  t : Bool
  f : Bool
structure Lk (rows : List HR) (h : Hs) : Prop where
  ab : h.ab = rows.map fun x => (x.n, x.a)
  wh : keys h.wh = ("" : Str) :: (rows.filter (·.t)).map (·.n)
  fl : ∀ x ∈ rows, x.t = false → Fl h x.n x.f
  tf : ∀ x ∈ rows, x.t = true → x.f = false
theorem Lk.names {rows : List HR} {h : Hs} (l : Lk rows h) : keys h.ab = rows.map (·.n) := by
  rw [l.ab]
  unfold keys
  rw [List.map_map]
  rfl
theorem Lk.nd {rows : List HR} {h : Hs} (l : Lk rows h) (o : HOk h) : (rows.map (·.n)).Nodup := by
  rw [← l.names]
  exact o.k1
theorem Lk.at {rows : List HR} {h : Hs} (l : Lk rows h) (o : HOk h) {x : HR} (hx : x ∈ rows) : lk h.ab x.n = some x.a := by
  refine lk_of o.k1 ?_
  rw [l.ab]
  exact List.mem_map.mpr ⟨x, hx, rfl⟩
theorem Lk.of {rows : List HR} {h : Hs} (l : Lk rows h) {n a : Str} (e : lk h.ab n = some a) : ∃ x ∈ rows, x.n = n ∧ x.a = a := by
  have := lk_mem e
  rw [l.ab] at this
  obtain ⟨x, hx, q⟩ := List.mem_map.mp this
  injection q with q1 q2
  exact ⟨x, hx, q1, q2⟩
theorem hr_inj {rows : List HR} (nd : (rows.map (·.n)).Nodup) {x y : HR} (hx : x ∈ rows) (hy : y ∈ rows) (e : x.n = y.n) : x = y := by
  induction rows with
  | nil => exact (nomatch hx)
  | cons z r ih =>
    rw [List.map_cons, List.nodup_cons] at nd
    rcases List.mem_cons.mp hx with hx | hx
    · rcases List.mem_cons.mp hy with hy | hy
      · rw [hx, hy]
      · exact (nd.1 (by rw [← hx, e]; exact List.mem_map.mpr ⟨y, hy, rfl⟩)).elim
    · rcases List.mem_cons.mp hy with hy | hy
      · exact (nd.1 (by rw [← hy, ← e]; exact List.mem_map.mpr ⟨x, hx, rfl⟩)).elim
      · exact ih nd.2 hx hy
theorem Lk.hand {rows : List HR} {h : Hs} (l : Lk rows h) (o : HOk h) {x : HR} (hx : x ∈ rows) (e : x.t = false) : lk h.wh x.n = none := by
  refine lk_none_iff.mpr fun z => ?_
  rw [l.wh] at z
  rcases List.mem_cons.mp z with z | z
  · exact o.ne_top (l.at o hx) z
  · obtain ⟨y, hy, yn⟩ := List.mem_map.mp z
    obtain ⟨hy, yt⟩ := List.mem_filter.mp hy
    cases hr_inj (l.nd o) hx hy yn.symm
    rw [e] at yt
    cases yt
theorem Lk.team {rows : List HR} {h : Hs} (l : Lk rows h) {x : HR} (hx : x ∈ rows) (e : x.t = true) : ∃ W, lk h.wh x.n = some W := by
  refine key_lk ?_
  rw [l.wh]
  exact List.mem_cons_of_mem _ (List.mem_map.mpr ⟨x, List.mem_filter.mpr ⟨hx, e⟩, rfl⟩)
theorem Lk.keep {rows : List HR} {h h' : Hs} (l : Lk rows h) (o : HOk h) (e1 : h'.ab = h.ab) (e2 : keys h'.wh = keys h.wh) (k : ∀ m v, lk h.wh m = none → Fl h m v → Fl h' m v) : Lk rows h' :=
  ⟨e1.trans l.ab, e2.trans l.wh, fun x hx e => k _ _ (l.hand o hx e) (l.fl x hx e), l.tf⟩
theorem Lk.deal {rows : List HR} {h h' : Hs} {t : Str} {ns : List Str} (l : Lk rows h) (d : Deal h t ns h') (o : HOk h) (r : Rd h "") : Lk rows h' := by
  obtain ⟨_, _, c, e⟩ := d.ok o r
  exact l.keep o c e fun m v _ f => d.fl f
theorem Lk.stir {rows : List HR} {h h' : Hs} (l : Lk rows h) (o : HOk h) {k : Nat} {x : HR} (hk : rows[k]? = some x) (xt : x.t = false) {v : Bool} (e1 : h'.ab = h.ab) (e2 : keys h'.wh = keys h.wh) (f : Fl h' x.n v) (g : ∀ m u, lk h.wh m = none → m ≠ x.n → Fl h m u → Fl h' m u) :
    Lk (rows.set k { x with f := v }) h' := by
  have hx := List.mem_of_getElem? hk
  have nd := l.nd o
  have same : ∀ {β : Type} (q : HR → β), q { x with f := v } = q x → (rows.set k { x with f := v }).map q = rows.map q := fun q e => by
    rw [List.map_set, e]
    exact set_at (at_map q hk)
  have mem : ∀ y ∈ rows.set k { x with f := v }, y = { x with f := v } ∨ (y ∈ rows ∧ y.n ≠ x.n) := fun y hy => by
    obtain ⟨j, hj⟩ := List.getElem?_of_mem hy
    rw [List.getElem?_set] at hj
    by_cases z : k = j
    · rw [if_pos z] at hj
      split at hj
      · exact .inl (Option.some.inj hj).symm
      · cases hj
    · rw [if_neg z] at hj
      refine .inr ⟨List.mem_of_getElem? hj, fun e => z ?_⟩
      have a1 : (rows.map (·.n))[k]? = some x.n := at_map _ hk
      have a2 : (rows.map (·.n))[j]? = some x.n := by rw [at_map (·.n) hj, e]
      exact nd_ix nd a1 a2
  refine ⟨e1.trans (l.ab.trans (same (fun x => (x.n, x.a)) rfl).symm), e2.trans (l.wh.trans ?_), fun y hy yt => ?_, fun y hy yt => ?_⟩
  · have h1 : ((rows.set k { x with f := v }).map fun y => (y.t, y.n)) = rows.map fun y => (y.t, y.n) := same (fun y => (y.t, y.n)) rfl
    have h2 : ∀ l : List HR, (l.filter (·.t)).map (·.n) = ((l.map fun y => (y.t, y.n)).filter (·.1)).map (·.2) := fun l => by
      induction l with
      | nil => rfl
      | cons z r ih =>
        rw [List.map_cons]
        cases zt : z.t <;> simp [zt, ih]
    rw [h2, h2, h1]
  · rcases mem y hy with rfl | ⟨hy, ne⟩
    · exact f
    · exact g _ _ (l.hand o hy yt) ne (l.fl y hy yt)
  · rcases mem y hy with rfl | ⟨hy, ne⟩
    · rw [show (⟨x.n, x.a, x.s, x.t, v⟩ : HR).t = x.t from rfl, xt] at yt
      cases yt
    · exact l.tf y hy yt
theorem Lk.nobody {rows : List HR} {h : Hs} (l : Lk rows h) (o : HOk h) (r : Rd h "") : (∀ x ∈ rows, x.f = false) ↔ ∀ W, lk h.wh "" = some W → Wm.best W.rows = none := by
  constructor
  · intro k W e
    cases eb : Wm.best W.rows with
    | none => rfl
    | some b =>
      obtain ⟨n, n1, n2⟩ := rdy_down o r e (rdy_best.mpr (by rw [eb]; intro z; cases z))
      obtain ⟨a, _, _, ea, _⟩ := id n2
      obtain ⟨x, hx, rfl, _⟩ := l.of ea
      cases xt : x.t with
      | true =>
        obtain ⟨U, u⟩ := l.team hx xt
        rw [n1] at u
        cases u
      | false =>
        have := (l.fl x hx xt).det o n2
        rw [k x hx] at this
        cases this
  · intro k x hx
    cases xf : x.f with
    | false => rfl
    | true =>
      cases xt : x.t with
      | true =>
        have := l.tf x hx xt
        rw [xf] at this
        cases this
      | false =>
        obtain ⟨a, W, y, e1, e2, e3, e4, e5⟩ := l.fl x hx xt
        obtain ⟨U, u1, u2⟩ := rdy_up o r e2 ⟨y, e3, by rw [e5, xf]⟩
        exact (rdy_best.mp u2 (k U u1)).elim
theorem remD_step {h h' : Hs} {t n : Str} {l : List Str} (m : RemD h t (n :: l) h') (o : HOk h) (r : Rd h "") : ∃ U b, lk h.wh t = some U ∧ Wm.best U.rows = some b ∧ b.n = n ∧ RemD (setW h t (Wm.turn U)) n l h' ∧ Fl (setW h t (Wm.turn U)) n true ∧ ∀ V, lk (setW h t (Wm.turn U)).wh n = some V → Rdy V := by
  rcases m with ⟨_, z, _⟩ | ⟨_, _, d⟩
  · cases z
  · have key : ∀ {U : WhS} {b : RowS}, lk h.wh t = some U → Wm.best U.rows = some b → lk (setW h t (Wm.turn U)).wh b.n = lk h.wh b.n ∧ Fl (setW h t (Wm.turn U)) b.n true ∧ ∀ V, lk (setW h t (Wm.turn U)).wh b.n = some V → Rdy V := fun {U b} e eb => by
      obtain ⟨b1, b2, _⟩ := Wm.best_some eb
      have ea := (o.sub t U b.n e).mp ⟨b, b2, rfl⟩
      have fl : Fl (setW h t (Wm.turn U)) b.n true := turn_fl e ⟨t, U, b, ea, e, b2, rfl, b1⟩
      have rk := r.keep e (turn_keep U).1 (turn_keep U).2
      refine ⟨lk_pt_ne (o.ne_above ea), fl, fun V ev => ?_⟩
      obtain ⟨a, W, y, e1, e2, e3, e4, e5⟩ := fl
      exact (rk b.n V a W ev (o.ne_top ea) (o.ne_top ea) e1 e2 y e3 e4).mp e5
    cases d with
    | hand e eb en =>
      obtain ⟨k1, k2, k3⟩ := key e eb
      exact ⟨_, _, e, eb, rfl, .inl ⟨k1.trans en, rfl, rfl⟩, k2, k3⟩
    | team e eb en d =>
      obtain ⟨k1, k2, k3⟩ := key e eb
      exact ⟨_, _, e, eb, rfl, .inr ⟨_, k1.trans en, d⟩, k2, k3⟩
theorem remD_end {h h' : Hs} {t : Str} (m : RemD h t [] h') (k : ∀ V, lk h.wh t = some V → Rdy V) : lk h.wh t = none ∧ h' = h := by
  rcases m with ⟨a, _, b⟩ | ⟨U, e, d⟩
  · exact ⟨a, b⟩
  · cases d with
    | none e1 e2 => exact (rdy_best.mp (k _ e1) e2).elim
theorem deal_none {h h' : Hs} {l : List Str} (o : HOk h) (d : Deal h "" l h') (k : ∀ W, lk h.wh "" = some W → Wm.best W.rows = none) : l = [] ∧ h' = h := by
  cases d with
  | none e1 e2 =>
    refine ⟨rfl, ?_⟩
    rw [Wm.turn_none e2]
    unfold setW
    rw [pt_self o.k2 e1]
  | hand e1 e2 _ => rw [k _ e1] at e2; cases e2
  | team e1 e2 _ _ => rw [k _ e1] at e2; cases e2
theorem deal_some {h h' : Hs} {l : List Str} (o : HOk h) (d : Deal h "" l h') (k : ¬ ∀ W, lk h.wh "" = some W → Wm.best W.rows = none) : RemD h "" l h' ∧ (∀ V, lk h.wh "" = some V → Rdy V) ∧ l ≠ [] := by
  obtain ⟨W, e⟩ := o.top
  have ne : Wm.best W.rows ≠ none := fun z => k fun U u => by
    rw [e] at u
    cases u
    exact z
  refine ⟨.inr ⟨W, e, d⟩, fun V v => ?_, ?_⟩
  · rw [e] at v
    cases v
    exact rdy_best.mpr ne
  · cases d with
    | none e1 e2 => rw [e] at e1; cases e1; exact (ne e2).elim
    | hand => intro z; cases z
    | team => intro z; cases z
theorem Fl.grow {h : Hs} {n m t : Str} {v : Bool} {W W' : WhS} {more : List (Str × WhS)} (f : Fl h m v) (e : lk h.ab n = none) (ea : lk h.wh t = some W) (k : ∀ y ∈ W.rows, y ∈ W'.rows) : Fl ⟨h.ab ++ [(n, t)], pt h.wh t W' ++ more⟩ m v := by
  obtain ⟨a, U, y, e1, e2, e3, e4, e5⟩ := f
  have mn : m ≠ n := fun z => by rw [z, e] at e1; cases e1
  have app : ∀ {l : List (Str × WhS)} {q : Str} {u : WhS}, lk l q = some u → lk (l ++ more) q = some u := fun {l q u} z => by
    induction l with
    | nil => cases z
    | cons x r ih =>
      show (if x.1 = q then some x.2 else lk (r ++ more) q) = some u
      have z : (if x.1 = q then some x.2 else lk r q) = some u := z
      by_cases p : x.1 = q
      · rw [if_pos p] at z ⊢
        exact z
      · rw [if_neg p] at z ⊢
        exact ih z
  have e1' : lk (h.ab ++ [(n, t)]) m = some a := (lk_app_old mn).trans e1
  by_cases z : a = t
  · subst z
    rw [ea] at e2
    cases e2
    exact ⟨a, W', y, e1', app (lk_pt ea), k y e3, e4, e5⟩
  · exact ⟨a, U, y, e1', app ((lk_pt_ne z).trans e2), e3, e4, e5⟩
theorem Lk.addH {rows : List HR} {h : Hs} (l : Lk rows h) {n t : Str} {W : WhS} (e : lk h.ab n = none) (ea : lk h.wh t = some W) (s : Int) : Lk (rows ++ [⟨n, t, s, false, false⟩]) (enterH h n t W s) := by
  have app : (enterH h n t W s) = ⟨h.ab ++ [(n, t)], pt h.wh t (Wm.enter W n s) ++ []⟩ := by rw [List.append_nil]; rfl
  refine ⟨?_, ?_, fun x hx xt => ?_, fun x hx xt => ?_⟩
  · show h.ab ++ [(n, t)] = _
    rw [List.map_append, ← l.ab]
    rfl
  · show keys (pt h.wh t _) = _
    rw [keys_pt, l.wh, List.filter_append]
    simp
  · rcases List.mem_append.mp hx with hx | hx
    · rw [app]
      exact (l.fl x hx xt).grow e ea fun y hy => List.mem_append.mpr (.inl hy)
    · rw [List.mem_singleton.mp hx]
      exact ⟨t, Wm.enter W n s, ⟨n, s, 0, false⟩, lk_app_new e, lk_pt ea, List.mem_append.mpr (.inr List.mem_cons_self), rfl, rfl⟩
  · rcases List.mem_append.mp hx with hx | hx
    · exact l.tf x hx xt
    · rw [List.mem_singleton.mp hx]
theorem Lk.addT {rows : List HR} {h : Hs} (l : Lk rows h) {n t : Str} {W : WhS} (e : lk h.ab n = none) (ea : lk h.wh t = some W) (s : Int) : Lk (rows ++ [⟨n, t, s, true, false⟩]) (enterT h n t W s) := by
  refine ⟨?_, ?_, fun x hx xt => ?_, fun x hx xt => ?_⟩
  · show h.ab ++ [(n, t)] = _
    rw [List.map_append, ← l.ab]
    rfl
  · show keys (pt h.wh t _ ++ [(n, _)]) = _
    rw [show ∀ (l : List (Str × WhS)) (u : WhS), keys (l ++ [(n, u)]) = keys l ++ [n] from fun l u => by unfold keys; rw [List.map_append]; rfl, keys_pt, l.wh, List.filter_append]
    simp
  · rcases List.mem_append.mp hx with hx | hx
    · exact (l.fl x hx xt).grow e ea fun y hy => List.mem_append.mpr (.inl hy)
    · rw [List.mem_singleton.mp hx] at xt
      cases xt
  · rcases List.mem_append.mp hx with hx | hx
    · exact l.tf x hx xt
    · rw [List.mem_singleton.mp hx]

/-! ### is_name -/
theorem elt_mid {prog : Program} {w : World} {scope : Scope} {x lo hi : Str} {j1 j2 : Nat} {p1 p2 p3 p4 : Pos} (hk : scope.kind = .function) (hl : scope.names.lookup x = some .local) (hd : (x == ("__debug__" : Str)) = false := by decide) :
    GxR.EltP prog w scope x (.Compare (.Constant (.str lo) j1 p1) [.LtE, .LtE] [.Name x p2, .Constant (.str hi) j2 p3] p4) (fun c => !decide ([c] < lo.cps.toList) && !decide (hi.cps.toList < [c])) := by
  intro cenv A' E' c t s₂ m₂ hs hn hm
  refine Compare_chain (Calls.Constant_str (chain_link ?_)) (by with_unfolding_all rfl)
  refine wpAny_Name (wpAny_loadName_local (by rw [hs]; exact hk) (show cenv.scope.names.lookup x = some .local by rw [hs]; exact hl) hn hm ?_) hd
  refine PySem.P.le_str (wpAny_truthy_bool ?_)
  show if (!decide ([c] < lo.cps.toList)) = true then _ else _
  cases e : !decide ([c] < lo.cps.toList) with
  | false =>
    rw [if_neg (by decide)]
    refine ⟨?_, GxR.keeps_tok _ _⟩
    show Value.bool false = Value.bool (!decide ([c] < lo.cps.toList) && !decide (hi.cps.toList < [c]))
    rw [e]
    rfl
  | true =>
    rw [if_pos rfl]
    refine chain_last (Calls.Constant_str (PySem.P.le_str ?_))
    refine ⟨?_, GxR.keeps_tok _ _⟩
    show Value.bool (!decide (hi.cps.toList < [c])) = Value.bool (!decide ([c] < lo.cps.toList) && !decide (hi.cps.toList < [c]))
    rw [e]
    rfl
/-- a def whose code object is at c -/
structure FunC (K : PySem.W.Frag) (x qual : Str) (st : Stmt) (c f : Addr) (fd : FuncData) : Prop where
  ex : ∃ (oc : Value) (od : Option Addr) (kV doc pm : Value) (an : Option Addr) (ct : Value) (osl : Array (Option Value)),
    fd = PySem.W.fnOf x qual (defArgs st) (defBody st) (defScope st) .none kV doc pm an (.ref c) ct ∧ K.lookup f = some ⟨oc, od, .func fd, osl⟩ ∧ PySem.W.codeIn K (.ref c) qual = true
  kp : PySem.W.keepIn K (.ref f) = true
theorem okC {P : Program} {w : World} {K : PySem.W.Frag} {mg : Str → Option Value} {base : Heap} {x qual : Str} {st : Stmt} {c f : Addr} {fd : FuncData} {N ps : List Str} {k : Nat} {sp : Sp} (F : FunC K x qual st c f fd) (S : FnScope N ps (defScope st))
    (len : ∀ vs H Q E, sp vs H Q E → vs.length = ps.length)
    (body : ∀ (A : Around) (outer : List Env) (s : Shared) (H : Hp) (vs : List V) (Q : VK) (E : XK), Room k (A.deeper (envOfC qual (defScope st) s.heap.objs.size f (.ref c))) → sp vs H Q E →
      ∃ t, PSs (cxOf (L2.CX P w) P w K mg base N qual (defScope st) f (.ref c) A outer s H E).nox (defBody st) t ∧ t ⟨fun _ H' => Q .non H', Q, fun _ _ => False, fun _ _ => False⟩ (start N vs) H) :
    FnOk P w K mg base (L2.CX P w) (k + 1) f fd ps sp := by
  obtain ⟨oc, od, kV, doc, pm, an, ct, osl, rfl, lk, hcd⟩ := F.ex
  refine fn_of lk hcd S len fun A outer s H vs Q E hr hsp => ?_
  obtain ⟨t, h, q⟩ := body A outer s H vs Q E hr hsp
  exact ⟨t, h.nox, q⟩

def azB (c : Nat) : Bool := !decide ([c] < ("a" : Str).cps.toList) && !decide (("z" : Str).cps.toList < [c])
def isNm : V → Bool
  | .str z => decide (1 ≤ z.length) && decide (z.length ≤ 8) && z.cps.toList.all azB
  | _ => false
def spIsName (Pt : Addr) : Sp := fun vs H Q _ => ∃ x, vs = [x] ∧ Th H x ∧ GxR.TabG H Pt ∧ (∀ z, x = .str z → z.length ≤ sizeLine) ∧ ∀ H', (H' = H ∨ GxR.Tabbed Pt H H') → Q (.bl (isNm x)) H'
section
variable {P : Program} {w : World} {K : PySem.W.Frag} {mg : Str → Option Value} {base : Heap} {CS CW CB CT CN : Addr}
theorem sc_is_name : FnScope ["thing"] ["thing"] (defScope s_is_name) := ⟨rfl, rfl, rfl, by decide +kernel, rfl, by decide +kernel, by decide +kernel⟩
theorem ok_is_name {c Pt f : Addr} {fd : FuncData} {tL : Tok} (F : FunC K "is_name" "is_name" s_is_name c f fd) (L : LT mg) (TB : GxR.TabB base mg c Pt) (mLong : mg "LONGEST" = some (.int 8 tL)) (zall : mg "all" = none) : FnOk P w K mg base (L2.CX P w) 2 f fd ["thing"] (spIsName Pt) := by
  refine okC F sc_is_name (fun vs H Q E h => ?_) (fun A outer s H vs Q E hr h => ?_)
  · obtain ⟨x, rfl, _⟩ := h
    rfl
  · obtain ⟨x, rfl, hx, hT, hz, k⟩ := h
    have free_no : ∀ y ∈ ([((".0" : Str), NameKind.local), (("sign" : Str), NameKind.local)] : List (Str × NameKind)), y.2 = .free → ∃ c', ((cxOf (L2.CX P w) P w K mg base ["thing"] "is_name" (defScope s_is_name) f (.ref c) A outer s H E).nox.env.cells.lookup y.1) = some c' := by
      intro y hy e
      rcases List.mem_cons.mp hy with rfl | hy
      · cases e
      · rcases List.mem_cons.mp hy with rfl | hy
        · cases e
        · cases hy
    refine ⟨_, pss_cons (ps_if (PW.pt (pw_or (pt_not (pt_val (pe_callB call_isi (by rfl) L.isi boot_isinstance (pa_cons (pv 0) (pa_cons (pe_bltn (v := .ty "str") (by rfl) L.str PyProof.Rows.boot_str rfl) pa_nil))))) (pw_or1 (pt_not (pt_chain op_le op_le pe_int (pe_callB call_len_str (by rfl) L.len PySem.boot_len (pa_cons (pv 0) pa_nil)) (pe_glob (v := .int 8) rfl mLong ⟨_, rfl⟩)))))) (pss_one (ps_ret pe_bl)) pss_nil)
      (pss_one (ps_ret (GxR.pe_allS (pb := azB) hr (by rfl) zall (by decide +kernel) TB rfl ⟨rfl, rfl, by decide +kernel, rfl, rfl, (fun y hy e => free_no y hy e)⟩ (pv 0) (elt_mid rfl rfl) (fun _ => rfl)))), ?_⟩
    obtain ⟨t, ty, _, _, e3⟩ := hx.ty (K := K)
    refine ⟨_, rfl, _, _, t, _, _, rfl, .ty _, ty, e3, _, rfl, ?_⟩
    cases hx with
    | int i => exact iteT (iteT (k H (.inl rfl)))
    | bl b => exact iteT (iteT (k H (.inl rfl)))
    | non => exact iteT (iteT (k H (.inl rfl)))
    | lst e => exact iteT (iteT (k H (.inl rfl)))
    | str z =>
      refine iteF ⟨_, rfl, _, rfl, hz z rfl, _, _, rfl, rfl, _, rfl, ?_⟩
      by_cases h1 : (1 : Int) ≤ (z.length : Int)
      · rw [if_pos (decide_eq_true h1)]
        refine ⟨_, _, rfl, rfl, _, rfl, ?_⟩
        by_cases h2 : (z.length : Int) ≤ 8
        · rw [decide_eq_true h2]
          refine iteF ⟨_, rfl, z, rfl, hT, fun H2 hH2 => ?_⟩
          have := k H2 (.inr hH2)
          rw [show isNm (.str z) = (decide (1 ≤ z.length) && decide (z.length ≤ 8) && z.cps.toList.all azB) from rfl] at this
          rw [decide_eq_true (show 1 ≤ z.length by omega), decide_eq_true (show z.length ≤ 8 by omega)] at this
          exact this
        · rw [decide_eq_false h2]
          refine iteT ?_
          have := k H (.inl rfl)
          rw [show isNm (.str z) = (decide (1 ≤ z.length) && decide (z.length ≤ 8) && z.cps.toList.all azB) from rfl] at this
          rw [decide_eq_false (show ¬ z.length ≤ 8 by omega), Bool.and_false, Bool.false_and] at this
          exact this
      · rw [if_neg (by rw [decide_eq_false h1]; decide)]
        refine ⟨_, rfl, iteT ?_⟩
        have := k H (.inl rfl)
        rw [show isNm (.str z) = (decide (1 ≤ z.length) && decide (z.length ≤ 8) && z.cps.toList.all azB) from rfl] at this
        rw [decide_eq_false (show ¬ 1 ≤ z.length by omega), Bool.false_and, Bool.false_and] at this
        exact this
end

/-! ### names of teams and hands -/
def az : Str := "abcdefghijklmnopqrstuvwxyz"
def hname (x y : Int) (c : Nat) : Str := Txt.mul "o" x ++ (⟨#[97 + c]⟩ : Str) ++ Txt.mul "o" y
theorem az_at : ∀ c < 26, az.cps.toList[c]? = some (97 + c) := by decide +kernel
theorem az_len : az.cps.toList.length = 26 := by decide +kernel
theorem azB_at : ∀ c < 26, azB (97 + c) = true := by decide +kernel
theorem azB_o : azB 111 = true := by decide +kernel
theorem mul_o (x : Int) : (Txt.mul "o" x).cps.toList = List.replicate x.toNat 111 := by
  rw [mul_codes]
  exact rep_flat _ _
theorem hname_codes (x y : Int) (c : Nat) : (hname x y c).cps.toList = List.replicate x.toNat 111 ++ [97 + c] ++ List.replicate y.toNat 111 := by
  unfold hname
  rw [codes_app, codes_app, mul_o, mul_o]
theorem hname_len (x y : Int) (c : Nat) : (hname x y c).length = x.toNat + 1 + y.toNat := by
  rw [← codes_len, hname_codes]
  simp
  omega
theorem hname_ok {x y : Int} {c : Nat} (h1 : x ≤ 4) (h2 : y ≤ 3) (hc : c < 26) : isNm (.str (hname x y c)) = true := by
  show (decide (1 ≤ (hname x y c).length) && decide ((hname x y c).length ≤ 8) && (hname x y c).cps.toList.all azB) = true
  rw [hname_len, decide_eq_true (by omega), decide_eq_true (by omega), hname_codes]
  rw [List.all_append, List.all_append]
  have r : ∀ n, (List.replicate n 111).all azB = true := fun n => List.all_eq_true.mpr fun z hz => by rw [(List.mem_replicate.mp hz).2]; exact azB_o
  rw [r, r]
  simp [azB_at c hc]
theorem hname_inj {x y : Int} {c d : Nat} (h : hname x y c = hname x y d) : c = d := by
  have e : (hname x y c).cps.toList = (hname x y d).cps.toList := by rw [h]
  rw [hname_codes, hname_codes] at e
  have e := List.append_cancel_right e
  have e := List.append_cancel_left e
  injection e with e
  omega
theorem nm_ne {n : Str} (h : isNm (.str n) = true) : n ≠ "" := fun z => by
  rw [z] at h
  cases h
theorem mul_o_len (x : Int) : (Txt.mul "o" x).length = x.toNat := by
  rw [← codes_len, mul_o, List.length_replicate]
theorem app_len (a b : Str) : (a ++ b).length = a.length + b.length := by
  rw [← codes_len, codes_app, List.length_append, codes_len, codes_len]
theorem sgn1 (c : Nat) : (⟨#[c]⟩ : Str).length = 1 := rfl

/-! ### lists of lists, by a form -/
section
variable {α : Type} {f : α → List V}
inductive RGA (f : α → List V) (H : Hp) : List Addr → List α → Prop
  | nil : RGA f H [] []
  | cons {t : Addr} {x : α} {ts : List Addr} {rows : List α} : H t = some (.lst (f x)) → RGA f H ts rows → RGA f H (t :: ts) (x :: rows)
theorem RGA.mono {H H' : Hp} : ∀ {ts : List Addr} {rows : List α}, (∀ t ∈ ts, ∀ xs, H t = some (.lst xs) → H' t = some (.lst xs)) → RGA f H ts rows → RGA f H' ts rows
  | _, _, _, .nil => .nil
  | _, _, k, .cons a b => .cons (k _ List.mem_cons_self _ a) (b.mono fun t ht => k t (List.mem_cons_of_mem _ ht))
theorem RGA.len {H : Hp} : ∀ {ts : List Addr} {rows : List α}, RGA f H ts rows → ts.length = rows.length
  | _, _, .nil => rfl
  | _, _, .cons _ b => congrArg (· + 1) b.len
theorem RGA.app {H : Hp} : ∀ {ts us : List Addr} {rows sows : List α}, RGA f H ts rows → RGA f H us sows → RGA f H (ts ++ us) (rows ++ sows)
  | _, _, _, _, .nil, h => h
  | _, _, _, _, .cons a b, h => .cons a (b.app h)
theorem RGA.at {H : Hp} : ∀ {ts : List Addr} {rows : List α} {i : Nat} {x : α}, RGA f H ts rows → rows[i]? = some x → ∃ t, ts[i]? = some t ∧ H t = some (.lst (f x))
  | _, _, 0, _, .cons a _, h => by
    cases h
    exact ⟨_, rfl, a⟩
  | _, _, i + 1, _, .cons _ b, h => b.at (i := i) (by simpa using h)
  | _, _, _, _, .nil, h => by simp at h
theorem RGA.lst {H : Hp} : ∀ {ts : List Addr} {rows : List α}, RGA f H ts rows → ∀ t ∈ ts, ∃ xs, H t = some (.lst xs)
  | _, _, .nil, _, h => (nomatch h)
  | _, _, .cons a b, t, h => by
    rcases List.mem_cons.mp h with rfl | h
    · exact ⟨_, a⟩
    · exact b.lst t h
theorem RGA.set {H : Hp} {y : α} {t : Addr} : ∀ {ts : List Addr} {rows : List α} {k : Nat}, RGA f H ts rows → ts.Nodup → ts[k]? = some t → RGA f (upd H t (.lst (f y))) ts (rows.set k y)
  | _, _, 0, .cons a b, nd, h => by
    cases h
    refine .cons upd_same (b.mono fun u hu xs e => ?_)
    rw [upd_ne (fun z => (List.nodup_cons.mp nd).1 (by rw [← z]; exact hu))]
    exact e
  | _, _, k + 1, .cons (t := u) (ts := ts) a b, nd, h => by
    have h : ts[k]? = some t := by simpa using h
    refine .cons ?_ (RGA.set (k := k) b (List.nodup_cons.mp nd).2 h)
    rw [upd_ne (fun z => (List.nodup_cons.mp nd).1 (by rw [z]; exact List.mem_of_getElem? h))]
    exact a
  | _, _, _, .nil, _, h => by simp at h
structure Rg (f : α → List V) (H : Hp) (lr : Addr) (ts : List Addr) (rows : List α) : Prop where
  h : H lr = some (.lst (ts.map V.ref))
  a : RGA f H ts rows
  nd : (lr :: ts).Nodup
theorem Rg.lst {H : Hp} {lr : Addr} {ts : List Addr} {rows : List α} (R : Rg f H lr ts rows) : ∀ t ∈ lr :: ts, ∃ xs, H t = some (.lst xs) := fun t ht => by
  rcases List.mem_cons.mp ht with rfl | ht
  · exact ⟨_, R.h⟩
  · exact R.a.lst t ht
theorem Rg.keep {H H' : Hp} {lr : Addr} {ts : List Addr} {rows : List α} (R : Rg f H lr ts rows) (k : ∀ t ∈ lr :: ts, ∀ xs, H t = some (.lst xs) → H' t = some (.lst xs)) : Rg f H' lr ts rows :=
  ⟨k _ List.mem_cons_self _ R.h, R.a.mono fun t ht xs e => k _ (List.mem_cons_of_mem _ ht) _ e, R.nd⟩
theorem Rg.same {H H' : Hp} {lr : Addr} {ts : List Addr} {rows : List α} (R : Rg f H lr ts rows) (s : Same H H') : Rg f H' lr ts rows := R.keep fun _ _ _ e => s _ _ e
theorem Rg.len {H : Hp} {lr : Addr} {ts : List Addr} {rows : List α} (R : Rg f H lr ts rows) : (ts.map V.ref).length = rows.length := by rw [List.length_map, R.a.len]
theorem Rg.at {H : Hp} {lr : Addr} {ts : List Addr} {rows : List α} {i : Nat} {x : α} (R : Rg f H lr ts rows) (e : rows[i]? = some x) : ∃ t, (ts.map V.ref)[i]? = some (.ref t) ∧ ts[i]? = some t ∧ H t = some (.lst (f x)) := by
  obtain ⟨t, t1, t2⟩ := R.a.at e
  exact ⟨t, by rw [List.getElem?_map, t1]; rfl, t1, t2⟩
theorem Rg.set {H : Hp} {lr t : Addr} {ts : List Addr} {rows : List α} {k : Nat} {y : α} (R : Rg f H lr ts rows) (h : ts[k]? = some t) : Rg f (upd H t (.lst (f y))) lr ts (rows.set k y) := by
  have nd := List.nodup_cons.mp R.nd
  refine ⟨?_, R.a.set nd.2 h, R.nd⟩
  rw [upd_ne (fun z => nd.1 (by rw [z]; exact List.mem_of_getElem? h))]
  exact R.h
theorem Rg.snoc {H : Hp} {lr t : Addr} {ts : List Addr} {rows : List α} {y : α} (R : Rg f H lr ts rows) (ht : H t = none) : Rg f (upd (upd H t (.lst (f y))) lr (.lst (ts.map V.ref ++ [.ref t]))) lr (ts ++ [t]) (rows ++ [y]) := by
  have nd := List.nodup_cons.mp R.nd
  have nlt : lr ≠ t := ne_of_none R.h ht
  have nt : ¬ t ∈ ts := fun h => by
    obtain ⟨xs, e⟩ := R.a.lst t h
    rw [ht] at e
    cases e
  refine ⟨by rw [upd_same, List.map_append]; rfl, (R.a.mono fun u hu xs e => ?_).app (.cons (by rw [upd_ne nlt.symm, upd_same]) .nil), List.nodup_cons.mpr ⟨fun h => ?_, Wm.nd_snoc nd.2 nt⟩⟩
  · rw [upd_ne (fun z => nd.1 (by rw [← z]; exact hu)), upd_ne (ne_of_none e ht)]
    exact e
  · rcases List.mem_append.mp h with h | h
    · exact nd.1 h
    · exact nlt (List.mem_singleton.mp h)
/-- a house moves: lists stand -/
theorem Rg.step {CH CW CS : Addr} {H H' : Hp} {lr p : Addr} {ts fp fp' : List Addr} {rows : List α} {h : Hs} (R : Rg f H lr ts rows) (hA : HAt CH CW CS H p h fp) (st : Step fp H fp' H') : Rg f H' lr ts rows :=
  R.keep fun _ _ _ e => st.kept _ _ e (hA.lst e)
theorem RGA.dp {K : PySem.W.Frag} {H : Hp} {g : α → List PyData} (fg : ∀ x, DpAll K H (f x) (g x)) : ∀ {ts : List Addr} {rows : List α}, RGA f H ts rows → DpAll K H (ts.map V.ref) (rows.map fun x => PyData.list (g x))
  | _, _, .nil => .nil
  | _, _, .cons a b => .cons (.lst (SqL.of a) (fg _)) (b.dp fg)
/-- a comprehension over a list of lists, with a test: the lists themselves -/
theorem lc_rf {K : PySem.W.Frag} {lr : Addr} {ts : List Addr} {rows : List α} {g : TG} {tt : TT} {te : L2.TE} {vs : List Nat} {σ : L2.St} {H : Hp} {D : Addr} {Qd : Hp → Prop} (pr : α → Bool) (R : Rg f H lr ts rows) (hD : H D = none) (hlen : rows.length ≤ 1000)
    (hs : ∀ x ∈ rows, ∀ t H', Same H H' → H' t = some (.lst (f x)) → ∀ (Y : V → Hp → Prop) (Z : Hp → Prop), (pr x = true → Y (.ref t) H') → (pr x = false → Z H') →
      g (.ref t) (wipe σ vs) H' fun σ2 H2 => wipe σ2 vs = wipe σ vs ∧ tt σ2 H2 fun b H3 => if b = true then te σ2 H3 Y else Z H3)
    (hd : ∀ H' us, Same H H' → H' D = some (.lst (us.map V.ref)) → RGA f H' us (rows.filter pr) → Qd H') :
    ∃ W : Nat → Nat → Hp → Prop, (∃ m, W 0 m (upd H D (.lst []))) ∧ ∀ i m H, W i m H →
      ((Itl K lr).stop i H ∧ Qd H) ∨ ((Itl K lr).go i H ∧ ∃ Nx : Hp → Prop, (∀ H', Nx H' → ∃ m', m' < m ∧ W (i + 1) m' H') ∧ ∀ x H', (Itl K lr).yld i H x H' → g x (wipe σ vs) H' fun σ2 H2 => wipe σ2 vs = wipe σ vs ∧ tt σ2 H2 fun b H3 =>
        if b = true then te σ2 H3 fun y H4 => ∃ acc, H4 D = some (.lst acc) ∧ acc.length < sizeLine ∧ Nx (upd H4 D (.lst (acc ++ [y]))) else Nx H3) := by
  have hl := R.len
  have nD : ∀ {b : Addr} {o : HO}, H b = some o → b ≠ D := fun {b o} e z => by rw [z, hD] at e; cases e
  refine lc_list (K := K) (a := lr) (xs := ts.map V.ref) (fun i H' => Same H H' ∧ ∃ us, H' D = some (.lst (us.map V.ref)) ∧ RGA f H' us ((rows.take i).filter pr) ∧ ∀ u ∈ us, u ∈ ts) ⟨same_upd hD, [], upd_same, .nil, fun u hu => (nomatch hu)⟩ (fun i H' _ e => SqL.of (e.1 _ _ R.h)) ?_ ?_
  · rintro i v H' hv ⟨s, us, u1, u2, u3⟩
    have hi : i < rows.length := by rw [← hl]; exact (List.getElem?_eq_some_iff.mp hv).1
    have ex : rows[i]? = some rows[i] := by simp [hi]
    generalize rows[i] = x at ex
    obtain ⟨t, t1, t3, t2⟩ := R.at ex
    rw [t1] at hv
    cases hv
    have st : ∀ u ∈ ts, u ≠ D := fun u hu => by
      obtain ⟨xs, e⟩ := R.a.lst u hu
      exact nD e
    refine hs x (List.mem_of_getElem? ex) t H' s (s _ _ t2) _ _ (fun e => ?_) (fun e => ?_)
    · refine ⟨us.map V.ref, u1, ?_, fun b o e2 => ?_, us ++ [t], by rw [upd_same, List.map_append]; rfl, ?_, fun u hu => ?_⟩
      · rw [List.length_map, u2.len]
        refine small1000 (Nat.le_trans (List.length_filter_le _ _) ?_)
        rw [List.length_take]
        omega
      · rw [upd_ne (nD e2)]
        exact s _ _ e2
      · rw [take_snoc ex, List.filter_append]
        have : [x].filter pr = [x] := by simp [e]
        rw [this]
        refine (u2.mono fun z hz w e2 => ?_).app (.cons ?_ .nil)
        · rw [upd_ne (st z (u3 z hz))]
          exact e2
        · rw [upd_ne (nD t2)]
          exact s _ _ t2
      · rcases List.mem_append.mp hu with hu | hu
        · exact u3 u hu
        · rw [List.mem_singleton.mp hu]
          exact List.mem_of_getElem? t3
    · refine ⟨s, us, u1, ?_, u3⟩
      rw [take_snoc ex, List.filter_append]
      have : [x].filter pr = [] := by simp [e]
      rw [this, List.append_nil]
      exact u2
  · rintro H' ⟨s, us, u1, u2, _⟩
    rw [hl, List.take_length] at u2
    exact hd H' us s u1 u2
/-- a comprehension over a list of lists, with a test: flat values -/
theorem lc_rm {K : PySem.W.Frag} {lr : Addr} {ts : List Addr} {rows : List α} {g : TG} {tt : TT} {te : L2.TE} {vs : List Nat} {σ : L2.St} {H : Hp} {D : Addr} {Qd : Hp → Prop} (pr : α → Bool) (fv : α → V) (R : Rg f H lr ts rows) (hD : H D = none) (hlen : rows.length ≤ 1000)
    (hs : ∀ x ∈ rows, ∀ t H', Same H H' → H' t = some (.lst (f x)) → ∀ (Y : V → Hp → Prop) (Z : Hp → Prop), (pr x = true → Y (fv x) H') → (pr x = false → Z H') →
      g (.ref t) (wipe σ vs) H' fun σ2 H2 => wipe σ2 vs = wipe σ vs ∧ tt σ2 H2 fun b H3 => if b = true then te σ2 H3 Y else Z H3)
    (hd : ∀ H', Same H H' → H' D = some (.lst ((rows.filter pr).map fv)) → Qd H') :
    ∃ W : Nat → Nat → Hp → Prop, (∃ m, W 0 m (upd H D (.lst []))) ∧ ∀ i m H, W i m H →
      ((Itl K lr).stop i H ∧ Qd H) ∨ ((Itl K lr).go i H ∧ ∃ Nx : Hp → Prop, (∀ H', Nx H' → ∃ m', m' < m ∧ W (i + 1) m' H') ∧ ∀ x H', (Itl K lr).yld i H x H' → g x (wipe σ vs) H' fun σ2 H2 => wipe σ2 vs = wipe σ vs ∧ tt σ2 H2 fun b H3 =>
        if b = true then te σ2 H3 fun y H4 => ∃ acc, H4 D = some (.lst acc) ∧ acc.length < sizeLine ∧ Nx (upd H4 D (.lst (acc ++ [y]))) else Nx H3) := by
  have hl := R.len
  have nD : ∀ {b : Addr} {o : HO}, H b = some o → b ≠ D := fun {b o} e z => by rw [z, hD] at e; cases e
  refine lc_list (K := K) (a := lr) (xs := ts.map V.ref) (fun i H' => Same H H' ∧ H' D = some (.lst (((rows.take i).filter pr).map fv))) ⟨same_upd hD, upd_same⟩ (fun i H' _ e => SqL.of (e.1 _ _ R.h)) ?_ ?_
  · rintro i v H' hv ⟨s, u1⟩
    have hi : i < rows.length := by rw [← hl]; exact (List.getElem?_eq_some_iff.mp hv).1
    have ex : rows[i]? = some rows[i] := by simp [hi]
    generalize rows[i] = x at ex
    obtain ⟨t, t1, _, t2⟩ := R.at ex
    rw [t1] at hv
    cases hv
    refine hs x (List.mem_of_getElem? ex) t H' s (s _ _ t2) _ _ (fun e => ?_) (fun e => ?_)
    · refine ⟨_, u1, ?_, fun b o e2 => ?_, ?_⟩
      · rw [List.length_map]
        refine small1000 (Nat.le_trans (List.length_filter_le _ _) ?_)
        rw [List.length_take]
        omega
      · rw [upd_ne (nD e2)]
        exact s _ _ e2
      · rw [upd_same, take_snoc ex, List.filter_append, List.map_append]
        have : [x].filter pr = [x] := by simp [e]
        rw [this]
        rfl
    · refine ⟨s, ?_⟩
      rw [take_snoc ex, List.filter_append]
      have : [x].filter pr = [] := by simp [e]
      rw [this, List.append_nil]
      exact u1
  · rintro H' ⟨s, u1⟩
    rw [hl, List.take_length] at u1
    exact hd H' s u1
end
/-! ### the script, where it may be a plain list -/
def Sc (K : PySem.W.Frag) (H : Hp) (a : Addr) (xs : List V) (S : List Addr) : Prop :=
  (a ∉ S ∧ L2.Rd H a (.lst xs)) ∨ (∃ (o : Obj) (its : Array Value) (n : Nat), K.lookup a = some o ∧ o.cls = .type "list" ∧ o.dict = none ∧ o.data = .seq its n ∧ its.size ≤ sizeLine ∧ Vals xs its.toList)
theorem Sc.sq {K : PySem.W.Frag} {H : Hp} {a : Addr} {xs : List V} {S : List Addr} (h : Sc K H a xs S) : SqL K H a xs := by
  rcases h with h | h
  · exact .inl h.2
  · exact .inr h
theorem Sc.of {K : PySem.W.Frag} {H : Hp} {a : Addr} {xs : List V} (h : SqL K H a xs) : Sc K H a xs [] := by
  rcases h with h | h
  · exact .inl ⟨fun z => (nomatch z), h⟩
  · exact .inr h
theorem Sc.keep {K : PySem.W.Frag} {H H' : Hp} {a : Addr} {xs : List V} {S S' : List Addr} (h : Sc K H a xs S) (k : ∀ o, (o = .lst xs ∨ ∃ u, o = .frz u (.lst xs)) → H a = some o → a ∉ S → H' a = some o ∧ a ∉ S') : Sc K H' a xs S' := by
  rcases h with ⟨n, h | ⟨o, h⟩⟩ | h
  · obtain ⟨q1, q2⟩ := k _ (.inl rfl) h n
    exact .inl ⟨q2, .inl q1⟩
  · obtain ⟨q1, q2⟩ := k _ (.inr ⟨o, rfl⟩) h n
    exact .inl ⟨q2, .inr ⟨o, q1⟩⟩
  · exact .inr h
theorem Sc.same {K : PySem.W.Frag} {H H' : Hp} {a : Addr} {xs : List V} {S : List Addr} (h : Sc K H a xs S) (s : Same H H') : Sc K H' a xs S := h.keep fun o _ e n => ⟨s _ _ e, n⟩
/-- new lists come to S -/
theorem Sc.grow {K : PySem.W.Frag} {H H' : Hp} {a : Addr} {xs : List V} {S S' : List Addr} (h : Sc K H a xs S) (s : Same H H') (n : ∀ b ∈ S', b ∈ S ∨ H b = none) : Sc K H' a xs S' := h.keep fun o _ e q => ⟨s _ _ e, fun z => by
  rcases n a z with z | z
  · exact q z
  · rw [z] at e
    cases e⟩
theorem Sc.upd {K : PySem.W.Frag} {H : Hp} {a t : Addr} {o : HO} {xs : List V} {S : List Addr} (h : Sc K H a xs S) (ht : t ∈ S) : Sc K (upd H t o) a xs S := h.keep fun o _ e n => ⟨by rw [upd_ne (fun z => n (by rw [z]; exact ht))]; exact e, n⟩
theorem Sc.step {K : PySem.W.Frag} {CH CW CS : Addr} {H H' : Hp} {a p : Addr} {fp fp' : List Addr} {h : Hs} {xs : List V} {S : List Addr} (c : Sc K H a xs S) (hA : HAt CH CW CS H p h fp) (st : Step fp H fp' H') : Sc K H' a xs S := c.keep fun o k e n => by
  refine ⟨st.kept _ _ e ?_, n⟩
  rcases k with rfl | ⟨u, rfl⟩
  · exact hA.lst e
  · exact hA.frz e
/-- a house stands through a list's store -/
theorem HAt.upl {CH CW CS : Addr} {H : Hp} {p t : Addr} {h : Hs} {fp : List Addr} {xs : List V} {o : HO} (hA : HAt CH CW CS H p h fp) (e : H t = some (.lst xs)) : HAt CH CW CS (upd H t o) p h fp :=
  hA.keep fun b hb u q => by
    rw [upd_ne (fun z => hA.lst e (by rw [← z]; exact hb))]
    exact q
/-! ### a dict of wheels -/
structure WD (CW CS : Addr) (H : Hp) (d : Addr) (es : List TE) : Prop where
  hd : H d = some (.dK (kvn V.ref (qs es)))
  hws : ∀ e ∈ es, WAt CW CS H e.q e.W e.fp
  dj : es.Pairwise fun e f => ∀ b ∈ e.fp, b ∉ f.fp
  own : ∀ e ∈ es, d ∉ e.fp
def wfp (d : Addr) (es : List TE) : List Addr := d :: es.flatMap (·.fp)
section
variable {CW CS : Addr} {H H' : Hp} {d : Addr} {es : List TE}
theorem mem_wfp {b : Addr} {e : TE} (he : e ∈ es) (hb : b ∈ e.fp) : b ∈ wfp d es := List.mem_cons_of_mem _ (List.mem_flatMap.mpr ⟨e, he, hb⟩)
theorem WD.keep (i : WD CW CS H d es) (k : ∀ b ∈ wfp d es, ∀ o, H b = some o → H' b = some o) : WD CW CS H' d es :=
  ⟨k _ List.mem_cons_self _ i.hd, fun e he => (i.hws e he).keep fun b hb o q => k b (mem_wfp he hb) o q, i.dj, i.own⟩
theorem WD.same (i : WD CW CS H d es) (s : Same H H') : WD CW CS H' d es := i.keep fun _ _ _ e => s _ _ e
theorem WD.fpt (i : WD CW CS H d es) : ∀ b ∈ wfp d es, ∃ o, H b = some o := by
  intro b hb
  rcases List.mem_cons.mp hb with rfl | hb
  · exact ⟨_, i.hd⟩
  obtain ⟨e, he, hb⟩ := List.mem_flatMap.mp hb
  exact (i.hws e he).fpt b hb
theorem WD.notin (i : WD CW CS H d es) {b : Addr} {o : HO} (e : H b = some o) (h1 : ∀ C dx fs, o ≠ .ins C dx fs) (h2 : ∀ k, o ≠ .dK k) : b ∉ wfp d es := by
  intro hb
  rcases List.mem_cons.mp hb with rfl | hb
  · have e1 := i.hd
    rw [e] at e1
    exact h2 _ (Option.some.inj e1)
  obtain ⟨x, hx, hb⟩ := List.mem_flatMap.mp hb
  exact (i.hws x hx).notin e h1 h2 hb
theorem WD.lst (i : WD CW CS H d es) {b : Addr} {xs : List V} (e : H b = some (.lst xs)) : b ∉ wfp d es := i.notin e (fun _ _ _ z => by cases z) fun _ z => by cases z
/-- one more wheel -/
theorem WD.snoc (i : WD CW CS H d es) {n : Str} {W : WhS} {q : Addr} {fp0 : List Addr} (w : WAt CW CS H q W fp0) (fr : ∀ b ∈ fp0, b ∉ wfp d es) : WD CW CS (upd H d (.dK (kvn V.ref (qs (es ++ [⟨n, W, q, fp0⟩]))))) d (es ++ [⟨n, W, q, fp0⟩]) := by
  have k : ∀ b o, b ≠ d → H b = some o → upd H d (.dK (kvn V.ref (qs (es ++ [⟨n, W, q, fp0⟩])))) b = some o := fun b o h e => by
    rw [upd_ne h]
    exact e
  have f0 : d ∉ fp0 := fun z => fr d z List.mem_cons_self
  refine ⟨upd_same, fun e he => ?_, ?_, fun e he => ?_⟩
  · rcases List.mem_append.mp he with he | he
    · exact (i.hws e he).keep fun b hb o z => k b o (fun y => i.own e he (by rw [← y]; exact hb)) z
    · rw [List.mem_singleton.mp he]
      exact w.keep fun b hb o z => k b o (fun y => f0 (by rw [← y]; exact hb)) z
  · rw [List.pairwise_append]
    refine ⟨i.dj, List.pairwise_singleton _ _, fun a ha b hb => ?_⟩
    rw [List.mem_singleton.mp hb]
    exact fun c hc hc' => fr c hc' (mem_wfp ha hc)
  · rcases List.mem_append.mp he with he | he
    · exact i.own e he
    · rw [List.mem_singleton.mp he]
      exact f0
/-- one of the wheels moves -/
theorem WD.move (i : WD CW CS H d es) (nd : (keys (ws es)).Nodup) {e : TE} (he : e ∈ es) {W' : WhS} {fp' : List Addr} (w' : WAt CW CS H' e.q W' fp') (st : Step e.fp H fp' H') : WD CW CS H' d (mvE es e.t W' fp') ∧ Step (wfp d es) H (wfp d (mvE es e.t W' fp')) H' := by
  have o1 := i.own e he
  have old : ∀ f ∈ es, f.t ≠ e.t → ∀ b ∈ f.fp, b ∉ e.fp := fun f hf q b hb hb' => by
    have : ∀ {l : List TE}, l.Pairwise (fun e f => ∀ b ∈ e.fp, b ∉ f.fp) → ∀ x ∈ l, ∀ y ∈ l, x.t ≠ y.t → ∀ b ∈ x.fp, b ∉ y.fp := by
      intro l pw
      induction l with
      | nil => exact fun x hx => (nomatch hx)
      | cons a l ih =>
        rw [List.pairwise_cons] at pw
        intro x hx y hy q b hb hb'
        rcases List.mem_cons.mp hx with ex | mx
        · rcases List.mem_cons.mp hy with ey | my
          · exact q (by rw [ex, ey])
          · exact pw.1 y my b (by rw [← ex]; exact hb) hb'
        · rcases List.mem_cons.mp hy with ey | my
          · exact pw.1 x mx b (by rw [← ey]; exact hb') hb
          · exact ih pw.2 x mx y my q b hb hb'
    exact this i.dj f hf e he q b hb hb'
  have apart : ∀ f ∈ es, f.t ≠ e.t → ∀ b ∈ f.fp, b ∉ fp' := fun f hf q => st.apart (i.hws f hf).fpt (old f hf q)
  have alloc : d ∉ fp' := st.apart (gp := [d]) (fun c hc => by rw [List.mem_singleton.mp hc]; exact ⟨_, i.hd⟩) (fun c hc => by rw [List.mem_singleton.mp hc]; exact o1) d List.mem_cons_self
  have cases_ : ∀ g ∈ mvE es e.t W' fp', (g.t = e.t ∧ g.q = e.q ∧ g.W = W' ∧ g.fp = fp') ∨ (g ∈ es ∧ g.t ≠ e.t) := fun g hg => by
    obtain ⟨f, hf, rfl⟩ := List.mem_map.mp hg
    by_cases q : f.t = e.t
    · rw [if_pos q]
      have := te_inj nd hf he q
      subst this
      exact .inl ⟨rfl, rfl, rfl, rfl⟩
    · rw [if_neg q]
      exact .inr ⟨hf, q⟩
  refine ⟨⟨by rw [mvE_qs]; exact st.kept _ _ i.hd o1, fun g hg => ?_, ?_, fun g hg => ?_⟩, ⟨fun b o q hb => st.kept _ _ q fun z => hb (mem_wfp he z), fun b hb => ?_⟩⟩
  · rcases cases_ g hg with ⟨_, g2, g3, g4⟩ | ⟨g1, g2⟩
    · rw [g2, g3, g4]
      exact w'
    · exact (i.hws g g1).kept st.kept (old g g1 g2)
  · unfold mvE
    rw [List.pairwise_map]
    refine List.Pairwise.imp_of_mem ?_ (List.Pairwise.and i.dj ((List.nodup_iff_pairwise_ne.mp nd) |> fun h => by
      unfold keys Mine.ws at h
      rw [List.map_map, List.pairwise_map] at h
      exact h))
    intro f g hf hg ⟨d1, d2⟩ b hb hb'
    have d2 : f.t ≠ g.t := d2
    by_cases qf : f.t = e.t
    · rw [if_pos qf] at hb
      rw [if_neg (fun z => d2 (qf.trans z.symm))] at hb'
      exact apart g hg (fun z => d2 (qf.trans z.symm)) b hb' hb
    · rw [if_neg qf] at hb
      by_cases qg : g.t = e.t
      · rw [if_pos qg] at hb'
        exact apart f hf qf b hb hb'
      · rw [if_neg qg] at hb'
        exact d1 b hb hb'
  · rcases cases_ g hg with ⟨_, _, _, g4⟩ | ⟨g1, g2⟩
    · rw [g4]
      exact alloc
    · exact i.own g g1
  · rcases List.mem_cons.mp hb with rfl | hb
    · exact .inl List.mem_cons_self
    obtain ⟨g, hg, hb⟩ := List.mem_flatMap.mp hb
    rcases cases_ g hg with ⟨_, _, _, g4⟩ | ⟨g1, g2⟩
    · rw [g4] at hb
      rcases st.new b hb with z | z
      · exact .inl (mem_wfp he z)
      · exact .inr z
    · exact .inl (mem_wfp g1 hb)
theorem lk_ws_pt {es : List TE} {t : Str} {W' : WhS} {fp' : List Addr} : lk (ws (mvE es t W' fp')) = lk (pt (ws es) t W') := by rw [mvE_ws]
end
/-! ### data through moves of what is no list and no tuple -/
mutual
theorem Dp.keep {K : PySem.W.Frag} {H H' : Hp} (k1 : ∀ b xs, L2.Rd H b (.lst xs) → L2.Rd H' b (.lst xs)) (k2 : ∀ b xs, L2.Rd H b (.tup xs) → L2.Rd H' b (.tup xs)) : ∀ (d : PyData) (v : V), Dp K H v d → Dp K H' v d
  | .none, _, .non => .non
  | .bool _, _, .bl b => .bl b
  | .int _, _, .int i => .int i
  | .str _, _, .str x => .str x
  | .list ds, _, .lst h a => .lst (h.elim (fun h => .inl (k1 _ _ h)) .inr) (DpAll.keep k1 k2 ds _ a)
  | .tuple ds, _, .tup h a => .tup (h.elim (fun h => .inl (k2 _ _ h)) .inr) (DpAll.keep k1 k2 ds _ a)
theorem DpAll.keep {K : PySem.W.Frag} {H H' : Hp} (k1 : ∀ b xs, L2.Rd H b (.lst xs) → L2.Rd H' b (.lst xs)) (k2 : ∀ b xs, L2.Rd H b (.tup xs) → L2.Rd H' b (.tup xs)) : ∀ (ds : List PyData) (vs : List V), DpAll K H vs ds → DpAll K H' vs ds
  | [], _, .nil => .nil
  | d :: ds, _, .cons a b => .cons (Dp.keep k1 k2 d _ a) (DpAll.keep k1 k2 ds _ b)
end
theorem Dp.same {K : PySem.W.Frag} {H H' : Hp} {d : PyData} {v : V} (h : Dp K H v d) (s : Same H H') : Dp K H' v d := Mine.Dp.keep (fun b xs e => e.elim (fun e => .inl (s _ _ e)) fun ⟨o, e⟩ => .inr ⟨o, s _ _ e⟩) (fun b xs e => e.elim (fun e => .inl (s _ _ e)) fun ⟨o, e⟩ => .inr ⟨o, s _ _ e⟩) d v h
/-- a dict is written: data stand -/
theorem Dp.updk {K : PySem.W.Frag} {H : Hp} {d : PyData} {v : V} {b : Addr} {o : HO} {ks : List (Key × V)} (h : Dp K H v d) (e : H b = some (.dK ks) ∨ ∃ u, H b = some (.frz u (.dK ks))) : Dp K (upd H b o) v d := by
  have nl : ∀ c u, (∀ ks, u ≠ .dK ks) → (∀ x w, u ≠ .frz x w) → L2.Rd H c u → c ≠ b := fun c u n n2 q z => by
    subst z
    rcases e with e | ⟨x, e⟩
    · rcases q with q | ⟨y, q⟩
      · rw [e] at q
        exact n _ (Option.some.inj q).symm
      · rw [e] at q
        cases q
    · rcases q with q | ⟨y, q⟩
      · rw [e] at q
        exact n2 _ _ (Option.some.inj q).symm
      · rw [e] at q
        injection q with q
        injection q with _ q
        exact n _ q.symm
  exact Mine.Dp.keep (fun c xs q => by unfold L2.Rd; rw [upd_ne (nl c _ (fun _ z => by cases z) (fun _ _ z => by cases z) q)]; exact q) (fun c xs q => by unfold L2.Rd; rw [upd_ne (nl c _ (fun _ z => by cases z) (fun _ _ z => by cases z) q)]; exact q) d v h
/-! ### dicts of data compared, whatever the order their keys stand in -/
theorem kv_mem {κ : Type} {ks : List (κ × V)} {va : List (κ × Value)} (r : KV ks va) {k : κ} {v : Value} (h : (k, v) ∈ va) : ∃ p ∈ ks, p.1 = k ∧ L2.RelV p.2 v := by
  unfold KV at r
  induction r with
  | nil => exact (nomatch h)
  | cons h1 h2 ih =>
    rcases List.mem_cons.mp h with z | z
    · subst z
      exact ⟨_, List.mem_cons_self, h1.1, h1.2⟩
    · obtain ⟨p, a1, a2⟩ := ih z
      exact ⟨p, List.mem_cons_of_mem _ a1, a2⟩
def rEqDD (K : PySem.W.Frag) : R2 := fun x y H Q => ∃ a b ks ls, x = .ref a ∧ y = .ref b ∧ H a = some (.dK ks) ∧ H b = some (.dK ls) ∧ ks.length = ls.length ∧ (∀ p ∈ ks, ∃ v d, valV ls p.1 = some v ∧ Dp K H p.2 d ∧ Dp K H v d ∧ Sm 60 d) ∧ Q (.bl true) H
theorem op_eqDD {X : Cx} {K0 : PySem.W.Frag} (hu : X.A.units + 64 < cLine) (hK : X.K = K0 := by rfl) : OpR X (compareOp .Eq) (rEqDD K0) := by
  subst hK
  intro pins s σ H x y v u Q I rx ry h
  obtain ⟨a, b, ks, ls, rfl, rfl, ea, eb, hlen, hp, q⟩ := h
  obtain rfl : v = Value.ref a := rx
  obtain rfl : u = Value.ref b := ry
  obtain ⟨_, ya, va, ra, da⟩ := (show ObjOk X.prog X.w H s.heap a (.dK ks) from I.hok a _ ea)
  obtain ⟨_, yb, vb, rb, db⟩ := (show ObjOk X.prog X.w H s.heap b (.dK ls) from I.hok b _ eb)
  have hl : va.length = vb.length := by rw [← ra.length, ← rb.length]; exact hlen
  have key : ∀ k v, (k, v) ∈ va → ∃ y d as bs, valueAt vb k = some y ∧ Reads s.heap v d as ∧ Reads s.heap y d bs ∧ Sm 60 d := fun k v hkv => by
    obtain ⟨p, hpk, e1, e2⟩ := kv_mem ra hkv
    obtain ⟨v2, d, f1, f2, f3, f4⟩ := hp p hpk
    obtain ⟨as, r1⟩ := Dp.reads I d _ _ f2 e2
    have rr : RelO (some v2) (valueAt vb p.1) := by rw [← f1]; exact rb.val p.1
    obtain ⟨y, hy, ry⟩ := rr.some_of
    obtain ⟨bs, r2⟩ := Dp.reads I d _ y f3 ry
    exact ⟨y, d, as, bs, by rw [← e1]; exact hy, r1, r2, f4⟩
  refine PySem.W.eq_dictsT (knd := mixKind X.prog X.w) (n := 61) (e := fun _ => true) ya yb da db (fun k v y hkv hy => ?_) (by omega) ⟨.bl true, H, I, ?_, q⟩
  · obtain ⟨y', d, as, bs, e1, r1, r2, sm⟩ := key k v hkv
    rw [hy] at e1
    cases e1
    refine .leaf fun A hA => ?_
    have := SeqAt.eqAt_plain d d A s v y _ _ r1 r2 sm.1 sm.1 (by have := sm.2; have := Nat.min_le_left d.depth d.depth; omega)
    rw [SeqAt.eqv_refl_plain d sm.1] at this
    exact this
  · show Value.bool _ = Value.bool true
    congr 1
    rw [beq_iff_eq.mpr hl, Bool.true_and, List.all_eq_true]
    rintro ⟨k, v⟩ hkv
    obtain ⟨y', d, as, bs, e1, _⟩ := key k v hkv
    dsimp only
    rw [e1]
    rfl
/-- a comprehension over what is walked: a list -/
theorem lc_it {J : It} {n : Nat} {G : Hp → Prop} {Y : Nat → Hp → V → Hp → Prop} (w : Walk J n G Y) {g : TG} {tt : TT} {te : L2.TE} {vs : List Nat} {σ : L2.St} {H1 : Hp} {D : Addr} {Qd : Hp → Prop} (Pv : Nat → Hp → Prop) (h0 : Pv 0 (upd H1 D (.lst []))) (hG : ∀ i H, i ≤ n → Pv i H → G H)
    (hs : ∀ i x H H', i < n → Pv i H → Y i H x H' → g x (wipe σ vs) H' fun σ2 H2 => wipe σ2 vs = wipe σ vs ∧ tt σ2 H2 fun b H3 =>
      if b = true then te σ2 H3 fun y H4 => ∃ acc, H4 D = some (.lst acc) ∧ acc.length < sizeLine ∧ Pv (i + 1) (upd H4 D (.lst (acc ++ [y]))) else Pv (i + 1) H3)
    (hd : ∀ H, Pv n H → Qd H) :
    ∃ W : Nat → Nat → Hp → Prop, (∃ m, W 0 m (upd H1 D (.lst []))) ∧ ∀ i m H, W i m H →
      (J.stop i H ∧ Qd H) ∨ (J.go i H ∧ ∃ Nx : Hp → Prop, (∀ H', Nx H' → ∃ m', m' < m ∧ W (i + 1) m' H') ∧ ∀ x H', J.yld i H x H' → g x (wipe σ vs) H' fun σ2 H2 => wipe σ2 vs = wipe σ vs ∧ tt σ2 H2 fun b H3 =>
        if b = true then te σ2 H3 fun y H4 => ∃ acc, H4 D = some (.lst acc) ∧ acc.length < sizeLine ∧ Nx (upd H4 D (.lst (acc ++ [y]))) else Nx H3) := by
  refine ⟨fun i m H => i ≤ n ∧ m = n - i ∧ Pv i H, ⟨n, Nat.zero_le _, by simp, h0⟩, fun i m H ⟨hi, hm, p⟩ => ?_⟩
  subst hm
  rcases Nat.lt_or_ge i n with hlt | hge
  · exact .inr ⟨w.goes i H hlt (hG i H hi p), Pv (i + 1), fun H' p' => ⟨n - (i + 1), by omega, hlt, rfl, p'⟩, fun x H' y => hs i x H H' hlt p (w.yields i H x H' hlt (hG i H hi p) y)⟩
  · have e : i = n := by omega
    rw [e] at p ⊢
    exact .inl ⟨w.stops H (hG n H (Nat.le_refl _) p), hd H p⟩
theorem HAt.at {CH CW CS : Addr} {H : Hp} {p : Addr} {h : Hs} {fp : List Addr} (a : HAt CH CW CS H p h fp) : ∃ dx da dw, H p = some (.ins CH dx (hf da dw)) := by
  obtain ⟨da, dw, es, _, rfl, i, _⟩ := a
  obtain ⟨dx, e⟩ := i.ob
  exact ⟨dx, da, dw, e⟩
theorem lk_all {es : List TE} {l : List (Str × WhS)} (k : ∀ e ∈ es, lk l e.t = some e.W) (nd : (keys (ws es)).Nodup) (m : ∀ t, t ∈ es.map (·.t) ↔ t ∈ keys l) (t : Str) : lk (ws es) t = lk l t := by
  cases q : lk l t with
  | none =>
    refine lk_none_iff.mpr fun z => lk_none_iff.mp q ((m t).mp ?_)
    unfold keys ws at z
    rw [List.map_map] at z
    exact z
  | some W =>
    obtain ⟨e, he, rfl⟩ := List.mem_map.mp ((m t).mpr (lk_some_key q))
    rw [k e he] at q
    cases q
    exact lk_of nd (List.mem_map.mpr ⟨e, he, rfl⟩)
theorem keys_ws (es : List TE) : keys (ws es) = es.map (·.t) := by
  unfold keys ws
  rw [List.map_map]
  rfl
theorem HOk.len {h : Hs} (o : HOk h) {t : Str} {W : WhS} (e : lk h.wh t = some W) : W.rows.length ≤ h.ab.length := by
  have := nodup_sub (W.rows.map (·.n)) (keys h.ab) (o.ok t W e).nd fun n hn => lk_some_key ((o.sub t W n e).mp (has_n.mpr hn))
  unfold keys at this
  rw [List.length_map, List.length_map] at this
  exact this
theorem Lk.len {rows : List HR} {h : Hs} (l : Lk rows h) : h.ab.length = rows.length := by rw [l.ab, List.length_map]
/-- told of each wheel of a dict: tuples (name, what was told) -/
structure Tds (K : PySem.W.Frag) (dat : TE → PyData) (H : Hp) (us : List Addr) (kvs : List (Key × V)) (es : List TE) : Prop where
  p : Paired (fun u (kv : Key × V) => H u = some (.tup [kV kv.1, kv.2])) us kvs
  l : kvs.length = es.length
  a : ∀ (j : Nat) (e : TE) (kv : Key × V), es[j]? = some e → kvs[j]? = some kv → kv.1 = Sum.inr e.t ∧ Dp K H kv.2 (dat e)
theorem paired_mono {α β : Type} {R S : α → β → Prop} (k : ∀ a b, R a b → S a b) : ∀ {l : List α} {m : List β}, Paired R l m → Paired S l m
  | _, _, .nil => .nil
  | _, _, .cons h t => .cons (k _ _ h) (paired_mono k t)
theorem paired_snoc {α β : Type} {R : α → β → Prop} {a : α} {b : β} (r : R a b) : ∀ {l : List α} {m : List β}, Paired R l m → Paired R (l ++ [a]) (m ++ [b])
  | _, _, .nil => .cons r .nil
  | _, _, .cons h t => .cons h (paired_snoc r t)
theorem paired_mem {α β : Type} {R : α → β → Prop} : ∀ {l : List α} {m : List β}, Paired R l m → ∀ a ∈ l, ∃ b ∈ m, R a b
  | _, _, .nil, _, h => (nomatch h)
  | _, _, .cons h t, a, ha => by
    rcases List.mem_cons.mp ha with rfl | ha
    · exact ⟨_, List.mem_cons_self, h⟩
    · obtain ⟨b, hb, r⟩ := paired_mem t a ha
      exact ⟨b, List.mem_cons_of_mem _ hb, r⟩
theorem Tds.same {K : PySem.W.Frag} {dat : TE → PyData} {H H' : Hp} {us : List Addr} {kvs : List (Key × V)} {es : List TE} (t : Tds K dat H us kvs es) (s : Same H H') : Tds K dat H' us kvs es :=
  ⟨paired_mono (fun _ _ e => s _ _ e) t.p, t.l, fun j e kv h1 h2 => ⟨(t.a j e kv h1 h2).1, Mine.Dp.same (t.a j e kv h1 h2).2 s⟩⟩
theorem Tds.keep {K : PySem.W.Frag} {dat : TE → PyData} {H : Hp} {us : List Addr} {kvs : List (Key × V)} {es : List TE} {b : Addr} {o : HO} {ks : List (Key × V)} (t : Tds K dat H us kvs es) (e : H b = some (.dK ks) ∨ ∃ u, H b = some (.frz u (.dK ks))) : Tds K dat (upd H b o) us kvs es :=
  ⟨paired_mono (fun u kv h => by
    rw [upd_ne (fun z => by rw [z] at h; rcases e with e | ⟨x, e⟩ <;> rw [e] at h <;> cases h)]
    exact h) t.p, t.l, fun j x kv h1 h2 => ⟨(t.a j x kv h1 h2).1, Mine.Dp.updk (t.a j x kv h1 h2).2 e⟩⟩
theorem merge_nd : ∀ {kvs acc : List (Key × V)}, (kvs.map (·.1)).Nodup → (∀ kv ∈ kvs, valV acc kv.1 = none) → mergeK acc kvs = acc ++ kvs
  | [], acc, _, _ => by
    rw [List.append_nil]
    rfl
  | kv :: r, acc, nd, k => by
    rw [List.map_cons, List.nodup_cons] at nd
    show mergeK (putK acc kv.1 kv.2) r = _
    rw [putK_new kv.2 (k kv List.mem_cons_self), merge_nd nd.2 fun kv' h' => ?_]
    · rw [List.append_assoc]
      rfl
    · rw [valV_snoc kv.1 kv'.1 kv.2 acc (k kv List.mem_cons_self), if_neg]
      · exact k kv' (List.mem_cons_of_mem _ h')
      · intro z
        exact nd.1 (by rw [← z]; exact List.mem_map.mpr ⟨kv', h', rfl⟩)
theorem Tds.keys {K : PySem.W.Frag} {dat : TE → PyData} {H : Hp} {us : List Addr} {kvs : List (Key × V)} {es : List TE} (t : Tds K dat H us kvs es) : kvs.map (·.1) = es.map fun e => (Sum.inr e.t : Key) := by
  apply List.ext_getElem?
  intro j
  rw [List.getElem?_map, List.getElem?_map]
  cases q : kvs[j]? with
  | none =>
    have : es[j]? = none := by
      rw [List.getElem?_eq_none_iff] at q ⊢
      rw [← t.l]
      exact q
    rw [this]
    rfl
  | some kv =>
    obtain ⟨hj, _⟩ := List.getElem?_eq_some_iff.mp q
    have hj2 : j < es.length := by rw [← t.l]; exact hj
    have e : es[j]? = some es[j] := by simp [hj2]
    rw [e]
    exact congrArg some (t.a j _ kv e q).1
theorem Tds.nd {K : PySem.W.Frag} {dat : TE → PyData} {H : Hp} {us : List Addr} {kvs : List (Key × V)} {es : List TE} (t : Tds K dat H us kvs es) (nd : (Mine.keys (ws es)).Nodup) : (kvs.map (·.1)).Nodup := by
  rw [t.keys]
  rw [keys_ws] at nd
  have : (es.map fun e => (Sum.inr e.t : Key)) = (es.map (·.t)).map Sum.inr := by
    rw [List.map_map]
    rfl
  rw [this]
  exact List.pairwise_map.mpr (nd.imp fun h z => h (Sum.inr.inj z))
/-- two such dicts are alike -/
theorem Tds.alike {K : PySem.W.Frag} {dat : TE → PyData} {H : Hp} {us vs : List Addr} {ks ls : List (Key × V)} {es fs : List TE} (a : Tds K dat H us ks es) (b : Tds K dat H vs ls fs) (nd : (Mine.keys (ws fs)).Nodup)
    (k : ∀ t, lk (ws es) t = lk (ws fs) t) (ne : (Mine.keys (ws es)).Nodup) (hd : ∀ e f : TE, e.t = f.t → e.W = f.W → dat e = dat f) (sm : ∀ e, Sm 60 (dat e)) : ∀ p ∈ ks, ∃ v d, valV ls p.1 = some v ∧ Dp K H p.2 d ∧ Dp K H v d ∧ Sm 60 d := fun p hp => by
  obtain ⟨j, hj⟩ := List.getElem?_of_mem hp
  have hj1 := (List.getElem?_eq_some_iff.mp hj).1
  have hj2 : j < es.length := by rw [← a.l]; exact hj1
  have e : es[j]? = some es[j] := by simp [hj2]
  obtain ⟨p1, p2⟩ := a.a j _ p e hj
  generalize es[j] = x at e p1 p2
  have hx := List.mem_of_getElem? e
  have lx : lk (ws fs) x.t = some x.W := by
    rw [← k]
    exact lk_of ne (List.mem_map.mpr ⟨x, hx, rfl⟩)
  obtain ⟨y, hy, yt, yW, _⟩ := lk_qs lx
  obtain ⟨i, hi⟩ := List.getElem?_of_mem hy
  have hi1 := (List.getElem?_eq_some_iff.mp hi).1
  have hi2 : i < ls.length := by rw [b.l]; exact hi1
  have e2 : ls[i]? = some ls[i] := by simp [hi2]
  obtain ⟨q1, q2⟩ := b.a i y _ hi e2
  generalize ls[i] = kv at e2 q1 q2
  refine ⟨kv.2, dat x, ?_, p2, by rw [hd x y yt.symm yW.symm]; exact q2, sm x⟩
  have nd' := b.nd nd
  have mem := List.mem_of_getElem? e2
  rw [p1, ← yt, ← q1]
  clear e2 hi2 hi hi1 b
  induction ls with
  | nil => exact (nomatch mem)
  | cons z r ih =>
    rw [List.map_cons, List.nodup_cons] at nd'
    rcases List.mem_cons.mp mem with m | m
    · rw [m]
      exact valV_pos rfl
    · rw [valV_neg fun q => nd'.1 (by rw [q]; exact List.mem_map.mpr ⟨kv, m, rfl⟩)]
      exact ih nd'.2 m
def del (D : Addr) (H : Hp) : Hp := fun b => if b = D then none else H b
theorem del_ne {D b : Addr} {H : Hp} (h : b ≠ D) : del D H b = H b := if_neg h
theorem del_same (D : Addr) (H : Hp) : Same (del D H) H := fun b o e => by
  by_cases q : b = D
  · rw [q] at e
    have : del D H D = none := if_pos rfl
    rw [this] at e
    cases e
  · rw [del_ne q] at e
    exact e
theorem lc_kd {K : PySem.W.Frag} {dat : TE → PyData} {d : Addr} {od : Obj} {es : List TE} {g : TG} {tt : TT} {te : L2.TE} {vs : List Nat} {σ : L2.St} {Hb : Hp} {D : Addr} {Qd : Hp → Prop} (hb : Hb d = some (.frz od (.dK (kvn V.ref (qs es))))) (hD : Hb D = none) (hlen : es.length ≤ 1000)
    (hs : ∀ e ∈ es, ∀ H', Same Hb H' → (valV (kvn V.ref (qs es)) (Sum.inr e.t : Key) = some (.ref e.q) ∨ ¬ (Mine.keys (ws es)).Nodup) → ∀ (Y : V → Hp → Prop) (Z : Hp → Prop), (∀ l t H'', Same H' H'' → (∀ G : Hp, (∀ b o, H' b = none → H'' b = some o → G b = some o) → Dp K G (.ref l) (dat e)) → H'' t = none → Y (.ref t) (upd H'' t (.tup [.str e.t, .ref l]))) →
      g (.str e.t) (wipe σ vs) H' fun σ2 H2 => wipe σ2 vs = wipe σ vs ∧ tt σ2 H2 fun b H3 => if b = true then te σ2 H3 Y else Z H3)
    (hd : ∀ H' us kvs, Same Hb H' → H' D = some (.lst (us.map V.ref)) → Tds K dat H' us kvs es → Qd H') :
    ∃ W : Nat → Nat → Hp → Prop, (∃ m, W 0 m (upd Hb D (.lst []))) ∧ ∀ i m H, W i m H →
      ((Itk d od (kvn V.ref (qs es))).stop i H ∧ Qd H) ∨ ((Itk d od (kvn V.ref (qs es))).go i H ∧ ∃ Nx : Hp → Prop, (∀ H', Nx H' → ∃ m', m' < m ∧ W (i + 1) m' H') ∧ ∀ x H', (Itk d od (kvn V.ref (qs es))).yld i H x H' → g x (wipe σ vs) H' fun σ2 H2 => wipe σ2 vs = wipe σ vs ∧ tt σ2 H2 fun b H3 =>
        if b = true then te σ2 H3 fun y H4 => ∃ acc, H4 D = some (.lst acc) ∧ acc.length < sizeLine ∧ Nx (upd H4 D (.lst (acc ++ [y]))) else Nx H3) := by
  have nD : ∀ {b : Addr} {o : HO}, Hb b = some o → b ≠ D := fun {b o} e z => by rw [z, hD] at e; cases e
  have kl : (kvn V.ref (qs es)).length = es.length := by
    rw [kvn_len]
    unfold qs
    rw [List.length_map]
  refine lc_it (walk_keys (d := d) (o := od) (kvs := kvn V.ref (qs es))) (fun i H' => Same Hb H' ∧ ∃ us kvs, H' D = some (.lst (us.map V.ref)) ∧ Tds K dat (del D H') us kvs (es.take i)) ⟨same_upd hD, [], [], upd_same, .nil, rfl, fun j e kv h => by simp at h⟩ (fun i H' _ h => h.1 _ _ hb) ?_ ?_
  · rintro i x H' H2 hi ⟨sm, us, kvs, u1, u2⟩ ⟨rfl, k, v, hk, rfl⟩
    have hi2 : i < es.length := by rw [← kl]; exact hi
    have ex : es[i]? = some es[i] := by simp [hi2]
    generalize es[i] = e at ex
    have he := List.mem_of_getElem? ex
    have hk' : (Sum.inr e.t, V.ref e.q) = (k, v) := by
      have : (kvn V.ref (qs es))[i]? = some (Sum.inr e.t, V.ref e.q) := by
        unfold kvn qs
        rw [List.map_map, List.getElem?_map, ex]
        rfl
      exact Option.some.inj (this.symm.trans hk)
    cases hk'
    have lt : kvs.length = i := by
      rw [u2.l, List.length_take]
      omega
    refine hs e he H2 sm ?_ _ _ fun l t H3 s3 dp ht => ?_
    · by_cases nd : (Mine.keys (ws es)).Nodup
      · refine .inl ?_
        rw [kvn_val]
        have : lk (qs es) e.t = some e.q := by
          refine lk_of ?_ (List.mem_map.mpr ⟨e, he, rfl⟩)
          unfold Mine.keys qs
          unfold Mine.keys ws at nd
          rw [List.map_map] at nd ⊢
          exact nd
        rw [this]
        rfl
      · exact .inr nd
    · have s4 := sm.trans s3
      have st := same_upd (o := .tup [V.str e.t, V.ref l]) ht
      have D3 := s3 _ _ u1
      have nDt : D ≠ t := ne_of_none D3 ht
      have ntD : t ≠ D := nDt.symm
      have far : ∀ {b : Addr} {o : HO}, b ≠ D → H3 b = some o → del D (upd (upd H3 t (.tup [V.str e.t, V.ref l])) D (.lst (us.map V.ref ++ [V.ref t]))) b = some o := fun {b o} q z => by
        rw [del_ne q, upd_ne q]
        exact st _ _ z
      have sd : Same (del D H2) (del D (upd (upd H3 t (.tup [V.str e.t, V.ref l])) D (.lst (us.map V.ref ++ [V.ref t])))) := fun b o z => by
        by_cases q : b = D
        · rw [q] at z
          have : del D H2 D = none := if_pos rfl
          rw [this] at z
          cases z
        · rw [del_ne q] at z
          exact far q (s3 _ _ z)
      have old := u2.same sd
      refine ⟨us.map V.ref, st _ _ D3, ?_, fun b o z => ?_, us ++ [t], kvs ++ [(Sum.inr e.t, .ref l)], by rw [upd_same, List.map_append]; rfl, paired_snoc ?_ old.p, ?_, fun j x kv h1 h2 => ?_⟩
      · have : us.length = kvs.length := by
          have : ∀ {R : Addr → Key × V → Prop} {l : List Addr} {m : List (Key × V)}, Paired R l m → l.length = m.length := fun {R l m} z => by
            induction z with
            | nil => rfl
            | cons _ _ ih => exact congrArg (· + 1) ih
          exact this u2.p
        rw [List.length_map]
        exact small1000 (by omega)
      · rw [upd_ne (nD z)]
        exact st _ _ (s4 _ _ z)
      · rw [del_ne ntD, upd_ne ntD, upd_same]
        rfl
      · rw [List.length_append, take_snoc ex, List.length_append, old.l]
        rfl
      · rw [take_snoc ex] at h1
        have tl : (es.take i).length = i := by rw [List.length_take]; omega
        by_cases q : j < i
        · rw [List.getElem?_append_left (by omega)] at h1 h2
          exact old.a j x kv h1 h2
        · rw [List.getElem?_append_right (by omega)] at h1 h2
          rw [tl] at h1
          rw [lt] at h2
          cases q2 : j - i with
          | succ m => rw [q2] at h1; cases h1
          | zero =>
            rw [q2] at h1 h2
            cases h1
            cases h2
            refine ⟨rfl, dp _ fun b o z1 z2 => far (fun z => ?_) z2⟩
            rw [z, u1] at z1
            cases z1
  · rintro H' ⟨sm, us, kvs, u1, u2⟩
    rw [kl, List.take_length] at u2
    exact hd H' us kvs sm u1 (u2.same (del_same D H'))

theorem TA2.monoM {H G : Hp} : ∀ {ts : List Addr} {vss : List (List V)}, (∀ t ∈ ts, ∀ vs, H t = some (.tup vs) → G t = some (.tup vs)) → TA2 H ts vss → TA2 G ts vss
  | _, _, _, .nil => .nil
  | _, _, k, .cons a b => .cons (k _ List.mem_cons_self _ a) (TA2.monoM (fun t ht => k t (List.mem_cons_of_mem _ ht)) b)
/-- a comprehension over names: new tuples of what was told of each -/
theorem lc_nt2 {K : PySem.W.Frag} {rows : List RowS} {ln : Addr} {g : TG} {tt : TT} {te : L2.TE} {vs : List Nat} {σ : L2.St} {H : Hp} {D : Addr} {Qd : Hp → Prop} (tv : RowS → List V) (hn : H ln = some (.lst (rows.map fun x => V.str x.n))) (hD : H D = none) (hlen : rows.length ≤ 1000)
    (hs : ∀ x ∈ rows, ∀ H', Same H H' → ∀ (Y : V → Hp → Prop) (Z : Hp → Prop), (∀ t, H' t = none → Y (.ref t) (upd H' t (.tup (tv x)))) →
      g (.str x.n) (wipe σ vs) H' fun σ2 H2 => wipe σ2 vs = wipe σ vs ∧ tt σ2 H2 fun b H3 => if b = true then te σ2 H3 Y else Z H3)
    (hd : ∀ H' ts, Same H H' → H' D = some (.lst (ts.map V.ref)) → TA2 H' ts (rows.map tv) → (∀ t ∈ ts, H t = none) → Qd H') :
    ∃ W : Nat → Nat → Hp → Prop, (∃ m, W 0 m (upd H D (.lst []))) ∧ ∀ i m H, W i m H →
      ((Itl K ln).stop i H ∧ Qd H) ∨ ((Itl K ln).go i H ∧ ∃ Nx : Hp → Prop, (∀ H', Nx H' → ∃ m', m' < m ∧ W (i + 1) m' H') ∧ ∀ x H', (Itl K ln).yld i H x H' → g x (wipe σ vs) H' fun σ2 H2 => wipe σ2 vs = wipe σ vs ∧ tt σ2 H2 fun b H3 =>
        if b = true then te σ2 H3 fun y H4 => ∃ acc, H4 D = some (.lst acc) ∧ acc.length < sizeLine ∧ Nx (upd H4 D (.lst (acc ++ [y]))) else Nx H3) := by
  have hl : (rows.map fun x => V.str x.n).length = rows.length := List.length_map _
  refine lc_list (K := K) (a := ln) (xs := rows.map fun x => V.str x.n) (fun i H' => Same H H' ∧ ∃ ts, H' D = some (.lst (ts.map V.ref)) ∧ TA2 H' ts ((rows.take i).map tv) ∧ ∀ t ∈ ts, H t = none) ⟨same_upd hD, [], upd_same, .nil, fun t ht => (nomatch ht)⟩ (fun i H' _ e => SqL.of (e.1 _ _ hn)) ?_ ?_
  · rintro i v H' hv ⟨s, ts, u1, u2, u3⟩
    have hi : i < rows.length := by rw [← hl]; exact (List.getElem?_eq_some_iff.mp hv).1
    have ex : rows[i]? = some rows[i] := by simp [hi]
    generalize rows[i] = x at ex
    rw [List.getElem?_map, ex] at hv
    cases hv
    refine hs x (List.mem_of_getElem? ex) H' s _ _ fun t ht => ?_
    have nDt : D ≠ t := ne_of_none u1 ht
    refine ⟨ts.map V.ref, ?_, ?_, fun b o e2 => ?_, ts ++ [t], by rw [upd_same, List.map_append]; rfl, ?_, fun u hu => ?_⟩
    · rw [upd_ne nDt]
      exact u1
    · rw [List.length_map, u2.len, List.length_map, List.length_take]
      exact small1000 (by omega)
    · rw [upd_ne (fun z => by rw [z, hD] at e2; cases e2)]
      exact same_upd ht _ _ (s _ _ e2)
    · rw [take_snoc ex, List.map_append]
      refine TA2.app (u2.mono fun u us e => ?_) (.cons ?_ .nil)
      · rw [upd_ne (fun z => by rw [z, u1] at e; cases e), upd_ne (ne_of_none e ht)]
        exact e
      · rw [upd_ne nDt.symm, upd_same]
    · rcases List.mem_append.mp hu with hu | hu
      · exact u3 u hu
      · rw [List.mem_singleton.mp hu]
        cases q : H t with
        | none => rfl
        | some o => rw [s _ _ q] at ht; cases ht
  · rintro H' ⟨s, ts, u1, u2, u3⟩
    rw [hl, List.take_length] at u2
    exact hd H' ts s u1 u2 u3

/-! ### the methods of a house -/
structure ErT (K : PySem.W.Frag) (mg : Str → Option Value) (x : Str) (C : Addr) : Prop where
  g : mg x = some (.ref C)
  t : ExcT K C
structure HT (K : PySem.W.Frag) (mg : Str → Option Value) (CH : Addr) : Prop where
  cl : Cls K CH
  aAb : NoAttr K CH "_above"
  aWh : NoAttr K CH "_wheels"
  top : ∃ t, mg "TOP" = some (.str "" t)
def spNeedTeam (CH CW CS CM : Addr) : Sp := fun vs H Q E => ∃ p h fp x, vs = [.ref p, x] ∧ HAt CH CW CS H p h fp ∧ Th H x ∧ (∀ t W, x = .str t → lk h.wh t = some W → Q .non H) ∧ ((∀ t W, x = .str t → lk h.wh t ≠ some W) → E (.ref CM) none H)
def spNeedName (CH CW CS CN : Addr) : Sp := fun vs H Q E => ∃ p h fp x, vs = [.ref p, x] ∧ HAt CH CW CS H p h fp ∧ Th H x ∧ (∀ n a, x = .str n → lk h.ab n = some a → Q .non H) ∧ ((∀ n a, x = .str n → lk h.ab n ≠ some a) → E (.ref CN) none H)
def spNeedHand (CH CW CS CN CD : Addr) : Sp := fun vs H Q E => ∃ p h fp x, vs = [.ref p, x] ∧ HAt CH CW CS H p h fp ∧ Th H x ∧ (∀ n a, x = .str n → lk h.ab n = some a → lk h.wh n = none → Q .non H) ∧ ((∀ n a, x = .str n → lk h.ab n ≠ some a) → E (.ref CN) none H) ∧
  (∀ n a W, x = .str n → lk h.ab n = some a → lk h.wh n = some W → E (.ref CD) none H)
def spAround (CH CW CS : Addr) : Sp := fun vs H Q _ => ∃ p da dw ab es n a q, vs = [.ref p, .str n] ∧ HIn CH CW CS H p da dw ab es ∧ lk ab n = some a ∧ lk (qs es) a = some q ∧ Q (.ref q) H
def spHWake (CH CW CS CN CD : Addr) : Sp := fun vs H Q E => ∃ p h fp x, vs = [.ref p, x] ∧ HAt CH CW CS H p h fp ∧ Rd h "" ∧ Th H x ∧ ((∀ n a, x = .str n → lk h.ab n ≠ some a) → E (.ref CN) none H) ∧ (∀ n a W, x = .str n → lk h.ab n = some a → lk h.wh n = some W → E (.ref CD) none H) ∧
  ∀ n a W y, x = .str n → lk h.ab n = some a → lk h.wh n = none → lk h.wh a = some W → y ∈ W.rows → y.n = n →
    (y.r = true → ∀ H', HAt CH CW CS H' p h fp → Step fp H fp H' → Q (.bl false) H') ∧ (y.r = false → ∀ H' fp' h', WakeUp h n h' → HAt CH CW CS H' p h' fp' → Rd h' "" → Step fp H fp' H' → Q (.bl true) H')
def spHRest (CH CW CS CN CD : Addr) : Sp := fun vs H Q E => ∃ p h fp x, vs = [.ref p, x] ∧ HAt CH CW CS H p h fp ∧ Rd h "" ∧ Th H x ∧ ((∀ n a, x = .str n → lk h.ab n ≠ some a) → E (.ref CN) none H) ∧ (∀ n a W, x = .str n → lk h.ab n = some a → lk h.wh n = some W → E (.ref CD) none H) ∧
  ∀ n a W y, x = .str n → lk h.ab n = some a → lk h.wh n = none → lk h.wh a = some W → y ∈ W.rows → y.n = n →
    (y.r = false → ∀ H', HAt CH CW CS H' p h fp → Step fp H fp H' → Q (.bl false) H') ∧ (y.r = true → ∀ H' fp' h', RestUp h n h' → HAt CH CW CS H' p h' fp' → Rd h' "" → Step fp H fp' H' → Q (.bl true) H')
def spWheelOf (CH CW CS CM : Addr) : Sp := fun vs H Q E => ∃ p h fp x, vs = [.ref p, x] ∧ HAt CH CW CS H p h fp ∧ Th H x ∧ (∀ t W, lk h.wh t = some W → W.rows.length ≤ 1000) ∧
  (∀ t W, x = .str t → lk h.wh t = some W → ∀ q' fp' H', WAt CW CS H' q' W fp' → Same H H' → (∀ b ∈ fp', H b = none) → Q (.ref q') H') ∧ ((∀ t W, x = .str t → lk h.wh t ≠ some W) → E (.ref CM) none H)
def spHReshare (CH CW CS CB CN : Addr) : Sp := fun vs H Q E => ∃ p h fp x s, vs = [.ref p, x, s] ∧ HAt CH CW CS H p h fp ∧ Th H x ∧ Th H s ∧ ((∀ n a, x = .str n → lk h.ab n ≠ some a) → E (.ref CN) none H) ∧ (∀ n a, x = .str n → lk h.ab n = some a → good s = false → E (.ref CB) none H) ∧
  ∀ n a W i, x = .str n → lk h.ab n = some a → lk h.wh a = some W → s = .int i → 1 ≤ i → i ≤ 12 → ∀ H' fp', HAt CH CW CS H' p (setW h a (Wm.reshare W n i)) fp' → Step fp H fp' H' → Q .non H'
def spDeal (CH CW CS : Addr) : Sp := fun vs H Q _ => ∃ p h fp, vs = [.ref p] ∧ HAt CH CW CS H p h fp ∧ h.ab.length ≤ 900 ∧ ∀ H' fp' h' l ns, Deal h "" ns h' → HAt CH CW CS H' p h' fp' → Step fp H fp' H' → H' l = some (.lst (ns.map V.str)) → H l = none → Q (.ref l) H'
def spHLeave (CH CW CS CN CY : Addr) : Sp := fun vs H Q E => ∃ p h fp x, vs = [.ref p, x] ∧ HAt CH CW CS H p h fp ∧ Rd h "" ∧ Th H x ∧ ((∀ n a, x = .str n → lk h.ab n ≠ some a) → E (.ref CN) none H) ∧
  (∀ n a U, x = .str n → lk h.ab n = some a → lk h.wh n = some U → U.rows ≠ [] → ∀ H', Same H H' → E (.ref CY) none H') ∧
  (∀ n a U W, x = .str n → lk h.ab n = some a → lk h.wh n = some U → U.rows = [] → lk h.wh a = some W → ∀ H' fp', HAt CH CW CS H' p (leaveN h n a W) fp' → Rd (leaveN h n a W) "" → Step fp H fp' H' → Q .non H') ∧
  (∀ n a W y h1 W1, x = .str n → lk h.ab n = some a → lk h.wh n = none → lk h.wh a = some W → y ∈ W.rows → y.n = n → (y.r = false ∧ h1 = h ∨ y.r = true ∧ RestUp h n h1) → lk h1.wh a = some W1 → ∀ H' fp', HAt CH CW CS H' p (leaveN h1 n a W1) fp' → Rd (leaveN h1 n a W1) "" → Step fp H fp' H' → Q .non H')
def H0 : Hs := ⟨[], [("", ⟨0, []⟩)]⟩
theorem H0_ok : HOk H0 := by
  refine ⟨List.nodup_nil, by decide +kernel, ⟨⟨0, []⟩, rfl⟩, rfl, fun t W e => ?_, ⟨fun _ => 0, 0, fun n a e => (by cases e)⟩, fun n a e => (by cases e), fun t W e => ?_, fun t W n e => ?_⟩
  · have e : (if ("" : Str) = t then some (⟨0, []⟩ : WhS) else none) = some W := e
    by_cases q : ("" : Str) = t
    · exact .inl q.symm
    · rw [if_neg q] at e
      cases e
  · have e : (if ("" : Str) = t then some (⟨0, []⟩ : WhS) else none) = some W := e
    by_cases q : ("" : Str) = t
    · rw [if_pos q] at e
      cases e
      exact Wm.Ok.new
    · rw [if_neg q] at e
      cases e
  · have e : (if ("" : Str) = t then some (⟨0, []⟩ : WhS) else none) = some W := e
    by_cases q : ("" : Str) = t
    · rw [if_pos q] at e
      cases e
      exact ⟨fun ⟨x, hx, _⟩ => (nomatch hx), fun z => by cases z⟩
    · rw [if_neg q] at e
      cases e
theorem H0_rd : Rd H0 "" := fun t W a Wa _ _ _ e => by cases e
def spHInit (CH CW CS : Addr) : Sp := fun vs H Q _ => ∃ p dx, vs = [.ref p] ∧ H p = some (.ins CH dx []) ∧ ∀ H' fp, HAt CH CW CS H' p H0 fp → (∀ b o, H b = some o → b ≠ p → H' b = some o) → (∀ b ∈ fp, b = p ∨ H b = none) → Q .non H'
def spSettle (Pt CH CW CS CB CT CA CM : Addr) : Sp := fun vs H Q E => ∃ p h fp x ab s, vs = [.ref p, x, ab, s] ∧ HAt CH CW CS H p h fp ∧ Th H x ∧ Th H ab ∧ Th H s ∧ GxR.TabG H Pt ∧ Pt ∉ fp ∧ (∀ z, x = .str z → z.length ≤ sizeLine) ∧ (∀ t W, lk h.wh t = some W → W.rows.length ≤ 1000) ∧ h.ab.length ≤ 900 ∧
  ∀ H1, (H1 = H ∨ GxR.Tabbed Pt H H1) → (isNm x = false → E (.ref CA) none H1) ∧ ∀ n, x = .str n → isNm x = true → (lk h.ab n ≠ none → E (.ref CT) none H1) ∧ (lk h.ab n = none → ((∀ t W, ab = .str t → lk h.wh t ≠ some W) → E (.ref CM) none H1) ∧
    ∀ t W, ab = .str t → lk h.wh t = some W → (good s = false → E (.ref CB) none H1) ∧ ∀ i, s = .int i → 1 ≤ i → i ≤ 12 → ∀ H' fp', HAt CH CW CS H' p (enterH h n t W i) fp' → Step fp H1 fp' H' → Q .non H')
def spTeam (Pt CH CW CS CB CT CA CM : Addr) : Sp := fun vs H Q E => ∃ p h fp x ab s, vs = [.ref p, x, ab, s] ∧ HAt CH CW CS H p h fp ∧ Th H x ∧ Th H ab ∧ Th H s ∧ GxR.TabG H Pt ∧ Pt ∉ fp ∧ (∀ z, x = .str z → z.length ≤ sizeLine) ∧ (∀ t W, lk h.wh t = some W → W.rows.length ≤ 1000) ∧ h.ab.length ≤ 900 ∧
  ∀ H1, (H1 = H ∨ GxR.Tabbed Pt H H1) → (isNm x = false → E (.ref CA) none H1) ∧ ∀ n, x = .str n → isNm x = true → (lk h.ab n ≠ none → E (.ref CT) none H1) ∧ (lk h.ab n = none → ((∀ t W, ab = .str t → lk h.wh t ≠ some W) → E (.ref CM) none H1) ∧
    ∀ t W, ab = .str t → lk h.wh t = some W → (good s = false → E (.ref CB) none H1) ∧ ∀ i, s = .int i → 1 ≤ i → i ≤ 12 → ∀ H' fp', HAt CH CW CS H' p (enterT h n t W i) fp' → Step fp H1 fp' H' → Q .non H')
section
variable {P : Program} {w : World} {K : PySem.W.Frag} {mg : Str → Option Value} {base : Heap} {CS CW CB CT CN CH CM CY CA CD CU Pt : Addr}
theorem sc_H_need_team : FnScope ["self", "team"] ["self", "team"] (defScope sHouse_need_team) := ⟨rfl, rfl, rfl, by decide +kernel, rfl, by decide +kernel, by decide +kernel⟩
theorem ok_H_need_team {f : Addr} {fd : FuncData} (F : Fun K "_need_team" "House._need_team" sHouse_need_team f fd) (T : WT K mg CS CW CB CT CN) (L : LT mg) (g_stands_in : DOk P w K mg base 1 "stands_in" ["thing", "table"] spStands) (h_H : HT K mg CH) (r_M : ErT K mg "NoTeam" CM) :
    FnOk P w K mg base (L2.CX P w) 2 f fd ["self", "team"] (spNeedTeam CH CW CS CM) := by
  refine F.okX sc_H_need_team (fun vs H Q E h => ?_) (fun cdv A outer s H vs Q E hr h => ?_)
  · (first | (obtain ⟨_, rfl, _⟩ := h; rfl) | (obtain ⟨_, _, rfl, _⟩ := h; rfl) | (obtain ⟨_, _, _, rfl, _⟩ := h; rfl) | (obtain ⟨_, _, _, _, rfl, _⟩ := h; rfl) | (obtain ⟨_, _, _, _, _, rfl, _⟩ := h; rfl) | (obtain ⟨_, _, _, _, _, _, rfl, _⟩ := h; rfl) | (obtain ⟨_, _, _, _, _, _, _, rfl, _⟩ := h; rfl) | (obtain ⟨_, _, _, _, _, _, _, _, rfl, _⟩ := h; rfl) | (obtain ⟨_, _, _, _, _, _, _, _, _, rfl, _⟩ := h; rfl) | (obtain ⟨_, _, _, _, _, _, _, _, _, _, rfl, _⟩ := h; rfl) | (obtain ⟨_, _, _, _, _, _, _, _, _, _, _, rfl, _⟩ := h; rfl) | (obtain ⟨_, _, _, _, _, _, _, _, _, _, _, _, rfl, _⟩ := h; rfl) | (obtain ⟨_, _, _, _, _, _, _, _, _, _, _, _, _, rfl, _⟩ := h; rfl) | (obtain ⟨_, _, _, _, _, _, _, _, _, _, _, _, _, _, rfl, _⟩ := h; rfl) | (obtain ⟨_, _, _, _, _, _, _, _, _, _, _, _, _, _, _, rfl, _⟩ := h; rfl))
  · obtain ⟨p, h, fp, x, rfl, hA, hx, k1, k2⟩ := h
    obtain ⟨da, dw, es, e1, rfl, i, o⟩ := hA
    obtain ⟨dx, hp⟩ := i.ob
    refine ⟨_, (pss_one (ps_if (pt_not (pt_val (by exact pe_f g_stands_in hr (by decide) (by rfl) (fun σ => passAt (takes_of rfl rfl rfl rfl) σ) (pa_cons (pv 1) (pa_cons (pe_fld (pv 0) rfl) pa_nil))))) (pss_one (ps_rs rfl (takes_of rfl rfl rfl rfl) r_M.t r_M.g (by rfl))) pss_nil)), ?_⟩
    refine ⟨_, rfl, _, rfl, p, CH, dx, _, _, rfl, hp, h_H.cl, h_H.aWh, hf_wh _ _, x, dw, _, rfl, hx, i.hdw, fun z ez => ?_, fun hs => ?_⟩
    · subst ez
      have ev : (valV (kvn V.ref (qs es)) (Sum.inr z : Key)) = (lk (qs es) z).map V.ref := kvn_val
      cases q : lk h.wh z with
      | none =>
        rw [ev, lk_qs_none (by rw [← e1]; exact q)]
        exact ⟨_, rfl, iteT (k2 fun t W e n => by cases e; rw [q] at n; cases n)⟩
      | some W =>
        obtain ⟨e, he, et, eW, eq⟩ := lk_qs (es := es) (by rw [← e1]; exact q)
        rw [ev, eq]
        exact ⟨_, rfl, iteF (k1 z W rfl q)⟩
    · refine ⟨_, rfl, iteT (k2 fun t W e _ => ?_)⟩
      subst e
      cases hs
theorem sc_H_need_name : FnScope ["self", "name"] ["self", "name"] (defScope sHouse_need_name) := ⟨rfl, rfl, rfl, by decide +kernel, rfl, by decide +kernel, by decide +kernel⟩
theorem ok_H_need_name {f : Addr} {fd : FuncData} (F : Fun K "_need_name" "House._need_name" sHouse_need_name f fd) (T : WT K mg CS CW CB CT CN) (L : LT mg) (g_stands_in : DOk P w K mg base 1 "stands_in" ["thing", "table"] spStands) (h_H : HT K mg CH) :
    FnOk P w K mg base (L2.CX P w) 2 f fd ["self", "name"] (spNeedName CH CW CS CN) := by
  refine F.okX sc_H_need_name (fun vs H Q E h => ?_) (fun cdv A outer s H vs Q E hr h => ?_)
  · (first | (obtain ⟨_, rfl, _⟩ := h; rfl) | (obtain ⟨_, _, rfl, _⟩ := h; rfl) | (obtain ⟨_, _, _, rfl, _⟩ := h; rfl) | (obtain ⟨_, _, _, _, rfl, _⟩ := h; rfl) | (obtain ⟨_, _, _, _, _, rfl, _⟩ := h; rfl) | (obtain ⟨_, _, _, _, _, _, rfl, _⟩ := h; rfl) | (obtain ⟨_, _, _, _, _, _, _, rfl, _⟩ := h; rfl) | (obtain ⟨_, _, _, _, _, _, _, _, rfl, _⟩ := h; rfl) | (obtain ⟨_, _, _, _, _, _, _, _, _, rfl, _⟩ := h; rfl) | (obtain ⟨_, _, _, _, _, _, _, _, _, _, rfl, _⟩ := h; rfl) | (obtain ⟨_, _, _, _, _, _, _, _, _, _, _, rfl, _⟩ := h; rfl) | (obtain ⟨_, _, _, _, _, _, _, _, _, _, _, _, rfl, _⟩ := h; rfl) | (obtain ⟨_, _, _, _, _, _, _, _, _, _, _, _, _, rfl, _⟩ := h; rfl) | (obtain ⟨_, _, _, _, _, _, _, _, _, _, _, _, _, _, rfl, _⟩ := h; rfl) | (obtain ⟨_, _, _, _, _, _, _, _, _, _, _, _, _, _, _, rfl, _⟩ := h; rfl))
  · obtain ⟨p, h, fp, x, rfl, hA, hx, k1, k2⟩ := h
    obtain ⟨da, dw, es, e1, rfl, i, o⟩ := hA
    obtain ⟨dx, hp⟩ := i.ob
    refine ⟨_, (pss_one (ps_if (pt_not (pt_val (by exact pe_f g_stands_in hr (by decide) (by rfl) (fun σ => passAt (takes_of rfl rfl rfl rfl) σ) (pa_cons (pv 1) (pa_cons (pe_fld (pv 0) rfl) pa_nil))))) (pss_one (ps_rs rfl (takes_of rfl rfl rfl rfl) T.eN T.gN (by rfl))) pss_nil)), ?_⟩
    refine ⟨_, rfl, _, rfl, p, CH, dx, _, _, rfl, hp, h_H.cl, h_H.aAb, hf_ab _ _, x, da, _, rfl, hx, i.hda, fun z ez => ?_, fun hs => ?_⟩
    · subst ez
      have ev : (valV (kvn V.str h.ab) (Sum.inr z : Key)) = (lk h.ab z).map V.str := kvn_val
      rw [ev]
      cases q : lk h.ab z with
      | none => exact ⟨_, rfl, iteT (k2 fun t W e n => by cases e; rw [q] at n; cases n)⟩
      | some a => exact ⟨_, rfl, iteF (k1 z a rfl q)⟩
    · refine ⟨_, rfl, iteT (k2 fun t W e _ => ?_)⟩
      subst e
      cases hs
theorem sc_H_need_hand : FnScope ["self", "name"] ["self", "name"] (defScope sHouse_need_hand) := ⟨rfl, rfl, rfl, by decide +kernel, rfl, by decide +kernel, by decide +kernel⟩
theorem ok_H_need_hand {f : Addr} {fd : FuncData} (F : Fun K "_need_hand" "House._need_hand" sHouse_need_hand f fd) (T : WT K mg CS CW CB CT CN) (L : LT mg) (h_H : HT K mg CH) (m_H_need_name : MOk P w K mg base 2 CH "_need_name" ["self", "name"] (spNeedName CH CW CS CN)) (r_D : ErT K mg "NotHand" CD) :
    FnOk P w K mg base (L2.CX P w) 3 f fd ["self", "name"] (spNeedHand CH CW CS CN CD) := by
  refine F.okX sc_H_need_hand (fun vs H Q E h => ?_) (fun cdv A outer s H vs Q E hr h => ?_)
  · (first | (obtain ⟨_, rfl, _⟩ := h; rfl) | (obtain ⟨_, _, rfl, _⟩ := h; rfl) | (obtain ⟨_, _, _, rfl, _⟩ := h; rfl) | (obtain ⟨_, _, _, _, rfl, _⟩ := h; rfl) | (obtain ⟨_, _, _, _, _, rfl, _⟩ := h; rfl) | (obtain ⟨_, _, _, _, _, _, rfl, _⟩ := h; rfl) | (obtain ⟨_, _, _, _, _, _, _, rfl, _⟩ := h; rfl) | (obtain ⟨_, _, _, _, _, _, _, _, rfl, _⟩ := h; rfl) | (obtain ⟨_, _, _, _, _, _, _, _, _, rfl, _⟩ := h; rfl) | (obtain ⟨_, _, _, _, _, _, _, _, _, _, rfl, _⟩ := h; rfl) | (obtain ⟨_, _, _, _, _, _, _, _, _, _, _, rfl, _⟩ := h; rfl) | (obtain ⟨_, _, _, _, _, _, _, _, _, _, _, _, rfl, _⟩ := h; rfl) | (obtain ⟨_, _, _, _, _, _, _, _, _, _, _, _, _, rfl, _⟩ := h; rfl) | (obtain ⟨_, _, _, _, _, _, _, _, _, _, _, _, _, _, rfl, _⟩ := h; rfl) | (obtain ⟨_, _, _, _, _, _, _, _, _, _, _, _, _, _, _, rfl, _⟩ := h; rfl))
  · obtain ⟨p, h, fp, x, rfl, hA, hx, k1, k2, k3⟩ := h
    obtain ⟨da, dw, es, e1, rfl, i, o⟩ := id hA
    obtain ⟨dx, hp⟩ := i.ob
    have hu := hu_of hr
    refine ⟨_, (pss_cons (ps_expr (by exact pe_m m_H_need_name h_H.cl hr (by decide) (fun σ => passAt (takes_of rfl rfl rfl rfl) σ) (pv 0) (pa_cons (pv 1) pa_nil)))
      (pss_one (ps_if (pt_cmp (pc_din hu (pv 1) (pe_fld (pv 0) rfl))) (pss_one (ps_rs rfl (takes_of rfl rfl rfl rfl) r_D.t r_D.g (by rfl))) pss_nil))), ?_⟩
    refine ⟨_, rfl, p, dx, _, rfl, hp, hf_no _ _, _, rfl, p, h, _, x, rfl, hA, hx, fun n a en ea => ?_, fun no => k2 no⟩
    subst en
    have ev : (valV (kvn V.ref (qs es)) (Sum.inr n : Key)) = (lk (qs es) n).map V.ref := kvn_val
    refine ⟨_, rfl, _, rfl, p, CH, dx, _, _, rfl, hp, h_H.cl, h_H.aWh, hf_wh _ _, dw, _, rfl, DGet.k (k := Sum.inr n) i.hdw, _, rfl, ?_⟩
    rw [ev]
    cases q : lk h.wh n with
    | none =>
      rw [lk_qs_none (by rw [← e1]; exact q)]
      exact iteF (k1 n a rfl ea q)
    | some W =>
      obtain ⟨e, he, et, eW, eq⟩ := lk_qs (es := es) (by rw [← e1]; exact q)
      rw [eq]
      exact iteT (k3 n a W rfl ea q)
theorem sc_H_wheel_around : FnScope ["self", "name"] ["self", "name"] (defScope sHouse_wheel_around) := ⟨rfl, rfl, rfl, by decide +kernel, rfl, by decide +kernel, by decide +kernel⟩
theorem ok_H_wheel_around {f : Addr} {fd : FuncData} (F : Fun K "_wheel_around" "House._wheel_around" sHouse_wheel_around f fd) (T : WT K mg CS CW CB CT CN) (L : LT mg) (h_H : HT K mg CH) :
    FnOk P w K mg base (L2.CX P w) 1 f fd ["self", "name"] (spAround CH CW CS) := by
  refine okN F sc_H_wheel_around (fun vs H Q E h => ?_) (fun cdv A outer s H vs Q E hr h => ?_)
  · (first | (obtain ⟨_, rfl, _⟩ := h; rfl) | (obtain ⟨_, _, rfl, _⟩ := h; rfl) | (obtain ⟨_, _, _, rfl, _⟩ := h; rfl) | (obtain ⟨_, _, _, _, rfl, _⟩ := h; rfl) | (obtain ⟨_, _, _, _, _, rfl, _⟩ := h; rfl) | (obtain ⟨_, _, _, _, _, _, rfl, _⟩ := h; rfl) | (obtain ⟨_, _, _, _, _, _, _, rfl, _⟩ := h; rfl) | (obtain ⟨_, _, _, _, _, _, _, _, rfl, _⟩ := h; rfl) | (obtain ⟨_, _, _, _, _, _, _, _, _, rfl, _⟩ := h; rfl) | (obtain ⟨_, _, _, _, _, _, _, _, _, _, rfl, _⟩ := h; rfl) | (obtain ⟨_, _, _, _, _, _, _, _, _, _, _, rfl, _⟩ := h; rfl) | (obtain ⟨_, _, _, _, _, _, _, _, _, _, _, _, rfl, _⟩ := h; rfl) | (obtain ⟨_, _, _, _, _, _, _, _, _, _, _, _, _, rfl, _⟩ := h; rfl) | (obtain ⟨_, _, _, _, _, _, _, _, _, _, _, _, _, _, rfl, _⟩ := h; rfl) | (obtain ⟨_, _, _, _, _, _, _, _, _, _, _, _, _, _, _, rfl, _⟩ := h; rfl))
  · obtain ⟨p, da, dw, ab, es, n, a, q, rfl, i, e1, e2, k⟩ := h
    obtain ⟨dx, hp⟩ := i.ob
    have hu := hu_of hr
    refine ⟨_, (pss_one (ps_ret (pe_dget hu (pe_fld (pv 0) rfl) (pe_dget hu (pe_fld (pv 0) rfl) (pv 1) (fun _ _ => rfl)) (fun _ _ => rfl)))), ?_⟩
    refine ⟨_, rfl, p, CH, dx, _, _, rfl, hp, h_H.cl, h_H.aWh, hf_wh _ _, _, rfl, p, CH, dx, _, _, rfl, hp, h_H.cl, h_H.aAb, hf_ab _ _, _, rfl, da, _, rfl, .inl ⟨_, Sum.inr n, .inl i.hda, rfl, ?_⟩, dw, _, rfl, .inl ⟨_, Sum.inr a, .inl i.hdw, rfl, ?_⟩, k⟩
    · rw [kvn_val, e1]
      rfl
    · rw [kvn_val, e2]
      rfl
theorem sc_H_wake : FnScope ["self", "name", "team"] ["self", "name"] (defScope sHouse_wake) := ⟨rfl, rfl, rfl, by decide +kernel, rfl, by decide +kernel, by decide +kernel⟩
theorem ok_H_wake {f : Addr} {fd : FuncData} (F : Fun K "wake" "House.wake" sHouse_wake f fd) (T : WT K mg CS CW CB CT CN) (L : LT mg) (h_H : HT K mg CH) (m_H_need_hand : MOk P w K mg base 3 CH "_need_hand" ["self", "name"] (spNeedHand CH CW CS CN CD)) (m_H_wheel_around : MOk P w K mg base 1 CH "_wheel_around" ["self", "name"] (spAround CH CW CS)) (m_W_wake : MOk P w K mg base 3 CW "wake" ["self", "name"] (spWake CW CS CN)) :
    FnOk P w K mg base (L2.CX P w) 4 f fd ["self", "name"] (spHWake CH CW CS CN CD) := by
  refine F.okX sc_H_wake (fun vs H Q E h => ?_) (fun cdv A outer s H vs Q E hr h => ?_)
  · (first | (obtain ⟨_, rfl, _⟩ := h; rfl) | (obtain ⟨_, _, rfl, _⟩ := h; rfl) | (obtain ⟨_, _, _, rfl, _⟩ := h; rfl) | (obtain ⟨_, _, _, _, rfl, _⟩ := h; rfl) | (obtain ⟨_, _, _, _, _, rfl, _⟩ := h; rfl) | (obtain ⟨_, _, _, _, _, _, rfl, _⟩ := h; rfl) | (obtain ⟨_, _, _, _, _, _, _, rfl, _⟩ := h; rfl) | (obtain ⟨_, _, _, _, _, _, _, _, rfl, _⟩ := h; rfl) | (obtain ⟨_, _, _, _, _, _, _, _, _, rfl, _⟩ := h; rfl) | (obtain ⟨_, _, _, _, _, _, _, _, _, _, rfl, _⟩ := h; rfl) | (obtain ⟨_, _, _, _, _, _, _, _, _, _, _, rfl, _⟩ := h; rfl) | (obtain ⟨_, _, _, _, _, _, _, _, _, _, _, _, rfl, _⟩ := h; rfl) | (obtain ⟨_, _, _, _, _, _, _, _, _, _, _, _, _, rfl, _⟩ := h; rfl) | (obtain ⟨_, _, _, _, _, _, _, _, _, _, _, _, _, _, rfl, _⟩ := h; rfl) | (obtain ⟨_, _, _, _, _, _, _, _, _, _, _, _, _, _, _, rfl, _⟩ := h; rfl))
  · obtain ⟨p, h, fp, x, rfl, hA, rd, hx, k1, k2, k3⟩ := h
    have hu := hu_of hr
    obtain ⟨tTop, mTop⟩ := h_H.top
    refine ⟨_, (pss_cons (ps_expr (by exact pe_m m_H_need_hand h_H.cl hr (by decide) (fun σ => passAt (takes_of rfl rfl rfl rfl) σ) (pv 0) (pa_cons (pv 1) pa_nil)))
      (pss_cons (ps_if (pt_not (pt_val (by exact pe_m m_W_wake T.clW hr (by decide) (fun σ => passAt (takes_of rfl rfl rfl rfl) σ) (by exact pe_m m_H_wheel_around h_H.cl hr (by decide) (fun σ => passAt (takes_of rfl rfl rfl rfl) σ) (pv 0) (pa_cons (pv 1) pa_nil)) (pa_cons (pv 1) pa_nil)))) (pss_one (ps_ret pe_bl)) pss_nil)
      (pss_cons (ps_set (i := 2) sc_H_wake.nd rfl (Or.inl rfl) (pe_dget hu (pe_fld (pv 0) rfl) (pv 1) (fun _ _ => rfl)))
      (pss_cons (ps_while (passes_of rfl) (PW.pt (pw_and (pt_cmpR op_ne (pv 2) (pe_glob (v := .str "") rfl mTop ⟨_, rfl⟩) (nomark _)) (pw_and1 (pt_val (by exact pe_m m_W_wake T.clW hr (by decide) (fun σ => passAt (takes_of rfl rfl rfl rfl) σ) (by exact pe_m m_H_wheel_around h_H.cl hr (by decide) (fun σ => passAt (takes_of rfl rfl rfl rfl) σ) (pv 0) (pa_cons (pv 2) pa_nil)) (pa_cons (pv 2) pa_nil))))))
        (pss_one (ps_set (i := 2) sc_H_wake.nd rfl (Or.inl rfl) (pe_dget hu (pe_fld (pv 0) rfl) (pv 2) (fun _ _ => rfl)))))
      (pss_one (ps_ret pe_bl)))))), ?_⟩
    obtain ⟨da, dw, es, e1, rfl, i, o⟩ := id hA
    obtain ⟨dx, hp⟩ := i.ob
    refine ⟨_, rfl, p, dx, _, rfl, hp, hf_no _ _, _, rfl, p, h, _, x, rfl, hA, hx, fun n a en ea nt => ?_, k1, k2⟩
    subst en
    obtain ⟨W, ew⟩ := o.aw n a ea
    obtain ⟨e, he, et, eW, eq⟩ := lk_qs (es := es) (by rw [← e1]; exact ew)
    obtain ⟨y, hy, yn⟩ := (o.sub a W n ew).mpr ea
    have we := i.hws e he
    rw [eW] at we
    obtain ⟨dxe, de, hqe⟩ := we.at
    refine ⟨_, rfl, p, dx, _, rfl, hp, hf_no _ _, _, rfl, p, da, dw, h.ab, es, n, a, e.q, rfl, i, ea, eq, e.q, dxe, _, rfl, hqe, wf_m, _, rfl, e.q, W, e.fp, n, rfl, we, fun z => (z ⟨y, hy, yn⟩).elim, fun y' hy' yn' H2 w2 st2 => ?_⟩
    cases Wm.row_of_name we.ok.nd hy' hy (yn'.trans yn.symm)
    obtain ⟨k31, k32⟩ := k3 n a W y rfl ea nt ew hy yn
    cases er : y.r with
    | true =>
      have ws2 : Wm.wake W n = W := by rw [← yn]; exact wake_self we.ok hy er
      rw [ws2, ← eW] at w2
      obtain ⟨q1, q2⟩ := HAt.stay e1 i o he w2 st2
      exact ⟨false, rfl, iteT (k31 er _ q1 q2)⟩
    | false =>
      refine ⟨true, rfl, iteF ?_⟩
      obtain ⟨h1, st1⟩ := HAt.move e1 i o he w2 st2 (by rw [eW]; exact wake_names W n)
      rw [et] at h1 st1
      have rd1 : Rd (setW h a (Wm.wake W n)) a := Rd.stir o rd.weak ea ew true wake_own.1 wake_own.2 fun Wn q => by rw [nt] at q; cases q
      obtain ⟨rk, N, hrk⟩ := o.rk
      have hda2 : H2 da = some (.dK (kvn V.str h.ab)) := by
        obtain ⟨_, _, _, _, fe, i2, _⟩ := h1
        unfold hfp at fe
        injection fe with _ fe
        injection fe with fe _
        rw [fe]
        exact i2.hda
      obtain ⟨dx1, hp1⟩ : ∃ dx, H2 p = some (.ins CH dx (hf da dw)) := by
        obtain ⟨da', dw', _, _, fe, i2, _⟩ := h1
        obtain ⟨dx, q⟩ := i2.ob
        unfold hfp at fe
        injection fe with _ fe
        injection fe with fe1 fe
        injection fe with fe2 _
        rw [fe1, fe2]
        exact ⟨dx, q⟩
      refine ⟨_, rfl, p, CH, dx1, _, _, rfl, hp1, h_H.cl, h_H.aAb, hf_ab _ _, _, rfl, da, _, rfl, .inl ⟨_, Sum.inr n, .inl hda2, rfl, by rw [kvn_val, ea]; rfl⟩, ?_⟩
      refine ⟨fun m σ H' => ∃ t hi fpi, σ = [some (.ref p), some (.str n), some (.str t)] ∧ HAt CH CW CS H' p hi fpi ∧ Rd hi t ∧ hi.ab = h.ab ∧ (∃ Wt, lk hi.wh t = some Wt ∧ Rdy Wt) ∧ (∀ h'', RemW hi t h'' → WakeUp h n h'') ∧ Step (hfp p da dw es) H fpi H' ∧ m = rk t,
        ⟨rk a, a, _, _, rfl, h1, rd1, rfl, ⟨_, lk_pt ew, ?_⟩, fun h'' z => remW_up o rd.weak ea ew z, st1, rfl⟩, ?_⟩
      · obtain ⟨z, hz, en⟩ := (has_names (wake_names W n) n).mpr ⟨y, hy, yn⟩
        exact ⟨z, hz, wake_own.1 z hz en⟩
      · rintro m σ H' ⟨t, hi, fpi, rfl, hAi, rdi, eab, ⟨Wt, ewt, rwt⟩, rem, sti, rfl⟩
        have fin : ∀ {H3 : Hp} {fp3 : List Addr}, RemW hi t hi → HAt CH CW CS H3 p hi fp3 → Step (hfp p da dw es) H fp3 H3 → Q (.bl true) H3 := fun r3 a3 s3 => by
          have u := rem hi r3
          exact k32 er _ _ _ u a3 (wake_up u o rd.weak fun Wn q => by rw [nt] at q; cases q).2.1 s3
        refine ⟨_, rfl, rfl, _, rfl, ?_⟩
        by_cases ht : t = ""
        · subst ht
          rw [decide_eq_true rfl]
          exact iteF (iteF (fin (.inl ⟨rfl, rfl⟩) hAi sti))
        have ht2 : (!decide (V.str t = V.str "")) = true := by
          rw [decide_eq_false fun z => ht (by injection z)]
          rfl
        rw [ht2]
        refine iteT ?_
        obtain ⟨dai, dwi, esi, f1, rfl, ii, oi⟩ := id hAi
        obtain ⟨dxi, hpi⟩ := ii.ob
        obtain ⟨b, eb⟩ : ∃ b, lk hi.ab t = some b := by
          rcases oi.wt t Wt ewt with z | z
          · exact (ht z).elim
          · exact z
        obtain ⟨Wb, ewb⟩ := oi.aw t b eb
        obtain ⟨ei, hei, eti, eWi, eqi⟩ := lk_qs (es := esi) (by rw [← f1]; exact ewb)
        obtain ⟨x, hx, xn⟩ := (oi.sub b Wb t ewb).mpr eb
        have wi := ii.hws ei hei
        rw [eWi] at wi
        obtain ⟨dxq, dq, hqi⟩ := wi.at
        refine ⟨_, rfl, p, dxi, _, rfl, hpi, hf_no _ _, _, rfl, p, dai, dwi, hi.ab, esi, t, b, ei.q, rfl, ii, eb, eqi, ei.q, dxq, _, rfl, hqi, wf_m, _, rfl, ei.q, Wb, ei.fp, t, rfl, wi, fun z => (z ⟨x, hx, xn⟩).elim, fun x' hx' xn' H3 w3 st3 => ?_⟩
        cases Wm.row_of_name wi.ok.nd hx' hx (xn'.trans xn.symm)
        cases exr : x.r with
        | true =>
          have ws3 : Wm.wake Wb t = Wb := by rw [← xn]; exact wake_self wi.ok hx exr
          rw [ws3, ← eWi] at w3
          obtain ⟨q1, q2⟩ := HAt.stay f1 ii oi hei w3 st3
          exact ⟨false, rfl, iteF (fin (.inr ⟨ht, b, Wb, x, eb, ewb, hx, xn, .inl ⟨exr, rfl⟩⟩) q1 (sti.trans q2))⟩
        | false =>
          refine ⟨true, rfl, iteT ?_⟩
          obtain ⟨h3, st4⟩ := HAt.move f1 ii oi hei w3 st3 (by rw [eWi]; exact wake_names Wb t)
          rw [eti] at h3 st4
          have rd3 : Rd (setW hi b (Wm.wake Wb t)) b := Rd.stir oi rdi eb ewb true wake_own.1 wake_own.2 fun Wn q => by
            rw [ewt] at q
            cases q
            exact ⟨fun _ => rwt, fun _ => rfl⟩
          obtain ⟨dx3, da3, dw3, hp3, hd3⟩ : ∃ dx da' dw', H3 p = some (.ins CH dx (hf da' dw')) ∧ H3 da' = some (.dK (kvn V.str hi.ab)) := by
            obtain ⟨da', dw', _, _, _, i2, _⟩ := h3
            obtain ⟨dx, q⟩ := i2.ob
            exact ⟨dx, da', dw', q, i2.hda⟩
          refine ⟨fun σ' H' => ∃ m', m' < rk t ∧ ∃ t hi fpi, σ' = [some (.ref p), some (.str n), some (.str t)] ∧ HAt CH CW CS H' p hi fpi ∧ Rd hi t ∧ hi.ab = h.ab ∧ (∃ Wt, lk hi.wh t = some Wt ∧ Rdy Wt) ∧ (∀ h'', RemW hi t h'' → WakeUp h n h'') ∧ Step (hfp p da dw es) H fpi H' ∧ m' = rk t, fun _ _ z => z, ?_⟩
          refine ⟨_, rfl, p, CH, dx3, _, _, rfl, hp3, h_H.cl, h_H.aAb, hf_ab _ _, _, rfl, da3, _, rfl, .inl ⟨_, Sum.inr t, .inl hd3, rfl, by rw [kvn_val, eb]; rfl⟩, ?_⟩
          refine ⟨rk b, (hrk t b (by rw [← eab]; exact eb)).1, b, _, _, rfl, h3, rd3, eab, ⟨_, lk_pt ewb, ?_⟩, fun h'' z => rem h'' (.inr ⟨ht, b, Wb, x, eb, ewb, hx, xn, .inr ⟨exr, remW_up oi rdi eb ewb z⟩⟩), sti.trans st4, rfl⟩
          obtain ⟨z, hz, en⟩ := (has_names (wake_names Wb t) t).mpr ⟨x, hx, xn⟩
          exact ⟨z, hz, wake_own.1 z hz en⟩
theorem sc_H_rest : FnScope ["self", "name", "team"] ["self", "name"] (defScope sHouse_rest) := ⟨rfl, rfl, rfl, by decide +kernel, rfl, by decide +kernel, by decide +kernel⟩
theorem ok_H_rest {f : Addr} {fd : FuncData} (F : Fun K "rest" "House.rest" sHouse_rest f fd) (T : WT K mg CS CW CB CT CN) (L : LT mg) (h_H : HT K mg CH) (m_H_need_hand : MOk P w K mg base 3 CH "_need_hand" ["self", "name"] (spNeedHand CH CW CS CN CD)) (m_H_wheel_around : MOk P w K mg base 1 CH "_wheel_around" ["self", "name"] (spAround CH CW CS)) (m_W_rest : MOk P w K mg base 3 CW "rest" ["self", "name"] (spRest CW CS CN)) (m_W_whose : MOk P w K mg base 1 CW "whose" ["self"] (spWhose CW CS)) :
    FnOk P w K mg base (L2.CX P w) 4 f fd ["self", "name"] (spHRest CH CW CS CN CD) := by
  refine F.okX sc_H_rest (fun vs H Q E h => ?_) (fun cdv A outer s H vs Q E hr h => ?_)
  · (first | (obtain ⟨_, rfl, _⟩ := h; rfl) | (obtain ⟨_, _, rfl, _⟩ := h; rfl) | (obtain ⟨_, _, _, rfl, _⟩ := h; rfl) | (obtain ⟨_, _, _, _, rfl, _⟩ := h; rfl) | (obtain ⟨_, _, _, _, _, rfl, _⟩ := h; rfl) | (obtain ⟨_, _, _, _, _, _, rfl, _⟩ := h; rfl) | (obtain ⟨_, _, _, _, _, _, _, rfl, _⟩ := h; rfl) | (obtain ⟨_, _, _, _, _, _, _, _, rfl, _⟩ := h; rfl) | (obtain ⟨_, _, _, _, _, _, _, _, _, rfl, _⟩ := h; rfl) | (obtain ⟨_, _, _, _, _, _, _, _, _, _, rfl, _⟩ := h; rfl) | (obtain ⟨_, _, _, _, _, _, _, _, _, _, _, rfl, _⟩ := h; rfl) | (obtain ⟨_, _, _, _, _, _, _, _, _, _, _, _, rfl, _⟩ := h; rfl) | (obtain ⟨_, _, _, _, _, _, _, _, _, _, _, _, _, rfl, _⟩ := h; rfl) | (obtain ⟨_, _, _, _, _, _, _, _, _, _, _, _, _, _, rfl, _⟩ := h; rfl) | (obtain ⟨_, _, _, _, _, _, _, _, _, _, _, _, _, _, _, rfl, _⟩ := h; rfl))
  · obtain ⟨p, h, fp, x, rfl, hA, rd, hx, k1, k2, k3⟩ := h
    have hu := hu_of hr
    obtain ⟨tTop, mTop⟩ := h_H.top
    refine ⟨_, (pss_cons (ps_expr (by exact pe_m m_H_need_hand h_H.cl hr (by decide) (fun σ => passAt (takes_of rfl rfl rfl rfl) σ) (pv 0) (pa_cons (pv 1) pa_nil)))
      (pss_cons (ps_if (pt_not (pt_val (by exact pe_m m_W_rest T.clW hr (by decide) (fun σ => passAt (takes_of rfl rfl rfl rfl) σ) (by exact pe_m m_H_wheel_around h_H.cl hr (by decide) (fun σ => passAt (takes_of rfl rfl rfl rfl) σ) (pv 0) (pa_cons (pv 1) pa_nil)) (pa_cons (pv 1) pa_nil)))) (pss_one (ps_ret pe_bl)) pss_nil)
      (pss_cons (ps_set (i := 2) sc_H_rest.nd rfl (Or.inl rfl) (pe_dget hu (pe_fld (pv 0) rfl) (pv 1) (fun _ _ => rfl)))
      (pss_cons (ps_while (passes_of rfl) (PW.pt (pw_and (pt_cmpR op_ne (pv 2) (pe_glob (v := .str "") rfl mTop ⟨_, rfl⟩) (nomark _)) (pw_and1 (pt_cmpR op_isN (by exact pe_m0 m_W_whose T.clW hr (by decide) (fun σ => passAt (takes_of rfl rfl rfl rfl) σ) (pe_dget hu (pe_fld (pv 0) rfl) (pv 2) (fun _ _ => rfl))) pe_non (nomark _)))))
        (pss_cons (ps_expr (by exact pe_m m_W_rest T.clW hr (by decide) (fun σ => passAt (takes_of rfl rfl rfl rfl) σ) (by exact pe_m m_H_wheel_around h_H.cl hr (by decide) (fun σ => passAt (takes_of rfl rfl rfl rfl) σ) (pv 0) (pa_cons (pv 2) pa_nil)) (pa_cons (pv 2) pa_nil)))
      (pss_one (ps_set (i := 2) sc_H_rest.nd rfl (Or.inl rfl) (pe_dget hu (pe_fld (pv 0) rfl) (pv 2) (fun _ _ => rfl))))))
      (pss_one (ps_ret pe_bl)))))), ?_⟩
    obtain ⟨da, dw, es, e1, rfl, i, o⟩ := id hA
    obtain ⟨dx, hp⟩ := i.ob
    refine ⟨_, rfl, p, dx, _, rfl, hp, hf_no _ _, _, rfl, p, h, _, x, rfl, hA, hx, fun n a en ea nt => ?_, k1, k2⟩
    subst en
    obtain ⟨W, ew⟩ := o.aw n a ea
    obtain ⟨e, he, et, eW, eq⟩ := lk_qs (es := es) (by rw [← e1]; exact ew)
    obtain ⟨y, hy, yn⟩ := (o.sub a W n ew).mpr ea
    have we := i.hws e he
    rw [eW] at we
    obtain ⟨dxe, de, hqe⟩ := we.at
    refine ⟨_, rfl, p, dx, _, rfl, hp, hf_no _ _, _, rfl, p, da, dw, h.ab, es, n, a, e.q, rfl, i, ea, eq, e.q, dxe, _, rfl, hqe, wf_m, _, rfl, e.q, W, e.fp, n, rfl, we, fun z => (z ⟨y, hy, yn⟩).elim, fun y' hy' yn' H2 w2 st2 => ?_⟩
    cases Wm.row_of_name we.ok.nd hy' hy (yn'.trans yn.symm)
    obtain ⟨k31, k32⟩ := k3 n a W y rfl ea nt ew hy yn
    cases er : y.r with
    | false =>
      have ws2 : Wm.rest W n = W := by rw [← yn]; exact rest_self we.ok hy er
      rw [ws2, ← eW] at w2
      obtain ⟨q1, q2⟩ := HAt.stay e1 i o he w2 st2
      exact ⟨false, rfl, iteT (k31 er _ q1 q2)⟩
    | true =>
      refine ⟨true, rfl, iteF ?_⟩
      obtain ⟨h1, st1⟩ := HAt.move e1 i o he w2 st2 (by rw [eW]; exact rest_names W n)
      rw [et] at h1 st1
      obtain ⟨rk, N, hrk⟩ := o.rk
      obtain ⟨dx1, da1, dw1, hp1, hd1⟩ : ∃ dx da' dw', H2 p = some (.ins CH dx (hf da' dw')) ∧ H2 da' = some (.dK (kvn V.str h.ab)) := by
        obtain ⟨da', dw', _, _, _, i2, _⟩ := h1
        obtain ⟨dx, q⟩ := i2.ob
        exact ⟨dx, da', dw', q, i2.hda⟩
      refine ⟨_, rfl, p, CH, dx1, _, _, rfl, hp1, h_H.cl, h_H.aAb, hf_ab _ _, _, rfl, da1, _, rfl, .inl ⟨_, Sum.inr n, .inl hd1, rfl, by rw [kvn_val, ea]; rfl⟩, ?_⟩
      refine ⟨fun m σ H' => ∃ t hi fpi, σ = [some (.ref p), some (.str n), some (.str t)] ∧ HAt CH CW CS H' p hi fpi ∧ hi.ab = h.ab ∧ (∃ Wt, lk hi.wh t = some Wt) ∧ (∀ h'', RemR hi t h'' → RestUp h n h'') ∧ Step (hfp p da dw es) H fpi H' ∧ m = rk t,
        ⟨rk a, a, _, _, rfl, h1, rfl, ⟨_, lk_pt ew⟩, fun h'' z => remR_up ea ew z, st1, rfl⟩, ?_⟩
      rintro m σ H' ⟨t, hi, fpi, rfl, hAi, eab, ⟨Wt, ewt⟩, rem, sti, rfl⟩
      have fin : ∀ {H3 : Hp} {fp3 : List Addr}, RemR hi t hi → HAt CH CW CS H3 p hi fp3 → Step (hfp p da dw es) H fp3 H3 → Q (.bl true) H3 := fun r3 a3 s3 => by
        have u := rem hi r3
        exact k32 er _ _ _ u a3 (rest_up u o rd.weak fun Wn q => by rw [nt] at q; cases q).2.1 s3
      refine ⟨_, rfl, rfl, _, rfl, ?_⟩
      by_cases ht : t = ""
      · subst ht
        rw [decide_eq_true rfl]
        exact iteF (iteF (fin (.inl ⟨rfl, rfl⟩) hAi sti))
      have ht2 : (!decide (V.str t = V.str "")) = true := by
        rw [decide_eq_false fun z => ht (by injection z)]
        rfl
      rw [ht2]
      refine iteT ?_
      obtain ⟨dai, dwi, esi, f1, rfl, ii, oi⟩ := id hAi
      obtain ⟨dxi, hpi⟩ := ii.ob
      obtain ⟨et', het, ett, eWt, eqt⟩ := lk_qs (es := esi) (by rw [← f1]; exact ewt)
      have wt := ii.hws et' het
      rw [eWt] at wt
      obtain ⟨dxt, dt, hqt⟩ := wt.at
      refine ⟨_, rfl, p, CH, dxi, _, _, rfl, hpi, h_H.cl, h_H.aWh, hf_wh _ _, _, rfl, dwi, _, rfl, .inl ⟨_, Sum.inr t, .inl ii.hdw, rfl, by rw [kvn_val, eqt]; rfl⟩, et'.q, dxt, _, rfl, hqt, wf_m, et'.q, Wt, et'.fp, rfl, wt, fun H3 s3 => ?_⟩
      have hA3 := hAi.same s3
      have sti3 := sti.trans (.same s3)
      cases eb : Wm.best Wt.rows with
      | some bb =>
        rw [show Wm.whose Wt = some bb.n from whose_some eb]
        exact ⟨rfl, _, rfl, iteF (fin (.inr ⟨ht, Wt, ewt, .inl ⟨rdy_best.mpr (by rw [eb]; intro z; cases z), rfl⟩⟩) hA3 sti3)⟩
      | none =>
        have nr : ¬ Rdy Wt := fun z => rdy_best.mp z eb
        rw [show Wm.whose Wt = none from whose_none eb]
        refine ⟨rfl, _, rfl, iteT ?_⟩
        obtain ⟨b, eb⟩ : ∃ b, lk hi.ab t = some b := by
          rcases oi.wt t Wt ewt with z | z
          · exact (ht z).elim
          · exact z
        obtain ⟨Wb, ewb⟩ := oi.aw t b eb
        have ii3 := ii.keep fun b' _ o' e' => s3 b' o' e'
        obtain ⟨dx3, hp3⟩ := ii3.ob
        obtain ⟨ei, hei, eti, eWi, eqi⟩ := lk_qs (es := esi) (by rw [← f1]; exact ewb)
        obtain ⟨x, hx, xn⟩ := (oi.sub b Wb t ewb).mpr eb
        have wi := ii3.hws ei hei
        rw [eWi] at wi
        obtain ⟨dxq, dq, hqi⟩ := wi.at
        refine ⟨fun σ' H' => ∃ m', m' < rk t ∧ ∃ t hi fpi, σ' = [some (.ref p), some (.str n), some (.str t)] ∧ HAt CH CW CS H' p hi fpi ∧ hi.ab = h.ab ∧ (∃ Wt, lk hi.wh t = some Wt) ∧ (∀ h'', RemR hi t h'' → RestUp h n h'') ∧ Step (hfp p da dw es) H fpi H' ∧ m' = rk t, fun _ _ z => z, ?_⟩
        refine ⟨_, rfl, p, dx3, _, rfl, hp3, hf_no _ _, _, rfl, p, dai, dwi, hi.ab, esi, t, b, ei.q, rfl, ii3, eb, eqi, ei.q, dxq, _, rfl, hqi, wf_m, _, rfl, ei.q, Wb, ei.fp, t, rfl, wi, fun z => (z ⟨x, hx, xn⟩).elim, fun x' hx' xn' H4 w4 st4 => ?_⟩
        obtain ⟨h4, st5⟩ := HAt.move f1 ii3 oi hei w4 st4 (by rw [eWi]; exact rest_names Wb t)
        rw [eti] at h4 st5
        obtain ⟨dx4, da4, dw4, hp4, hd4⟩ : ∃ dx da' dw', H4 p = some (.ins CH dx (hf da' dw')) ∧ H4 da' = some (.dK (kvn V.str hi.ab)) := by
          obtain ⟨da', dw', _, _, _, i2, _⟩ := h4
          obtain ⟨dx, q⟩ := i2.ob
          exact ⟨dx, da', dw', q, i2.hda⟩
        refine ⟨_, rfl, p, CH, dx4, _, _, rfl, hp4, h_H.cl, h_H.aAb, hf_ab _ _, _, rfl, da4, _, rfl, .inl ⟨_, Sum.inr t, .inl hd4, rfl, by rw [kvn_val, eb]; rfl⟩, ?_⟩
        exact ⟨rk b, (hrk t b (by rw [← eab]; exact eb)).1, b, _, _, rfl, h4, eab, ⟨_, lk_pt ewb⟩, fun h'' z => rem h'' (.inr ⟨ht, Wt, ewt, .inr ⟨nr, remR_up eb ewb z⟩⟩), sti3.trans st5, rfl⟩
theorem sc_H_reshare : FnScope ["self", "name", "share"] ["self", "name", "share"] (defScope sHouse_reshare) := ⟨rfl, rfl, rfl, by decide +kernel, rfl, by decide +kernel, by decide +kernel⟩
theorem ok_H_reshare {f : Addr} {fd : FuncData} (F : Fun K "reshare" "House.reshare" sHouse_reshare f fd) (T : WT K mg CS CW CB CT CN) (L : LT mg) (h_H : HT K mg CH) (m_H_need_name : MOk P w K mg base 2 CH "_need_name" ["self", "name"] (spNeedName CH CW CS CN)) (m_H_wheel_around : MOk P w K mg base 1 CH "_wheel_around" ["self", "name"] (spAround CH CW CS)) (m_W_reshare : MOk P w K mg base 3 CW "reshare" ["self", "name", "share"] (spReshare CW CS CB CN)) :
    FnOk P w K mg base (L2.CX P w) 4 f fd ["self", "name", "share"] (spHReshare CH CW CS CB CN) := by
  refine F.okX sc_H_reshare (fun vs H Q E h => ?_) (fun cdv A outer s H vs Q E hr h => ?_)
  · (first | (obtain ⟨_, rfl, _⟩ := h; rfl) | (obtain ⟨_, _, rfl, _⟩ := h; rfl) | (obtain ⟨_, _, _, rfl, _⟩ := h; rfl) | (obtain ⟨_, _, _, _, rfl, _⟩ := h; rfl) | (obtain ⟨_, _, _, _, _, rfl, _⟩ := h; rfl) | (obtain ⟨_, _, _, _, _, _, rfl, _⟩ := h; rfl) | (obtain ⟨_, _, _, _, _, _, _, rfl, _⟩ := h; rfl) | (obtain ⟨_, _, _, _, _, _, _, _, rfl, _⟩ := h; rfl) | (obtain ⟨_, _, _, _, _, _, _, _, _, rfl, _⟩ := h; rfl) | (obtain ⟨_, _, _, _, _, _, _, _, _, _, rfl, _⟩ := h; rfl) | (obtain ⟨_, _, _, _, _, _, _, _, _, _, _, rfl, _⟩ := h; rfl) | (obtain ⟨_, _, _, _, _, _, _, _, _, _, _, _, rfl, _⟩ := h; rfl) | (obtain ⟨_, _, _, _, _, _, _, _, _, _, _, _, _, rfl, _⟩ := h; rfl) | (obtain ⟨_, _, _, _, _, _, _, _, _, _, _, _, _, _, rfl, _⟩ := h; rfl) | (obtain ⟨_, _, _, _, _, _, _, _, _, _, _, _, _, _, _, rfl, _⟩ := h; rfl))
  · obtain ⟨p, h, fp, x, s, rfl, hA, hx, hs, k1, k2, k3⟩ := h
    have hu := hu_of hr
    refine ⟨_, (pss_cons (ps_expr (by exact pe_m m_H_need_name h_H.cl hr (by decide) (fun σ => passAt (takes_of rfl rfl rfl rfl) σ) (pv 0) (pa_cons (pv 1) pa_nil)))
      (pss_one (ps_expr (by exact pe_m m_W_reshare T.clW hr (by decide) (fun σ => passAt (takes_of rfl rfl rfl rfl) σ) (by exact pe_m m_H_wheel_around h_H.cl hr (by decide) (fun σ => passAt (takes_of rfl rfl rfl rfl) σ) (pv 0) (pa_cons (pv 1) pa_nil)) (pa_cons (pv 1) (pa_cons (pv 2) pa_nil)))))), ?_⟩
    obtain ⟨da, dw, es, e1, rfl, i, o⟩ := id hA
    obtain ⟨dx, hp⟩ := i.ob
    refine ⟨_, rfl, p, dx, _, rfl, hp, hf_no _ _, _, rfl, p, h, _, x, rfl, hA, hx, fun n a en ea => ?_, k1⟩
    subst en
    obtain ⟨W, ew⟩ := o.aw n a ea
    obtain ⟨e, he, et, eW, eq⟩ := lk_qs (es := es) (by rw [← e1]; exact ew)
    obtain ⟨y, hy, yn⟩ := (o.sub a W n ew).mpr ea
    have we := i.hws e he
    rw [eW] at we
    obtain ⟨dxe, de, hqe⟩ := we.at
    refine ⟨_, rfl, p, dx, _, rfl, hp, hf_no _ _, _, rfl, p, da, dw, h.ab, es, n, a, e.q, rfl, i, ea, eq, e.q, dxe, _, rfl, hqe, wf_m, _, rfl, _, rfl, e.q, W, e.fp, n, s, rfl, we, hs, fun z => (z ⟨y, hy, yn⟩).elim, fun _ z => k2 n a rfl ea z, fun _ iv ei i1 i2 H2 w2 st2 => ?_⟩
    obtain ⟨q1, q2⟩ := HAt.move e1 i o he w2 st2 (by rw [eW]; exact reshare_names W n iv)
    rw [et] at q1 q2
    exact k3 n a W iv rfl ea ew ei i1 i2 _ _ q1 q2
theorem sc_H_deal : FnScope ["self", "names", "name"] ["self"] (defScope sHouse_deal) := ⟨rfl, rfl, rfl, by decide +kernel, rfl, by decide +kernel, by decide +kernel⟩
theorem ok_H_deal {f : Addr} {fd : FuncData} (F : Fun K "deal" "House.deal" sHouse_deal f fd) (T : WT K mg CS CW CB CT CN) (L : LT mg) (h_H : HT K mg CH) (m_W_turn : MOk P w K mg base 3 CW "turn" ["self"] (spTurn CW CS)) :
    FnOk P w K mg base (L2.CX P w) 4 f fd ["self"] (spDeal CH CW CS) := by
  refine okN F sc_H_deal (fun vs H Q E h => ?_) (fun cdv A outer s H vs Q E hr h => ?_)
  · (first | (obtain ⟨_, rfl, _⟩ := h; rfl) | (obtain ⟨_, _, rfl, _⟩ := h; rfl) | (obtain ⟨_, _, _, rfl, _⟩ := h; rfl) | (obtain ⟨_, _, _, _, rfl, _⟩ := h; rfl) | (obtain ⟨_, _, _, _, _, rfl, _⟩ := h; rfl) | (obtain ⟨_, _, _, _, _, _, rfl, _⟩ := h; rfl) | (obtain ⟨_, _, _, _, _, _, _, rfl, _⟩ := h; rfl) | (obtain ⟨_, _, _, _, _, _, _, _, rfl, _⟩ := h; rfl) | (obtain ⟨_, _, _, _, _, _, _, _, _, rfl, _⟩ := h; rfl) | (obtain ⟨_, _, _, _, _, _, _, _, _, _, rfl, _⟩ := h; rfl) | (obtain ⟨_, _, _, _, _, _, _, _, _, _, _, rfl, _⟩ := h; rfl) | (obtain ⟨_, _, _, _, _, _, _, _, _, _, _, _, rfl, _⟩ := h; rfl) | (obtain ⟨_, _, _, _, _, _, _, _, _, _, _, _, _, rfl, _⟩ := h; rfl) | (obtain ⟨_, _, _, _, _, _, _, _, _, _, _, _, _, _, rfl, _⟩ := h; rfl) | (obtain ⟨_, _, _, _, _, _, _, _, _, _, _, _, _, _, _, rfl, _⟩ := h; rfl))
  · obtain ⟨p, h, fp, rfl, hA, hlen, k⟩ := h
    have hu := hu_of hr
    obtain ⟨tTop, mTop⟩ := h_H.top
    refine ⟨_, (pss_cons (ps_set (i := 1) sc_H_deal.nd rfl (Or.inl rfl) (pe_lst pa_nil))
      (pss_cons (ps_set (i := 2) sc_H_deal.nd rfl (Or.inl rfl) (by exact pe_m0 m_W_turn T.clW hr (by decide) (fun σ => passN σ) (pe_dget hu (pe_fld (pv 0) rfl) (pe_glob (v := .str "") rfl mTop ⟨_, rfl⟩) (fun _ _ => rfl))))
      (pss_cons (ps_while PassesOwn.never (pt_cmpR op_notN (pv 2) pe_non (nomark _))
        (pss_cons (ps_expr (by exact pe_app (K0 := K) (pv 1) (pv 2)))
      (pss_one (ps_set (i := 2) sc_H_deal.nd rfl (Or.inl rfl) (pe_ifExp (pt_cmp (pc_din hu (pv 2) (pe_fld (pv 0) rfl))) (by exact pe_m0 m_W_turn T.clW hr (by decide) (fun σ => passN σ) (pe_dget hu (pe_fld (pv 0) rfl) (pv 2) (fun _ _ => rfl))) pe_non)))))
      (pss_one (ps_ret (pv 1)))))), ?_⟩
    obtain ⟨da, dw, es, e1, rfl, i, o⟩ := id hA
    obtain ⟨dx, hp⟩ := i.ob
    obtain ⟨rk, N, hrk⟩ := o.rk
    refine ⟨(by show 0 ≤ sizeLine; decide), fun l hl => ?_⟩
    have s1 : Same H (upd H l (.lst [])) := same_upd hl
    have e0 : upd H l (.lst []) l = some (.lst (([] : List Str).map V.str)) := upd_same
    have hA1 := hA.same s1
    have st1 : Step (hfp p da dw es) H (hfp p da dw es) (upd H l (.lst [])) := .same s1
    generalize upd H l (.lst []) = H1 at s1 e0 hA1 st1 ⊢
    -- one turn of the wheel of t
    have one : ∀ {H2 : Hp} {hi : Hs} {fpi : List Addr} {t : Str} {Wt : WhS} (q : Addr → Prop), HAt CH CW CS H2 p hi fpi → lk hi.wh t = some Wt → (∀ dx da' dw' es' (e : TE), H2 p = some (.ins CH dx (hf da' dw')) → H2 dw' = some (.dK (kvn V.ref (qs es'))) → lk (qs es') t = some e.q → WAt CW CS H2 e.q Wt e.fp →
        (∀ H3, WAt CW CS H3 e.q (Wm.turn Wt) e.fp → Step e.fp H2 e.fp H3 → ∃ fp3, HAt CH CW CS H3 p (setW hi t (Wm.turn Wt)) fp3 ∧ Step fpi H2 fp3 H3) → q p) → q p := fun {H2 hi fpi t Wt} q hA2 ewt go => by
      obtain ⟨da', dw', es', f1, rfl, ii, oi⟩ := hA2
      obtain ⟨dx', hp'⟩ := ii.ob
      obtain ⟨e, he, et, eW, eq⟩ := lk_qs (es := es') (by rw [← f1]; exact ewt)
      have we := ii.hws e he
      rw [eW] at we
      refine go dx' da' dw' es' e hp' ii.hdw eq we fun H3 w3 st3 => ?_
      have := HAt.move f1 ii oi he w3 st3 (by rw [eW]; exact turn_names Wt)
      rw [et] at this
      exact ⟨_, this⟩
    obtain ⟨W, ew⟩ := o.top
    refine one (fun _ => _) hA1 ew fun dx1 da1 dw1 es1 e hp1 hd1 eq we mvd => ?_
    obtain ⟨dxe, de, hqe⟩ := we.at
    refine ⟨_, rfl, p, CH, dx1, _, _, rfl, hp1, h_H.cl, h_H.aWh, hf_wh _ _, dw1, _, rfl, .inl ⟨_, Sum.inr "", .inl hd1, rfl, by rw [kvn_val, eq]; rfl⟩, e.q, dxe, _, rfl, hqe, wf_m, e.q, W, e.fp, rfl, we, fun H2 w2 st2 => ?_⟩
    obtain ⟨fp2, hA2, st2'⟩ := mvd H2 w2 st2
    have el2 : H2 l = some (.lst (([] : List Str).map V.str)) := st2'.kept _ _ e0 (hA1.lst e0)
    let Inv : Nat → L2.St → Hp → Prop := fun m σ H' => ∃ hi fpi ns, ∃ v : Option Str, σ = [some (.ref p), some (.ref l), some (optN v)] ∧ HAt CH CW CS H' p hi fpi ∧ hi.ab = h.ab ∧ Step (hfp p da dw es) H fpi H' ∧ H' l = some (.lst (ns.map V.str)) ∧
      ((v = none ∧ Deal h "" ns hi ∧ m = 0) ∨ ∃ b, v = some b ∧ (∃ c, lk h.ab b = some c) ∧ (∀ l' h'', RemD hi b l' h'' → Deal h "" (ns ++ b :: l') h'') ∧ (∀ x ∈ ns, rk x < rk b) ∧ ns.Nodup ∧ (∀ x ∈ ns, x ∈ keys h.ab) ∧ m = N + 1 - rk b)
    have start : ∃ m, Inv m [some (.ref p), some (.ref l), some (optN (Wm.whose W))] H2 := by
      cases eb : Wm.best W.rows with
      | none => exact ⟨0, _, fp2, [], none, by rw [whose_none eb], hA2, rfl, st1.trans st2', el2, .inl ⟨rfl, .none ew eb, rfl⟩⟩
      | some b =>
        have hb := (Wm.best_some eb).2.1
        have ab := (o.sub "" W b.n ew).mp ⟨b, hb, rfl⟩
        refine ⟨N + 1 - rk b.n, _, fp2, [], some b.n, by rw [whose_some eb], hA2, rfl, st1.trans st2', el2, .inr ⟨b.n, rfl, ⟨_, ab⟩, fun l' h'' z => remD_up ew eb (o.ne_top ab) z, fun x hx => (nomatch hx), List.nodup_nil, fun x hx => (nomatch hx), rfl⟩⟩
    refine ⟨Inv, start, ?_⟩
    rintro m σ H3 ⟨hi, fpi, ns, v, rfl, hA3, eab, sti, el3, cs⟩
    rcases cs with ⟨rfl, dl, rfl⟩ | ⟨b, rfl, ⟨c, ec⟩, rem, ord, nd, sub, rfl⟩
    · refine ⟨_, rfl, rfl, _, rfl, iteF ⟨_, rfl, ?_⟩⟩
      exact k H3 fpi hi l ns dl hA3 sti el3 hl
    · refine ⟨_, rfl, rfl, _, rfl, iteT ⟨fun σ' H' => ∃ m', m' < N + 1 - rk b ∧ Inv m' σ' H', fun _ _ z => z, ?_⟩⟩
      have hrb := hrk b c ec
      have lns : ns.length ≤ 900 := by
        have := nodup_sub ns (keys h.ab) nd sub
        unfold keys at this
        rw [List.length_map] at this
        omega
      refine ⟨_, rfl, .inl ⟨rfl, _, SqL.of el3⟩, _, rfl, l, _, _, rfl, rfl, el3, by rw [List.length_map]; exact small1000 (by omega), ?_⟩
      have hA4 : HAt CH CW CS (upd H3 l (.lst (ns.map V.str ++ [optN (some b)]))) p hi fpi := hA3.keep fun b' hb' o' e' => by
        rw [upd_ne (fun z => hA3.lst el3 (by rw [← z]; exact hb'))]
        exact e'
      have el4 : upd H3 l (.lst (ns.map V.str ++ [optN (some b)])) l = some (.lst ((ns ++ [b]).map V.str)) := by
        rw [upd_same, List.map_append]
        rfl
      have st4 : Step (hfp p da dw es) H fpi (upd H3 l (.lst (ns.map V.str ++ [optN (some b)]))) := by
        refine ⟨fun b' o' e' hb' => ?_, sti.new⟩
        rw [upd_ne (fun z => by rw [z, hl] at e'; cases e')]
        exact sti.kept _ _ e' hb'
      generalize upd H3 l (.lst (ns.map V.str ++ [optN (some b)])) = H4 at hA4 el4 st4 ⊢
      have oi := hA4.ok
      obtain ⟨dai, dwi, esi, f1, ff, ii, _⟩ := id hA4
      obtain ⟨dxi, hpi⟩ := ii.ob
      have nd2 : (ns ++ [b]).Nodup := Wm.nd_snoc nd fun z => by
        have := ord b z
        omega
      have sub2 : ∀ x ∈ ns ++ [b], x ∈ keys h.ab := fun x hx => by
        rcases List.mem_append.mp hx with hx | hx
        · exact sub x hx
        · rw [List.mem_singleton.mp hx]
          exact lk_some_key ec
      cases eU : lk hi.wh b with
      | none =>
        refine ⟨_, rfl, _, rfl, p, CH, dxi, _, _, rfl, hpi, h_H.cl, h_H.aWh, hf_wh _ _, dwi, none, rfl, .inl ⟨_, Sum.inr b, .inl ii.hdw, rfl, (by rw [kvn_val, lk_qs_none (by rw [← f1]; exact eU)] <;> rfl)⟩, _, rfl, iteF ?_⟩
        exact ⟨0, by omega, hi, fpi, ns ++ [b], none, rfl, hA4, eab, st4, el4, .inl ⟨rfl, rem [] hi (.inl ⟨eU, rfl, rfl⟩), rfl⟩⟩
      | some U =>
        obtain ⟨ef, hef, etf, eWf, eqf⟩ := lk_qs (es := esi) (by rw [← f1]; exact eU)
        refine ⟨_, rfl, _, rfl, p, CH, dxi, _, _, rfl, hpi, h_H.cl, h_H.aWh, hf_wh _ _, dwi, some (.ref ef.q), rfl, .inl ⟨_, Sum.inr b, .inl ii.hdw, rfl, (by rw [kvn_val, eqf] <;> rfl)⟩, _, rfl, iteT ?_⟩
        have we5 := ii.hws ef hef
        rw [eWf] at we5
        obtain ⟨dxq, dq, hq5⟩ := we5.at
        refine ⟨_, rfl, p, CH, dxi, _, _, rfl, hpi, h_H.cl, h_H.aWh, hf_wh _ _, _, rfl, dwi, _, rfl, .inl ⟨_, Sum.inr b, .inl ii.hdw, rfl, by rw [kvn_val, eqf]; rfl⟩, ef.q, dxq, _, rfl, hq5, wf_m, ef.q, U, ef.fp, rfl, we5, fun H5 w5 st5 => ?_⟩
        obtain ⟨hA5, st6⟩ := HAt.move f1 ii oi hef w5 st5 (by rw [eWf]; exact turn_names U)
        rw [etf] at hA5 st6
        rw [← ff] at st6
        have el5 := st6.kept _ _ el4 (hA4.lst el4)
        cases eb : Wm.best U.rows with
        | none =>
          rw [show Wm.whose U = none from whose_none eb]
          exact ⟨0, by omega, _, _, ns ++ [b], none, rfl, hA5, eab, st4.trans st6, el5, .inl ⟨rfl, rem [] _ (.inr ⟨U, eU, .none eU eb⟩), rfl⟩⟩
        | some b2 =>
          rw [show Wm.whose U = some b2.n from whose_some eb]
          have ab2 := (oi.sub b U b2.n eU).mp ⟨b2, (Wm.best_some eb).2.1, rfl⟩
          have hr2 := hrk b2.n b (by rw [← eab]; exact ab2)
          refine ⟨N + 1 - rk b2.n, by omega, _, _, ns ++ [b], some b2.n, rfl, hA5, eab, st4.trans st6, el5, .inr ⟨b2.n, rfl, ⟨b, by rw [← eab]; exact ab2⟩, fun l' h'' z => ?_, fun x hx => ?_, nd2, sub2, rfl⟩⟩
          · have := rem (b2.n :: l') h'' (.inr ⟨U, eU, remD_up eU eb (oi.ne_above ab2) z⟩)
            rw [List.append_assoc]
            exact this
          · rcases List.mem_append.mp hx with hx | hx
            · have := ord x hx
              omega
            · rw [List.mem_singleton.mp hx]
              omega
theorem sc_H_leave : FnScope ["self", "name"] ["self", "name"] (defScope sHouse_leave) := ⟨rfl, rfl, rfl, by decide +kernel, rfl, by decide +kernel, by decide +kernel⟩
theorem ok_H_leave {f : Addr} {fd : FuncData} (F : Fun K "leave" "House.leave" sHouse_leave f fd) (T : WT K mg CS CW CB CT CN) (L : LT mg) (h_H : HT K mg CH) (m_H_need_name : MOk P w K mg base 2 CH "_need_name" ["self", "name"] (spNeedName CH CW CS CN)) (m_H_rest : MOk P w K mg base 4 CH "rest" ["self", "name"] (spHRest CH CW CS CN CD)) (m_H_wheel_around : MOk P w K mg base 1 CH "_wheel_around" ["self", "name"] (spAround CH CW CS)) (m_W_leave : MOk P w K mg base 3 CW "leave" ["self", "name"] (spLeave CW CS CN)) (m_W_names : MOk P w K mg base 1 CW "names" ["self"] (spNames CW CS)) (r_Y : ErT K mg "NotEmpty" CY) :
    FnOk P w K mg base (L2.CX P w) 5 f fd ["self", "name"] (spHLeave CH CW CS CN CY) := by
  refine F.okX sc_H_leave (fun vs H Q E h => ?_) (fun cdv A outer s H vs Q E hr h => ?_)
  · (first | (obtain ⟨_, rfl, _⟩ := h; rfl) | (obtain ⟨_, _, rfl, _⟩ := h; rfl) | (obtain ⟨_, _, _, rfl, _⟩ := h; rfl) | (obtain ⟨_, _, _, _, rfl, _⟩ := h; rfl) | (obtain ⟨_, _, _, _, _, rfl, _⟩ := h; rfl) | (obtain ⟨_, _, _, _, _, _, rfl, _⟩ := h; rfl) | (obtain ⟨_, _, _, _, _, _, _, rfl, _⟩ := h; rfl) | (obtain ⟨_, _, _, _, _, _, _, _, rfl, _⟩ := h; rfl) | (obtain ⟨_, _, _, _, _, _, _, _, _, rfl, _⟩ := h; rfl) | (obtain ⟨_, _, _, _, _, _, _, _, _, _, rfl, _⟩ := h; rfl) | (obtain ⟨_, _, _, _, _, _, _, _, _, _, _, rfl, _⟩ := h; rfl) | (obtain ⟨_, _, _, _, _, _, _, _, _, _, _, _, rfl, _⟩ := h; rfl) | (obtain ⟨_, _, _, _, _, _, _, _, _, _, _, _, _, rfl, _⟩ := h; rfl) | (obtain ⟨_, _, _, _, _, _, _, _, _, _, _, _, _, _, rfl, _⟩ := h; rfl) | (obtain ⟨_, _, _, _, _, _, _, _, _, _, _, _, _, _, _, rfl, _⟩ := h; rfl))
  · obtain ⟨p, h, fp, x, rfl, hA, rd, hx, k1, k2, k3, k4⟩ := h
    have hu := hu_of hr
    refine ⟨_, (pss_cons (ps_expr (by exact pe_m m_H_need_name h_H.cl hr (by decide) (fun σ => passAt (takes_of rfl rfl rfl rfl) σ) (pv 0) (pa_cons (pv 1) pa_nil)))
      (C8.pss_cut (ps_if (pt_cmp (pc_dnotin hu (pv 1) (pe_fld (pv 0) rfl))) (pss_one (ps_expr (by exact pe_m m_H_rest h_H.cl hr (by decide) (fun σ => passAt (takes_of rfl rfl rfl rfl) σ) (pv 0) (pa_cons (pv 1) pa_nil)))) (pss_one (ps_if (pt_truth (by exact pe_m0 m_W_names T.clW hr (by decide) (fun σ => passAt (takes_of rfl rfl rfl rfl) σ) (pe_dget hu (pe_fld (pv 0) rfl) (pv 1) (fun _ _ => rfl))) (by intro _; rfl)) (pss_one (ps_rs rfl (takes_of rfl rfl rfl rfl) r_Y.t r_Y.g (by rfl))) (pss_one (ps_ddel (pe_fld (pv 0) rfl) (pv 1))))))
      (pss_cons (ps_expr (by exact pe_m m_W_leave T.clW hr (by decide) (fun σ => passAt (takes_of rfl rfl rfl rfl) σ) (by exact pe_m m_H_wheel_around h_H.cl hr (by decide) (fun σ => passAt (takes_of rfl rfl rfl rfl) σ) (pv 0) (pa_cons (pv 1) pa_nil)) (pa_cons (pv 1) pa_nil)))
      (pss_one (ps_ddel (pe_fld (pv 0) rfl) (pv 1)))))), ?_⟩
    obtain ⟨da, dw, es, e1, rfl, i, o⟩ := id hA
    obtain ⟨dx, hp⟩ := i.ob
    refine ⟨_, rfl, p, dx, _, rfl, hp, hf_no _ _, _, rfl, p, h, _, x, rfl, hA, hx, fun n a en ea => ?_, k1⟩
    subst en
    obtain ⟨W, ew⟩ := o.aw n a ea
    obtain ⟨y, hy, yn⟩ := (o.sub a W n ew).mpr ea
    -- behind the first part: a house h1 in the heap but that the team's wheel is gone
    refine ⟨fun σ' H' => ∃ h1 dw1 da1 es1 W1 fp1, σ' = [some (.ref p), some (.str n)] ∧ HIn CH CW CS H' p da1 dw1 h1.ab (dropE es1 n) ∧ h1.wh = ws es1 ∧ HOk h1 ∧ h1.ab = h.ab ∧ lk h1.wh a = some W1 ∧ (∀ x ∈ W1.rows, x.n = n → x.r = false) ∧ (∀ m, lk h1.ab m ≠ some n) ∧ Rd h1 "" ∧ Step (hfp p da dw es) H (hfp p da1 dw1 (dropE es1 n)) H' ∧
      (∀ H'' fp', HAt CH CW CS H'' p (leaveN h1 n a W1) fp' → Rd (leaveN h1 n a W1) "" → Step (hfp p da dw es) H fp' H'' → Q .non H'') ∧ fp1 = hfp p da1 dw1 (dropE es1 n), ?_, ?_⟩
    · have ev : (valV (kvn V.ref (qs es)) (Sum.inr n : Key)) = (lk (qs es) n).map V.ref := kvn_val
      cases en : lk h.wh n with
      | none =>
        refine ⟨_, rfl, _, rfl, p, CH, dx, _, _, rfl, hp, h_H.cl, h_H.aWh, hf_wh _ _, dw, none, rfl, .inl ⟨_, Sum.inr n, .inl i.hdw, rfl, (by rw [ev, lk_qs_none (by rw [← e1]; exact en)] <;> rfl)⟩, _, rfl, iteT ?_⟩
        have no : ∀ m, lk h.ab m ≠ some n := fun m z => by
          obtain ⟨U, u⟩ := o.aw m n z
          rw [en] at u
          cases u
        have after : ∀ {H' : Hp} {h1 : Hs} {fp1 : List Addr} {W1 : WhS}, HAt CH CW CS H' p h1 fp1 → Rd h1 "" → h1.ab = h.ab → keys h1.wh = keys h.wh → lk h1.wh a = some W1 → (∀ x ∈ W1.rows, x.n = n → x.r = false) → Step (hfp p da dw es) H fp1 H' → (y.r = false ∧ h1 = h ∨ y.r = true ∧ RestUp h n h1) →
            ∃ h1 dw1 da1 es1 W1 fp1, [some (V.ref p), some (V.str n)] = [some (.ref p), some (.str n)] ∧ HIn CH CW CS H' p da1 dw1 h1.ab (dropE es1 n) ∧ h1.wh = ws es1 ∧ HOk h1 ∧ h1.ab = h.ab ∧ lk h1.wh a = some W1 ∧ (∀ x ∈ W1.rows, x.n = n → x.r = false) ∧ (∀ m, lk h1.ab m ≠ some n) ∧ Rd h1 "" ∧ Step (hfp p da dw es) H (hfp p da1 dw1 (dropE es1 n)) H' ∧
              (∀ H'' fp', HAt CH CW CS H'' p (leaveN h1 n a W1) fp' → Rd (leaveN h1 n a W1) "" → Step (hfp p da dw es) H fp' H'' → Q .non H'') ∧ fp1 = hfp p da1 dw1 (dropE es1 n) := fun {H' h1 fp1 W1} hA1 rd1 eab ek ew1 nr st cs => by
          obtain ⟨da1, dw1, es1, g1, rfl, i1, o1⟩ := hA1
          have dn : dropE es1 n = es1 := dropE_none (by
            rw [← g1]
            exact lk_none_iff.mpr fun z => lk_none_iff.mp en (by rw [← ek]; exact z))
          refine ⟨h1, dw1, da1, es1, W1, _, rfl, by rw [dn]; exact i1, g1, o1, eab, ew1, nr, by rw [eab]; exact no, rd1, by rw [dn]; exact st, fun H'' fp' q1 q2 q3 => k4 n a W y h1 W1 rfl ea en ew hy yn cs ew1 H'' fp' q1 q2 q3, rfl⟩
        refine ⟨_, rfl, p, dx, _, rfl, hp, hf_no _ _, _, rfl, p, h, _, .str n, rfl, hA, rd, .str n, fun no2 => (no2 n a rfl ea).elim, fun n' a' W' e' _ w' => ?_, fun n' a' W' y' e' ea' en' ew' hy' yn' => ?_⟩
        · cases e'
          rw [en] at w'
          cases w'
        · cases e'
          rw [ea] at ea'
          cases ea'
          rw [ew] at ew'
          cases ew'
          cases Wm.row_of_name (o.ok _ _ ew).nd hy' hy (yn'.trans yn.symm)
          refine ⟨fun yr H' hA' st' => ?_, fun yr H' fp' h' u hA' rd' st' => ?_⟩
          · exact after hA' rd rfl rfl ew (fun x hx xn => by cases Wm.row_of_name (o.ok _ _ ew).nd hx hy (xn.trans yn.symm); exact yr) st' (.inl ⟨yr, rfl⟩)
          · obtain ⟨_, _, u3, u4⟩ := rest_up u o rd.weak fun Wn q => by rw [en] at q; cases q
            exact after hA' rd' u3 u4 (rest_at u o ea ew) rest_own.1 st' (.inr ⟨yr, u⟩)
      | some U =>
        obtain ⟨e, he, et, eU, eq⟩ := lk_qs (es := es) (by rw [← e1]; exact en)
        have we := i.hws e he
        rw [eU] at we
        obtain ⟨dxe, de, hqe⟩ := we.at
        refine ⟨_, rfl, _, rfl, p, CH, dx, _, _, rfl, hp, h_H.cl, h_H.aWh, hf_wh _ _, dw, some (.ref e.q), rfl, .inl ⟨_, Sum.inr n, .inl i.hdw, rfl, (by rw [ev, eq] <;> rfl)⟩, _, rfl, iteF ?_⟩
        refine ⟨_, rfl, p, CH, dx, _, _, rfl, hp, h_H.cl, h_H.aWh, hf_wh _ _, _, rfl, dw, _, rfl, .inl ⟨_, Sum.inr n, .inl i.hdw, rfl, by rw [ev, eq]; rfl⟩, e.q, dxe, _, rfl, hqe, wf_m, e.q, U, e.fp, rfl, we, fun l hl => ?_⟩
        have s1 : Same H (upd H l (.lst (U.rows.map fun x => V.str x.n))) := same_upd hl
        cases eur : U.rows with
        | cons r0 rs =>
          refine ⟨_, .inl ⟨_, SqL.of upd_same, rfl⟩, iteT ?_⟩
          rw [eur] at s1
          exact k2 n a U rfl ea en (by rw [eur]; intro z; cases z) _ s1
        | nil =>
          refine ⟨_, .inl ⟨_, SqL.of upd_same, rfl⟩, iteF ?_⟩
          rw [eur] at s1
          generalize upd H l (.lst (([] : List RowS).map fun x => V.str x.n)) = H1 at s1 ⊢
          have i1 := i.keep fun b _ o' e' => s1 b o' e'
          obtain ⟨dx1, hp1⟩ := i1.ob
          have no : ∀ m, lk h.ab m ≠ some n := fun m z => by
            obtain ⟨x, hx, _⟩ := (o.sub n U m en).mpr z
            rw [eur] at hx
            cases hx
          obtain ⟨i2, st2⟩ := i1.drop n
          have yr : ∀ x ∈ W.rows, x.n = n → x.r = false := fun x hx xn => by
            have := rd n U a W en (o.ne_top ea) (o.ne_top ea) ea ew x hx xn
            cases exr : x.r with
            | false => rfl
            | true =>
              obtain ⟨z, hz, _⟩ := this.mp exr
              rw [eur] at hz
              cases hz
          refine ⟨_, rfl, p, CH, dx1, _, _, rfl, hp1, h_H.cl, h_H.aWh, hf_wh _ _, _, rfl, dw, _, Sum.inr n, rfl, i1.hdw, rfl, by rw [ev, eq]; rfl, ?_⟩
          exact ⟨h, dw, da, es, W, _, rfl, i2, e1, o, rfl, ew, yr, no, rd, (Step.same s1).trans st2, fun H'' fp' q1 q2 q3 => k3 n a U W rfl ea en eur ew H'' fp' q1 q2 q3, rfl⟩
    · rintro σ' H' ⟨h1, dw1, da1, es1, W1, fp1, rfl, i1, g1, o1, eab, ew1, nr, no, rd1, st, fin, rfl⟩
      have ea1 : lk h1.ab n = some a := by rw [eab]; exact ea
      have na := o1.ne_above ea1
      have nd1 : (keys (ws (dropE es1 n))).Nodup := by
        rw [dropE_ws, ← g1]
        exact keys_dp_nd o1.k2 n
      obtain ⟨e, he, et, eW, eq⟩ := lk_qs (es := dropE es1 n) (t := a) (W := W1) (by rw [dropE_ws, ← g1, lk_dp_ne na.symm]; exact ew1)
      obtain ⟨dx1, hp1⟩ := i1.ob
      have we := i1.hws e he
      rw [eW] at we
      obtain ⟨dxe, de, hqe⟩ := we.at
      obtain ⟨y1, hy1, yn1⟩ := (o1.sub a W1 n ew1).mpr ea1
      refine ⟨_, rfl, p, dx1, _, rfl, hp1, hf_no _ _, _, rfl, p, da1, dw1, h1.ab, dropE es1 n, n, a, e.q, rfl, i1, ea1, eq, e.q, dxe, _, rfl, hqe, wf_m, _, rfl, e.q, W1, e.fp, n, rfl, we, fun z => (z ⟨y1, hy1, yn1⟩).elim, fun _ H2 fp2 w2 st2 => ?_⟩
      obtain ⟨i2, st3⟩ := i1.move nd1 he w2 st2
      obtain ⟨i3, st4⟩ := i2.above (dp h1.ab n)
      obtain ⟨dx2, hp2⟩ := i2.ob
      refine ⟨_, rfl, p, CH, dx2, _, _, rfl, hp2, h_H.cl, h_H.aAb, hf_ab _ _, _, rfl, da1, _, Sum.inr n, rfl, i2.hda, rfl, by rw [kvn_val, ea1]; rfl, ?_⟩
      rw [kvn_drop]
      refine fin _ _ ⟨da1, dw1, _, ?_, rfl, i3, o1.leaveN ea1 ew1 no⟩ (rd1.leaveN o1 ea1 ew1 nr) ((st.trans st3).trans st4)
      show pt (dp h1.wh n) a (Wm.leave W1 n) = ws (mvE (dropE es1 n) e.t (Wm.leave W1 n) fp2)
      rw [mvE_ws, dropE_ws, ← g1, et]
theorem sc_H_init : FnScope ["self"] ["self"] (defScope sHouse_init) := ⟨rfl, rfl, rfl, by decide +kernel, rfl, by decide +kernel, by decide +kernel⟩
theorem ok_H_init {f : Addr} {fd : FuncData} (F : Fun K "__init__" "House.__init__" sHouse_init f fd) (T : WT K mg CS CW CB CT CN) (L : LT mg) (h_H : HT K mg CH) (k_Wheel : KOk P w K mg base 1 "Wheel" CW ["self"] (spWInit CW CS)) :
    FnOk P w K mg base (L2.CX P w) 3 f fd ["self"] (spHInit CH CW CS) := by
  refine okN F sc_H_init (fun vs H Q E h => ?_) (fun cdv A outer s H vs Q E hr h => ?_)
  · (first | (obtain ⟨_, rfl, _⟩ := h; rfl) | (obtain ⟨_, _, rfl, _⟩ := h; rfl) | (obtain ⟨_, _, _, rfl, _⟩ := h; rfl) | (obtain ⟨_, _, _, _, rfl, _⟩ := h; rfl) | (obtain ⟨_, _, _, _, _, rfl, _⟩ := h; rfl) | (obtain ⟨_, _, _, _, _, _, rfl, _⟩ := h; rfl) | (obtain ⟨_, _, _, _, _, _, _, rfl, _⟩ := h; rfl) | (obtain ⟨_, _, _, _, _, _, _, _, rfl, _⟩ := h; rfl) | (obtain ⟨_, _, _, _, _, _, _, _, _, rfl, _⟩ := h; rfl) | (obtain ⟨_, _, _, _, _, _, _, _, _, _, rfl, _⟩ := h; rfl) | (obtain ⟨_, _, _, _, _, _, _, _, _, _, _, rfl, _⟩ := h; rfl) | (obtain ⟨_, _, _, _, _, _, _, _, _, _, _, _, rfl, _⟩ := h; rfl) | (obtain ⟨_, _, _, _, _, _, _, _, _, _, _, _, _, rfl, _⟩ := h; rfl) | (obtain ⟨_, _, _, _, _, _, _, _, _, _, _, _, _, _, rfl, _⟩ := h; rfl) | (obtain ⟨_, _, _, _, _, _, _, _, _, _, _, _, _, _, _, rfl, _⟩ := h; rfl))
  · obtain ⟨p, dx, rfl, hp, k⟩ := h
    obtain ⟨tTop, mTop⟩ := h_H.top
    refine ⟨_, (pss_cons (ps_fld (pv 0) pe_dnewK rfl)
      (pss_one (ps_fld (pv 0) (pe_disp (pps_cons (pe_glob (v := .str "") rfl mTop ⟨_, rfl⟩) (by exact pe_k0 k_Wheel hr (by decide) (by rfl)) pps_nil) rfl rfl (by intro z; cases z) (by decide)) rfl))), ?_⟩
    intro da hda
    have pda : p ≠ da := ne_of_none hp hda
    refine ⟨_, rfl, p, CH, dx, [], rfl, (by rw [upd_ne pda]; exact hp), h_H.cl, h_H.aAb, (by show 0 < 1000; decide), ?_⟩
    intro dw hdw q dxq hxq hdq _
    refine mk_wheel hxq hdq fun H2 fp0 w2 s2 fr => ?_
    have pdw : p ≠ dw := ne_of_none upd_same hdw
    have dadw : da ≠ dw := ne_of_none (show upd (upd H da (.dK [])) p _ da = _ by rw [upd_ne pda.symm]; exact upd_same) hdw
    have e1 : H2 dw = some (.dK []) := s2 _ _ upd_same
    have e2 : H2 p = some (.ins CH dx (putF "_above" (.ref da) [])) := s2 _ _ (by rw [upd_ne pdw]; exact upd_same)
    have e3 : H2 da = some (.dK []) := s2 _ _ (by rw [upd_ne dadw, upd_ne pda.symm]; exact upd_same)
    have nf : ∀ b, (∃ o, upd (upd (upd H da (.dK [])) p (.ins CH dx (putF "_above" (.ref da) []))) dw (.dK []) b = some o) → b ∉ fp0 := fun b ⟨o, e⟩ hb => by
      have := fr b hb
      rw [e] at this
      cases this
    refine ⟨rfl, e1, [(Sum.inr "", .ref q)], rfl, (by show 1 ≤ 15; decide), _, rfl, p, CH, dx, _, rfl, by rw [upd_ne pdw]; exact e2, h_H.cl, h_H.aWh, (by show 1 < 1000; decide), ?_⟩
    have n1 : p ∉ fp0 := nf p ⟨_, by rw [upd_ne pdw]; exact upd_same⟩
    have n2 : da ∉ fp0 := nf da ⟨_, by rw [upd_ne dadw, upd_ne pda.symm]; exact upd_same⟩
    have n3 : dw ∉ fp0 := nf dw ⟨_, upd_same⟩
    refine k _ (hfp p da dw [⟨"", ⟨0, []⟩, q, fp0⟩]) ⟨da, dw, [⟨"", ⟨0, []⟩, q, fp0⟩], rfl, rfl, ⟨⟨dx, ?_⟩, ?_, ?_, fun e he => ?_, List.pairwise_singleton _ _, fun e he => ?_, dadw⟩, H0_ok⟩ (fun b o e hb => ?_) fun b hb => ?_
    · rw [upd_same]
      show some (HO.ins CH dx (putF "_wheels" (.ref dw) [("_above", .ref da)])) = _
      rw [pf_ne n_aw, pf_nil]
      rfl
    · rw [upd_ne pda.symm, upd_ne dadw]
      exact e3
    · rw [upd_ne pdw.symm, upd_same]
      rfl
    · rw [List.mem_singleton.mp he]
      exact w2.keep fun b hb o e => by
        rw [upd_ne (fun z => n1 (by rw [← z]; exact hb)), upd_ne (fun z => n3 (by rw [← z]; exact hb))]
        exact e
    · rw [List.mem_singleton.mp he]
      exact ⟨n1, n2, n3⟩
    · have bda : b ≠ da := fun z => by rw [z, hda] at e; cases e
      have ea : upd (upd H da (.dK [])) p (.ins CH dx (putF "_above" (.ref da) [])) b = some o := by rw [upd_ne hb, upd_ne bda]; exact e
      have bdw : b ≠ dw := ne_of_none ea hdw
      rw [upd_ne hb, upd_ne bdw]
      exact s2 _ _ (by rw [upd_ne bdw]; exact ea)
    · have back : ∀ c, c ≠ p → c ≠ da → H c ≠ none → upd (upd (upd H da (.dK [])) p (.ins CH dx (putF "_above" (.ref da) []))) dw (.dK []) c ≠ none := fun c c1 c2 c3 => by
        by_cases c4 : c = dw
        · rw [c4, upd_same]
          intro z
          cases z
        · rw [upd_ne c4, upd_ne c1, upd_ne c2]
          exact c3
      rcases List.mem_cons.mp hb with rfl | hb
      · exact .inl rfl
      rcases List.mem_cons.mp hb with rfl | hb
      · exact .inr hda
      rcases List.mem_cons.mp hb with rfl | hb
      · right
        rw [upd_ne pdw.symm, upd_ne dadw.symm] at hdw
        exact hdw
      obtain ⟨e, he, hb⟩ := List.mem_flatMap.mp hb
      rw [List.mem_singleton.mp he] at hb
      right
      cases q0 : H b with
      | none => rfl
      | some o =>
        exact (back b (fun z => n1 (by rw [← z]; exact hb)) (fun z => n2 (by rw [← z]; exact hb)) (by rw [q0]; intro z; cases z) (fr b hb)).elim
theorem sc_H_settle : FnScope ["self", "name", "above", "share"] ["self", "name", "above", "share"] (defScope sHouse_settle) := ⟨rfl, rfl, rfl, by decide +kernel, rfl, by decide +kernel, by decide +kernel⟩
theorem ok_H_settle {f : Addr} {fd : FuncData} (F : Fun K "_settle" "House._settle" sHouse_settle f fd) (T : WT K mg CS CW CB CT CN) (L : LT mg) (g_is_name : DOk P w K mg base 2 "is_name" ["thing"] (spIsName Pt)) (h_H : HT K mg CH) (m_H_need_team : MOk P w K mg base 2 CH "_need_team" ["self", "team"] (spNeedTeam CH CW CS CM)) (m_W_enter : MOk P w K mg base 3 CW "enter" ["self", "name", "share"] (spEnter CW CS CB CT)) (r_A : ErT K mg "BadName" CA) :
    FnOk P w K mg base (L2.CX P w) 5 f fd ["self", "name", "above", "share"] (spSettle Pt CH CW CS CB CT CA CM) := by
  refine F.okX sc_H_settle (fun vs H Q E h => ?_) (fun cdv A outer s H vs Q E hr h => ?_)
  · (first | (obtain ⟨_, rfl, _⟩ := h; rfl) | (obtain ⟨_, _, rfl, _⟩ := h; rfl) | (obtain ⟨_, _, _, rfl, _⟩ := h; rfl) | (obtain ⟨_, _, _, _, rfl, _⟩ := h; rfl) | (obtain ⟨_, _, _, _, _, rfl, _⟩ := h; rfl) | (obtain ⟨_, _, _, _, _, _, rfl, _⟩ := h; rfl) | (obtain ⟨_, _, _, _, _, _, _, rfl, _⟩ := h; rfl) | (obtain ⟨_, _, _, _, _, _, _, _, rfl, _⟩ := h; rfl) | (obtain ⟨_, _, _, _, _, _, _, _, _, rfl, _⟩ := h; rfl) | (obtain ⟨_, _, _, _, _, _, _, _, _, _, rfl, _⟩ := h; rfl) | (obtain ⟨_, _, _, _, _, _, _, _, _, _, _, rfl, _⟩ := h; rfl) | (obtain ⟨_, _, _, _, _, _, _, _, _, _, _, _, rfl, _⟩ := h; rfl) | (obtain ⟨_, _, _, _, _, _, _, _, _, _, _, _, _, rfl, _⟩ := h; rfl) | (obtain ⟨_, _, _, _, _, _, _, _, _, _, _, _, _, _, rfl, _⟩ := h; rfl) | (obtain ⟨_, _, _, _, _, _, _, _, _, _, _, _, _, _, _, rfl, _⟩ := h; rfl))
  · obtain ⟨p, h, fp, x, ab, s, rfl, hA, hx, hab, hs, hT, nP, hz, hlen, habl, k⟩ := h
    have hu := hu_of hr
    refine ⟨_, (pss_cons (ps_if (pt_not (pt_val (by exact pe_f g_is_name hr (by decide) (by rfl) (fun σ => passAt (takes_of rfl rfl rfl rfl) σ) (pa_cons (pv 1) pa_nil)))) (pss_one (ps_rs rfl (takes_of rfl rfl rfl rfl) r_A.t r_A.g (by rfl))) pss_nil)
      (pss_cons (ps_if (pt_cmp (pc_din hu (pv 1) (pe_fld (pv 0) rfl))) (pss_one (ps_rs rfl (takes_of rfl rfl rfl rfl) T.eT T.gT (by rfl))) pss_nil)
      (pss_cons (ps_expr (by exact pe_m m_H_need_team h_H.cl hr (by decide) (fun σ => passAt (takes_of rfl rfl rfl rfl) σ) (pv 0) (pa_cons (pv 2) pa_nil)))
      (pss_cons (ps_expr (by exact pe_m m_W_enter T.clW hr (by decide) (fun σ => passAt (takes_of rfl rfl rfl rfl) σ) (pe_dget hu (pe_fld (pv 0) rfl) (pv 2) (fun _ _ => rfl)) (pa_cons (pv 1) (pa_cons (pv 3) pa_nil))))
      (pss_one (ps_asg (pv 2) (pg_sub (pe_fld (pv 0) rfl) (pv 1) (set_dict hu)))))))), ?_⟩
    refine ⟨_, rfl, x, rfl, hx, hT, hz, fun H1 hc => ?_⟩
    have thk : ∀ y, Th H y → Th H1 y := fun y hy => by
      cases hy with
      | int i => exact .int i
      | bl b => exact .bl b
      | non => exact .non
      | str z => exact .str z
      | @lst a xs e =>
        rcases hc with rfl | hc
        · exact .lst e
        · refine .lst (xs := xs) ?_
          rw [hc.2 a fun z => ?_]
          · exact e
          · obtain ⟨ps, q, _⟩ := hT
            rw [z, q] at e
            cases e
    have hA1 : HAt CH CW CS H1 p h fp := hA.keep fun b hb o e => by
      rcases hc with rfl | hc
      · exact e
      · rw [hc.2 b fun z => nP (by rw [← z]; exact hb)]
        exact e
    obtain ⟨k1, k2⟩ := k H1 hc
    cases en : isNm x with
    | false => exact ⟨_, rfl, iteT (k1 en)⟩
    | true =>
      refine ⟨_, rfl, iteF ?_⟩
      obtain ⟨n, rfl⟩ : ∃ n, x = .str n := by
        cases x with
        | str n => exact ⟨n, rfl⟩
        | _ => cases en
      obtain ⟨k3, k4⟩ := k2 n rfl en
      obtain ⟨da, dw, es, e1, ef, i, o⟩ := id hA1
      obtain ⟨dx, hp⟩ := i.ob
      cases ea : lk h.ab n with
      | some a =>
        refine ⟨_, rfl, _, rfl, p, CH, dx, _, _, rfl, hp, h_H.cl, h_H.aAb, hf_ab _ _, da, some (.str a), rfl, .inl ⟨_, Sum.inr n, .inl i.hda, rfl, (by rw [kvn_val, ea] <;> rfl)⟩, _, rfl, iteT (k3 (by rw [ea]; intro z; cases z))⟩
      | none =>
        refine ⟨_, rfl, _, rfl, p, CH, dx, _, _, rfl, hp, h_H.cl, h_H.aAb, hf_ab _ _, da, none, rfl, .inl ⟨_, Sum.inr n, .inl i.hda, rfl, (by rw [kvn_val, ea] <;> rfl)⟩, _, rfl, iteF ?_⟩
        obtain ⟨k5, k6⟩ := k4 ea
        refine ⟨_, rfl, p, dx, _, rfl, hp, hf_no _ _, _, rfl, p, h, fp, ab, rfl, hA1, thk _ hab, fun t W et eW => ?_, k5⟩
        subst et
        obtain ⟨k7, k8⟩ := k6 t W rfl eW
        obtain ⟨e, he, ett, eWe, eq⟩ := lk_qs (es := es) (by rw [← e1]; exact eW)
        have we := i.hws e he
        rw [eWe] at we
        obtain ⟨dxe, de, hqe⟩ := we.at
        have nh : ¬ Has W n := fun z => by
          have := (o.sub t W n eW).mp z
          rw [ea] at this
          cases this
        have nn : n ≠ "" := fun z => by rw [z] at en; cases en
        refine ⟨_, rfl, p, CH, dx, _, _, rfl, hp, h_H.cl, h_H.aWh, hf_wh _ _, _, rfl, dw, _, rfl, .inl ⟨_, Sum.inr t, .inl i.hdw, rfl, by rw [kvn_val, eq]; rfl⟩, e.q, dxe, _, rfl, hqe, wf_m, _, rfl, _, rfl, e.q, W, e.fp, n, s, rfl, we, hlen t W eW, thk _ hs, fun z => (nh z).elim, fun _ z => k7 z, fun _ iv ei i1 i2 H2 fp2 w2 st2 => ?_⟩
        have nd : (keys (ws es)).Nodup := by rw [← e1]; exact o.k2
        obtain ⟨i2', st3⟩ := i.move nd he w2 st2
        obtain ⟨dx2, hp2⟩ := i2'.ob
        obtain ⟨i3, st4⟩ := i2'.above (h.ab ++ [(n, t)])
        have hput : DPut H2 da (.str n) (.str t) (upd H2 da (.dK (kvn V.str (h.ab ++ [(n, t)])))) := .inl ⟨_, Sum.inr n, i2'.hda, rfl, by rw [kvn_len]; exact small1000 (by omega), by rw [kvn_new t ea]⟩
        refine ⟨_, rfl, _, rfl, p, CH, dx2, _, _, rfl, hp2, h_H.cl, h_H.aAb, hf_ab _ _, _, rfl, da, _, rfl, hput, ?_⟩
        rw [ef] at k8
        refine k8 iv ei i1 i2 _ _ ⟨da, dw, _, ?_, rfl, i3, o.enterH ea nn eW i1 i2⟩ (st3.trans st4)
        show pt h.wh t (Wm.enter W n iv) = ws (mvE es e.t (Wm.enter W n iv) fp2)
        rw [mvE_ws, e1, ett]
theorem sc_H_hand : FnScope ["self", "name", "above", "share"] ["self", "name", "above", "share"] (defScope sHouse_hand) := ⟨rfl, rfl, rfl, by decide +kernel, rfl, by decide +kernel, by decide +kernel⟩
theorem ok_H_hand {f : Addr} {fd : FuncData} (F : Fun K "hand" "House.hand" sHouse_hand f fd) (T : WT K mg CS CW CB CT CN) (L : LT mg) (h_H : HT K mg CH) (m_H_settle : MOk P w K mg base 5 CH "_settle" ["self", "name", "above", "share"] (spSettle Pt CH CW CS CB CT CA CM)) :
    FnOk P w K mg base (L2.CX P w) 6 f fd ["self", "name", "above", "share"] (spSettle Pt CH CW CS CB CT CA CM) := by
  refine F.okX sc_H_hand (fun vs H Q E h => ?_) (fun cdv A outer s H vs Q E hr h => ?_)
  · (first | (obtain ⟨_, rfl, _⟩ := h; rfl) | (obtain ⟨_, _, rfl, _⟩ := h; rfl) | (obtain ⟨_, _, _, rfl, _⟩ := h; rfl) | (obtain ⟨_, _, _, _, rfl, _⟩ := h; rfl) | (obtain ⟨_, _, _, _, _, rfl, _⟩ := h; rfl) | (obtain ⟨_, _, _, _, _, _, rfl, _⟩ := h; rfl) | (obtain ⟨_, _, _, _, _, _, _, rfl, _⟩ := h; rfl) | (obtain ⟨_, _, _, _, _, _, _, _, rfl, _⟩ := h; rfl) | (obtain ⟨_, _, _, _, _, _, _, _, _, rfl, _⟩ := h; rfl) | (obtain ⟨_, _, _, _, _, _, _, _, _, _, rfl, _⟩ := h; rfl) | (obtain ⟨_, _, _, _, _, _, _, _, _, _, _, rfl, _⟩ := h; rfl) | (obtain ⟨_, _, _, _, _, _, _, _, _, _, _, _, rfl, _⟩ := h; rfl) | (obtain ⟨_, _, _, _, _, _, _, _, _, _, _, _, _, rfl, _⟩ := h; rfl) | (obtain ⟨_, _, _, _, _, _, _, _, _, _, _, _, _, _, rfl, _⟩ := h; rfl) | (obtain ⟨_, _, _, _, _, _, _, _, _, _, _, _, _, _, _, rfl, _⟩ := h; rfl))
  · obtain ⟨p, h, fp, x, ab, s, rfl, hA, hx, hab, hs, hT, nP, hz, hlen, habl, k⟩ := h
    have hu := hu_of hr
    obtain ⟨da, dw, es, e1, ef, i, o⟩ := id hA
    obtain ⟨dx, hp⟩ := i.ob
    refine ⟨_, (pss_one (ps_expr (by exact pe_m m_H_settle h_H.cl hr (by decide) (fun σ => passAt (takes_of rfl rfl rfl rfl) σ) (pv 0) (pa_cons (pv 1) (pa_cons (pv 2) (pa_cons (pv 3) pa_nil)))))), ?_⟩
    exact ⟨_, rfl, p, dx, _, rfl, hp, hf_no _ _, _, rfl, _, rfl, _, rfl, p, h, fp, x, ab, s, rfl, hA, hx, hab, hs, hT, nP, hz, hlen, habl, k⟩
theorem sc_H_team : FnScope ["self", "name", "above", "share"] ["self", "name", "above", "share"] (defScope sHouse_team) := ⟨rfl, rfl, rfl, by decide +kernel, rfl, by decide +kernel, by decide +kernel⟩
theorem ok_H_team {f : Addr} {fd : FuncData} (F : Fun K "team" "House.team" sHouse_team f fd) (T : WT K mg CS CW CB CT CN) (L : LT mg) (h_H : HT K mg CH) (k_Wheel : KOk P w K mg base 1 "Wheel" CW ["self"] (spWInit CW CS)) (m_H_settle : MOk P w K mg base 5 CH "_settle" ["self", "name", "above", "share"] (spSettle Pt CH CW CS CB CT CA CM)) :
    FnOk P w K mg base (L2.CX P w) 6 f fd ["self", "name", "above", "share"] (spTeam Pt CH CW CS CB CT CA CM) := by
  refine F.okX sc_H_team (fun vs H Q E h => ?_) (fun cdv A outer s H vs Q E hr h => ?_)
  · (first | (obtain ⟨_, rfl, _⟩ := h; rfl) | (obtain ⟨_, _, rfl, _⟩ := h; rfl) | (obtain ⟨_, _, _, rfl, _⟩ := h; rfl) | (obtain ⟨_, _, _, _, rfl, _⟩ := h; rfl) | (obtain ⟨_, _, _, _, _, rfl, _⟩ := h; rfl) | (obtain ⟨_, _, _, _, _, _, rfl, _⟩ := h; rfl) | (obtain ⟨_, _, _, _, _, _, _, rfl, _⟩ := h; rfl) | (obtain ⟨_, _, _, _, _, _, _, _, rfl, _⟩ := h; rfl) | (obtain ⟨_, _, _, _, _, _, _, _, _, rfl, _⟩ := h; rfl) | (obtain ⟨_, _, _, _, _, _, _, _, _, _, rfl, _⟩ := h; rfl) | (obtain ⟨_, _, _, _, _, _, _, _, _, _, _, rfl, _⟩ := h; rfl) | (obtain ⟨_, _, _, _, _, _, _, _, _, _, _, _, rfl, _⟩ := h; rfl) | (obtain ⟨_, _, _, _, _, _, _, _, _, _, _, _, _, rfl, _⟩ := h; rfl) | (obtain ⟨_, _, _, _, _, _, _, _, _, _, _, _, _, _, rfl, _⟩ := h; rfl) | (obtain ⟨_, _, _, _, _, _, _, _, _, _, _, _, _, _, _, rfl, _⟩ := h; rfl))
  · obtain ⟨p, h, fp, x, ab, s, rfl, hA, hx, hab, hs, hT, nP, hz, hlen, habl, k⟩ := h
    have hu := hu_of hr
    obtain ⟨da, dw, es, e1, ef, i, o⟩ := id hA
    obtain ⟨dx, hp⟩ := i.ob
    refine ⟨_, (pss_cons (ps_expr (by exact pe_m m_H_settle h_H.cl hr (by decide) (fun σ => passAt (takes_of rfl rfl rfl rfl) σ) (pv 0) (pa_cons (pv 1) (pa_cons (pv 2) (pa_cons (pv 3) pa_nil)))))
      (pss_one (ps_asg (by exact pe_k0 k_Wheel hr (by decide) (by rfl)) (pg_sub (pe_fld (pv 0) rfl) (pv 1) (set_dict hu))))), ?_⟩
    refine ⟨_, rfl, p, dx, _, rfl, hp, hf_no _ _, _, rfl, _, rfl, _, rfl, p, h, fp, x, ab, s, rfl, hA, hx, hab, hs, hT, nP, hz, hlen, habl, fun H1 hc => ⟨(k H1 hc).1, fun n en e2 => ⟨((k H1 hc).2 n en e2).1, fun ea => ⟨(((k H1 hc).2 n en e2).2 ea).1, fun t W et eW => ⟨((((k H1 hc).2 n en e2).2 ea).2 t W et eW).1, fun iv ei i1 i2 H2 fp2 hA2 st2 => ?_⟩⟩⟩⟩⟩
    have k9 := ((((k H1 hc).2 n en e2).2 ea).2 t W et eW).2 iv ei i1 i2
    subst en et
    intro q dxq hxq hdq _
    refine mk_wheel hxq hdq fun H3 fp0 w3 s3 fr => ⟨rfl, ?_⟩
    have hA3 := hA2.same s3
    have apart : ∀ b ∈ fp0, b ∉ fp2 := fun b hb hb2 => by
      obtain ⟨o', e'⟩ := hA2.fpt b hb2
      have := fr b hb
      rw [e'] at this
      cases this
    obtain ⟨da3, dw3, es3, g1, rfl, i3, o3⟩ := hA3
    obtain ⟨dx3, hp3⟩ := i3.ob
    have nn : n ≠ "" := fun z => by rw [z] at e2; cases e2
    have nt := hA.ok.no_team ea nn
    have tn : n ≠ t := fun z => by rw [← z, nt] at eW; cases eW
    have en1 : lk (enterH h n t W iv).wh n = none := (lk_pt_ne tn).trans nt
    have ea1 : lk (enterH h n t W iv).ab n = some t := lk_app_new ea
    have no1 : ∀ m, lk (enterH h n t W iv).ab m ≠ some n := fun m z => by
      obtain ⟨U, u⟩ := o3.aw m n z
      rw [en1] at u
      cases u
    have hq3 : lk (qs es3) n = none := lk_qs_none (by rw [← g1]; exact en1)
    have wl : (qs es3).length ≤ 902 := by
      have nd : (keys (ws es3)).Nodup := by rw [← g1]; exact o3.k2
      have := nodup_sub (keys (ws es3)) ("" :: keys (enterH h n t W iv).ab) nd fun y hy => by
        rw [← g1] at hy
        obtain ⟨U, u⟩ := key_lk hy
        rcases o3.wt y U u with z | ⟨a, z⟩
        · rw [z]
          exact List.mem_cons_self
        · exact List.mem_cons_of_mem _ (lk_some_key z)
      unfold keys ws qs enterH at *
      simp only [List.length_map, List.length_cons, List.length_append, List.length_nil] at this ⊢
      omega
    have hput : DPut H3 dw3 (.str n) (.ref q) (upd H3 dw3 (.dK (kvn V.ref (qs es3 ++ [(n, q)])))) := .inl ⟨_, Sum.inr n, i3.hdw, rfl, by rw [kvn_len]; exact small1000 (by omega), by rw [kvn_new q hq3]⟩
    have i4 := i3.add w3 apart (n := n)
    refine ⟨_, rfl, p, CH, dx3, _, _, rfl, hp3, h_H.cl, h_H.aWh, hf_wh _ _, _, rfl, dw3, _, rfl, hput, ?_⟩
    refine k9 _ _ ⟨da3, dw3, _, ?_, rfl, i4, o3.addT ea1 en1 no1⟩ (st2.trans ?_)
    · show pt h.wh t (Wm.enter W n iv) ++ _ = ws (es3 ++ _)
      unfold ws
      rw [List.map_append]
      exact congrArg (· ++ _) g1
    · refine ⟨fun b o' e' hb => ?_, fun b hb => ?_⟩
      · rw [upd_ne fun z => hb (by rw [z]; simp [hfp])]
        exact s3 b o' e'
      · rcases List.mem_cons.mp hb with rfl | hb
        · exact .inl List.mem_cons_self
        rcases List.mem_cons.mp hb with rfl | hb
        · exact .inl (by simp [hfp])
        rcases List.mem_cons.mp hb with rfl | hb
        · exact .inl (by simp [hfp])
        obtain ⟨e, he, hb⟩ := List.mem_flatMap.mp hb
        rcases List.mem_append.mp he with he | he
        · exact .inl (mem_hfp he hb)
        · rw [List.mem_singleton.mp he] at hb
          exact .inr (fr b hb)
end

/-! ### a house used by a law -/
section
variable {CH CW CS CB CT CN CM CA CD Pt : Addr}
theorem mk_house {E : XK} {H : Hp} {Q : VK} {x dx : Addr} (hx : H x = none) (hdx : H dx = none) (k : ∀ H' fp, HAt CH CW CS H' x H0 fp → Same H H' → (∀ b ∈ fp, H b = none) → Q .non H') : spHInit CH CW CS [.ref x] (upd (upd H dx (.own x)) x (.ins CH dx [])) Q E := by
  have sm : ∀ b o, H b = some o → upd (upd H dx (.own x)) x (.ins CH dx []) b = some o := fun b o e => by
    rw [upd_ne (ne_of_none e hx), upd_ne (ne_of_none e hdx)]
    exact e
  refine ⟨x, dx, rfl, upd_same, fun H' fp a k1 k2 => k H' fp a (fun b o e => k1 b o (sm b o e) (ne_of_none e hx)) fun b hb => ?_⟩
  rcases k2 b hb with rfl | z
  · exact hx
  · cases q : H b with
    | none => rfl
    | some o => rw [sm b o q] at z; cases z
theorem nm_len {n : Str} (h : isNm (.str n) = true) : n.length ≤ sizeLine := by
  have h : (decide (1 ≤ n.length) && decide (n.length ≤ 8) && n.cps.toList.all azB) = true := h
  rw [Bool.and_eq_true, Bool.and_eq_true] at h
  have := of_decide_eq_true h.1.2
  exact Nat.le_of_lt (small1000 (by omega))
theorem tab_out {H : Hp} {p : Addr} {h : Hs} {fp : List Addr} (hA : HAt CH CW CS H p h fp) (hT : GxR.TabG H Pt) : Pt ∉ fp := by
  obtain ⟨ps, e, _⟩ := hT
  exact hA.notin e (fun _ _ _ z => by cases z) fun _ z => by cases z
/-- what a table's move leaves -/
theorem tab_keep {H H1 : Hp} (hT : GxR.TabG H Pt) (c : H1 = H ∨ GxR.Tabbed Pt H H1) {b : Addr} {o : HO} (e : H b = some o) (n : ∀ ps, o ≠ .tbl ps) : H1 b = some o := by
  rcases c with rfl | ⟨_, c⟩
  · exact e
  · rw [c b fun z => ?_]
    · exact e
    · obtain ⟨ps, q, _⟩ := hT
      rw [← z, e] at q
      exact n ps (Option.some.inj q)
theorem tab_on {H H1 : Hp} (hT : GxR.TabG H Pt) (c : H1 = H ∨ GxR.Tabbed Pt H H1) : GxR.TabG H1 Pt := by
  rcases c with rfl | ⟨c, _⟩
  · exact hT
  · exact c
theorem tab_step {H H' : Hp} {p : Addr} {h : Hs} {fp fp' : List Addr} (hA : HAt CH CW CS H p h fp) (hT : GxR.TabG H Pt) (st : Step fp H fp' H') : GxR.TabG H' Pt := by
  have n := tab_out hA hT
  obtain ⟨ps, e, t⟩ := hT
  exact ⟨ps, st.kept _ _ e n, t⟩
theorem tab_upd {H : Hp} {t : Addr} {xs : List V} {o : HO} (hT : GxR.TabG H Pt) (e : H t = some (.lst xs)) : GxR.TabG (upd H t o) Pt := by
  obtain ⟨ps, q, z⟩ := hT
  refine ⟨ps, ?_, z⟩
  rw [upd_ne fun y => by rw [y, e] at q; cases q]
  exact q
theorem tab_same {H H' : Hp} (hT : GxR.TabG H Pt) (s : Same H H') : GxR.TabG H' Pt := by
  obtain ⟨ps, q, z⟩ := hT
  exact ⟨ps, s _ _ q, z⟩
theorem HAt.tab {H H1 : Hp} {p : Addr} {h : Hs} {fp : List Addr} (hA : HAt CH CW CS H p h fp) (hT : GxR.TabG H Pt) (c : H1 = H ∨ GxR.Tabbed Pt H H1) : HAt CH CW CS H1 p h fp :=
  hA.keep fun b hb o e => by
    rcases c with rfl | ⟨_, c⟩
    · exact e
    · rw [c b fun z => tab_out hA hT (by rw [← z]; exact hb)]
      exact e
theorem Rg.tab {α : Type} {f : α → List V} {H H1 : Hp} {lr : Addr} {ts : List Addr} {rows : List α} (R : Rg f H lr ts rows) (hT : GxR.TabG H Pt) (c : H1 = H ∨ GxR.Tabbed Pt H H1) : Rg f H1 lr ts rows := R.keep fun _ _ _ e => tab_keep hT c e fun _ z => by cases z
theorem Sc.tab {K : PySem.W.Frag} {H H1 : Hp} {a : Addr} {xs : List V} {S : List Addr} (s : Sc K H a xs S) (hT : GxR.TabG H Pt) (c : H1 = H ∨ GxR.Tabbed Pt H H1) : Sc K H1 a xs S := s.keep fun o k e n => ⟨tab_keep hT c e (fun _ z => by rcases k with rfl | ⟨_, rfl⟩ <;> cases z), n⟩
theorem Lk.fresh {rows : List HR} {h : Hs} (l : Lk rows h) {n : Str} (e : n ∉ rows.map (·.n)) : lk h.ab n = none := lk_none_iff.mpr (by rw [l.names]; exact e)
/-- a hand comes -/
theorem hand_use {H : Hp} {Q : VK} {E : XK} {p : Addr} {h : Hs} {fp : List Addr} {rows : List HR} {n a : Str} {W : WhS} {s : Int} (hA : HAt CH CW CS H p h fp) (rd : Rd h "") (l : Lk rows h) (hT : GxR.TabG H Pt) (nok : isNm (.str n) = true) (new : n ∉ rows.map (·.n)) (ea : lk h.wh a = some W)
    (s1 : 1 ≤ s) (s2 : s ≤ 12) (hl : rows.length ≤ 100) (k : ∀ H1 H' h' fp', (H1 = H ∨ GxR.Tabbed Pt H H1) → HAt CH CW CS H' p h' fp' → Rd h' "" → Lk (rows ++ [⟨n, a, s, false, false⟩]) h' → Step fp H1 fp' H' → h' = enterH h n a W s → Q .non H') :
    spSettle Pt CH CW CS CB CT CA CM [.ref p, .str n, .str a, .int s] H Q E := by
  have o := hA.ok
  have e := l.fresh new
  have nn := nm_ne nok
  refine ⟨p, h, fp, .str n, .str a, .int s, rfl, hA, .str n, .str a, .int s, hT, tab_out hA hT, (fun z ez => by cases ez; exact nm_len nok), fun t W e => ?_, by rw [l.len]; omega, fun H1 c => ⟨(fun z => by rw [nok] at z; cases z), fun n' en _ => ⟨fun z => ?_, fun _ => ⟨fun z => (z a W rfl ea).elim, fun t W' et eW => ⟨fun z => (good_share s1 s2 z).elim, fun i ei _ _ H' fp' hA' st => ?_⟩⟩⟩⟩⟩
  · have := o.len e
    rw [l.len] at this
    omega
  · cases en
    exact (z e).elim
  · cases en
    cases et
    cases ei
    rw [ea] at eW
    cases eW
    exact k H1 H' _ fp' c hA' (rd.enterH o e nn ea) (l.addH e ea s) st rfl
theorem Rd.enterT {h : Hs} (o : HOk h) (r : Rd h "") {n a : Str} {W : WhS} {s : Int} (e : lk h.ab n = none) (hn : n ≠ "") (ea : lk h.wh a = some W) (s1 : 1 ≤ s) (s2 : s ≤ 12) : Rd (Mine.enterT h n a W s) "" := by
  have nt := o.no_team e hn
  have na : a ≠ n := fun z => by rw [z, nt] at ea; cases ea
  have r1 := r.enterH o e hn ea (s := s)
  have o1 := o.enterH e hn ea s1 s2
  refine r1.addT (n := n) (a := a) (W := Wm.enter W n s) (lk_app_new e) (lk_pt ea) ((lk_pt_ne na.symm).trans nt) fun x hx xn => ?_
  rcases List.mem_append.mp hx with hx | hx
  · have := (o.sub a W n ea).mp ⟨x, hx, xn⟩
    rw [e] at this
    cases this
  · rw [List.mem_singleton.mp hx]
/-- a team comes -/
theorem team_use {H : Hp} {Q : VK} {E : XK} {p : Addr} {h : Hs} {fp : List Addr} {rows : List HR} {n a : Str} {W : WhS} {s : Int} (hA : HAt CH CW CS H p h fp) (rd : Rd h "") (l : Lk rows h) (hT : GxR.TabG H Pt) (nok : isNm (.str n) = true) (new : n ∉ rows.map (·.n)) (ea : lk h.wh a = some W)
    (s1 : 1 ≤ s) (s2 : s ≤ 12) (hl : rows.length ≤ 100) (k : ∀ H1 H' h' fp', (H1 = H ∨ GxR.Tabbed Pt H H1) → HAt CH CW CS H' p h' fp' → Rd h' "" → Lk (rows ++ [⟨n, a, s, true, false⟩]) h' → Step fp H1 fp' H' → h' = Mine.enterT h n a W s → Q .non H') :
    spTeam Pt CH CW CS CB CT CA CM [.ref p, .str n, .str a, .int s] H Q E := by
  have o := hA.ok
  have e := l.fresh new
  have nn := nm_ne nok
  refine ⟨p, h, fp, .str n, .str a, .int s, rfl, hA, .str n, .str a, .int s, hT, tab_out hA hT, (fun z ez => by cases ez; exact nm_len nok), fun t W e => ?_, by rw [l.len]; omega, fun H1 c => ⟨(fun z => by rw [nok] at z; cases z), fun n' en _ => ⟨fun z => ?_, fun _ => ⟨fun z => (z a W rfl ea).elim, fun t W' et eW => ⟨fun z => (good_share s1 s2 z).elim, fun i ei _ _ H' fp' hA' st => ?_⟩⟩⟩⟩⟩
  · have := o.len e
    rw [l.len] at this
    omega
  · cases en
    exact (z e).elim
  · cases en
    cases et
    cases ei
    rw [ea] at eW
    cases eW
    exact k H1 H' _ fp' c hA' (rd.enterT o e nn ea s1 s2) (l.addT e ea s) st rfl
theorem Lk.same_flag {rows : List HR} {h : Hs} (l : Lk rows h) {k : Nat} {x : HR} (hk : rows[k]? = some x) {v : Bool} (e : x.f = v) : Lk (rows.set k { x with f := v }) h := by
  have : ({ x with f := v } : HR) = x := by
    cases x
    cases e
    rfl
  rw [this, set_at hk]
  exact l
/-- a hand is woken -/
theorem wake_use {H : Hp} {Q : VK} {E : XK} {p : Addr} {h : Hs} {fp : List Addr} {rows : List HR} {k : Nat} {x : HR} (hA : HAt CH CW CS H p h fp) (rd : Rd h "") (l : Lk rows h) (hk : rows[k]? = some x) (xt : x.t = false)
    (q : ∀ H' h' fp' b, HAt CH CW CS H' p h' fp' → Rd h' "" → Lk (rows.set k { x with f := true }) h' → Step fp H fp' H' → (h' = h ∨ WakeUp h x.n h') → Q (.bl b) H') : spHWake CH CW CS CN CD [.ref p, .str x.n] H Q E := by
  have o := hA.ok
  have hx := List.mem_of_getElem? hk
  have ea := l.at o hx
  have nh := l.hand o hx xt
  have fl := l.fl x hx xt
  refine ⟨p, h, fp, .str x.n, rfl, hA, rd, .str _, fun z => (z x.n x.a rfl ea).elim, fun n a W en _ z => ?_, fun n a W y en ea' nt eW hy yn => ⟨fun yr H' hA' st => ?_, fun yr H' fp' h' u hA' rd' st => ?_⟩⟩
  · cases en
    rw [nh] at z
    cases z
  · cases en
    exact q H' h fp false hA' rd (l.same_flag hk (fl.det o ⟨a, W, y, ea', eW, hy, yn, yr⟩)) st (.inl rfl)
  · cases en
    obtain ⟨_, _, e1, e2⟩ := wake_up u o rd.weak fun Wn z => by rw [nh] at z; cases z
    obtain ⟨f1, f2⟩ := wake_fl u o nh
    exact q H' h' fp' true hA' rd' (l.stir o hk xt e1 e2 f1 f2) st (.inr u)
/-- a hand rests -/
theorem rest_use {H : Hp} {Q : VK} {E : XK} {p : Addr} {h : Hs} {fp : List Addr} {rows : List HR} {k : Nat} {x : HR} (hA : HAt CH CW CS H p h fp) (rd : Rd h "") (l : Lk rows h) (hk : rows[k]? = some x) (xt : x.t = false)
    (q : ∀ H' h' fp' b, HAt CH CW CS H' p h' fp' → Rd h' "" → Lk (rows.set k { x with f := false }) h' → Step fp H fp' H' → (h' = h ∨ RestUp h x.n h') → Q (.bl b) H') : spHRest CH CW CS CN CD [.ref p, .str x.n] H Q E := by
  have o := hA.ok
  have hx := List.mem_of_getElem? hk
  have ea := l.at o hx
  have nh := l.hand o hx xt
  have fl := l.fl x hx xt
  refine ⟨p, h, fp, .str x.n, rfl, hA, rd, .str _, fun z => (z x.n x.a rfl ea).elim, fun n a W en _ z => ?_, fun n a W y en ea' nt eW hy yn => ⟨fun yr H' hA' st => ?_, fun yr H' fp' h' u hA' rd' st => ?_⟩⟩
  · cases en
    rw [nh] at z
    cases z
  · cases en
    exact q H' h fp false hA' rd (l.same_flag hk (fl.det o ⟨a, W, y, ea', eW, hy, yn, yr⟩)) st (.inl rfl)
  · cases en
    obtain ⟨_, _, e1, e2⟩ := rest_up u o rd.weak fun Wn z => by rw [nh] at z; cases z
    obtain ⟨f1, f2⟩ := rest_fl u o nh
    exact q H' h' fp' true hA' rd' (l.stir o hk xt e1 e2 f1 f2) st (.inr u)
end
structure RowsOk (rows : List HR) : Prop where
  nd : (rows.map (·.n)).Nodup
  ok : ∀ x ∈ rows, isNm (.str x.n) = true ∧ 1 ≤ x.s ∧ x.s ≤ 12
  ab : ∀ (i : Nat) (x : HR), rows[i]? = some x → x.a = "" ∨ ∃ (j : Nat) (y : HR), j < i ∧ rows[j]? = some y ∧ y.t = true ∧ y.n = x.a
theorem setF_at {rows : List HR} {k : Nat} {x : HR} (hk : rows[k]? = some x) (v : Bool) {j : Nat} {y : HR} (h : (rows.set k { x with f := v })[j]? = some y) : ∃ y0, rows[j]? = some y0 ∧ y0.n = y.n ∧ y0.a = y.a ∧ y0.s = y.s ∧ y0.t = y.t := by
  rw [List.getElem?_set] at h
  by_cases z : k = j
  · subst z
    rw [if_pos rfl] at h
    split at h
    · cases h
      exact ⟨x, hk, rfl, rfl, rfl, rfl⟩
    · cases h
  · rw [if_neg z] at h
    exact ⟨y, h, rfl, rfl, rfl, rfl⟩
theorem setF_back {rows : List HR} {k : Nat} {x : HR} (hk : rows[k]? = some x) (v : Bool) {j : Nat} {y : HR} (h : rows[j]? = some y) : ∃ y1, (rows.set k { x with f := v })[j]? = some y1 ∧ y1.n = y.n ∧ y1.a = y.a ∧ y1.s = y.s ∧ y1.t = y.t := by
  rw [List.getElem?_set]
  by_cases z : k = j
  · subst z
    obtain ⟨hk2, _⟩ := List.getElem?_eq_some_iff.mp hk
    rw [if_pos rfl, if_pos hk2]
    rw [hk] at h
    cases h
    exact ⟨_, rfl, rfl, rfl, rfl, rfl⟩
  · rw [if_neg z]
    exact ⟨y, h, rfl, rfl, rfl, rfl⟩
theorem RowsOk.setF {rows : List HR} (R : RowsOk rows) {k : Nat} {x : HR} (hk : rows[k]? = some x) (v : Bool) : RowsOk (rows.set k { x with f := v }) := by
  refine ⟨?_, fun y hy => ?_, fun i y hy => ?_⟩
  · rw [List.map_set, set_at (at_map (·.n) hk)]
    exact R.nd
  · obtain ⟨j, hj⟩ := List.getElem?_of_mem hy
    obtain ⟨y0, h0, e1, e2, e3, e4⟩ := setF_at hk v hj
    rw [← e1, ← e3]
    exact R.ok y0 (List.mem_of_getElem? h0)
  · obtain ⟨y0, h0, e1, e2, e3, e4⟩ := setF_at hk v hy
    rw [← e2]
    rcases R.ab i y0 h0 with z | ⟨j, u, j1, j2, j3, j4⟩
    · exact .inl z
    · obtain ⟨u1, h1, d1, d2, d3, d4⟩ := setF_back hk v j2
      exact .inr ⟨j, u1, j1, h1, d4.trans j3, d1.trans j4⟩
theorem take_set {α : Type} {l : List α} {k : Nat} {x : α} : (l.set k x).take (k + 1) = (l.take (k + 1)).set k x := by
  rw [List.take_set]
/-- where one stands is there already -/
theorem RowsOk.above {rows : List HR} (R : RowsOk rows) {i : Nat} {x : HR} (hx : rows[i]? = some x) {h : Hs} (o : HOk h) (l : Lk (rows.take i) h) : ∃ W, lk h.wh x.a = some W := by
  rcases R.ab i x hx with z | ⟨j, y, j1, j2, j3, j4⟩
  · rw [z]
    exact o.top
  · rw [← j4]
    refine l.team (x := y) (List.mem_of_getElem? (i := j) ?_) j3
    rw [List.getElem?_take, if_pos j1]
    exact j2
theorem RowsOk.new {rows : List HR} (R : RowsOk rows) {i : Nat} {x : HR} (hx : rows[i]? = some x) : x.n ∉ (rows.take i).map (·.n) := fun z => by
  obtain ⟨y, hy, e⟩ := List.mem_map.mp z
  obtain ⟨j, hj⟩ := List.getElem?_of_mem hy
  rw [List.getElem?_take] at hj
  split at hj
  · have a1 : (rows.map (·.n))[j]? = some x.n := by rw [at_map (·.n) hj, e]
    have := nd_ix R.nd a1 (at_map (·.n) hx)
    omega
  · cases hj
theorem Lk.nil : Lk [] H0 := ⟨rfl, rfl, fun x hx => (nomatch hx), fun x hx => (nomatch hx)⟩
def spLawT (K : PySem.W.Frag) (Pt : Addr) : Sp := fun vs H Q _ => ∃ (a : Addr) (ns : List Int), vs = [.ref a] ∧ SqL K H a (ns.map V.int) ∧ GxR.TabG H Pt ∧ ns.length ≤ 63 ∧ ∀ H', Q (.bl true) H'
theorem nil_app {σ : L2.St} {H : Hp} {Q : List V → Hp → Prop} (h : Q [] H) : tNil σ H Q := h

/-! ### get of a written dict -/
structure WDict (K : PySem.W.Frag) (w : World) (p : Addr) (f : Str → Option V) : Prop where
  low : (p == sysModules) = false
  at_ : ∃ es n, K.lookup p = some ⟨.type "dict", none, .dict es n, #[]⟩ ∧ PySem.W.KeysLit w.params es.toList
  non : ∀ z, f z = none → PySem.W.nsIn K p z = some none
  has : ∀ z v, f z = some v → ∃ u, PySem.W.nsIn K p z = some (some u) ∧ RelV v u
def tWGet (K : PySem.W.Frag) (w : World) (to te : L2.TE) : L2.TE := fun σ H Q => to σ H fun x H1 => ∃ p f, x = .ref p ∧ WDict K w p f ∧ te σ H1 fun y H2 => ∃ z, y = .str z ∧ Q ((f z).getD .non) H2
theorem pe_wget {X : Cx} {o e : Expr} {to te : L2.TE} {apos cpos : Pos} (ho : PE X o to) (he : PE X e te) (m : M1 X o "get" apos e cpos) : PE X (.Call (.Attribute o "get" apos) [e] [] cpos) (tWGet X.K X.w to te) := by
  refine ⟨fun pins s σ H Q I h => ?_⟩
  refine wpAny_Call_method m.base m.few m.line PySem.F.plainAttrs_dict PySem.F.slot_dict_get PySem.F.type_dict_get (thn (ho.run pins s σ H _ I h) ?_)
  rintro u s1 ⟨x, H1, I1, rx, p, f, rfl, W, q1⟩
  obtain rfl : u = Value.ref p := rx
  obtain ⟨es, n, lk, ks⟩ := W.at_
  have st := I1.kIn p _ lk
  refine ⟨⟨_, st, rfl⟩, fun b z => ?_, ?_⟩
  · cases z
    exact ⟨_, st, rfl⟩
  rw [m.trees]
  refine Calls.callWith_builtin rfl (Calls.evalArgs_plain (Calls.spliced_cons (thn (he.run pins s1 σ H1 _ I1 q1) ?_)))
  rintro iv s2 ⟨y, H2, I2, ry, z, rfl, q2⟩
  obtain ⟨t, rfl⟩ := ry
  refine Calls.spliced_nil ?_
  have mp := PySem.W.mapOf_K (prog := X.prog) (w := X.w) I2.kIn lk ks
  refine call_meetsIn PySem.F.slot_dict_get mp.typeIs PySem.F.entry_dict_get (PySem.F.args_dict_get_2 _ _) (meets_dict_get (strKind X.prog X.w) p (strKind_is X.prog X.w z t) W.low) ⟨_, mp, ?_⟩
  cases fz : f z with
  | none =>
    rw [fz] at q2
    rw [PySem.W.find_K lk (W.non z fz)]
    exact ⟨.non, H2, I2.tok _, rfl, q2⟩
  | some v =>
    rw [fz] at q2
    obtain ⟨u, e1, r⟩ := W.has z v fz
    rw [PySem.W.find_K lk e1]
    exact ⟨v, H2, I2.tok _, r, q2⟩
/-! ### the parts of the deeds -/
def kinds (z : Str) : Option (List Str) :=
  if z = "team" then some ["name", "above", "share"] else if z = "hand" then some ["name", "above", "share"] else if z = "wake" then some ["name"] else if z = "rest" then some ["name"]
  else if z = "share" then some ["name", "share"] else if z = "leave" then some ["name"] else if z = "deal" then some [] else none
def deedWords : List Str := ["team", "hand", "wake", "rest", "share", "leave", "deal"]
theorem kinds_mem {z : Str} {ks : List Str} (h : kinds z = some ks) : z ∈ deedWords := by
  refine Classical.byContradiction fun n => ?_
  have n : ∀ k ∈ deedWords, z ≠ k := fun k hk e => n (by rw [e]; exact hk)
  unfold kinds at h
  rw [if_neg (n _ (by simp [deedWords])), if_neg (n _ (by simp [deedWords])), if_neg (n _ (by simp [deedWords])), if_neg (n _ (by simp [deedWords])), if_neg (n _ (by simp [deedWords])), if_neg (n _ (by simp [deedWords])), if_neg (n _ (by simp [deedWords]))] at h
  cases h
structure PartsOk (K : PySem.W.Frag) (w : World) (mg : Str → Option Value) : Prop where
  ex : ∃ p f, mg "PARTS" = some (.ref p) ∧ WDict K w p f ∧ (∀ z, kinds z = none → f z = none) ∧ ∀ z ks, kinds z = some ks → ∃ a, f z = some (.ref a) ∧ ∀ H : Hp, SqT K H a (ks.map V.str)

/-! ### the parts of the deeds, out of what the top leaves -/
theorem kinds_non {z : Str} (h : kinds z = none) : z ∉ deedWords := by
  intro m
  unfold kinds at h
  rcases List.mem_cons.mp m with rfl | m
  · cases h
  rcases List.mem_cons.mp m with rfl | m
  · cases h
  rcases List.mem_cons.mp m with rfl | m
  · cases h
  rcases List.mem_cons.mp m with rfl | m
  · cases h
  rcases List.mem_cons.mp m with rfl | m
  · cases h
  rcases List.mem_cons.mp m with rfl | m
  · cases h
  rcases List.mem_cons.mp m with rfl | m
  · cases h
  · cases m
theorem keys_of {K : PySem.W.Frag} {P : Params} {a : Addr} {ks : List Str} {es : Array DictEntry} {n : Nat} (h : He.dicW K a = some (He.keysIn P ks)) (lk : K.lookup a = some ⟨.type "dict", none, .dict es n, #[]⟩) : es.toList.map He.keyOf = He.keysIn P ks := by
  unfold He.dicW at h
  rw [lk] at h
  dsimp only at h
  split at h
  · exact Option.some.inj h
  · cases h
theorem key_in {P : Params} {ks : List Str} {l : List DictEntry} (h : l.map He.keyOf = He.keysIn P ks) {e : DictEntry} (he : e ∈ l) : ∃ k t, k ∈ ks ∧ e.key = .str k t := by
  have m : He.keyOf e ∈ He.keysIn P ks := by
    rw [← h]
    exact List.mem_map_of_mem he
  obtain ⟨k, hk, q⟩ := List.mem_map.mp m
  unfold He.keyOf at q
  split at q
  · rename_i x t q2
    obtain ⟨q3, _⟩ := Prod.mk.inj (Option.some.inj q)
    exact ⟨k, t, hk, by rw [q2, q3]⟩
  · cases q
theorem no_key {K : PySem.W.Frag} {P : Params} {a : Addr} {ks : List Str} {es : Array DictEntry} {n : Nat} (h : He.dicW K a = some (He.keysIn P ks)) (lk : K.lookup a = some ⟨.type "dict", none, .dict es n, #[]⟩) {z : Str} (nz : z ∉ ks) : PySem.W.nsIn K a z = some none := by
  have kk := keys_of h lk
  unfold PySem.W.nsIn
  rw [lk]
  dsimp only
  have f : es.toList.find? (fun e => e.key.isStr z) = none := List.find?_eq_none.mpr fun e he q => by
    obtain ⟨k, t, hk, e2⟩ := key_in kk he
    rw [e2] at q
    have q2 : (k == z) = true := q
    exact nz (eq_of_beq q2 ▸ hk)
  have r : (es.toList.any fun e => e.refKey) = false := by
    cases q : es.toList.any fun e => e.refKey with
    | false => rfl
    | true =>
      obtain ⟨e, he, q2⟩ := List.any_eq_true.mp q
      obtain ⟨k, t, _, e2⟩ := key_in kk he
      unfold DictEntry.refKey at q2
      rw [e2] at q2
      cases q2
  rw [f]
  dsimp only
  rw [r]
  rfl
def tupB (K : PySem.W.Frag) (u : Option (Option Value)) (ks : List Str) : Bool := match u with
  | some (some (.ref t)) => (match K.lookup t with
    | some ⟨.type c, _, .seq its _, _⟩ => decide (c = "tuple") && (decide (its.size ≤ sizeLine) && He.relAll (ks.map V.str) its.toList)
    | _ => false)
  | _ => false
theorem tupB_ok {K : PySem.W.Frag} {u : Option (Option Value)} {ks : List Str} (h : tupB K u ks = true) : ∃ t, u = some (some (.ref t)) ∧ ∀ H : Hp, SqT K H t (ks.map V.str) := by
  unfold tupB at h
  split at h
  · rename_i t
    refine ⟨t, rfl, fun H => ?_⟩
    cases q : K.lookup t with
    | none =>
      rw [q] at h
      cases h
    | some o =>
      obtain ⟨oc, od, dt, sl⟩ := o
      rw [q] at h
      cases oc with
      | type c =>
        cases dt with
        | seq its n =>
          obtain ⟨h1, h2⟩ := He.ba (show (decide (c = "tuple") && (decide (its.size ≤ sizeLine) && He.relAll (ks.map V.str) its.toList)) = true from h)
          obtain ⟨h3, h4⟩ := He.ba h2
          exact .inr ⟨_, its, n, q, congrArg Value.type (of_decide_eq_true h1), rfl, of_decide_eq_true h3, He.relAll_ok h4⟩
        | _ => cases h
      | _ => cases dt <;> cases h
  · cases h
def partsB (K : PySem.W.Frag) : Bool := deedWords.all fun z => tupB K (PySem.W.nsIn K (He.ga K "PARTS") z) ((kinds z).getD [])
def partsF (K : PySem.W.Frag) (z : Str) : Option V := match kinds z with
  | none => none
  | some _ => (match PySem.W.nsIn K (He.ga K "PARTS") z with
    | some (some (.ref t)) => some (.ref t)
    | _ => none)
theorem parts_ok {K : PySem.W.Frag} {w : World} {mg : Str → Option Value} (hd : He.dicW K (He.ga K "PARTS") = some (He.keysIn w.params deedWords)) (hb : partsB K = true) (hg : mg "PARTS" = some (.ref (He.ga K "PARTS"))) : PartsOk K w mg := by
  obtain ⟨es, n, lk, lit, low⟩ := He.dicW_ok hd
  have at_ : ∀ z ks, kinds z = some ks → ∃ t, PySem.W.nsIn K (He.ga K "PARTS") z = some (some (.ref t)) ∧ ∀ H : Hp, SqT K H t (ks.map V.str) := fun z ks hk => by
    have h := List.all_eq_true.mp hb z (kinds_mem hk)
    rw [hk] at h
    exact tupB_ok h
  refine ⟨_, partsF K, hg, ⟨low, ⟨es, n, lk, lit⟩, fun z hz => ?_, fun z v hz => ?_⟩, fun z hz => by unfold partsF; rw [hz], fun z ks hk => ?_⟩
  · cases hk : kinds z with
    | none => exact no_key hd lk (kinds_non hk)
    | some ks =>
      obtain ⟨t, e, _⟩ := at_ z ks hk
      unfold partsF at hz
      rw [hk] at hz
      dsimp only at hz
      rw [e] at hz
      cases hz
  · cases hk : kinds z with
    | none =>
      unfold partsF at hz
      rw [hk] at hz
      cases hz
    | some ks =>
      obtain ⟨t, e, _⟩ := at_ z ks hk
      unfold partsF at hz
      rw [hk] at hz
      dsimp only at hz
      rw [e] at hz
      cases hz
      exact ⟨_, e, rfl⟩
  · obtain ⟨t, e, s⟩ := at_ z ks hk
    refine ⟨t, ?_, s⟩
    unfold partsF
    rw [hk]
    dsimp only
    rw [e]
def ptabs : List He.Tab := [(fun K => He.ga K "PARTS", deedWords)]
theorem tab_parts {fa : List He.Fa} {fn : List He.DefD} {w : World} {K : PySem.W.Frag} (c : He.SaysT fa fn ptabs w K) : He.dicW K (He.ga K "PARTS") = some (He.keysIn w.params deedWords) :=
  (List.cons.inj (congrArg (fun z : He.AlT => z.2) c)).1
/-- a world by its word on one row -/
def wordW (w : World) (b : Bool) : World := { w with params := { w.params with followText := fun r => match decide (r = "special-get-raises") with | true => b | false => w.params.followText r } }
theorem wordW_eq (w : World) : w = wordW w (w.params.followText "special-get-raises") := by
  have e : (fun r => match decide (r = "special-get-raises") with | true => w.params.followText "special-get-raises" | false => w.params.followText r) = w.params.followText := funext fun r => by
    cases q : decide (r = "special-get-raises") with
    | true => rw [of_decide_eq_true q]
    | false => rfl
  unfold wordW
  rw [e]
theorem by_word {C : World → Prop} (h : ∀ w b, C (wordW w b)) (w : World) : C w := (congrArg C (wordW_eq w)).mpr (h w _)

/-! ### deeds as texts -/
def numT (i : Int) : Str := Str.ofString (toString i)
def sDue (w : Str) : Option Int := ((List.range 12).map fun k : Nat => ((k : Int) + 1)).find? fun i => decide (w = numT i)
def part (k w : Str) : Option V := if k = "share" then (sDue w).map V.int else if k = "above" ∧ w = "-" then some (.str "") else if isNm (.str w) = true then some (.str w) else none
def parts : List Str → List Str → Option (List V)
  | [], [] => some []
  | k :: ks, w :: ws => match part k w with
    | none => none
    | some v => (parts ks ws).map (v :: ·)
  | _, _ => none
def due : List Str → Option (List V)
  | [] => none
  | k :: ws => match kinds k with
    | none => none
    | some ks => (parts ks ws).map (V.str k :: ·)
theorem due_cons (k : Str) (ws : List Str) : due (k :: ws) = match kinds k with
    | none => none
    | some ks => (parts ks ws).map (V.str k :: ·) := rfl
inductive Deed where
  | deal | wake (n : Str) | rest (n : Str) | leave (n : Str) | share (n : Str) (s : Int) | team (n a : Str) (s : Int) | hand (n a : Str) (s : Int)
def Deed.vs : Deed → List V
  | .deal => [.str "deal"]
  | .wake n => [.str "wake", .str n]
  | .rest n => [.str "rest", .str n]
  | .leave n => [.str "leave", .str n]
  | .share n s => [.str "share", .str n, .int s]
  | .team n a s => [.str "team", .str n, .str a, .int s]
  | .hand n a s => [.str "hand", .str n, .str a, .int s]
def isN (n : Str) : Prop := isNm (.str n) = true
def isA (a : Str) : Prop := a = "" ∨ isN a
def isSh (s : Int) : Prop := 1 ≤ s ∧ s ≤ 12
def Deed.ok : Deed → Prop
  | .deal => True
  | .wake n => isN n
  | .rest n => isN n
  | .leave n => isN n
  | .share n s => isN n ∧ isSh s
  | .team n a s => isN n ∧ isA a ∧ isSh s
  | .hand n a s => isN n ∧ isA a ∧ isSh s
theorem sDue_sh {w : Str} {i : Int} (h : sDue w = some i) : isSh i ∧ w = numT i := by
  have h1 := List.mem_of_find?_eq_some h
  have h2 := List.find?_some h
  obtain ⟨k, hk, e⟩ := List.mem_map.mp h1
  have hk := List.mem_range.mp hk
  exact ⟨⟨by omega, by omega⟩, of_decide_eq_true h2⟩
theorem sDue_none {w : Str} (h : sDue w = none) : ∀ i, isSh i → w ≠ numT i := fun i hi e => by
  have := List.find?_eq_none.mp h i (List.mem_map.mpr ⟨(i - 1).toNat, List.mem_range.mpr (by have := hi.1; have := hi.2; omega), by have := hi.1; omega⟩)
  exact this (decide_eq_true e)
theorem small12 {s : Int} (h : isSh s) : s = 1 ∨ s = 2 ∨ s = 3 ∨ s = 4 ∨ s = 5 ∨ s = 6 ∨ s = 7 ∨ s = 8 ∨ s = 9 ∨ s = 10 ∨ s = 11 ∨ s = 12 := by
  obtain ⟨a, b⟩ := h
  omega
theorem sDue_num {s : Int} (h : isSh s) : sDue (numT s) = some s := by
  rcases small12 h with rfl | rfl | rfl | rfl | rfl | rfl | rfl | rfl | rfl | rfl | rfl | rfl <;> decide +kernel
theorem numT_int {s : Int} (h : isSh s) : PySem.intText? (numT s) = some s := by
  rcases small12 h with rfl | rfl | rfl | rfl | rfl | rfl | rfl | rfl | rfl | rfl | rfl | rfl <;> decide +kernel
theorem numT_len {s : Int} (h : isSh s) : 1 ≤ (numT s).length ∧ (numT s).length ≤ 2 := by
  rcases small12 h with rfl | rfl | rfl | rfl | rfl | rfl | rfl | rfl | rfl | rfl | rfl | rfl <;> decide +kernel
theorem numT_free {s : Int} (h : isSh s) : 32 ∉ (numT s).cps.toList := by
  rcases small12 h with rfl | rfl | rfl | rfl | rfl | rfl | rfl | rfl | rfl | rfl | rfl | rfl <;> decide +kernel
theorem dash_no : isNm (.str "-") = false := by decide +kernel
theorem part_name {w : Str} : part "name" w = if isNm (.str w) = true then some (.str w) else none := by
  unfold part
  rw [if_neg (by decide +kernel), if_neg (fun z => absurd z.1 (by decide +kernel))]
theorem part_share {w : Str} : part "share" w = (sDue w).map V.int := by
  unfold part
  rw [if_pos rfl]
theorem part_above {w : Str} : part "above" w = if w = "-" then some (.str "") else if isNm (.str w) = true then some (.str w) else none := by
  unfold part
  rw [if_neg (by decide +kernel)]
  by_cases e : w = "-"
  · rw [if_pos ⟨rfl, e⟩, if_pos e]
  · rw [if_neg fun z => e z.2, if_neg e]
theorem parts_len : ∀ {ks ws : List Str} {vs : List V}, parts ks ws = some vs → ks.length = ws.length ∧ vs.length = ks.length
  | [], [], _, h => by
    cases h
    exact ⟨rfl, rfl⟩
  | k :: ks, w :: ws, vs, h => by
    unfold parts at h
    cases e : part k w with
    | none => rw [e] at h; cases h
    | some v =>
      rw [e] at h
      cases e2 : parts ks ws with
      | none => rw [e2] at h; cases h
      | some r =>
        rw [e2] at h
        cases h
        obtain ⟨a, b⟩ := parts_len e2
        exact ⟨congrArg (· + 1) a, congrArg (· + 1) b⟩
  | [], _ :: _, _, h => by cases h
  | _ :: _, [], _, h => by cases h
theorem parts_bad : ∀ {ks ws : List Str}, ks.length ≠ ws.length → parts ks ws = none
  | [], [], h => (h rfl).elim
  | k :: ks, w :: ws, h => by
    unfold parts
    cases part k w with
    | none => rfl
    | some v =>
      show (parts ks ws).map _ = none
      rw [parts_bad fun z => h (congrArg (· + 1) z)]
      rfl
  | [], _ :: _, _ => rfl
  | _ :: _, [], _ => rfl
theorem parts_cons {k w : Str} {ks ws : List Str} {vs : List V} (h : parts (k :: ks) (w :: ws) = some vs) : ∃ v r, part k w = some v ∧ parts ks ws = some r ∧ vs = v :: r := by
  unfold parts at h
  cases e : part k w with
  | none => rw [e] at h; cases h
  | some v =>
    rw [e] at h
    cases e2 : parts ks ws with
    | none => rw [e2] at h; cases h
    | some r =>
      rw [e2] at h
      cases h
      exact ⟨v, r, rfl, rfl, rfl⟩
theorem part_nameV {w : Str} {v : V} (h : part "name" w = some v) : v = .str w ∧ isN w := by
  rw [part_name] at h
  by_cases e : isNm (.str w) = true
  · rw [if_pos e] at h
    cases h
    exact ⟨rfl, e⟩
  · rw [if_neg e] at h
    cases h
theorem part_shareV {w : Str} {v : V} (h : part "share" w = some v) : ∃ s, v = .int s ∧ isSh s := by
  rw [part_share] at h
  cases e : sDue w with
  | none => rw [e] at h; cases h
  | some s =>
    rw [e] at h
    cases h
    exact ⟨s, rfl, (sDue_sh e).1⟩
theorem part_aboveV {w : Str} {v : V} (h : part "above" w = some v) : ∃ a, v = .str a ∧ isA a := by
  rw [part_above] at h
  by_cases e0 : w = "-"
  · rw [if_pos e0] at h
    cases h
    exact ⟨"", rfl, .inl rfl⟩
  · rw [if_neg e0] at h
    by_cases e : isNm (.str w) = true
    · rw [if_pos e] at h
      cases h
      exact ⟨w, rfl, .inr e⟩
    · rw [if_neg e] at h
      cases h
theorem parts_one {k : Str} {ws : List Str} {vs : List V} (h : parts [k] ws = some vs) : ∃ w v, ws = [w] ∧ part k w = some v ∧ vs = [v] := by
  cases ws with
  | nil => cases h
  | cons w r =>
    obtain ⟨v, vr, a, b, rfl⟩ := parts_cons h
    cases r with
    | nil =>
      cases b
      exact ⟨w, v, rfl, a, rfl⟩
    | cons _ _ => cases b
theorem parts_more {k k2 : Str} {ks ws : List Str} {vs : List V} (h : parts (k :: k2 :: ks) ws = some vs) : ∃ w r v vr, ws = w :: r ∧ part k w = some v ∧ parts (k2 :: ks) r = some vr ∧ vs = v :: vr := by
  cases ws with
  | nil => cases h
  | cons w r =>
    obtain ⟨v, vr, a, b, rfl⟩ := parts_cons h
    exact ⟨w, r, v, vr, rfl, a, b, rfl⟩
theorem kinds_eqs : kinds "team" = some [("name" : Str), "above", "share"] ∧ kinds "hand" = some [("name" : Str), "above", "share"] ∧ kinds "wake" = some [("name" : Str)] ∧ kinds "rest" = some [("name" : Str)] ∧ kinds "share" = some [("name" : Str), "share"] ∧ kinds "leave" = some [("name" : Str)] ∧ kinds "deal" = some [] := by decide +kernel
/-- what is due is a deed -/
theorem due_deed {ws : List Str} {vs : List V} (h : due ws = some vs) : ∃ D : Deed, vs = D.vs ∧ D.ok := by
  cases ws with
  | nil => cases h
  | cons k ws =>
    rw [due_cons] at h
    cases ek : kinds k with
    | none => rw [ek] at h; cases h
    | some ks =>
      rw [ek] at h
      have h : (parts ks ws).map (V.str k :: ·) = some vs := h
      cases ep : parts ks ws with
      | none => rw [ep] at h; cases h
      | some r =>
        rw [ep] at h
        cases h
        obtain ⟨q1, q2, q3, q4, q5, q6, q7⟩ := kinds_eqs
        have mem := kinds_mem ek
        have mem : k = "team" ∨ k = "hand" ∨ k = "wake" ∨ k = "rest" ∨ k = "share" ∨ k = "leave" ∨ k = "deal" := by simpa [deedWords] using mem
        rcases mem with rfl | rfl | rfl | rfl | rfl | rfl | rfl
        · rw [q1] at ek
          cases ek
          obtain ⟨w1, r1, v1, vr1, _, a1, b1, rfl⟩ := parts_more ep
          obtain ⟨w2, r2, v2, vr2, _, a2, b2, rfl⟩ := parts_more b1
          obtain ⟨w3, v3, _, a3, rfl⟩ := parts_one b2
          obtain ⟨rfl, o1⟩ := part_nameV a1
          obtain ⟨a, rfl, o2⟩ := part_aboveV a2
          obtain ⟨s, rfl, o3⟩ := part_shareV a3
          exact ⟨.team w1 a s, rfl, o1, o2, o3⟩
        · rw [q2] at ek
          cases ek
          obtain ⟨w1, r1, v1, vr1, _, a1, b1, rfl⟩ := parts_more ep
          obtain ⟨w2, r2, v2, vr2, _, a2, b2, rfl⟩ := parts_more b1
          obtain ⟨w3, v3, _, a3, rfl⟩ := parts_one b2
          obtain ⟨rfl, o1⟩ := part_nameV a1
          obtain ⟨a, rfl, o2⟩ := part_aboveV a2
          obtain ⟨s, rfl, o3⟩ := part_shareV a3
          exact ⟨.hand w1 a s, rfl, o1, o2, o3⟩
        · rw [q3] at ek
          cases ek
          obtain ⟨w1, v1, _, a1, rfl⟩ := parts_one ep
          obtain ⟨rfl, o1⟩ := part_nameV a1
          exact ⟨.wake w1, rfl, o1⟩
        · rw [q4] at ek
          cases ek
          obtain ⟨w1, v1, _, a1, rfl⟩ := parts_one ep
          obtain ⟨rfl, o1⟩ := part_nameV a1
          exact ⟨.rest w1, rfl, o1⟩
        · rw [q5] at ek
          cases ek
          obtain ⟨w1, r1, v1, vr1, _, a1, b1, rfl⟩ := parts_more ep
          obtain ⟨w3, v3, _, a3, rfl⟩ := parts_one b1
          obtain ⟨rfl, o1⟩ := part_nameV a1
          obtain ⟨s, rfl, o3⟩ := part_shareV a3
          exact ⟨.share w1 s, rfl, o1, o3⟩
        · rw [q6] at ek
          cases ek
          obtain ⟨w1, v1, _, a1, rfl⟩ := parts_one ep
          obtain ⟨rfl, o1⟩ := part_nameV a1
          exact ⟨.leave w1, rfl, o1⟩
        · rw [q7] at ek
          cases ek
          cases ws with
          | nil =>
            cases ep
            exact ⟨.deal, rfl, trivial⟩
          | cons _ _ => cases ep
/-! ### a deed's text -/
def wordOf : V → Str
  | .str z => if z = "" then "-" else z
  | .int i => numT i
  | _ => ""
def Deed.text (D : Deed) : Str := Txt.join " " (D.vs.map wordOf)
theorem wordOf_n {n : Str} (h : isN n) : wordOf (.str n) = n := if_neg (nm_ne h)
theorem wordOf_k {k : Str} (h : k ≠ "") : wordOf (.str k) = k := if_neg h
theorem wordOf_i (i : Int) : wordOf (.int i) = numT i := rfl
theorem part_n {n : Str} (h : isN n) : part "name" (wordOf (.str n)) = some (.str n) := by
  rw [wordOf_n h, part_name, if_pos (show isNm (.str n) = true from h)]
theorem part_a {a : Str} (h : isA a) : part "above" (wordOf (.str a)) = some (.str a) := by
  rcases h with rfl | h
  · decide +kernel
  · rw [wordOf_n h, part_above, if_neg (fun z => ?_), if_pos (show isNm (.str a) = true from h)]
    have h : isNm (.str a) = true := h
    rw [z, dash_no] at h
    cases h
theorem part_s {s : Int} (h : isSh s) : part "share" (wordOf (.int s)) = some (.int s) := by
  rw [wordOf_i, part_share, sDue_num h]
  rfl
theorem ne_words : ("team" : Str) ≠ "" ∧ ("hand" : Str) ≠ "" ∧ ("wake" : Str) ≠ "" ∧ ("rest" : Str) ≠ "" ∧ ("share" : Str) ≠ "" ∧ ("leave" : Str) ≠ "" ∧ ("deal" : Str) ≠ "" := by decide +kernel
theorem due_words {D : Deed} (o : D.ok) : due (D.vs.map wordOf) = some D.vs := by
  obtain ⟨q1, q2, q3, q4, q5, q6, q7⟩ := kinds_eqs
  obtain ⟨n1, n2, n3, n4, n5, n6, n7⟩ := ne_words
  cases D with
  | deal =>
    simp only [Deed.vs, List.map_cons, List.map_nil, wordOf_k n7, due_cons, q7, parts, Option.map_some]
  | wake n =>
    have o : isN n := o
    simp only [Deed.vs, List.map_cons, List.map_nil, wordOf_k n3, due_cons, q3, parts, part_n o, Option.map_some]
  | rest n =>
    have o : isN n := o
    simp only [Deed.vs, List.map_cons, List.map_nil, wordOf_k n4, due_cons, q4, parts, part_n o, Option.map_some]
  | leave n =>
    have o : isN n := o
    simp only [Deed.vs, List.map_cons, List.map_nil, wordOf_k n6, due_cons, q6, parts, part_n o, Option.map_some]
  | share n s =>
    obtain ⟨o1, o3⟩ := o
    simp only [Deed.vs, List.map_cons, List.map_nil, wordOf_k n5, due_cons, q5, parts, part_n o1, part_s o3, Option.map_some]
  | team n a s =>
    obtain ⟨o1, o2, o3⟩ := o
    simp only [Deed.vs, List.map_cons, List.map_nil, wordOf_k n1, due_cons, q1, parts, part_n o1, part_a o2, part_s o3, Option.map_some]
  | hand n a s =>
    obtain ⟨o1, o2, o3⟩ := o
    simp only [Deed.vs, List.map_cons, List.map_nil, wordOf_k n2, due_cons, q2, parts, part_n o1, part_a o2, part_s o3, Option.map_some]
theorem nm_free {n : Str} (h : isN n) : 32 ∉ n.cps.toList := fun m => by
  have h : (decide (1 ≤ n.length) && decide (n.length ≤ 8) && n.cps.toList.all azB) = true := h
  rw [Bool.and_eq_true] at h
  have := List.all_eq_true.mp h.2 32 m
  revert this
  decide +kernel
theorem nm_len8 {n : Str} (h : isN n) : 1 ≤ n.length ∧ n.length ≤ 8 := by
  have h : (decide (1 ≤ n.length) && decide (n.length ≤ 8) && n.cps.toList.all azB) = true := h
  rw [Bool.and_eq_true, Bool.and_eq_true] at h
  exact ⟨of_decide_eq_true h.1.1, of_decide_eq_true h.1.2⟩
theorem word_n {n : Str} (h : isN n) : 32 ∉ (wordOf (.str n)).cps.toList ∧ (wordOf (.str n)).length ≤ 8 := by
  rw [wordOf_n h]
  exact ⟨nm_free h, (nm_len8 h).2⟩
theorem word_a {a : Str} (h : isA a) : 32 ∉ (wordOf (.str a)).cps.toList ∧ (wordOf (.str a)).length ≤ 8 := by
  rcases h with rfl | h
  · decide +kernel
  · exact word_n h
theorem word_s {s : Int} (h : isSh s) : 32 ∉ (wordOf (.int s)).cps.toList ∧ (wordOf (.int s)).length ≤ 8 := ⟨numT_free h, Nat.le_trans (numT_len h).2 (by decide)⟩
theorem word_k : ∀ k ∈ deedWords, 32 ∉ (wordOf (.str k)).cps.toList ∧ (wordOf (.str k)).length ≤ 8 := by decide +kernel
theorem words_ok {D : Deed} (o : D.ok) : ∀ v ∈ D.vs, 32 ∉ (wordOf v).cps.toList ∧ (wordOf v).length ≤ 8 := by
  have kk : ∀ k : Str, k ∈ deedWords → 32 ∉ (wordOf (.str k)).cps.toList ∧ (wordOf (.str k)).length ≤ 8 := word_k
  intro v hv
  cases D with
  | deal =>
    rw [List.mem_singleton.mp hv]
    exact kk _ (by simp [deedWords])
  | wake n =>
    have o : isN n := o
    have hv : v = .str "wake" ∨ v = .str n := by simpa [Deed.vs] using hv
    rcases hv with rfl | rfl
    · exact kk _ (by simp [deedWords])
    · exact word_n o
  | rest n =>
    have o : isN n := o
    have hv : v = .str "rest" ∨ v = .str n := by simpa [Deed.vs] using hv
    rcases hv with rfl | rfl
    · exact kk _ (by simp [deedWords])
    · exact word_n o
  | leave n =>
    have o : isN n := o
    have hv : v = .str "leave" ∨ v = .str n := by simpa [Deed.vs] using hv
    rcases hv with rfl | rfl
    · exact kk _ (by simp [deedWords])
    · exact word_n o
  | share n s =>
    obtain ⟨o1, o3⟩ := o
    have hv : v = .str "share" ∨ v = .str n ∨ v = .int s := by simpa [Deed.vs] using hv
    rcases hv with rfl | rfl | rfl
    · exact kk _ (by simp [deedWords])
    · exact word_n o1
    · exact word_s o3
  | team n a s =>
    obtain ⟨o1, o2, o3⟩ := o
    have hv : v = .str "team" ∨ v = .str n ∨ v = .str a ∨ v = .int s := by simpa [Deed.vs] using hv
    rcases hv with rfl | rfl | rfl | rfl
    · exact kk _ (by simp [deedWords])
    · exact word_n o1
    · exact word_a o2
    · exact word_s o3
  | hand n a s =>
    obtain ⟨o1, o2, o3⟩ := o
    have hv : v = .str "hand" ∨ v = .str n ∨ v = .str a ∨ v = .int s := by simpa [Deed.vs] using hv
    rcases hv with rfl | rfl | rfl | rfl
    · exact kk _ (by simp [deedWords])
    · exact word_n o1
    · exact word_a o2
    · exact word_s o3
theorem vs_len (D : Deed) : 1 ≤ D.vs.length ∧ D.vs.length ≤ 4 := by cases D <;> exact ⟨by simp [Deed.vs], by simp [Deed.vs]⟩
theorem split_text {D : Deed} (o : D.ok) : Txt.split D.text " " = D.vs.map wordOf := by
  refine TL.split_join (s := 32) (S := []) (by decide +kernel) (by decide +kernel) (fun z => ?_) fun p hp => ?_
  · have := (vs_len D).1
    rw [← List.length_map wordOf, z] at this
    exact absurd this (by decide)
  · obtain ⟨v, hv, rfl⟩ := List.mem_map.mp hp
    exact (words_ok o v hv).1
theorem sum_le {l : List Str} (h : ∀ x ∈ l, x.length ≤ 8) : (l.map (·.length)).sum ≤ 8 * l.length := by
  induction l with
  | nil => exact Nat.le_refl _
  | cons a r ih =>
    have := ih fun x hx => h x (List.mem_cons_of_mem _ hx)
    have := h a List.mem_cons_self
    rw [List.map_cons, List.sum_cons, List.length_cons]
    omega
theorem text_len {D : Deed} (o : D.ok) : D.text.length ≤ 36 := by
  unfold Deed.text
  rw [TL.join_eq]
  have h1 := PySem.StrLaws.join_length_le " " (D.vs.map wordOf)
  have h2 := sum_le (l := D.vs.map wordOf) fun x hx => by
    obtain ⟨v, hv, rfl⟩ := List.mem_map.mp hx
    exact (words_ok o v hv).2
  have h3 := (vs_len D).2
  have h4 : (" " : Str).length = 1 := by decide +kernel
  rw [List.length_map, h4] at h1
  rw [List.length_map] at h2
  omega
/-! ### words of a text -/
theorem join_ge (y : Str) (hy : y.length = 1) : ∀ ws : List Str, (∀ v ∈ ws, v.length ≤ (Str.join y ws).length) ∧ ws.length ≤ (Str.join y ws).length + 1
  | [] => ⟨fun _ h => (nomatch h), Nat.zero_le _⟩
  | [x] => ⟨fun v h => by
      rw [List.mem_singleton.mp h]
      exact Nat.le_refl _, by simp⟩
  | x :: z :: r => by
    obtain ⟨a, b⟩ := join_ge y hy (z :: r)
    have e : (Str.join y (x :: z :: r)).length = x.length + 1 + (Str.join y (z :: r)).length := by
      show (x ++ y ++ Str.join y (z :: r)).length = _
      rw [Str.length_append, Str.length_append, hy]
    refine ⟨fun v h => ?_, ?_⟩
    · rw [e]
      rcases List.mem_cons.mp h with rfl | h
      · omega
      · have := a v h
        omega
    · rw [e]
      rw [List.length_cons]
      omega
theorem split_ok (x : Str) : (∀ v ∈ Txt.split x " ", v.length ≤ x.length) ∧ (Txt.split x " ").length ≤ x.length + 1 ∧ ∃ k r, Txt.split x " " = k :: r := by
  have e := PySem.StrLaws.join_split x " "
  obtain ⟨a, b⟩ := join_ge " " (by decide +kernel) (Txt.split x " ")
  rw [e] at a b
  refine ⟨a, b, ?_⟩
  cases q : Txt.split x " " with
  | cons k r => exact ⟨k, r, rfl⟩
  | nil =>
    rw [q] at e
    have e : ("" : Str) = x := e
    rw [← e] at q
    exact absurd q (by decide +kernel)
theorem cut_tail (v : V) (xs : List V) : cutV (v :: xs) (some 1) none = xs := by
  unfold cutV
  have h1 : HT.sIx (v :: xs).length 0 (some 1) = 1 := by
    unfold HT.sIx
    simp
  have h2 : HT.sIx (v :: xs).length (v :: xs).length none = (v :: xs).length := rfl
  rw [h1, h2]
  simp
theorem mv_upd {Pt : Addr} {H : Hp} {a : Addr} {o : HO} (h : H a = none) (t : GxR.TabG H Pt) : (∀ b u, H b = some u → b ≠ Pt → upd H a o b = some u) ∧ GxR.TabG (upd H a o) Pt := by
  refine ⟨fun b u e _ => same_upd h _ _ e, ?_⟩
  obtain ⟨ps, e, k⟩ := t
  exact ⟨ps, same_upd h _ _ e, k⟩
theorem parts_fail : ∀ {ks ws : List Str} {i : Nat} {k w : Str}, ks[i]? = some k → ws[i]? = some w → part k w = none → parts ks ws = none
  | [], _, _, _, _, h, _, _ => by cases h
  | _ :: _, [], _, _, _, _, h, _ => by cases h
  | k :: ks, w :: ws, 0, _, _, h1, h2, h3 => by
    cases h1
    cases h2
    unfold parts
    rw [h3]
  | k :: ks, w :: ws, i + 1, _, _, h1, h2, h3 => by
    unfold parts
    cases part k w with
    | none => rfl
    | some v =>
      show (parts ks ws).map _ = none
      rw [parts_fail (i := i) (by simpa using h1) (by simpa using h2) h3]
      rfl
theorem parts_snoc : ∀ {ks ws : List Str} {i : Nat} {k w : Str} {vs : List V} {v : V}, parts (ks.take i) (ws.take i) = some vs → ks[i]? = some k → ws[i]? = some w → part k w = some v → parts (ks.take (i + 1)) (ws.take (i + 1)) = some (vs ++ [v])
  | [], _, _, _, _, _, _, _, h, _, _ => by cases h
  | _ :: _, [], _, _, _, _, _, _, _, h, _ => by cases h
  | k :: ks, w :: ws, 0, _, _, _, v, h0, h1, h2, h3 => by
    cases h1
    cases h2
    cases h0
    show parts [k] [w] = some [v]
    unfold parts
    rw [h3]
    rfl
  | k :: ks, w :: ws, i + 1, _, _, vs, v, h0, h1, h2, h3 => by
    obtain ⟨u, r, a, b, rfl⟩ := parts_cons (show parts (k :: ks.take i) (w :: ws.take i) = some vs from h0)
    have ih := parts_snoc (i := i) b (by simpa using h1) (by simpa using h2) h3
    show parts (k :: ks.take (i + 1)) (w :: ws.take (i + 1)) = some (u :: (r ++ [v]))
    rw [parts, a]
    show (parts (ks.take (i + 1)) (ws.take (i + 1))).map _ = _
    rw [ih]
    rfl
theorem kinds_parts {z : Str} {ks : List Str} (h : kinds z = some ks) : ks.length ≤ 3 ∧ ∀ k ∈ ks, k = "name" ∨ k = "above" ∨ k = "share" := by
  obtain ⟨q1, q2, q3, q4, q5, q6, q7⟩ := kinds_eqs
  have mem : z = "team" ∨ z = "hand" ∨ z = "wake" ∨ z = "rest" ∨ z = "share" ∨ z = "leave" ∨ z = "deal" := by simpa [deedWords] using kinds_mem h
  rcases mem with rfl | rfl | rfl | rfl | rfl | rfl | rfl
  · rw [q1] at h; cases h; exact ⟨by decide, fun k hk => by simpa using hk⟩
  · rw [q2] at h; cases h; exact ⟨by decide, fun k hk => by simpa using hk⟩
  · rw [q3] at h; cases h; exact ⟨by decide, fun k hk => by rw [List.mem_singleton.mp hk]; exact .inl rfl⟩
  · rw [q4] at h; cases h; exact ⟨by decide, fun k hk => by rw [List.mem_singleton.mp hk]; exact .inl rfl⟩
  · rw [q5] at h; cases h; exact ⟨by decide, fun k hk => by
      have hk : k = "name" ∨ k = "share" := by simpa using hk
      exact hk.elim .inl fun z => .inr (.inr z)⟩
  · rw [q6] at h; cases h; exact ⟨by decide, fun k hk => by rw [List.mem_singleton.mp hk]; exact .inl rfl⟩
  · rw [q7] at h; cases h; exact ⟨by decide, fun k hk => (nomatch hk)⟩
theorem vs_kind {D : Deed} (o : D.ok) : ∀ v ∈ D.vs, (∃ z, v = .str z) ∨ ∃ i, v = .int i ∧ isSh i := by
  intro v hv
  cases D with
  | deal => exact .inl ⟨_, List.mem_singleton.mp hv⟩
  | wake n =>
    have hv : v = .str "wake" ∨ v = .str n := by simpa [Deed.vs] using hv
    exact hv.elim (fun z => .inl ⟨_, z⟩) fun z => .inl ⟨_, z⟩
  | rest n =>
    have hv : v = .str "rest" ∨ v = .str n := by simpa [Deed.vs] using hv
    exact hv.elim (fun z => .inl ⟨_, z⟩) fun z => .inl ⟨_, z⟩
  | leave n =>
    have hv : v = .str "leave" ∨ v = .str n := by simpa [Deed.vs] using hv
    exact hv.elim (fun z => .inl ⟨_, z⟩) fun z => .inl ⟨_, z⟩
  | share n s =>
    have hv : v = .str "share" ∨ v = .str n ∨ v = .int s := by simpa [Deed.vs] using hv
    rcases hv with z | z | z
    · exact .inl ⟨_, z⟩
    · exact .inl ⟨_, z⟩
    · exact .inr ⟨_, z, o.2⟩
  | team n a s =>
    have hv : v = .str "team" ∨ v = .str n ∨ v = .str a ∨ v = .int s := by simpa [Deed.vs] using hv
    rcases hv with z | z | z | z
    · exact .inl ⟨_, z⟩
    · exact .inl ⟨_, z⟩
    · exact .inl ⟨_, z⟩
    · exact .inr ⟨_, z, o.2.2⟩
  | hand n a s =>
    have hv : v = .str "hand" ∨ v = .str n ∨ v = .str a ∨ v = .int s := by simpa [Deed.vs] using hv
    rcases hv with z | z | z | z
    · exact .inl ⟨_, z⟩
    · exact .inl ⟨_, z⟩
    · exact .inl ⟨_, z⟩
    · exact .inr ⟨_, z, o.2.2⟩
theorem log_small {i : Int} (h : isSh i) : i.natAbs.log2 < 1920 := by
  obtain ⟨a, b⟩ := h
  exact Nat.lt_of_le_of_lt (Nat.log2_le_self _) (by omega)
theorem join_fit {D : Deed} (o : D.ok) : ((D.vs.map wordOf).map (·.length)).sum + (D.vs.map wordOf).length * (" " : Str).length ≤ 16777216 := by
  have h2 := sum_le (l := D.vs.map wordOf) fun x hx => by
    obtain ⟨v, hv, rfl⟩ := List.mem_map.mp hx
    exact (words_ok o v hv).2
  have h3 := (vs_len D).2
  have h4 : (" " : Str).length = 1 := by decide +kernel
  rw [h4]
  rw [List.length_map] at h2 ⊢
  omega

/-! ### deeds done in a house, and told -/
inductive Rs where
  | ok (r : Str) | tw | nt | nn | nh | ne
def Rs.t : Rs → Str
  | .ok r => r
  | .tw => "twice"
  | .nt => "no team"
  | .nn => "no name"
  | .nh => "not a hand"
  | .ne => "not empty"
def told (ns : List Str) : Str := if Txt.join "/" ns = "" then "nobody" else Txt.join "/" ns
def Act (h : Hs) : Deed → Hs → Rs → Prop
  | .deal, h', r => ∃ ns, Deal h "" ns h' ∧ r = .ok (told ns)
  | .wake n, h', r => (lk h.ab n = none ∧ h' = h ∧ r = .nn) ∨ ∃ a, lk h.ab n = some a ∧ (((∃ U, lk h.wh n = some U) ∧ h' = h ∧ r = .nh) ∨
      (lk h.wh n = none ∧ ∃ W y, lk h.wh a = some W ∧ y ∈ W.rows ∧ y.n = n ∧ ((y.r = true ∧ h' = h ∧ r = .ok "no") ∨ (y.r = false ∧ WakeUp h n h' ∧ r = .ok "yes"))))
  | .rest n, h', r => (lk h.ab n = none ∧ h' = h ∧ r = .nn) ∨ ∃ a, lk h.ab n = some a ∧ (((∃ U, lk h.wh n = some U) ∧ h' = h ∧ r = .nh) ∨
      (lk h.wh n = none ∧ ∃ W y, lk h.wh a = some W ∧ y ∈ W.rows ∧ y.n = n ∧ ((y.r = false ∧ h' = h ∧ r = .ok "no") ∨ (y.r = true ∧ RestUp h n h' ∧ r = .ok "yes"))))
  | .leave n, h', r => (lk h.ab n = none ∧ h' = h ∧ r = .nn) ∨ ∃ a, lk h.ab n = some a ∧ ((∃ U, lk h.wh n = some U ∧ ((U.rows ≠ [] ∧ h' = h ∧ r = .ne) ∨ (U.rows = [] ∧ ∃ W, lk h.wh a = some W ∧ h' = leaveN h n a W ∧ r = .ok "done"))) ∨
      (lk h.wh n = none ∧ ∃ W y h1 W1, lk h.wh a = some W ∧ y ∈ W.rows ∧ y.n = n ∧ (y.r = false ∧ h1 = h ∨ y.r = true ∧ RestUp h n h1) ∧ lk h1.wh a = some W1 ∧ h' = leaveN h1 n a W1 ∧ r = .ok "done"))
  | .share n s, h', r => (lk h.ab n = none ∧ h' = h ∧ r = .nn) ∨ ∃ a W, lk h.ab n = some a ∧ lk h.wh a = some W ∧ h' = setW h a (Wm.reshare W n s) ∧ r = .ok "done"
  | .team n t s, h', r => (lk h.ab n ≠ none ∧ h' = h ∧ r = .tw) ∨ (lk h.ab n = none ∧ ((lk h.wh t = none ∧ h' = h ∧ r = .nt) ∨ ∃ W, lk h.wh t = some W ∧ h' = Mine.enterT h n t W s ∧ r = .ok "done"))
  | .hand n t s, h', r => (lk h.ab n ≠ none ∧ h' = h ∧ r = .tw) ∨ (lk h.ab n = none ∧ ((lk h.wh t = none ∧ h' = h ∧ r = .nt) ∨ ∃ W, lk h.wh t = some W ∧ h' = Mine.enterH h n t W s ∧ r = .ok "done"))
theorem Act.det {h h1 h2 : Hs} {D : Deed} {r1 r2 : Rs} (o : HOk h) (a : Act h D h1 r1) (b : Act h D h2 r2) : h1 = h2 ∧ r1 = r2 := by
  cases D with
  | deal =>
    obtain ⟨ns, d1, rfl⟩ := a
    obtain ⟨ms, d2, rfl⟩ := b
    obtain ⟨rfl, rfl⟩ := d1.det d2
    exact ⟨rfl, rfl⟩
  | wake n =>
    rcases a with ⟨e1, rfl, rfl⟩ | ⟨a1, e1, a⟩
    · rcases b with ⟨f1, rfl, rfl⟩ | ⟨b1, f1, b⟩
      · exact ⟨rfl, rfl⟩
      · rw [e1] at f1; cases f1
    · rcases b with ⟨f1, rfl, rfl⟩ | ⟨b1, f1, b⟩
      · rw [e1] at f1; cases f1
      · rw [e1] at f1
        cases f1
        rcases a with ⟨⟨U, u⟩, rfl, rfl⟩ | ⟨u, W, y, w1, w2, w3, a⟩
        · rcases b with ⟨⟨V, v⟩, rfl, rfl⟩ | ⟨v, b⟩
          · exact ⟨rfl, rfl⟩
          · rw [u] at v; cases v
        · rcases b with ⟨⟨V, v⟩, rfl, rfl⟩ | ⟨v, W', z, z1, z2, z3, b⟩
          · rw [u] at v; cases v
          · rw [w1] at z1
            cases z1
            cases Wm.row_of_name (o.ok _ _ w1).nd w2 z2 (w3.trans z3.symm)
            rcases a with ⟨p, rfl, rfl⟩ | ⟨p, u1, rfl⟩
            · rcases b with ⟨q, rfl, rfl⟩ | ⟨q, _⟩
              · exact ⟨rfl, rfl⟩
              · rw [p] at q; cases q
            · rcases b with ⟨q, _⟩ | ⟨q, u2, rfl⟩
              · rw [p] at q; cases q
              · exact ⟨u1.det u2, rfl⟩
  | rest n =>
    rcases a with ⟨e1, rfl, rfl⟩ | ⟨a1, e1, a⟩
    · rcases b with ⟨f1, rfl, rfl⟩ | ⟨b1, f1, b⟩
      · exact ⟨rfl, rfl⟩
      · rw [e1] at f1; cases f1
    · rcases b with ⟨f1, rfl, rfl⟩ | ⟨b1, f1, b⟩
      · rw [e1] at f1; cases f1
      · rw [e1] at f1
        cases f1
        rcases a with ⟨⟨U, u⟩, rfl, rfl⟩ | ⟨u, W, y, w1, w2, w3, a⟩
        · rcases b with ⟨⟨V, v⟩, rfl, rfl⟩ | ⟨v, b⟩
          · exact ⟨rfl, rfl⟩
          · rw [u] at v; cases v
        · rcases b with ⟨⟨V, v⟩, rfl, rfl⟩ | ⟨v, W', z, z1, z2, z3, b⟩
          · rw [u] at v; cases v
          · rw [w1] at z1
            cases z1
            cases Wm.row_of_name (o.ok _ _ w1).nd w2 z2 (w3.trans z3.symm)
            rcases a with ⟨p, rfl, rfl⟩ | ⟨p, u1, rfl⟩
            · rcases b with ⟨q, rfl, rfl⟩ | ⟨q, _⟩
              · exact ⟨rfl, rfl⟩
              · rw [p] at q; cases q
            · rcases b with ⟨q, _⟩ | ⟨q, u2, rfl⟩
              · rw [p] at q; cases q
              · exact ⟨u1.det u2, rfl⟩
  | leave n =>
    rcases a with ⟨e1, rfl, rfl⟩ | ⟨a1, e1, a⟩
    · rcases b with ⟨f1, rfl, rfl⟩ | ⟨b1, f1, b⟩
      · exact ⟨rfl, rfl⟩
      · rw [e1] at f1; cases f1
    · rcases b with ⟨f1, rfl, rfl⟩ | ⟨b1, f1, b⟩
      · rw [e1] at f1; cases f1
      · rw [e1] at f1
        cases f1
        rcases a with ⟨U, u, a⟩ | ⟨u, W, y, k1, W1, w1, w2, w3, a, w4, rfl, rfl⟩
        · rcases b with ⟨V, v, b⟩ | ⟨v, b⟩
          · rw [u] at v
            cases v
            rcases a with ⟨p, rfl, rfl⟩ | ⟨p, W, w, rfl, rfl⟩
            · rcases b with ⟨q, rfl, rfl⟩ | ⟨q, _⟩
              · exact ⟨rfl, rfl⟩
              · exact (p q).elim
            · rcases b with ⟨q, _⟩ | ⟨q, W', w', rfl, rfl⟩
              · exact (q p).elim
              · rw [w] at w'
                cases w'
                exact ⟨rfl, rfl⟩
          · rw [u] at v; cases v
        · rcases b with ⟨V, v, b⟩ | ⟨v, W', z, k2, W2, z1, z2, z3, b, z4, rfl, rfl⟩
          · rw [u] at v; cases v
          · rw [w1] at z1
            cases z1
            cases Wm.row_of_name (o.ok _ _ w1).nd w2 z2 (w3.trans z3.symm)
            have ek : k1 = k2 := by
              rcases a with ⟨p, rfl⟩ | ⟨p, u1⟩
              · rcases b with ⟨q, rfl⟩ | ⟨q, _⟩
                · rfl
                · rw [p] at q; cases q
              · rcases b with ⟨q, _⟩ | ⟨q, u2⟩
                · rw [p] at q; cases q
                · exact u1.det u2
            subst ek
            rw [w4] at z4
            cases z4
            exact ⟨rfl, rfl⟩
  | share n s =>
    rcases a with ⟨e1, rfl, rfl⟩ | ⟨a1, W, e1, w, rfl, rfl⟩
    · rcases b with ⟨f1, rfl, rfl⟩ | ⟨b1, W', f1, _⟩
      · exact ⟨rfl, rfl⟩
      · rw [e1] at f1; cases f1
    · rcases b with ⟨f1, rfl, rfl⟩ | ⟨b1, W', f1, w', rfl, rfl⟩
      · rw [e1] at f1; cases f1
      · rw [e1] at f1
        cases f1
        rw [w] at w'
        cases w'
        exact ⟨rfl, rfl⟩
  | team n t s =>
    rcases a with ⟨e1, rfl, rfl⟩ | ⟨e1, a⟩
    · rcases b with ⟨f1, rfl, rfl⟩ | ⟨f1, b⟩
      · exact ⟨rfl, rfl⟩
      · exact (e1 f1).elim
    · rcases b with ⟨f1, rfl, rfl⟩ | ⟨f1, b⟩
      · exact (f1 e1).elim
      · rcases a with ⟨u, rfl, rfl⟩ | ⟨W, u, rfl, rfl⟩
        · rcases b with ⟨v, rfl, rfl⟩ | ⟨W', v, _⟩
          · exact ⟨rfl, rfl⟩
          · rw [u] at v; cases v
        · rcases b with ⟨v, _⟩ | ⟨W', v, rfl, rfl⟩
          · rw [u] at v; cases v
          · rw [u] at v
            cases v
            exact ⟨rfl, rfl⟩
  | hand n t s =>
    rcases a with ⟨e1, rfl, rfl⟩ | ⟨e1, a⟩
    · rcases b with ⟨f1, rfl, rfl⟩ | ⟨f1, b⟩
      · exact ⟨rfl, rfl⟩
      · exact (e1 f1).elim
    · rcases b with ⟨f1, rfl, rfl⟩ | ⟨f1, b⟩
      · exact (f1 e1).elim
      · rcases a with ⟨u, rfl, rfl⟩ | ⟨W, u, rfl, rfl⟩
        · rcases b with ⟨v, rfl, rfl⟩ | ⟨W', v, _⟩
          · exact ⟨rfl, rfl⟩
          · rw [u] at v; cases v
        · rcases b with ⟨v, _⟩ | ⟨W', v, rfl, rfl⟩
          · rw [u] at v; cases v
          · rw [u] at v
            cases v
            exact ⟨rfl, rfl⟩
theorem str_ne {a b : Str} (h : decide (a = b) = false) {xs ys : List V} : (V.str a :: xs) ≠ V.str b :: ys := fun z => by
  injection z with z1 z2
  injection z1 with z3
  rw [decide_eq_true z3] at h
  cases h
theorem Deed.inj {D F : Deed} (h : D.vs = F.vs) : D = F := by
  cases D <;> cases F <;> first | rfl | exact (str_ne (by decide +kernel) h).elim | (simp only [Deed.vs, List.cons.injEq, V.str.injEq, V.int.injEq, and_true, true_and] at h; simp only [h])
/-- texts played in a row, the last one first -/
inductive Run (h0 : Hs) : List Str → List Str → Hs → Prop
  | nil : Run h0 [] [] h0
  | bad {x : Str} {xs rs : List Str} {h : Hs} : Run h0 xs rs h → due (Txt.split x " ") = none → Run h0 (x :: xs) ("no deed" :: rs) h
  | act {x : Str} {xs rs : List Str} {h h' : Hs} {D : Deed} {r : Rs} : Run h0 xs rs h → HOk h → due (Txt.split x " ") = some D.vs → Act h D h' r → Run h0 (x :: xs) (r.t :: rs) h'
theorem Run.det {h0 h1 h2 : Hs} {xs r1 r2 : List Str} (a : Run h0 xs r1 h1) (b : Run h0 xs r2 h2) : r1 = r2 ∧ h1 = h2 := by
  induction a generalizing r2 h2 with
  | nil =>
    cases b
    exact ⟨rfl, rfl⟩
  | bad a d ih =>
    cases b with
    | bad b e =>
      obtain ⟨rfl, rfl⟩ := ih b
      exact ⟨rfl, rfl⟩
    | act b o e c => rw [d] at e; cases e
  | act a o d c ih =>
    cases b with
    | bad b e => rw [d] at e; cases e
    | act b o' e c' =>
      obtain ⟨rfl, rfl⟩ := ih b
      rw [d] at e
      cases Deed.inj (Option.some.inj e)
      obtain ⟨rfl, rfl⟩ := Act.det o c c'
      exact ⟨rfl, rfl⟩
theorem Run.len {h0 h : Hs} {xs rs : List Str} (a : Run h0 xs rs h) : rs.length = xs.length := by
  induction a with
  | nil => rfl
  | bad _ _ ih => exact congrArg (· + 1) ih
  | act _ _ _ _ ih => exact congrArg (· + 1) ih
theorem lk_cases {β : Type} (l : List (Str × β)) (n : Str) : lk l n = none ∨ ∃ v, lk l n = some v := by
  cases lk l n with
  | none => exact .inl rfl
  | some v => exact .inr ⟨v, rfl⟩
theorem Deal.chain {rk : Str → Nat} {h h' : Hs} {t : Str} {ns : List Str} (d : Deal h t ns h') : HOk h → (∀ n a, lk h.ab n = some a → rk a < rk n) → (t :: ns).Pairwise (fun a b => rk a < rk b) ∧ ∀ n ∈ ns, ∃ a, lk h.ab n = some a := by
  induction d with
  | none e _ => exact fun _ _ => ⟨List.pairwise_singleton _ _, fun n hn => (nomatch hn)⟩
  | @hand h t W b e eb _ =>
    intro o hr
    have q := (o.sub t W b.n e).mp ⟨b, (Wm.best_some eb).2.1, rfl⟩
    refine ⟨List.pairwise_cons.mpr ⟨fun n hn => ?_, List.pairwise_singleton _ _⟩, fun n hn => ?_⟩
    · rw [List.mem_singleton.mp hn]
      exact hr _ _ q
    · rw [List.mem_singleton.mp hn]
      exact ⟨t, q⟩
  | @team h h' t W U b l e eb eu _ ih =>
    intro o hr
    have q := (o.sub t W b.n e).mp ⟨b, (Wm.best_some eb).2.1, rfl⟩
    obtain ⟨i1, i2⟩ := ih (turn_setW o e) hr
    have q2 := hr _ _ q
    refine ⟨List.pairwise_cons.mpr ⟨fun n hn => ?_, i1⟩, fun n hn => ?_⟩
    · rcases List.mem_cons.mp hn with rfl | hn
      · exact q2
      · exact Nat.lt_trans q2 ((List.pairwise_cons.mp i1).1 n hn)
    · rcases List.mem_cons.mp hn with rfl | hn
      · exact ⟨t, q⟩
      · exact i2 n hn
theorem Deal.fit {h h' : Hs} {ns : List Str} (d : Deal h "" ns h') (o : HOk h) : ns.length ≤ h.ab.length ∧ ∀ n ∈ ns, ∃ a, lk h.ab n = some a := by
  obtain ⟨rk, N, hr⟩ := o.rk
  obtain ⟨c1, c2⟩ := Deal.chain (rk := rk) d o fun n a e => (hr n a e).1
  refine ⟨?_, c2⟩
  have nd : ns.Nodup := ((List.pairwise_cons.mp c1).2).imp fun {a b} lt z => by
    rw [z] at lt
    exact Nat.lt_irrefl _ lt
  have := nodup_sub ns (keys h.ab) nd fun n hn => by
    obtain ⟨a, e⟩ := c2 n hn
    exact lk_some_key e
  unfold keys at this
  rw [List.length_map] at this
  exact this
theorem Up.same_ab {f : WhS → Str → WhS} {go : WhS → WhS → Prop} {h h' : Hs} {n : Str} (u : Up f go h n h') : h'.ab = h.ab := by
  induction u with
  | stop _ _ _ => rfl
  | next _ _ _ _ _ ih => exact ih
def AllN (h : Hs) : Prop := ∀ n a, lk h.ab n = some a → isN n
theorem deal_ab {h h' : Hs} {t : Str} {l : List Str} (d : Deal h t l h') : h'.ab = h.ab := by
  induction d with
  | none _ _ => rfl
  | hand _ _ _ => rfl
  | team _ _ _ _ ih => exact ih
theorem dp_len {β : Type} (l : List (Str × β)) (n : Str) : (dp l n).length ≤ l.length := List.length_filter_le _ _
theorem dp_all {h : Hs} {n : Str} (k : AllN h) {m a : Str} (e : lk (dp h.ab n) m = some a) : isN m := by
  by_cases z : m = n
  · rw [z, lk_dp] at e
    cases e
  · rw [lk_dp_ne z] at e
    exact k m a e
theorem app_all {h : Hs} {n t : Str} (k : AllN h) (hn : isN n) {m a : Str} (e : lk (h.ab ++ [(n, t)]) m = some a) : isN m := by
  by_cases z : m = n
  · rw [z]
    exact hn
  · rw [lk_app_old z] at e
    exact k m a e
theorem Act.keeps {h h' : Hs} {D : Deed} {r : Rs} (a : Act h D h' r) (ok : D.ok) (k : AllN h) : AllN h' ∧ h'.ab.length ≤ h.ab.length + 1 := by
  have same : h'.ab = h.ab → AllN h' ∧ h'.ab.length ≤ h.ab.length + 1 := fun e => by
    unfold AllN
    rw [e]
    exact ⟨k, Nat.le_succ _⟩
  cases D with
  | deal =>
    obtain ⟨ns, d, _⟩ := a
    exact same (deal_ab d)
  | wake n =>
    rcases a with ⟨_, rfl, _⟩ | ⟨a1, _, ⟨_, rfl, _⟩ | ⟨_, W, y, _, _, _, ⟨_, rfl, _⟩ | ⟨_, u, _⟩⟩⟩
    · exact same rfl
    · exact same rfl
    · exact same rfl
    · exact same (Up.same_ab u)
  | rest n =>
    rcases a with ⟨_, rfl, _⟩ | ⟨a1, _, ⟨_, rfl, _⟩ | ⟨_, W, y, _, _, _, ⟨_, rfl, _⟩ | ⟨_, u, _⟩⟩⟩
    · exact same rfl
    · exact same rfl
    · exact same rfl
    · exact same (Up.same_ab u)
  | leave n =>
    rcases a with ⟨_, rfl, _⟩ | ⟨a1, _, ⟨U, _, ⟨_, rfl, _⟩ | ⟨_, W, _, rfl, _⟩⟩ | ⟨_, W, y, h1, W1, _, _, _, u, _, rfl, _⟩⟩
    · exact same rfl
    · exact same rfl
    · exact ⟨fun m a e => dp_all k e, Nat.le_trans (dp_len _ _) (Nat.le_succ _)⟩
    · have e1 : h1.ab = h.ab := by
        rcases u with ⟨_, rfl⟩ | ⟨_, u⟩
        · rfl
        · exact Up.same_ab u
      have k1 : AllN h1 := by
        unfold AllN
        rw [e1]
        exact k
      exact ⟨fun m a e => dp_all k1 e, Nat.le_trans (dp_len h1.ab n) (by rw [e1]; exact Nat.le_succ _)⟩
  | share n s =>
    rcases a with ⟨_, rfl, _⟩ | ⟨a1, W, _, _, rfl, _⟩
    · exact same rfl
    · exact same rfl
  | team n t s =>
    rcases a with ⟨_, rfl, _⟩ | ⟨_, ⟨_, rfl, _⟩ | ⟨W, _, rfl, _⟩⟩
    · exact same rfl
    · exact same rfl
    · exact ⟨fun m a e => app_all k ok.1 e, by show (h.ab ++ [(n, t)]).length ≤ _; rw [List.length_append]; exact Nat.le_refl _⟩
  | hand n t s =>
    rcases a with ⟨_, rfl, _⟩ | ⟨_, ⟨_, rfl, _⟩ | ⟨W, _, rfl, _⟩⟩
    · exact same rfl
    · exact same rfl
    · exact ⟨fun m a e => app_all k ok.1 e, by show (h.ab ++ [(n, t)]).length ≤ _; rw [List.length_append]; exact Nat.le_refl _⟩

/-! ### notes: words read and shown -/
def Mv (Pt : Addr) (H H' : Hp) : Prop := (∀ b o, H b = some o → b ≠ Pt → H' b = some o) ∧ GxR.TabG H' Pt
theorem Mv.refl {Pt : Addr} {H : Hp} (t : GxR.TabG H Pt) : Mv Pt H H := ⟨fun _ _ e _ => e, t⟩
theorem Mv.trans {Pt : Addr} {H H1 H2 : Hp} (a : Mv Pt H H1) (b : Mv Pt H1 H2) : Mv Pt H H2 := ⟨fun x o e n => b.1 x o (a.1 x o e n) n, b.2⟩
theorem Mv.of_tab {Pt : Addr} {H H1 : Hp} (t : GxR.TabG H Pt) (c : H1 = H ∨ GxR.Tabbed Pt H H1) : Mv Pt H H1 := by
  rcases c with rfl | ⟨c1, c2⟩
  · exact .refl t
  · exact ⟨fun b o e n => by rw [c2 b n]; exact e, c1⟩
theorem Mv.upd {Pt : Addr} {H H1 : Hp} {a : Addr} {o : HO} (m : Mv Pt H H1) (h : H1 a = none) : Mv Pt H (L2.upd H1 a o) := m.trans (mv_upd h m.2)
theorem Mv.same {Pt : Addr} {H H1 : Hp} (t : GxR.TabG H Pt) (s : Same H H1) : Mv Pt H H1 := by
  obtain ⟨ps, e, k⟩ := t
  exact ⟨fun b o q _ => s b o q, ps, s _ _ e, k⟩
/-- what is laid is not the table -/
theorem tab_ne {H : Hp} {Pt b : Addr} {o : HO} (t : GxR.TabG H Pt) (e : H b = some o) (n : ∀ ps, o ≠ .tbl ps) : b ≠ Pt := fun z => by
  obtain ⟨ps, q, _⟩ := t
  rw [← z, e] at q
  exact n ps (Option.some.inj q)
theorem tab_new {H : Hp} {Pt b : Addr} (t : GxR.TabG H Pt) (e : H b = none) : b ≠ Pt := fun z => by
  obtain ⟨ps, q, _⟩ := t
  rw [← z, e] at q
  cases q
theorem Mv.lst {Pt : Addr} {H H1 : Hp} {b : Addr} {xs : List V} (m : Mv Pt H H1) (t : GxR.TabG H Pt) (e : H b = some (.lst xs)) : H1 b = some (.lst xs) := m.1 _ _ e (tab_ne t e fun _ z => nomatch z)
theorem Mv.tup {Pt : Addr} {H H1 : Hp} {b : Addr} {xs : List V} (m : Mv Pt H H1) (t : GxR.TabG H Pt) (e : H b = some (.tup xs)) : H1 b = some (.tup xs) := m.1 _ _ e (tab_ne t e fun _ z => nomatch z)
def spShr (CV : Addr) : Sp := fun vs H Q E => ∃ w, vs = [.str w] ∧ (∀ i, sDue w = some i → Q (.int i) H) ∧ (sDue w = none → E (.ref CV) none H)
def spPart (Pt CV : Addr) : Sp := fun vs H Q E => ∃ k w, vs = [.str k, .str w] ∧ (k = "name" ∨ k = "above" ∨ k = "share") ∧ GxR.TabG H Pt ∧ w.length ≤ sizeLine ∧ ∀ H', (H' = H ∨ GxR.Tabbed Pt H H') → (∀ v, part k w = some v → Q v H') ∧ (part k w = none → E (.ref CV) none H')
def spRead (Pt CV : Addr) : Sp := fun vs H Q E => ∃ x, vs = [.str x] ∧ GxR.TabG H Pt ∧ x.length ≤ 1000 ∧ ∀ H', Mv Pt H H' → (∀ r a, due (Txt.split x " ") = some r → H' a = some (.tup r) → H a = none → Q (.ref a) H') ∧ (due (Txt.split x " ") = none → E (.ref CV) none H')
def spShown : Sp := fun vs H Q _ => ∃ (t : Addr) (D : Deed), vs = [.ref t] ∧ H t = some (.tup D.vs) ∧ D.ok ∧ ∀ H', Same H H' → Q (.str D.text) H'
section
variable {P : Program} {w : World} {K : PySem.W.Frag} {mg : Str → Option Value} {base : Heap} {CS CW CB CT CN CH CM CY CA CD CU CE CV Pt : Addr}
theorem sc_read_share : FnScope ["word", "share"] ["word"] (defScope s_read_share) := ⟨rfl, rfl, rfl, by decide +kernel, rfl, by decide +kernel, by decide +kernel⟩
theorem ok_read_share {f : Addr} {fd : FuncData} (F : Fun K "read_share" "read_share" s_read_share f fd) (T : WT K mg CS CW CB CT CN) (L : LT mg) (r_V : ErT K mg "NoDeed" CV) :
    FnOk P w K mg base (L2.CX P w) 1 f fd ["word"] (spShr CV) := by
  refine F.okX sc_read_share (fun vs H Q E h => ?_) (fun cdv A outer s H vs Q E hr h => ?_)
  · (first | (obtain ⟨_, rfl, _⟩ := h; rfl) | (obtain ⟨_, _, rfl, _⟩ := h; rfl) | (obtain ⟨_, _, _, rfl, _⟩ := h; rfl) | (obtain ⟨_, _, _, _, rfl, _⟩ := h; rfl) | (obtain ⟨_, _, _, _, _, rfl, _⟩ := h; rfl) | (obtain ⟨_, _, _, _, _, _, rfl, _⟩ := h; rfl) | (obtain ⟨_, _, _, _, _, _, _, rfl, _⟩ := h; rfl) | (obtain ⟨_, _, _, _, _, _, _, _, rfl, _⟩ := h; rfl) | (obtain ⟨_, _, _, _, _, _, _, _, _, rfl, _⟩ := h; rfl) | (obtain ⟨_, _, _, _, _, _, _, _, _, _, rfl, _⟩ := h; rfl) | (obtain ⟨_, _, _, _, _, _, _, _, _, _, _, rfl, _⟩ := h; rfl) | (obtain ⟨_, _, _, _, _, _, _, _, _, _, _, _, rfl, _⟩ := h; rfl) | (obtain ⟨_, _, _, _, _, _, _, _, _, _, _, _, _, rfl, _⟩ := h; rfl) | (obtain ⟨_, _, _, _, _, _, _, _, _, _, _, _, _, _, rfl, _⟩ := h; rfl) | (obtain ⟨_, _, _, _, _, _, _, _, _, _, _, _, _, _, _, rfl, _⟩ := h; rfl))
  · obtain ⟨w0, rfl, k1, k2⟩ := h
    obtain ⟨tM, mMost⟩ := T.mM
    refine ⟨_, (pss_cons (ps_for (passes_of rfl) rfl (pi_range2 rfl L.range (pa_cons pe_int (pa_cons (pe_op op_add (pe_glob (v := .int 12) rfl mMost ⟨_, rfl⟩) pe_int) pa_nil))) (pg_name (i := 1) sc_read_share.nd rfl (Or.inl rfl))
        (pss_one (ps_if (pt_cmpR op_eq (pv 0) (pe_callTy call_str_int (by rfl) L.str PyProof.Rows.boot_str (pa_cons (pv 1) pa_nil)) (nomark _)) (pss_one (ps_ret (pv 1))) pss_nil)))
      (pss_one (ps_rs rfl (takes_of rfl rfl rfl rfl) r_V.t r_V.g (by rfl)))), ?_⟩
    refine ⟨12, 1, rfl, rfl, ?_⟩
    refine nil_app ⟨1, 12 + 1, rfl, ⟨by decide, by decide, by decide, by decide⟩, ?_⟩
    refine for_range (lo := 1) (n := 12) (fun i σ' H' => ∃ v1, σ' = [some (.str w0), v1] ∧ H' = H ∧ ∀ k : Nat, k < i → w0 ≠ numT ((k : Int) + 1)) ⟨_, rfl, rfl, fun k hk => absurd hk (Nat.not_lt_zero k)⟩ ?_ ?_
    · rintro i σ' H' hi ⟨v1, rfl, rfl, nk⟩
      refine ⟨_, rfl, _, rfl, 1 + (i : Int), rfl, ?_, ?_⟩
      · rw [show (1 + (i : Int)).natAbs = 1 + i by omega]
        exact Nat.lt_of_le_of_lt (Nat.log2_le_self _) (by omega)
      · refine ⟨rfl, _, rfl, ite2 (fun e => ?_) (fun e => ?_)⟩
        · have e1 : w0 = numT (1 + (i : Int)) := V.str.inj (of_decide_eq_true e)
          refine ⟨_, rfl, k1 _ ?_⟩
          rw [e1]
          exact sDue_num ⟨by omega, by omega⟩
        · refine ⟨_, rfl, rfl, fun k hk => ?_⟩
          by_cases q : k = i
          · intro z
            refine e (decide_eq_true (congrArg V.str ?_))
            rw [z, q]
            show numT _ = numT _
            congr 1
            omega
          · exact nk k (by omega)
    · rintro σ' H' ⟨v1, rfl, rfl, nk⟩
      refine k2 ?_
      cases e : sDue w0 with
      | none => rfl
      | some s =>
        obtain ⟨⟨s1, s2⟩, e2⟩ := sDue_sh e
        refine (nk (s - 1).toNat (by omega) ?_).elim
        rw [e2]
        congr 1
        omega
theorem sc_read_part : FnScope ["part", "word"] ["part", "word"] (defScope s_read_part) := ⟨rfl, rfl, rfl, by decide +kernel, rfl, by decide +kernel, by decide +kernel⟩
theorem ok_read_part {f : Addr} {fd : FuncData} (F : Fun K "read_part" "read_part" s_read_part f fd) (T : WT K mg CS CW CB CT CN) (L : LT mg) (g_is_name : DOk P w K mg base 2 "is_name" ["thing"] (spIsName Pt)) (g_read_share : DOk P w K mg base 1 "read_share" ["word"] (spShr CV)) (h_H : HT K mg CH) (h_TS : ∃ t, mg "TOP_SIGN" = some (.str "-" t)) (r_V : ErT K mg "NoDeed" CV) :
    FnOk P w K mg base (L2.CX P w) 4 f fd ["part", "word"] (spPart Pt CV) := by
  refine F.okX sc_read_part (fun vs H Q E h => ?_) (fun cdv A outer s H vs Q E hr h => ?_)
  · (first | (obtain ⟨_, rfl, _⟩ := h; rfl) | (obtain ⟨_, _, rfl, _⟩ := h; rfl) | (obtain ⟨_, _, _, rfl, _⟩ := h; rfl) | (obtain ⟨_, _, _, _, rfl, _⟩ := h; rfl) | (obtain ⟨_, _, _, _, _, rfl, _⟩ := h; rfl) | (obtain ⟨_, _, _, _, _, _, rfl, _⟩ := h; rfl) | (obtain ⟨_, _, _, _, _, _, _, rfl, _⟩ := h; rfl) | (obtain ⟨_, _, _, _, _, _, _, _, rfl, _⟩ := h; rfl) | (obtain ⟨_, _, _, _, _, _, _, _, _, rfl, _⟩ := h; rfl) | (obtain ⟨_, _, _, _, _, _, _, _, _, _, rfl, _⟩ := h; rfl) | (obtain ⟨_, _, _, _, _, _, _, _, _, _, _, rfl, _⟩ := h; rfl) | (obtain ⟨_, _, _, _, _, _, _, _, _, _, _, _, rfl, _⟩ := h; rfl) | (obtain ⟨_, _, _, _, _, _, _, _, _, _, _, _, _, rfl, _⟩ := h; rfl) | (obtain ⟨_, _, _, _, _, _, _, _, _, _, _, _, _, _, rfl, _⟩ := h; rfl) | (obtain ⟨_, _, _, _, _, _, _, _, _, _, _, _, _, _, _, rfl, _⟩ := h; rfl))
  · obtain ⟨k0, w0, rfl, hk, hT, hw, kk⟩ := h
    obtain ⟨tS, mSign⟩ := h_TS
    obtain ⟨tT, mTop⟩ := h_H.top
    refine ⟨_, (pss_cons (ps_if (pt_cmpR op_eq (pv 0) pe_str (nomark _)) (pss_one (ps_ret (by exact pe_f g_read_share hr (by decide) (by rfl) (fun σ => passAt (takes_of rfl rfl rfl rfl) σ) (pa_cons (pv 1) pa_nil)))) pss_nil)
      (pss_cons (ps_if (PW.pt (pw_and (pt_cmpR op_eq (pv 0) pe_str (nomark _)) (pw_and1 (pt_cmpR op_eq (pv 1) (pe_glob (v := .str "-") rfl mSign ⟨_, rfl⟩) (nomark _))))) (pss_one (ps_ret (pe_glob (v := .str "") rfl mTop ⟨_, rfl⟩))) pss_nil)
      (pss_cons (ps_if (pt_not (pt_val (by exact pe_f g_is_name hr (by decide) (by rfl) (fun σ => passAt (takes_of rfl rfl rfl rfl) σ) (pa_cons (pv 1) pa_nil)))) (pss_one (ps_rs rfl (takes_of rfl rfl rfl rfl) r_V.t r_V.g (by rfl))) pss_nil)
      (pss_one (ps_ret (pv 1)))))), ?_⟩
    have last : ¬ k0 = "share" → ¬ (k0 = "above" ∧ w0 = "-") → ∀ H1, (H1 = H ∨ GxR.Tabbed Pt H H1) → (isNm (.str w0) = true → Q (.str w0) H1) ∧ (isNm (.str w0) = false → E (.ref CV) none H1) := fun n1 n2 H1 c => by
      have q := kk H1 c
      unfold part at q
      rw [if_neg n1, if_neg n2] at q
      refine ⟨fun z => q.1 _ (if_pos z), fun z => q.2 (if_neg fun y => ?_)⟩
      rw [z] at y
      cases y
    refine ⟨_, rfl, rfl, _, rfl, ite2 (fun e => ?_) (fun e => ?_)⟩
    · cases V.str.inj (of_decide_eq_true e)
      have q := kk H (.inl rfl)
      rw [part_share] at q
      exact ⟨_, rfl, w0, rfl, fun i hi => q.1 _ (by rw [hi]; rfl), fun hn => q.2 (by rw [hn]; rfl)⟩
    · have n1 : ¬ k0 = "share" := fun z => e (decide_eq_true (congrArg V.str z))
      have fin : ¬ (k0 = "above" ∧ w0 = "-") → (tSeq (tIfS (tNot (tB (tCallS (spIsName Pt) (fun σ => WE (fun cls d x H => E cls d H) σ) (tCons (tVar 1) tNil)))) (fun x σ H => E (Value.ref CV) none H) tNext) (tRet (tVar 1))) { nx := fun x H' => Q V.non H', rt := Q } (L2.start ["part", "word"] [V.str k0, V.str w0]) H := fun n2 => by
        refine ⟨_, rfl, .str w0, rfl, .str w0, hT, (fun z ez => by cases ez; exact hw), fun H1 c => ⟨_, rfl, ?_⟩⟩
        have l := last n1 n2 H1 c
        cases q : isNm (.str w0) with
        | true => exact iteF ⟨_, rfl, l.1 q⟩
        | false => exact iteT (l.2 q)
      refine ⟨_, rfl, rfl, _, rfl, ite2 (fun e2 => ⟨_, rfl, rfl, _, rfl, ite2 (fun e3 => ?_) (fun e3 => ?_)⟩) (fun e2 => iteF ?_)⟩
      · cases V.str.inj (of_decide_eq_true e2)
        cases V.str.inj (of_decide_eq_true e3)
        exact (kk H (.inl rfl)).1 _ (by decide +kernel)
      · exact fin fun z => e3 (decide_eq_true (congrArg V.str z.2))
      · exact fin fun z => e2 (decide_eq_true (congrArg V.str z.1))
theorem sc_read : FnScope ["line", "words", "parts", "rest", "part", "word"] ["line"] (defScope s_read) := ⟨rfl, rfl, rfl, by decide +kernel, rfl, by decide +kernel, by decide +kernel⟩
theorem ok_read {f : Addr} {fd : FuncData} (F : Fun K "read" "read" s_read f fd) (T : WT K mg CS CW CB CT CN) (L : LT mg) (g_read_part : DOk P w K mg base 4 "read_part" ["part", "word"] (spPart Pt CV)) (h_PA : PartsOk K w mg) (r_V : ErT K mg "NoDeed" CV) :
    FnOk P w K mg base (L2.CX P w) 5 f fd ["line"] (spRead Pt CV) := by
  refine F.okX sc_read (fun vs H Q E h => ?_) (fun cdv A outer s H vs Q E hr h => ?_)
  · (first | (obtain ⟨_, rfl, _⟩ := h; rfl) | (obtain ⟨_, _, rfl, _⟩ := h; rfl) | (obtain ⟨_, _, _, rfl, _⟩ := h; rfl) | (obtain ⟨_, _, _, _, rfl, _⟩ := h; rfl) | (obtain ⟨_, _, _, _, _, rfl, _⟩ := h; rfl) | (obtain ⟨_, _, _, _, _, _, rfl, _⟩ := h; rfl) | (obtain ⟨_, _, _, _, _, _, _, rfl, _⟩ := h; rfl) | (obtain ⟨_, _, _, _, _, _, _, _, rfl, _⟩ := h; rfl) | (obtain ⟨_, _, _, _, _, _, _, _, _, rfl, _⟩ := h; rfl) | (obtain ⟨_, _, _, _, _, _, _, _, _, _, rfl, _⟩ := h; rfl) | (obtain ⟨_, _, _, _, _, _, _, _, _, _, _, rfl, _⟩ := h; rfl) | (obtain ⟨_, _, _, _, _, _, _, _, _, _, _, _, rfl, _⟩ := h; rfl) | (obtain ⟨_, _, _, _, _, _, _, _, _, _, _, _, _, rfl, _⟩ := h; rfl) | (obtain ⟨_, _, _, _, _, _, _, _, _, _, _, _, _, _, rfl, _⟩ := h; rfl) | (obtain ⟨_, _, _, _, _, _, _, _, _, _, _, _, _, _, _, rfl, _⟩ := h; rfl))
  · obtain ⟨x, rfl, hT, hx, kk⟩ := h
    obtain ⟨pA, fA, mA, WA, no, has⟩ := h_PA.ex
    refine ⟨_, (pss_cons (ps_set (i := 1) sc_read.nd rfl (Or.inl rfl) (pe_split (pv 0) pe_str))
      (pss_cons (ps_set (i := 2) sc_read.nd rfl (Or.inl rfl) (pe_wget (pe_glob (v := .ref pA) rfl mA rfl) (pe_ix (ix_listK (K0 := K)) (pv 1) pe_int (fun _ _ => rfl)) ⟨rfl, rfl, rfl, rfl⟩))
      (pss_cons (ps_if (PW.pt (pw_or (pt_cmpR op_isN (pv 2) pe_non (nomark _)) (pw_or1 (pt_cmpR op_ne (pe_callB call_len_seq (by rfl) L.len PySem.boot_len (pa_cons (pv 1) pa_nil)) (pe_op op_add (pe_callB call_len_seq (by rfl) L.len PySem.boot_len (pa_cons (pv 2) pa_nil)) pe_int) (nomark _))))) (pss_one (ps_rs rfl (takes_of rfl rfl rfl rfl) r_V.t r_V.g (by rfl))) pss_nil)
      (pss_cons (ps_setLcX (i := 3) (own := [("part", 4), ("word", 5)]) (g := gTup K 2 (gCons (gName 4) (gCons (gName 5) gNil))) (tt := tYes) rfl sc_read.nd rfl rfl (takes_of rfl rfl rfl rfl) (fun _ _ _ _ z => z) rfl rfl (sw_true rfl rfl rfl (by decide +kernel)) (pi_zipM (by rfl) L.zip (pa_cons (pv 2) (pa_cons (pe_slice sl_list (pv 1) (po_some pe_int) po_none) pa_nil))) (blkOk_by (N := ["line", "words", "parts", "rest", "part", "word"]) (sc := defScope s_read) (by decide +kernel)) (fun _ _ _ _ _ => (pg_tup rfl (pgs_cons (pg_name (i := 4) sc_read.nd rfl (Or.inl rfl)) (pgs_cons (pg_name (i := 5) sc_read.nd rfl (Or.inl rfl)) pgs_nil)))) (fun _ _ _ _ _ => pts_nil) (fun _ _ _ _ _ xe hx => (by exact pe_f g_read_part hr (by decide) (by rfl) (fun σ => passOf hx σ) (pa_cons (pv 4) (pa_cons (pv 5) pa_nil)))))
      (pss_one (ps_ret (pe_tup (pa_cons (pe_ix (ix_listK (K0 := K)) (pv 1) pe_int (fun _ _ => rfl)) (StX.pa_star (pv 3) pa_nil))))))))), ?_⟩
    obtain ⟨wl, wn, w0, wr, ew⟩ := split_ok x
    rw [ew] at wl wn kk
    refine ⟨_, rfl, ⟨x, rfl⟩, x, " ", rfl, rfl, by decide +kernel, Nat.le_trans (show x.length + 2 ≤ 1002 by omega) (by decide +kernel), fun lw hlw => ?_⟩
    rw [ew]
    have m1 := mv_upd (o := .lst ((w0 :: wr).map V.str)) hlw hT
    have e1 : upd H lw (.lst ((w0 :: wr).map V.str)) lw = some (.lst ((w0 :: wr).map V.str)) := upd_same
    generalize upd H lw (.lst ((w0 :: wr).map V.str)) = H1 at m1 e1 ⊢
    refine ⟨pA, fA, rfl, WA, _, rfl, lw, _, 0, .str w0, rfl, rfl, SqL.of e1, atI_nat (j := 0) rfl, w0, rfl, ?_⟩
    cases ek : kinds w0 with
    | none =>
      have dn : due (w0 :: wr) = none := by rw [due_cons, ek]
      rw [no w0 ek]
      refine ⟨_, rfl, rfl, _, rfl, ite2 (fun _ => iteT ((kk _ m1).2 dn)) (fun e => (e (decide_eq_true rfl)).elim)⟩
    | some ks =>
      obtain ⟨pa, ea, sq⟩ := has w0 ks ek
      rw [ea]
      refine ⟨_, rfl, rfl, _, rfl, ite2 (fun e => by cases of_decide_eq_true e) (fun _ => ?_)⟩
      refine ⟨_, rfl, lw, _, rfl, .inl (SqL.of e1), _, rfl, pa, _, rfl, .inr (sq _), _, _, rfl, rfl, rfl, _, rfl, ?_⟩
      have lws : ((w0 :: wr).map V.str).length = wr.length + 1 := by rw [List.length_map]; rfl
      have lks : (ks.map V.str).length = ks.length := List.length_map _
      refine ite2 (fun e => ?_) (fun e => ?_)
      · have hl : ks.length ≠ wr.length := fun z => by
          rw [lws, lks, z] at e
          simp at e
        have dn : due (w0 :: wr) = none := by
          rw [due_cons, ek]
          show (parts ks wr).map _ = none
          rw [parts_bad hl]
          rfl
        exact (kk _ m1).2 dn
      · have hl : ks.length = wr.length := Classical.byContradiction fun z => e (by
          rw [lws, lks]
          simp
          omega)
        refine ⟨_, rfl, _, rfl, _, rfl, lw, _, rfl, SqL.of e1, fun lt hlt => ?_⟩
        rw [show cutV ((w0 :: wr).map V.str) (some 1) none = wr.map V.str from cut_tail _ _]
        have m2 : Mv Pt H (upd H1 lt (.lst (wr.map V.str))) := Mv.upd m1 hlt
        have e2 : upd H1 lt (.lst (wr.map V.str)) lt = some (.lst (wr.map V.str)) := upd_same
        have e3 : upd H1 lt (.lst (wr.map V.str)) lw = some (.lst ((w0 :: wr).map V.str)) := by
          rw [upd_ne (ne_of_none e1 hlt)]
          exact e1
        generalize upd H1 lt (.lst (wr.map V.str)) = H2 at m2 e2 e3 ⊢
        refine nil_app ⟨.t pa, .l lt, ks.map V.str, wr.map V.str, rfl, sq _, SqL.of e2, fun D hD => ?_⟩
        have nDP := tab_new m2.2 hD
        have nD : ∀ {b : Addr} {o : HO}, H2 b = some o → b ≠ D := fun {b o} q z => by rw [z, hD] at q; cases q
        refine lc_zipM (by rw [lks, List.length_map, hl]) (fun i H' => ∃ vs, parts (ks.take i) (wr.take i) = some vs ∧ H' D = some (.lst vs) ∧ Mv Pt H2 H') ⟨[], rfl, upd_same, Mv.upd (.refl m2.2) hD⟩ (fun i H' ⟨_, _, _, m⟩ => ⟨sq _, SqL.of (m.lst m2.2 e2)⟩) ?_ ?_
        · rintro i x1 y1 T Hi hx1 hy1 ⟨vs, hv, hd, m⟩ hTn
          rw [List.getElem?_map] at hx1 hy1
          obtain ⟨k1, hk1, rfl⟩ := Option.map_eq_some_iff.mp hx1
          obtain ⟨w1, hw1, rfl⟩ := Option.map_eq_some_iff.mp hy1
          have mT : Mv Pt H2 (upd Hi T (.tup [.str k1, .str w1])) := Mv.upd m hTn
          have dT : upd Hi T (.tup [.str k1, .str w1]) D = some (.lst vs) := by
            rw [upd_ne (ne_of_none hd hTn)]
            exact hd
          refine ⟨T, [.str k1, .str w1], rfl, SqT.of upd_same, rfl, _, _, rfl, _, _, rfl, rfl, rfl, ?_⟩
          generalize upd Hi T (.tup [.str k1, .str w1]) = H3 at mT dT ⊢
          unfold tYes
          refine (fun {A B : Prop} (z : A) => show if true = true then A else B from z) ?_
          have w1l := wl w1 (List.mem_cons_of_mem _ (List.mem_of_getElem? hw1))
          refine ⟨_, rfl, _, rfl, k1, w1, rfl, (kinds_parts ek).2 k1 (List.mem_of_getElem? hk1), mT.2, Nat.le_of_lt (small1000 (by omega)), fun H4 c => ?_⟩
          have m4 := mT.trans (Mv.of_tab mT.2 c)
          have d4 : H4 D = some (.lst vs) := (Mv.of_tab mT.2 c).lst mT.2 dT
          refine ⟨fun v hv1 => ⟨vs, d4, ?_, vs ++ [v], parts_snoc hv hk1 hw1 hv1, upd_same, fun b o q n => ?_, ?_⟩, fun hn => ?_⟩
          · have := (parts_len hv).2
            rw [this, List.length_take]
            have := (kinds_parts ek).1
            exact small1000 (by omega)
          · rw [upd_ne (nD q)]
            exact m4.1 b o q n
          · obtain ⟨ps, q, z⟩ := m4.2
            exact ⟨ps, by rw [upd_ne nDP.symm]; exact q, z⟩
          · refine (kk _ (m2.trans m4)).2 ?_
            rw [due_cons, ek]
            show (parts ks wr).map _ = none
            rw [parts_fail hk1 hw1 hn]
            rfl
        · rintro H' ⟨vs, hv, hd, m⟩
          have hv : parts ks wr = some vs := by
            rw [lks, List.take_length, hl, List.take_length] at hv
            exact hv
          have dn : due (w0 :: wr) = some (.str w0 :: vs) := by
            rw [due_cons, ek]
            show (parts ks wr).map _ = _
            rw [hv]
            rfl
          refine ⟨_, rfl, lw, _, 0, .str w0, rfl, rfl, SqL.of (m.lst m2.2 e3), atI_nat (j := 0) rfl, _, rfl, D, vs, rfl, .inr (SqL.of hd), ?_⟩
          refine nil_app ⟨?_, fun p hp => ?_⟩
          · rw [List.append_nil, List.length_cons, (parts_len hv).2]
            have := (kinds_parts ek).1
            exact Nat.le_of_lt (small1000 (by omega))
          · rw [List.append_nil]
            have mf : Mv Pt H (upd H' p (.tup (.str w0 :: vs))) := Mv.upd (m2.trans m) hp
            refine (kk _ mf).1 _ p dn upd_same ?_
            cases q : H p with
            | none => rfl
            | some o =>
              have z := (m2.trans m).1 p o q fun z => (tab_new (m2.trans m).2 hp) z
              rw [hp] at z
              cases z
theorem sc_shown : FnScope ["deed", "part"] ["deed"] (defScope s_shown) := ⟨rfl, rfl, rfl, by decide +kernel, rfl, by decide +kernel, by decide +kernel⟩
theorem ok_shown {f : Addr} {fd : FuncData} (F : Fun K "shown" "shown" s_shown f fd) (T : WT K mg CS CW CB CT CN) (L : LT mg) (h_H : HT K mg CH) (h_TS : ∃ t, mg "TOP_SIGN" = some (.str "-" t)) :
    FnOk P w K mg base (L2.CX P w) 1 f fd ["deed"] spShown := by
  refine okN F sc_shown (fun vs H Q E h => ?_) (fun cdv A outer s H vs Q E hr h => ?_)
  · (first | (obtain ⟨_, rfl, _⟩ := h; rfl) | (obtain ⟨_, _, rfl, _⟩ := h; rfl) | (obtain ⟨_, _, _, rfl, _⟩ := h; rfl) | (obtain ⟨_, _, _, _, rfl, _⟩ := h; rfl) | (obtain ⟨_, _, _, _, _, rfl, _⟩ := h; rfl) | (obtain ⟨_, _, _, _, _, _, rfl, _⟩ := h; rfl) | (obtain ⟨_, _, _, _, _, _, _, rfl, _⟩ := h; rfl) | (obtain ⟨_, _, _, _, _, _, _, _, rfl, _⟩ := h; rfl) | (obtain ⟨_, _, _, _, _, _, _, _, _, rfl, _⟩ := h; rfl) | (obtain ⟨_, _, _, _, _, _, _, _, _, _, rfl, _⟩ := h; rfl) | (obtain ⟨_, _, _, _, _, _, _, _, _, _, _, rfl, _⟩ := h; rfl) | (obtain ⟨_, _, _, _, _, _, _, _, _, _, _, _, rfl, _⟩ := h; rfl) | (obtain ⟨_, _, _, _, _, _, _, _, _, _, _, _, _, rfl, _⟩ := h; rfl) | (obtain ⟨_, _, _, _, _, _, _, _, _, _, _, _, _, _, rfl, _⟩ := h; rfl) | (obtain ⟨_, _, _, _, _, _, _, _, _, _, _, _, _, _, _, rfl, _⟩ := h; rfl))
  · obtain ⟨t, D, rfl, ht, ok, kk⟩ := h
    obtain ⟨tS, mSign⟩ := h_TS
    obtain ⟨tT, mTop⟩ := h_H.top
    refine ⟨_, (pss_one (ps_ret (by exact pe_join pe_str (pe_lc (own := [("part", 1)]) (g := gName 1) (tt := tYes) rfl sc_shown.nd (pi_tup (pv 0)) (blkOk_by (N := ["deed", "part"]) (sc := defScope s_shown) (by decide +kernel)) (fun _ _ _ _ _ => (pg_name (i := 1) sc_shown.nd rfl (Or.inl rfl))) (fun _ _ _ _ _ => pts_nil) (fun _ _ _ _ _ => (pe_ifExp (pt_cmpR op_eq (pv 1) (pe_glob (v := .str "") rfl mTop ⟨_, rfl⟩) (nomark _)) (pe_glob (v := .str "-") rfl mSign ⟨_, rfl⟩) (pe_callTy call_str_any (by rfl) L.str PyProof.Rows.boot_str (pa_cons (pv 1) pa_nil)))))))), ?_⟩
    refine ⟨⟨" ", rfl⟩, _, rfl, t, rfl, ⟨_, SqT.of ht⟩, fun L hL => ?_⟩
    refine Mine.lc_it (walk_tup (K := K) (a := t) (xs := D.vs)) (fun i H' => Same H H' ∧ H' L = some (.lst ((D.vs.take i).map fun v => V.str (wordOf v)))) ⟨same_upd hL, upd_same⟩ (fun i H' _ e => SqT.of (e.1 _ _ ht)) ?_ ?_
    · rintro i v H1 H2 hi ⟨s, e⟩ ⟨rfl, hv⟩
      have mv := List.mem_of_getElem? hv
      have put : ∀ u, u = V.str (wordOf v) → ∃ acc, H2 L = some (.lst acc) ∧ acc.length < sizeLine ∧ Same H (upd H2 L (.lst (acc ++ [u]))) ∧ upd H2 L (.lst (acc ++ [u])) L = some (.lst ((D.vs.take (i + 1)).map fun v => V.str (wordOf v))) := by
        rintro u rfl
        refine ⟨_, e, ?_, fun b o q => ?_, ?_⟩
        · rw [List.length_map, List.length_take]
          have := (vs_len D).2
          exact small1000 (by omega)
        · rw [upd_ne fun z => by rw [z, hL] at q; cases q]
          exact s _ _ q
        · rw [upd_same, take_snoc hv, List.map_append]
          rfl
      refine ⟨rfl, ?_⟩
      unfold tYes
      refine (fun {A B : Prop} (z : A) => show if true = true then A else B from z) ?_
      rcases vs_kind ok v mv with ⟨z, rfl⟩ | ⟨j, rfl, hj⟩
      · refine ⟨_, rfl, rfl, _, rfl, ite2 (fun q => put _ ?_) (fun q => ⟨_, rfl, .inr ⟨z, rfl, put _ ?_⟩⟩)⟩
        · cases V.str.inj (of_decide_eq_true q)
          decide +kernel
        · exact congrArg V.str (wordOf_k fun z0 => q (decide_eq_true (congrArg V.str z0))).symm
      · exact ⟨_, rfl, rfl, _, rfl, ite2 (fun q => by cases of_decide_eq_true q) (fun q => ⟨_, rfl, .inl ⟨j, rfl, log_small hj, put _ rfl⟩⟩)⟩
    · rintro H' ⟨s, e⟩
      have e2 : H' L = some (.lst ((D.vs.map wordOf).map V.str)) := by
        rw [List.take_length] at e
        rw [List.map_map]
        exact e
      exact ⟨" ", L, D.vs.map wordOf, rfl, rfl, .inl (SqL.of e2), join_fit ok, kk H' s⟩
end

/-! ### notes: a deed done in a house -/
structure Mw (Pt : Addr) (fp : List Addr) (H : Hp) (fp' : List Addr) (H' : Hp) : Prop where
  kept : ∀ b o, H b = some o → b ∉ fp → b ≠ Pt → H' b = some o
  new : ∀ b ∈ fp', b ∈ fp ∨ H b = none
  tab : GxR.TabG H' Pt
section
variable {CH CW CS Pt : Addr} {H H1 H2 H' : Hp} {p : Addr} {h : Hs} {fp fp1 fp' : List Addr}
theorem Mw.refl (t : GxR.TabG H Pt) : Mw Pt fp H fp H := ⟨fun _ _ e _ _ => e, fun _ h => .inl h, t⟩
theorem Mw.trans (a : Mw Pt fp H fp1 H1) (b : Mw Pt fp1 H1 fp' H') : Mw Pt fp H fp' H' := by
  refine ⟨fun c o e n1 n2 => b.kept c o (a.kept c o e n1 n2) (fun z => ?_) n2, fun c hc => ?_, b.tab⟩
  · rcases a.new c z with q | q
    · exact n1 q
    · rw [q] at e
      cases e
  · rcases b.new c hc with q | q
    · exact a.new c q
    · by_cases z : c ∈ fp
      · exact .inl z
      · right
        cases e : H c with
        | none => rfl
        | some o =>
          by_cases zp : c = Pt
          · obtain ⟨ps, e2, _⟩ := a.tab
            rw [zp, e2] at q
            cases q
          · rw [a.kept c o e z zp] at q
            cases q
theorem Mw.of_mv (m : Mv Pt H H') : Mw Pt fp H fp H' := ⟨fun b o e _ n => m.1 b o e n, fun _ h => .inl h, m.2⟩
theorem Mw.of_step (hA : HAt CH CW CS H p h fp) (t : GxR.TabG H Pt) (c : H1 = H ∨ GxR.Tabbed Pt H H1) (st : Step fp H1 fp' H') : Mw Pt fp H fp' H' := by
  have m : Mw Pt fp H fp H1 := .of_mv (Mv.of_tab t c)
  have hA1 := hA.tab t c
  exact m.trans ⟨fun b o e n _ => st.kept b o e n, st.new, tab_step hA1 m.tab st⟩
theorem Mw.step (hA : HAt CH CW CS H p h fp) (t : GxR.TabG H Pt) (st : Step fp H fp' H') : Mw Pt fp H fp' H' := .of_step hA t (.inl rfl) st
theorem Mw.house (m : Mw Pt fp H fp' H') (hA : HAt CH CW CS H1 p h fp1) (t : GxR.TabG H1 Pt) (k : ∀ b ∈ fp1, ∀ o, H1 b = some o → H b = some o ∧ b ∉ fp) : HAt CH CW CS H' p h fp1 :=
  hA.keep fun b hb o e => m.kept b o (k b hb o e).1 (k b hb o e).2 fun z => tab_out hA t (by rw [← z]; exact hb)
end
def erC (CT CM CN CD CY : Addr) : Rs → Option Addr
  | .ok _ => none
  | .tw => some CT
  | .nt => some CM
  | .nn => some CN
  | .nh => some CD
  | .ne => some CY
/-- how an error goes out -/
def Outs (CH CW CS Pt CT CM CN CD CY : Addr) (H : Hp) (p : Addr) (h : Hs) (fp : List Addr) (D : Deed) (E : XK) : Prop := ∀ H' r c, Act h D h r → erC CT CM CN CD CY r = some c → HAt CH CW CS H' p h fp → Mw Pt fp H fp H' → E (.ref c) none H'
/-- how an end is told -/
def Ends14 (CH CW CS Pt : Addr) (H : Hp) (p : Addr) (h : Hs) (fp : List Addr) (D : Deed) (G : Str → Hp → Prop) : Prop := ∀ H' h' fp' r, Act h D h' (.ok r) → HAt CH CW CS H' p h' fp' → Rd h' "" → Mw Pt fp H fp' H' → G r H'
section
variable {CH CW CS Pt CB CT CM CN CD CY CA : Addr} {H : Hp} {p : Addr} {h : Hs} {fp : List Addr} {Q : VK} {E : XK} {n : Str} {G : Str → Hp → Prop}
theorem rows_1000 (o : HOk h) (hl : h.ab.length ≤ 800) : ∀ t W, lk h.wh t = some W → W.rows.length ≤ 1000 := fun t W e => Nat.le_trans (o.len e) (by omega)
theorem row_of (o : HOk h) {a : Str} {W : WhS} (e : lk h.ab n = some a) (eW : lk h.wh a = some W) : ∃ y ∈ W.rows, y.n = n := (o.sub a W n eW).mpr e
theorem do_wake (hA : HAt CH CW CS H p h fp) (rd : Rd h "") (hT : GxR.TabG H Pt) (g : Ends14 CH CW CS Pt H p h fp (.wake n) G) (q : ∀ H' b, G (if b = true then "yes" else "no") H' → Q (.bl b) H') (e : Outs CH CW CS Pt CT CM CN CD CY H p h fp (.wake n) E) :
    spHWake CH CW CS CN CD [.ref p, .str n] H Q E := by
  have o := hA.ok
  refine ⟨p, h, fp, .str n, rfl, hA, rd, .str n, fun z => ?_, fun m a W em ea eW => ?_, fun m a W y em ea nw eW hy yn => ⟨fun yr H' hA' st => ?_, fun yr H' fp' h' u hA' rd' st => ?_⟩⟩
  · refine e H .nn _ (.inl ⟨?_, rfl, rfl⟩) rfl hA (.refl hT)
    rcases lk_cases h.ab n with q | ⟨a, q⟩
    · exact q
    · exact (z n a rfl q).elim
  · cases em
    exact e H .nh _ (.inr ⟨a, ea, .inl ⟨⟨W, eW⟩, rfl, rfl⟩⟩) rfl hA (.refl hT)
  · cases em
    exact q H' false (g H' h fp "no" (.inr ⟨a, ea, .inr ⟨nw, W, y, eW, hy, yn, .inl ⟨yr, rfl, rfl⟩⟩⟩) hA' rd (.step hA hT st))
  · cases em
    exact q H' true (g H' h' fp' "yes" (.inr ⟨a, ea, .inr ⟨nw, W, y, eW, hy, yn, .inr ⟨yr, u, rfl⟩⟩⟩) hA' rd' (.step hA hT st))
theorem do_rest (hA : HAt CH CW CS H p h fp) (rd : Rd h "") (hT : GxR.TabG H Pt) (g : Ends14 CH CW CS Pt H p h fp (.rest n) G) (q : ∀ H' b, G (if b = true then "yes" else "no") H' → Q (.bl b) H') (e : Outs CH CW CS Pt CT CM CN CD CY H p h fp (.rest n) E) :
    spHRest CH CW CS CN CD [.ref p, .str n] H Q E := by
  have o := hA.ok
  refine ⟨p, h, fp, .str n, rfl, hA, rd, .str n, fun z => ?_, fun m a W em ea eW => ?_, fun m a W y em ea nw eW hy yn => ⟨fun yr H' hA' st => ?_, fun yr H' fp' h' u hA' rd' st => ?_⟩⟩
  · refine e H .nn _ (.inl ⟨?_, rfl, rfl⟩) rfl hA (.refl hT)
    rcases lk_cases h.ab n with q | ⟨a, q⟩
    · exact q
    · exact (z n a rfl q).elim
  · cases em
    exact e H .nh _ (.inr ⟨a, ea, .inl ⟨⟨W, eW⟩, rfl, rfl⟩⟩) rfl hA (.refl hT)
  · cases em
    exact q H' false (g H' h fp "no" (.inr ⟨a, ea, .inr ⟨nw, W, y, eW, hy, yn, .inl ⟨yr, rfl, rfl⟩⟩⟩) hA' rd (.step hA hT st))
  · cases em
    exact q H' true (g H' h' fp' "yes" (.inr ⟨a, ea, .inr ⟨nw, W, y, eW, hy, yn, .inr ⟨yr, u, rfl⟩⟩⟩) hA' rd' (.step hA hT st))
theorem do_leave (hA : HAt CH CW CS H p h fp) (rd : Rd h "") (hT : GxR.TabG H Pt) (g : Ends14 CH CW CS Pt H p h fp (.leave n) G) (q : ∀ H', G "done" H' → Q .non H') (e : Outs CH CW CS Pt CT CM CN CD CY H p h fp (.leave n) E) :
    spHLeave CH CW CS CN CY [.ref p, .str n] H Q E := by
  refine ⟨p, h, fp, .str n, rfl, hA, rd, .str n, fun z => ?_, fun m a U em ea eU ne H' s => ?_, fun m a U W em ea eU ne eW H' fp' hA' rd' st => ?_, fun m a W y h1 W1 em ea nw eW hy yn u eW1 H' fp' hA' rd' st => ?_⟩
  · refine e H .nn _ (.inl ⟨?_, rfl, rfl⟩) rfl hA (.refl hT)
    rcases lk_cases h.ab n with q | ⟨a, q⟩
    · exact q
    · exact (z n a rfl q).elim
  · cases em
    exact e H' .ne _ (.inr ⟨a, ea, .inl ⟨U, eU, .inl ⟨ne, rfl, rfl⟩⟩⟩) rfl (hA.same s) (.of_mv (.same hT s))
  · cases em
    exact q H' (g H' _ fp' "done" (.inr ⟨a, ea, .inl ⟨U, eU, .inr ⟨ne, W, eW, rfl, rfl⟩⟩⟩) hA' rd' (.step hA hT st))
  · cases em
    exact q H' (g H' _ fp' "done" (.inr ⟨a, ea, .inr ⟨nw, W, y, h1, W1, eW, hy, yn, u, eW1, rfl, rfl⟩⟩) hA' rd' (.step hA hT st))
theorem do_share {s : Int} (hs : isSh s) (hA : HAt CH CW CS H p h fp) (rd : Rd h "") (hT : GxR.TabG H Pt) (g : Ends14 CH CW CS Pt H p h fp (.share n s) G) (q : ∀ H', G "done" H' → Q .non H') (e : Outs CH CW CS Pt CT CM CN CD CY H p h fp (.share n s) E) :
    spHReshare CH CW CS CB CN [.ref p, .str n, .int s] H Q E := by
  refine ⟨p, h, fp, .str n, .int s, rfl, hA, .str n, .int s, fun z => ?_, fun m a em ea z => ?_, fun m a W i em ea eW ei i1 i2 H' fp' hA' st => ?_⟩
  · refine e H .nn _ (.inl ⟨?_, rfl, rfl⟩) rfl hA (.refl hT)
    rcases lk_cases h.ab n with q | ⟨a, q⟩
    · exact q
    · exact (z n a rfl q).elim
  · exact (good_share hs.1 hs.2 z).elim
  · cases em
    cases ei
    exact q H' (g H' _ fp' "done" (.inr ⟨a, W, ea, eW, rfl, rfl⟩) hA' (rd.keep eW (reshare_keep W n s).1 (reshare_keep W n s).2) (.step hA hT st))
theorem do_hand {a : Str} {s : Int} (hn : isN n) (hs : isSh s) (hl : h.ab.length ≤ 800) (hA : HAt CH CW CS H p h fp) (rd : Rd h "") (hT : GxR.TabG H Pt) (g : Ends14 CH CW CS Pt H p h fp (.hand n a s) G) (q : ∀ H', G "done" H' → Q .non H') (e : Outs CH CW CS Pt CT CM CN CD CY H p h fp (.hand n a s) E) :
    spSettle Pt CH CW CS CB CT CA CM [.ref p, .str n, .str a, .int s] H Q E := by
  have o := hA.ok
  refine ⟨p, h, fp, .str n, .str a, .int s, rfl, hA, .str n, .str a, .int s, hT, tab_out hA hT, (fun z ez => by cases ez; exact nm_len hn), rows_1000 o hl, by omega, fun H1 c => ⟨fun z => ?_, fun m em _ => ?_⟩⟩
  · have hn : isNm (.str n) = true := hn
    rw [hn] at z
    cases z
  · cases em
    have m1 := Mv.of_tab hT c
    have hA1 := hA.tab hT c
    refine ⟨fun z => e H1 .tw _ (.inl ⟨z, rfl, rfl⟩) rfl hA1 (.of_mv m1), fun ea => ⟨fun z => ?_, fun t W et eW => ⟨fun z => (good_share hs.1 hs.2 z).elim, fun i ei i1 i2 H' fp' hA' st => ?_⟩⟩⟩
    · refine e H1 .nt _ (.inr ⟨ea, .inl ⟨?_, rfl, rfl⟩⟩) rfl hA1 (.of_mv m1)
      rcases lk_cases h.wh a with q | ⟨W, q⟩
      · exact q
      · exact (z a W rfl q).elim
    · cases et
      cases ei
      exact q H' (g H' _ fp' "done" (.inr ⟨ea, .inr ⟨W, eW, rfl, rfl⟩⟩) hA' (rd.enterH o ea (nm_ne hn) eW) (.of_step hA hT c st))
theorem do_team {a : Str} {s : Int} (hn : isN n) (hs : isSh s) (hl : h.ab.length ≤ 800) (hA : HAt CH CW CS H p h fp) (rd : Rd h "") (hT : GxR.TabG H Pt) (g : Ends14 CH CW CS Pt H p h fp (.team n a s) G) (q : ∀ H', G "done" H' → Q .non H') (e : Outs CH CW CS Pt CT CM CN CD CY H p h fp (.team n a s) E) :
    spTeam Pt CH CW CS CB CT CA CM [.ref p, .str n, .str a, .int s] H Q E := by
  have o := hA.ok
  refine ⟨p, h, fp, .str n, .str a, .int s, rfl, hA, .str n, .str a, .int s, hT, tab_out hA hT, (fun z ez => by cases ez; exact nm_len hn), rows_1000 o hl, by omega, fun H1 c => ⟨fun z => ?_, fun m em _ => ?_⟩⟩
  · have hn : isNm (.str n) = true := hn
    rw [hn] at z
    cases z
  · cases em
    have m1 := Mv.of_tab hT c
    have hA1 := hA.tab hT c
    refine ⟨fun z => e H1 .tw _ (.inl ⟨z, rfl, rfl⟩) rfl hA1 (.of_mv m1), fun ea => ⟨fun z => ?_, fun t W et eW => ⟨fun z => (good_share hs.1 hs.2 z).elim, fun i ei i1 i2 H' fp' hA' st => ?_⟩⟩⟩
    · refine e H1 .nt _ (.inr ⟨ea, .inl ⟨?_, rfl, rfl⟩⟩) rfl hA1 (.of_mv m1)
      rcases lk_cases h.wh a with q | ⟨W, q⟩
      · exact q
      · exact (z a W rfl q).elim
    · cases et
      cases ei
      exact q H' (g H' _ fp' "done" (.inr ⟨ea, .inr ⟨W, eW, rfl, rfl⟩⟩) hA' (rd.enterT o ea (nm_ne hn) eW hs.1 hs.2) (.of_step hA hT c st))
theorem do_deal (hl : h.ab.length ≤ 800) (an : AllN h) (hA : HAt CH CW CS H p h fp) (rd : Rd h "") (hT : GxR.TabG H Pt) (g : Ends14 CH CW CS Pt H p h fp .deal G)
    (q : ∀ H' l ns, H' l = some (.lst (ns.map V.str)) → (ns.map (·.length)).sum + ns.length * ("/" : Str).length ≤ 16777216 → G (told ns) H' → Q (.ref l) H') : spDeal CH CW CS [.ref p] H Q E := by
  have o := hA.ok
  refine ⟨p, h, fp, rfl, hA, by omega, fun H' fp' h' l ns d hA' st el fl => ?_⟩
  obtain ⟨f1, f2⟩ := d.fit o
  obtain ⟨_, rd', _⟩ := d.ok o rd
  refine q H' l ns el ?_ (g H' h' fp' _ ⟨ns, d, rfl⟩ hA' rd' (.step hA hT st))
  have h2 := sum_le (l := ns) fun x hx => by
    obtain ⟨a, ea⟩ := f2 x hx
    exact (nm_len8 (an x a ea)).2
  have h4 : ("/" : Str).length = 1 := by decide +kernel
  rw [h4]
  omega
end
theorem told_or {K : PySem.W.Frag} {ns : List Str} {H : Hp} (fit : (ns.map (·.length)).sum + ns.length * ("/" : Str).length ≤ 16777216) : ∃ k, TruV K (.str (Txt.join "/" ns)) H k ∧ (k = true → told ns = Txt.join "/" ns) ∧ (k = false → told ns = "nobody") := by
  have len : (Txt.join "/" ns).length ≤ sizeLine := by
    rw [TL.join_eq]
    exact Nat.le_trans (Nat.le_trans (PySem.StrLaws.join_length_le "/" ns) fit) (by decide +kernel)
  unfold told
  by_cases e : Txt.join "/" ns = ""
  · refine ⟨false, ⟨len, ?_⟩, (fun z => by cases z), fun _ => if_pos e⟩
    rw [e]
    decide +kernel
  · refine ⟨true, ⟨len, ?_⟩, fun _ => if_neg e, fun z => by cases z⟩
    have : (Txt.join "/" ns).length ≠ 0 := fun z => e (by
      generalize Txt.join "/" ns = y at z ⊢
      obtain ⟨c⟩ := y
      have z : c.size = 0 := z
      rw [Array.size_eq_zero_iff.mp z]
      decide +kernel)
    symm
    rw [bne_iff_ne]
    omega
theorem tmc_no {k w : Str} {is : List Nat} {ts : TS} {r : List (Str × List Nat × TS)} {xs : List V} {D : L2.Ends} {σ : L2.St} {H : Hp} (h : ¬ w = k) (z : tMC r w xs D σ H) : tMC ((k, is, ts) :: r) w xs D σ H := by
  show if xs.length = is.length ∧ w = k then ts D (tSets is xs σ) H else tMC r w xs D σ H
  rw [if_neg fun q => h q.2]
  exact z
theorem tmc_yes {w : Str} {is : List Nat} {ts : TS} {r : List (Str × List Nat × TS)} {xs : List V} {D : L2.Ends} {σ : L2.St} {H : Hp} (h : xs.length = is.length) (z : ts D (tSets is xs σ) H) : tMC ((w, is, ts) :: r) w xs D σ H := by
  show if xs.length = is.length ∧ w = w then ts D (tSets is xs σ) H else tMC r w xs D σ H
  rw [if_pos ⟨h, rfl⟩]
  exact z
def spDo (Pt CH CW CS CT CM CN CD CY : Addr) : Sp := fun vs H Q E => ∃ (p t : Addr) (h : Hs) (fp : List Addr) (D : Deed), vs = [.ref p, .ref t] ∧ HAt CH CW CS H p h fp ∧ Rd h "" ∧ GxR.TabG H Pt ∧ H t = some (.tup D.vs) ∧ D.ok ∧ h.ab.length ≤ 800 ∧ AllN h ∧
  Ends14 CH CW CS Pt H p h fp D (fun r H' => Q (.str r) H') ∧ Outs CH CW CS Pt CT CM CN CD CY H p h fp D E
section
variable {P : Program} {w : World} {K : PySem.W.Frag} {mg : Str → Option Value} {base : Heap} {CS CW CB CT CN CH CM CY CA CD CU CE CV Pt : Addr}
theorem sc_do : FnScope ["house", "deed", "name", "above", "share"] ["house", "deed"] (defScope s_do) := ⟨rfl, rfl, rfl, by decide +kernel, rfl, by decide +kernel, by decide +kernel⟩
theorem ok_do {f : Addr} {fd : FuncData} (F : Fun K "do" "do" s_do f fd) (T : WT K mg CS CW CB CT CN) (L : LT mg) (h_H : HT K mg CH) (m_H_deal : MOk P w K mg base 4 CH "deal" ["self"] (spDeal CH CW CS)) (m_H_hand : MOk P w K mg base 6 CH "hand" ["self", "name", "above", "share"] (spSettle Pt CH CW CS CB CT CA CM)) (m_H_leave : MOk P w K mg base 5 CH "leave" ["self", "name"] (spHLeave CH CW CS CN CY)) (m_H_reshare : MOk P w K mg base 4 CH "reshare" ["self", "name", "share"] (spHReshare CH CW CS CB CN)) (m_H_rest : MOk P w K mg base 4 CH "rest" ["self", "name"] (spHRest CH CW CS CN CD)) (m_H_team : MOk P w K mg base 6 CH "team" ["self", "name", "above", "share"] (spTeam Pt CH CW CS CB CT CA CM)) (m_H_wake : MOk P w K mg base 4 CH "wake" ["self", "name"] (spHWake CH CW CS CN CD)) :
    FnOk P w K mg base (L2.CX P w) 7 f fd ["house", "deed"] (spDo Pt CH CW CS CT CM CN CD CY) := by
  refine F.okX sc_do (fun vs H Q E h => ?_) (fun cdv A outer s H vs Q E hr h => ?_)
  · (first | (obtain ⟨_, rfl, _⟩ := h; rfl) | (obtain ⟨_, _, rfl, _⟩ := h; rfl) | (obtain ⟨_, _, _, rfl, _⟩ := h; rfl) | (obtain ⟨_, _, _, _, rfl, _⟩ := h; rfl) | (obtain ⟨_, _, _, _, _, rfl, _⟩ := h; rfl) | (obtain ⟨_, _, _, _, _, _, rfl, _⟩ := h; rfl) | (obtain ⟨_, _, _, _, _, _, _, rfl, _⟩ := h; rfl) | (obtain ⟨_, _, _, _, _, _, _, _, rfl, _⟩ := h; rfl) | (obtain ⟨_, _, _, _, _, _, _, _, _, rfl, _⟩ := h; rfl) | (obtain ⟨_, _, _, _, _, _, _, _, _, _, rfl, _⟩ := h; rfl) | (obtain ⟨_, _, _, _, _, _, _, _, _, _, _, rfl, _⟩ := h; rfl) | (obtain ⟨_, _, _, _, _, _, _, _, _, _, _, _, rfl, _⟩ := h; rfl) | (obtain ⟨_, _, _, _, _, _, _, _, _, _, _, _, _, rfl, _⟩ := h; rfl) | (obtain ⟨_, _, _, _, _, _, _, _, _, _, _, _, _, _, rfl, _⟩ := h; rfl) | (obtain ⟨_, _, _, _, _, _, _, _, _, _, _, _, _, _, _, rfl, _⟩ := h; rfl))
  · obtain ⟨p, t, h, fp, D, rfl, hA, rd, hT, ht, ok, hl, an, k1, k2⟩ := h
    refine ⟨_, (pss_cons (ps_match rfl sc_do.nd (pv 1) (.cons .nil (pss_one (ps_ret (by exact pe_orT (by exact pe_join pe_str (by exact pe_m0 m_H_deal h_H.cl hr (by decide) (fun σ => passAt (takes_of rfl rfl rfl rfl) σ) (pv 0))) (pe_one pe_str))))
        (.cons (.cons (i := 2) rfl (Or.inl rfl) (by first | exact .inl rfl | exact .inr rfl) .nil) (pss_one (ps_ret (pe_ifExp (pt_val (by exact pe_m m_H_wake h_H.cl hr (by decide) (fun σ => passAt (takes_of rfl rfl rfl rfl) σ) (pv 0) (pa_cons (pv 2) pa_nil))) pe_str pe_str)))
        (.cons (.cons (i := 2) rfl (Or.inl rfl) (by first | exact .inl rfl | exact .inr rfl) .nil) (pss_one (ps_ret (pe_ifExp (pt_val (by exact pe_m m_H_rest h_H.cl hr (by decide) (fun σ => passAt (takes_of rfl rfl rfl rfl) σ) (pv 0) (pa_cons (pv 2) pa_nil))) pe_str pe_str)))
        (.cons (.cons (i := 2) rfl (Or.inl rfl) (by first | exact .inl rfl | exact .inr rfl) (.cons (i := 3) rfl (Or.inl rfl) (by first | exact .inl rfl | exact .inr rfl) (.cons (i := 4) rfl (Or.inl rfl) (by first | exact .inl rfl | exact .inr rfl) .nil))) (pss_one (ps_expr (by exact pe_m m_H_team h_H.cl hr (by decide) (fun σ => passAt (takes_of rfl rfl rfl rfl) σ) (pv 0) (pa_cons (pv 2) (pa_cons (pv 3) (pa_cons (pv 4) pa_nil))))))
        (.cons (.cons (i := 2) rfl (Or.inl rfl) (by first | exact .inl rfl | exact .inr rfl) (.cons (i := 3) rfl (Or.inl rfl) (by first | exact .inl rfl | exact .inr rfl) (.cons (i := 4) rfl (Or.inl rfl) (by first | exact .inl rfl | exact .inr rfl) .nil))) (pss_one (ps_expr (by exact pe_m m_H_hand h_H.cl hr (by decide) (fun σ => passAt (takes_of rfl rfl rfl rfl) σ) (pv 0) (pa_cons (pv 2) (pa_cons (pv 3) (pa_cons (pv 4) pa_nil))))))
        (.cons (.cons (i := 2) rfl (Or.inl rfl) (by first | exact .inl rfl | exact .inr rfl) (.cons (i := 4) rfl (Or.inl rfl) (by first | exact .inl rfl | exact .inr rfl) .nil)) (pss_one (ps_expr (by exact pe_m m_H_reshare h_H.cl hr (by decide) (fun σ => passAt (takes_of rfl rfl rfl rfl) σ) (pv 0) (pa_cons (pv 2) (pa_cons (pv 4) pa_nil)))))
        (.cons (.cons (i := 2) rfl (Or.inl rfl) (by first | exact .inl rfl | exact .inr rfl) .nil) (pss_one (ps_expr (by exact pe_m m_H_leave h_H.cl hr (by decide) (fun σ => passAt (takes_of rfl rfl rfl rfl) σ) (pv 0) (pa_cons (pv 2) pa_nil))))
        .nil))))))))
      (pss_one (ps_ret pe_str))), ?_⟩
    obtain ⟨dx, da, dw, hp⟩ : ∃ dx da dw, H p = some (.ins CH dx (hf da dw)) := by
      obtain ⟨da, dw, es, _, _, i, _⟩ := hA
      obtain ⟨dx, e⟩ := i.ob
      exact ⟨dx, da, dw, e⟩
    cases D with
    | deal =>
      refine ⟨_, rfl, t, "deal", [], rfl, SqT.of ht, tmc_yes rfl ?_⟩
      refine ⟨⟨"/", rfl⟩, _, rfl, p, dx, _, rfl, hp, hf_no _ _, ?_⟩
      refine nil_app ?_
      refine do_deal hl an hA rd hT k1 fun H' l ns el fit z => ⟨"/", l, ns, rfl, rfl, .inl (SqL.of el), fit, ?_⟩
      obtain ⟨k, tk, y1, y2⟩ := told_or (K := K) (H := H') fit
      refine ⟨k, tk, ?_⟩
      cases k with
      | true =>
        rw [y1 rfl] at z
        exact iteT z
      | false =>
        rw [y2 rfl] at z
        exact iteF z
    | wake n =>
      refine ⟨_, rfl, t, "wake", [.str n], rfl, SqT.of ht, tmc_no (by decide +kernel) (tmc_yes rfl ?_)⟩
      refine ⟨_, rfl, p, dx, _, rfl, hp, hf_no _ _, _, rfl, ?_⟩
      refine nil_app ?_
      exact do_wake hA rd hT k1 (fun H' b z => ⟨b, rfl, by cases b <;> exact z⟩) k2
    | rest n =>
      refine ⟨_, rfl, t, "rest", [.str n], rfl, SqT.of ht, tmc_no (by decide +kernel) (tmc_no (by decide +kernel) (tmc_yes rfl ?_))⟩
      refine ⟨_, rfl, p, dx, _, rfl, hp, hf_no _ _, _, rfl, ?_⟩
      refine nil_app ?_
      exact do_rest hA rd hT k1 (fun H' b z => ⟨b, rfl, by cases b <;> exact z⟩) k2
    | team n a s =>
      refine ⟨_, rfl, t, "team", [.str n, .str a, .int s], rfl, SqT.of ht, tmc_no (by decide +kernel) (tmc_no (by decide +kernel) (tmc_no (by decide +kernel) (tmc_yes rfl ?_)))⟩
      refine ⟨_, rfl, p, dx, _, rfl, hp, hf_no _ _, _, rfl, _, rfl, _, rfl, ?_⟩
      refine nil_app ?_
      exact do_team ok.1 ok.2.2 hl hA rd hT k1 (fun H' z => z) k2
    | hand n a s =>
      refine ⟨_, rfl, t, "hand", [.str n, .str a, .int s], rfl, SqT.of ht, tmc_no (by decide +kernel) (tmc_no (by decide +kernel) (tmc_no (by decide +kernel) (tmc_no (by decide +kernel) (tmc_yes rfl ?_))))⟩
      refine ⟨_, rfl, p, dx, _, rfl, hp, hf_no _ _, _, rfl, _, rfl, _, rfl, ?_⟩
      refine nil_app ?_
      exact do_hand ok.1 ok.2.2 hl hA rd hT k1 (fun H' z => z) k2
    | share n s =>
      refine ⟨_, rfl, t, "share", [.str n, .int s], rfl, SqT.of ht, tmc_no (by decide +kernel) (tmc_no (by decide +kernel) (tmc_no (by decide +kernel) (tmc_no (by decide +kernel) (tmc_no (by decide +kernel) (tmc_yes rfl ?_)))))⟩
      refine ⟨_, rfl, p, dx, _, rfl, hp, hf_no _ _, _, rfl, _, rfl, ?_⟩
      refine nil_app ?_
      exact do_share ok.2 hA rd hT k1 (fun H' z => z) k2
    | leave n =>
      refine ⟨_, rfl, t, "leave", [.str n], rfl, SqT.of ht, tmc_no (by decide +kernel) (tmc_no (by decide +kernel) (tmc_no (by decide +kernel) (tmc_no (by decide +kernel) (tmc_no (by decide +kernel) (tmc_no (by decide +kernel) (tmc_yes rfl ?_))))))⟩
      refine ⟨_, rfl, p, dx, _, rfl, hp, hf_no _ _, _, rfl, ?_⟩
      refine nil_app ?_
      exact do_leave hA rd hT k1 (fun H' z => z) k2
end

/-! ### notes: a text answered, texts played -/
theorem wm_hit {K : PySem.W.Frag} {Wout : WX} {D : L2.Ends} {c cls : Value} {ts : Addr → Value → Option Addr → TS} {r : List (Value × (Addr → Value → Option Addr → TS))} {d : Option Addr} {σ : L2.St} {H : Hp} (e : PySem.W.exmOne K cls c = some true) (h : ∀ a, H a = none → ts a cls d D σ H) : wMany K Wout D ((c, ts) :: r) cls d σ H :=
  ⟨true, e, fun _ => h, fun z => by cases z⟩
theorem wm_miss {K : PySem.W.Frag} {Wout : WX} {D : L2.Ends} {c cls : Value} {ts : Addr → Value → Option Addr → TS} {r : List (Value × (Addr → Value → Option Addr → TS))} {d : Option Addr} {σ : L2.St} {H : Hp} (e : PySem.W.exmOne K cls c = some false) (h : wMany K Wout D r cls d σ H) : wMany K Wout D ((c, ts) :: r) cls d σ H :=
  ⟨false, e, (fun z => by cases z), fun _ => h⟩
/-- how one text is answered -/
def Told14 (CH CW CS Pt : Addr) (H : Hp) (p : Addr) (h : Hs) (fp : List Addr) (x : Str) (Q : VK) : Prop :=
  (∀ D : Deed, due (Txt.split x " ") = some D.vs → ∀ H' h' fp' r, Act h D h' r → HAt CH CW CS H' p h' fp' → Rd h' "" → Mw Pt fp H fp' H' → Q (.str r.t) H') ∧ (due (Txt.split x " ") = none → ∀ H', HAt CH CW CS H' p h fp → Mw Pt fp H fp H' → Q (.str "no deed") H')
def spAns (Pt CH CW CS : Addr) : Sp := fun vs H Q _ => ∃ (p : Addr) (h : Hs) (fp : List Addr) (x : Str), vs = [.ref p, .str x] ∧ HAt CH CW CS H p h fp ∧ Rd h "" ∧ GxR.TabG H Pt ∧ x.length ≤ 1000 ∧ h.ab.length ≤ 800 ∧ AllN h ∧ Told14 CH CW CS Pt H p h fp x Q
/-- a house of one's own, or another's: it stands while texts are read -/
theorem HAt.mv {CH CW CS Pt : Addr} {H H' : Hp} {p : Addr} {h : Hs} {fp : List Addr} (hA : HAt CH CW CS H p h fp) (t : GxR.TabG H Pt) (m : Mv Pt H H') : HAt CH CW CS H' p h fp :=
  hA.keep fun b hb o e => m.1 b o e fun z => tab_out hA t (by rw [← z]; exact hb)
def spPlay (K : PySem.W.Frag) (Pt : Addr) : Sp := fun vs H Q _ => ∃ (l : Addr) (xs : List Str), vs = [.ref l] ∧ H l = some (.lst (xs.map V.str)) ∧ GxR.TabG H Pt ∧ xs.length ≤ 100 ∧ (∀ x ∈ xs, x.length ≤ 1000) ∧ ∀ H' lf rs h, Run H0 xs.reverse rs h → H' lf = some (.lst (rs.reverse.map V.str)) → Mv Pt H H' → H lf = none → Q (.ref lf) H'
section
variable {P : Program} {w : World} {K : PySem.W.Frag} {mg : Str → Option Value} {base : Heap} {CS CW CB CT CN CH CM CY CA CD CU CE CV Pt : Addr}
theorem sc_answer : FnScope ["house", "line"] ["house", "line"] (defScope s_answer) := ⟨rfl, rfl, rfl, by decide +kernel, rfl, by decide +kernel, by decide +kernel⟩
theorem ok_answer {f : Addr} {fd : FuncData} (F : Fun K "answer" "answer" s_answer f fd) (T : WT K mg CS CW CB CT CN) (L : LT mg) (e_DD : PySem.W.exmOne K (.ref CD) (.ref CD) = some true) (e_DM : PySem.W.exmOne K (.ref CD) (.ref CM) = some false) (e_DN : PySem.W.exmOne K (.ref CD) (.ref CN) = some false) (e_DT : PySem.W.exmOne K (.ref CD) (.ref CT) = some false) (e_DV : PySem.W.exmOne K (.ref CD) (.ref CV) = some false) (e_MM : PySem.W.exmOne K (.ref CM) (.ref CM) = some true) (e_MT : PySem.W.exmOne K (.ref CM) (.ref CT) = some false) (e_MV : PySem.W.exmOne K (.ref CM) (.ref CV) = some false) (e_NM : PySem.W.exmOne K (.ref CN) (.ref CM) = some false) (e_NN : PySem.W.exmOne K (.ref CN) (.ref CN) = some true) (e_NT : PySem.W.exmOne K (.ref CN) (.ref CT) = some false) (e_NV : PySem.W.exmOne K (.ref CN) (.ref CV) = some false) (e_TT : PySem.W.exmOne K (.ref CT) (.ref CT) = some true) (e_TV : PySem.W.exmOne K (.ref CT) (.ref CV) = some false) (e_VV : PySem.W.exmOne K (.ref CV) (.ref CV) = some true) (e_YD : PySem.W.exmOne K (.ref CY) (.ref CD) = some false) (e_YM : PySem.W.exmOne K (.ref CY) (.ref CM) = some false) (e_YN : PySem.W.exmOne K (.ref CY) (.ref CN) = some false) (e_YT : PySem.W.exmOne K (.ref CY) (.ref CT) = some false) (e_YV : PySem.W.exmOne K (.ref CY) (.ref CV) = some false) (e_YY : PySem.W.exmOne K (.ref CY) (.ref CY) = some true) (g_do : DOk P w K mg base 7 "do" ["house", "deed"] (spDo Pt CH CW CS CT CM CN CD CY)) (g_read : DOk P w K mg base 5 "read" ["line"] (spRead Pt CV)) (ge_D : mg "NotHand" = some (.ref CD)) (ge_M : mg "NoTeam" = some (.ref CM)) (ge_V : mg "NoDeed" = some (.ref CV)) (ge_Y : mg "NotEmpty" = some (.ref CY)) :
    FnOk P w K mg base (L2.CX P w) 8 f fd ["house", "line"] (spAns Pt CH CW CS) := by
  refine okN F sc_answer (fun vs H Q E h => ?_) (fun cdv A outer s H vs Q E hr h => ?_)
  · (first | (obtain ⟨_, rfl, _⟩ := h; rfl) | (obtain ⟨_, _, rfl, _⟩ := h; rfl) | (obtain ⟨_, _, _, rfl, _⟩ := h; rfl) | (obtain ⟨_, _, _, _, rfl, _⟩ := h; rfl) | (obtain ⟨_, _, _, _, _, rfl, _⟩ := h; rfl) | (obtain ⟨_, _, _, _, _, _, rfl, _⟩ := h; rfl) | (obtain ⟨_, _, _, _, _, _, _, rfl, _⟩ := h; rfl) | (obtain ⟨_, _, _, _, _, _, _, _, rfl, _⟩ := h; rfl) | (obtain ⟨_, _, _, _, _, _, _, _, _, rfl, _⟩ := h; rfl) | (obtain ⟨_, _, _, _, _, _, _, _, _, _, rfl, _⟩ := h; rfl) | (obtain ⟨_, _, _, _, _, _, _, _, _, _, _, rfl, _⟩ := h; rfl) | (obtain ⟨_, _, _, _, _, _, _, _, _, _, _, _, rfl, _⟩ := h; rfl) | (obtain ⟨_, _, _, _, _, _, _, _, _, _, _, _, _, rfl, _⟩ := h; rfl) | (obtain ⟨_, _, _, _, _, _, _, _, _, _, _, _, _, _, rfl, _⟩ := h; rfl) | (obtain ⟨_, _, _, _, _, _, _, _, _, _, _, _, _, _, _, rfl, _⟩ := h; rfl))
  · obtain ⟨p, h, fp, x, rfl, hA, rd, hT, hx, hl, an, k1, k2⟩ := h
    refine ⟨_, (pss_one (pt_many rfl rfl takes_none5 (fun W pn xe tk _ => by exact (pss_one (ps_ret (by exact pe_f g_do hr (by decide) (by rfl) (fun σ => passAt tk σ) (pa_cons (pv 0) (pa_cons (by exact pe_f g_read hr (by decide) (by rfl) (fun σ => passAt tk σ) (pa_cons (pv 1) pa_nil)) pa_nil)))))) (.cons ⟨rfl, by decide, .inl ge_V⟩ (fun a oe cls d pn hz hf => by exact (pss_one (ps_ret pe_str))) (.cons ⟨rfl, by decide, .inl T.gT⟩ (fun a oe cls d pn hz hf => by exact (pss_one (ps_ret pe_str))) (.cons ⟨rfl, by decide, .inl ge_M⟩ (fun a oe cls d pn hz hf => by exact (pss_one (ps_ret pe_str))) (.cons ⟨rfl, by decide, .inl T.gN⟩ (fun a oe cls d pn hz hf => by exact (pss_one (ps_ret pe_str))) (.cons ⟨rfl, by decide, .inl ge_D⟩ (fun a oe cls d pn hz hf => by exact (pss_one (ps_ret pe_str))) (.cons ⟨rfl, by decide, .inl ge_Y⟩ (fun a oe cls d pn hz hf => by exact (pss_one (ps_ret pe_str))) .nil)))))))), ?_⟩
    refine ⟨_, rfl, _, rfl, ?_⟩
    refine nil_app ⟨x, rfl, hT, hx, fun H1 m => ⟨fun r t ed et fresh => ?_, fun hn => wm_hit e_VV fun a _ => k2 hn H1 (hA.mv hT m) (.of_mv m)⟩⟩
    obtain ⟨D, rfl, ok⟩ := due_deed ed
    refine nil_app ⟨p, t, h, fp, D, rfl, hA.mv hT m, rd, m.2, et, ok, hl, an, fun H' h' fp' r a hA' rd' mw => k1 D ed H' h' fp' (.ok r) a hA' rd' ((Mw.of_mv m).trans mw), fun H' r c a ec hA' mw => ?_⟩
    have q := k1 D ed H' h fp r a hA' rd ((Mw.of_mv m).trans mw)
    cases r with
    | ok r => cases ec
    | tw =>
      cases ec
      exact wm_miss e_TV (wm_hit e_TT fun _ _ => q)
    | nt =>
      cases ec
      exact wm_miss e_MV (wm_miss e_MT (wm_hit e_MM fun _ _ => q))
    | nn =>
      cases ec
      exact wm_miss e_NV (wm_miss e_NT (wm_miss e_NM (wm_hit e_NN fun _ _ => q)))
    | nh =>
      cases ec
      exact wm_miss e_DV (wm_miss e_DT (wm_miss e_DM (wm_miss e_DN (wm_hit e_DD fun _ _ => q))))
    | ne =>
      cases ec
      exact wm_miss e_YV (wm_miss e_YT (wm_miss e_YM (wm_miss e_YN (wm_miss e_YD (wm_hit e_YY fun _ _ => q)))))
theorem sc_play : FnScope ["lines", "house", "line"] ["lines"] (defScope s_play) := ⟨rfl, rfl, rfl, by decide +kernel, rfl, by decide +kernel, by decide +kernel⟩
theorem ok_play {f : Addr} {fd : FuncData} (F : Fun K "play" "play" s_play f fd) (T : WT K mg CS CW CB CT CN) (L : LT mg) (g_answer : DOk P w K mg base 8 "answer" ["house", "line"] (spAns Pt CH CW CS)) (k_House : KOk P w K mg base 3 "House" CH ["self"] (spHInit CH CW CS)) :
    FnOk P w K mg base (L2.CX P w) 9 f fd ["lines"] (spPlay K Pt) := by
  refine okN F sc_play (fun vs H Q E h => ?_) (fun cdv A outer s H vs Q E hr h => ?_)
  · (first | (obtain ⟨_, rfl, _⟩ := h; rfl) | (obtain ⟨_, _, rfl, _⟩ := h; rfl) | (obtain ⟨_, _, _, rfl, _⟩ := h; rfl) | (obtain ⟨_, _, _, _, rfl, _⟩ := h; rfl) | (obtain ⟨_, _, _, _, _, rfl, _⟩ := h; rfl) | (obtain ⟨_, _, _, _, _, _, rfl, _⟩ := h; rfl) | (obtain ⟨_, _, _, _, _, _, _, rfl, _⟩ := h; rfl) | (obtain ⟨_, _, _, _, _, _, _, _, rfl, _⟩ := h; rfl) | (obtain ⟨_, _, _, _, _, _, _, _, _, rfl, _⟩ := h; rfl) | (obtain ⟨_, _, _, _, _, _, _, _, _, _, rfl, _⟩ := h; rfl) | (obtain ⟨_, _, _, _, _, _, _, _, _, _, _, rfl, _⟩ := h; rfl) | (obtain ⟨_, _, _, _, _, _, _, _, _, _, _, _, rfl, _⟩ := h; rfl) | (obtain ⟨_, _, _, _, _, _, _, _, _, _, _, _, _, rfl, _⟩ := h; rfl) | (obtain ⟨_, _, _, _, _, _, _, _, _, _, _, _, _, _, rfl, _⟩ := h; rfl) | (obtain ⟨_, _, _, _, _, _, _, _, _, _, _, _, _, _, _, rfl, _⟩ := h; rfl))
  · obtain ⟨l, xs, rfl, hl, hT, hn, hx, kk⟩ := h
    refine ⟨_, (pss_cons (ps_set (i := 1) sc_play.nd rfl (Or.inr rfl) (by exact pe_k0 k_House hr (by decide) (by rfl)))
      (pss_one (ps_ret (pe_lc (own := [("line", 2)]) (g := gName 2) (tt := tYes) rfl sc_play.nd (pi_list (pv 0)) (blkOk_by (N := ["lines", "house", "line"]) (sc := defScope s_play) (by decide +kernel)) (fun _ _ _ _ _ => (pg_name (i := 2) sc_play.nd rfl (Or.inl rfl))) (fun _ _ _ _ _ => pts_nil) (fun _ _ _ _ _ => (by exact pe_f g_answer hr (by decide) (by rfl) (fun σ => passN σ) (pa_cons (pv 1) (pa_cons (pv 2) pa_nil)))))))), ?_⟩
    intro p dxp hxp hdp _
    refine mk_house hxp hdp fun H2 fp0 A2 s2 fr2 => ⟨rfl, ?_⟩
    have hT2 : GxR.TabG H2 Pt := tab_same hT s2
    refine ⟨_, rfl, l, rfl, ⟨_, SqL.of (s2 _ _ hl)⟩, fun L hL => ?_⟩
    have nLP := tab_new hT2 hL
    refine lc_list (K := K) (a := l) (xs := xs.map V.str) (fun i H' => ∃ rs hi fpi, Run H0 (xs.take i).reverse rs hi ∧ HAt CH CW CS H' p hi fpi ∧ Rd hi "" ∧ AllN hi ∧ hi.ab.length ≤ i ∧ H' L = some (.lst (rs.reverse.map V.str)) ∧ (∀ b o, H b = some o → b ≠ Pt → H' b = some o) ∧ GxR.TabG H' Pt ∧ ∀ b ∈ fpi, H b = none)
      ⟨[], H0, fp0, .nil, A2.same (same_upd hL), H0_rd, (fun n a e => by cases e), Nat.le_refl _, upd_same, fun b o e _ => same_upd hL _ _ (s2 _ _ e), (mv_upd hL hT2).2, fr2⟩ (fun i H' _ ⟨_, _, _, _, _, _, _, _, _, k, _, _⟩ => SqL.of (k _ _ hl (tab_ne hT hl fun _ z => nomatch z))) ?_ ?_
    · rintro i v H1 hv ⟨rs, hi, fpi, run, hA, rd, an, hlen, eL, kp, tb, fr⟩
      rw [List.getElem?_map] at hv
      obtain ⟨x, ex, rfl⟩ := Option.map_eq_some_iff.mp hv
      have mx := List.mem_of_getElem? ex
      have ix := (List.getElem?_eq_some_iff.mp ex).1
      have nL := hA.lst eL
      refine ⟨rfl, ?_⟩
      unfold tYes
      refine (fun {A B : Prop} (z : A) => show if true = true then A else B from z) ?_
      have tk : (xs.take (i + 1)).reverse = x :: (xs.take i).reverse := by
        rw [take_snoc ex, List.reverse_append]
        rfl
      have put : ∀ (H' : Hp) (h' : Hs) (fp' : List Addr) (a : Str), Run H0 (x :: (xs.take i).reverse) (a :: rs) h' → HAt CH CW CS H' p h' fp' → Rd h' "" → AllN h' → h'.ab.length ≤ i + 1 → Mw Pt fpi H1 fp' H' → ∃ acc, H' L = some (.lst acc) ∧ acc.length < sizeLine ∧
          ∃ rs hi fpi, Run H0 (xs.take (i + 1)).reverse rs hi ∧ HAt CH CW CS (upd H' L (.lst (acc ++ [.str a]))) p hi fpi ∧ Rd hi "" ∧ AllN hi ∧ hi.ab.length ≤ i + 1 ∧ upd H' L (.lst (acc ++ [.str a])) L = some (.lst (rs.reverse.map V.str)) ∧ (∀ b o, H b = some o → b ≠ Pt → upd H' L (.lst (acc ++ [.str a])) b = some o) ∧ GxR.TabG (upd H' L (.lst (acc ++ [.str a]))) Pt ∧ ∀ b ∈ fpi, H b = none := by
        intro H' h' fp' a run' hA' rd' an' hlen' mw
        have eL' := mw.kept _ _ eL nL nLP
        refine ⟨_, eL', ?_, a :: rs, h', fp', by rw [tk]; exact run', hA'.keep fun b hb o e => ?_, rd', an', hlen', ?_, fun b o e n => ?_, ?_, fun b hb => ?_⟩
        · have := run.len
          rw [List.length_map, List.length_reverse, this, List.length_reverse, List.length_take]
          exact small1000 (by omega)
        · rw [upd_ne fun z => hA'.lst eL' (by rw [← z]; exact hb)]
          exact e
        · rw [upd_same, List.reverse_cons, List.map_append]
          rfl
        · rw [upd_ne fun z => by
            have := s2 _ _ e
            rw [z, hL] at this
            cases this]
          exact mw.kept _ _ (kp _ _ e n) (fun z => by rw [fr b z] at e; cases e) n
        · obtain ⟨ps, q, z⟩ := mw.tab
          exact ⟨ps, by rw [upd_ne nLP.symm]; exact q, z⟩
        · rcases mw.new b hb with z | z
          · exact fr b z
          · cases q : H b with
            | none => rfl
            | some o =>
              by_cases zp : b = Pt
              · obtain ⟨ps, e2, _⟩ := tb
                rw [← zp, z] at e2
                cases e2
              · rw [kp b o q zp] at z
                cases z
      refine ⟨_, rfl, _, rfl, p, hi, fpi, x, rfl, hA, rd, tb, hx x mx, by omega, an, fun D ed H' h' fp' r act hA' rd' mw => ?_, fun hno H' hA' mw => ?_⟩
      · obtain ⟨D2, eD, ok⟩ := due_deed ed
        cases Deed.inj eD
        obtain ⟨an', len'⟩ := act.keeps ok an
        exact put H' h' fp' r.t (.act run hA.ok ed act) hA' rd' an' (by omega) mw
      · exact put H' hi fpi "no deed" (.bad run hno) hA' rd an (by omega) mw
    · rintro H' ⟨rs, hi, fpi, run, hA, rd, an, hlen, eL, kp, tb, fr⟩
      rw [List.length_map, List.take_length] at run
      refine kk H' L rs hi run eL ⟨kp, tb⟩ ?_
      cases q : H L with
      | none => rfl
      | some o =>
        rw [s2 _ _ q] at hL
        cases hL
end

/-! ### law k14: names and deeds -/
def rname (c e : Nat) (a b : Int) : Str := Txt.mul (⟨#[97 + c]⟩ : Str) a ++ Txt.mul (⟨#[97 + e]⟩ : Str) b
theorem rname_codes (c e : Nat) (a b : Int) : (rname c e a b).cps.toList = List.replicate a.toNat (97 + c) ++ List.replicate b.toNat (97 + e) := by
  unfold rname
  rw [codes_app, mul_codes, mul_codes, show (⟨#[97 + e]⟩ : Str).cps.toList = [97 + e] from rfl, show (⟨#[97 + c]⟩ : Str).cps.toList = [97 + c] from rfl, rep_flat, rep_flat]
theorem rname_len (c e : Nat) (a b : Int) : (rname c e a b).length = a.toNat + b.toNat := by
  rw [← codes_len, rname_codes, List.length_append, List.length_replicate, List.length_replicate]
theorem rname_ok {c e : Nat} {a b : Int} (hc : c < 26) (he : e < 26) (ha : 1 ≤ a) (hab : a.toNat + b.toNat ≤ 8) : isN (rname c e a b) := by
  show (decide (1 ≤ (rname c e a b).length) && decide ((rname c e a b).length ≤ 8) && (rname c e a b).cps.toList.all azB) = true
  rw [rname_len, decide_eq_true (by omega), decide_eq_true hab, rname_codes, List.all_append]
  have h1 : (List.replicate a.toNat (97 + c)).all azB = true := List.all_eq_true.mpr fun z hz => by rw [(List.mem_replicate.mp hz).2]; exact azB_at c hc
  have h2 : (List.replicate b.toNat (97 + e)).all azB = true := List.all_eq_true.mpr fun z hz => by rw [(List.mem_replicate.mp hz).2]; exact azB_at e he
  rw [h1, h2]
  rfl
def words14 : List Str := ["deal", "wake", "rest", "leave", "share", "team", "hand", "nobody", "yes", "no", "done", "twice"]
theorem words14_ok : ∀ i < 12, ∃ n, words14[i]? = some n ∧ isN n := by
  intro i hi
  have all : words14.all (fun n => isNm (.str n)) = true := by decide +kernel
  have hl : i < words14.length := hi
  exact ⟨words14[i], List.getElem?_eq_getElem hl, List.all_eq_true.mp all _ (List.getElem_mem hl)⟩
def spNm14 : Sp := fun vs H Q _ => ∃ c, vs = [.int c] ∧ ∀ (H' : Hp) (l : Addr) (ns : List Str), H' l = some (.lst (ns.map V.str)) → ns.length = 5 → (∀ n ∈ ns, isN n) → Same H H' → H l = none → Q (.ref l) H'
def spDeedBy : Sp := fun vs H Q _ => ∃ (l : Addr) (ns : List Str) (c : Int), vs = [.ref l, .int c] ∧ H l = some (.lst (ns.map V.str)) ∧ ns.length = 5 ∧ (∀ n ∈ ns, isN n) ∧ ∀ (H' : Hp) (t : Addr) (D : Deed), D.ok → H' t = some (.tup D.vs) → Same H H' → H t = none → Q (.ref t) H'
section
variable {P : Program} {w : World} {K : PySem.W.Frag} {mg : Str → Option Value} {base : Heap} {CS CW CB CT CN CH CM CY CA CD CU CE CV Pt : Addr}
theorem sc_L_names_by : FnScope ["_law_cell", "_law_some", "_law_words", "_law_names", "_law_k", "_law_one", "_law_more"] ["_law_cell"] (defScope s_L_names_by) := ⟨rfl, rfl, rfl, by decide +kernel, rfl, by decide +kernel, by decide +kernel⟩
theorem ok_L_names_by {f : Addr} {fd : FuncData} (F : Fun K "_law_names_by" "_law_names_by" s_L_names_by f fd) (T : WT K mg CS CW CB CT CN) (L : LT mg) :
    FnOk P w K mg base (L2.CX P w) 1 f fd ["_law_cell"] spNm14 := by
  refine okN F sc_L_names_by (fun vs H Q E h => ?_) (fun cdv A outer s H vs Q E hr h => ?_)
  · (first | (obtain ⟨_, rfl, _⟩ := h; rfl) | (obtain ⟨_, _, rfl, _⟩ := h; rfl) | (obtain ⟨_, _, _, rfl, _⟩ := h; rfl) | (obtain ⟨_, _, _, _, rfl, _⟩ := h; rfl) | (obtain ⟨_, _, _, _, _, rfl, _⟩ := h; rfl) | (obtain ⟨_, _, _, _, _, _, rfl, _⟩ := h; rfl) | (obtain ⟨_, _, _, _, _, _, _, rfl, _⟩ := h; rfl) | (obtain ⟨_, _, _, _, _, _, _, _, rfl, _⟩ := h; rfl) | (obtain ⟨_, _, _, _, _, _, _, _, _, rfl, _⟩ := h; rfl) | (obtain ⟨_, _, _, _, _, _, _, _, _, _, rfl, _⟩ := h; rfl) | (obtain ⟨_, _, _, _, _, _, _, _, _, _, _, rfl, _⟩ := h; rfl) | (obtain ⟨_, _, _, _, _, _, _, _, _, _, _, _, rfl, _⟩ := h; rfl) | (obtain ⟨_, _, _, _, _, _, _, _, _, _, _, _, _, rfl, _⟩ := h; rfl) | (obtain ⟨_, _, _, _, _, _, _, _, _, _, _, _, _, _, rfl, _⟩ := h; rfl) | (obtain ⟨_, _, _, _, _, _, _, _, _, _, _, _, _, _, _, rfl, _⟩ := h; rfl))
  · obtain ⟨c, rfl, kk⟩ := h
    refine ⟨_, (pss_cons (ps_set (i := 1) sc_L_names_by.nd rfl (Or.inl rfl) pe_str)
      (pss_cons (ps_set (i := 2) sc_L_names_by.nd rfl (Or.inr rfl) (pe_lst (pa_cons pe_str (pa_cons pe_str (pa_cons pe_str (pa_cons pe_str (pa_cons pe_str (pa_cons pe_str (pa_cons pe_str (pa_cons pe_str (pa_cons pe_str (pa_cons pe_str (pa_cons pe_str (pa_cons pe_str pa_nil))))))))))))))
      (pss_cons (ps_set (i := 3) sc_L_names_by.nd rfl (Or.inl rfl) (pe_lst pa_nil))
      (C8.pss_cut (ps_if (pt_cmpR op_eq (pe_op op_mod (pe_op op_fdiv (pv 0) pe_int) pe_int) pe_int (nomark _)) (pss_one (ps_ret (pe_lc (own := [("_law_k", 4)]) (g := gName 4) (tt := tYes) rfl sc_L_names_by.nd (pi_range1 rfl L.range (pa_cons pe_int pa_nil)) (blkOk_by (N := ["_law_cell", "_law_some", "_law_words", "_law_names", "_law_k", "_law_one", "_law_more"]) (sc := defScope s_L_names_by) (by decide +kernel)) (fun _ _ _ _ _ => (pg_name (i := 4) sc_L_names_by.nd rfl (Or.inl rfl))) (fun _ _ _ _ _ => pts_nil) (fun _ _ _ _ _ => (pe_ix (ix_listK (K0 := K)) (pv 2) (pe_op op_mod (pe_op op_add (pv 0) (pe_op op_mul pe_int (pv 4))) pe_int) (fun _ _ => rfl)))))) pss_nil)
      (pss_cons (ps_for PassesOwn.never rfl (pi_range1 rfl L.range (pa_cons pe_int pa_nil)) (pg_name (i := 4) sc_L_names_by.nd rfl (Or.inl rfl))
        (pss_cons (ps_set (i := 5) sc_L_names_by.nd rfl (Or.inl rfl) (pe_ix ix_str (pv 1) (pe_op op_mod (pe_op op_add (pv 0) (pe_op op_mul pe_int (pv 4))) pe_int) (fun _ _ => rfl)))
      (pss_one (ps_if (pt_cmpR op_eq (pe_op op_mod (pe_op op_fdiv (pv 0) pe_int) pe_int) pe_int (nomark _)) (pss_one (ps_expr (by exact pe_app (K0 := K) (pv 3) (pe_op op_add_str (pe_op op_add_str (pe_op op_mul_str pe_str (pe_op op_mod (pe_op op_fdiv (pv 0) pe_int) pe_int)) (pv 5)) (pe_op op_mul_str pe_str (pe_op op_mod (pe_op op_fdiv (pv 0) pe_int) pe_int)))))) (pss_cons (ps_set (i := 6) sc_L_names_by.nd rfl (Or.inl rfl) (pe_ix ix_str (pv 1) (pe_op op_mod (pe_op op_add (pe_op op_fdiv (pv 0) pe_int) (pv 4)) pe_int) (fun _ _ => rfl)))
      (pss_one (ps_expr (by exact pe_app (K0 := K) (pv 3) (pe_op op_add_str (pe_op op_mul_str (pv 5) (pe_op op_add (pv 4) pe_int)) (pe_op op_mul_str (pv 6) (pe_op op_add (pe_op op_fdiv (pv 4) pe_int) (pe_op op_fdiv (pv 4) pe_int))))))))))))
      (pss_one (ps_ret (pv 3)))))))), ?_⟩
    refine ⟨(by show 12 ≤ sizeLine; decide), fun lw hlw => ?_⟩
    have sw := same_upd (o := .lst [V.str "deal", V.str "wake", V.str "rest", V.str "leave", V.str "share", V.str "team", V.str "hand", V.str "nobody", V.str "yes", V.str "no", V.str "done", V.str "twice"]) hlw
    have ew : upd H lw (.lst [V.str "deal", V.str "wake", V.str "rest", V.str "leave", V.str "share", V.str "team", V.str "hand", V.str "nobody", V.str "yes", V.str "no", V.str "done", V.str "twice"]) lw = some (.lst (words14.map V.str)) := upd_same
    generalize upd H lw (.lst [V.str "deal", V.str "wake", V.str "rest", V.str "leave", V.str "share", V.str "team", V.str "hand", V.str "nobody", V.str "yes", V.str "no", V.str "done", V.str "twice"]) = H1 at sw ew ⊢
    refine ⟨(by show 0 ≤ sizeLine; decide), fun ln hln => ?_⟩
    have s1 := same_upd (o := .lst []) hln
    have e1 : upd H1 ln (.lst []) ln = some (.lst (([] : List Str).map V.str)) := upd_same
    have ew1 := s1 _ _ ew
    have lnH : H ln = none := by
      cases q : H ln with
      | none => rfl
      | some o => rw [sw _ _ q] at hln; cases hln
    have nlw : lw ≠ ln := ne_of_none ew hln
    have s01 := sw.trans s1
    generalize upd H1 ln (.lst []) = H2 at s01 e1 ew1 ⊢
    refine ⟨fun σ' H' => σ' = [some (.int c), some (.str az), some (.ref lw), some (.ref ln), none, none, none] ∧ H' = H2, ?_, ?_⟩
    · refine ⟨_, rfl, _, _, rfl, rfl, ⟨by decide, by decide⟩, _, _, rfl, rfl, (by show (0 : Int) < 4; decide), rfl, _, rfl, ite2 (fun _ => ?_) (fun _ => ⟨rfl, rfl⟩)⟩
      refine ⟨5, rfl, by decide, by decide, fun L hL => ?_⟩
      have nL : ∀ {b : Addr} {o : HO}, H2 b = some o → b ≠ L := fun {b o} q z => by rw [z, hL] at q; cases q
      refine lc_range (lo := 0) (n := 5) (fun i H' => ∃ l : List Str, H' L = some (.lst (l.map V.str)) ∧ l.length = i ∧ (∀ n ∈ l, isN n) ∧ Same H2 H') ⟨[], upd_same, rfl, fun n hn => (nomatch hn), same_upd hL⟩ ?_ ?_
      · rintro i H' hi ⟨l, hl, len, ok, s⟩
        obtain ⟨j, hj, hj2⟩ : ∃ j : Nat, (c + 5 * ((0 : Int) + (i : Int))) % 12 = (j : Int) ∧ j < 12 := ⟨((c + 5 * ((0 : Int) + (i : Int))) % 12).toNat, by omega, by omega⟩
        obtain ⟨nm, w1, w2⟩ := words14_ok j hj2
        refine ⟨rfl, ?_⟩
        unfold tYes
        refine (fun {A B : Prop} (z : A) => show if true = true then A else B from z) ?_
        refine ⟨_, rfl, _, rfl, _, rfl, _, _, rfl, rfl, .inl ⟨by decide, by decide⟩, _, _, rfl, rfl, _, _, rfl, rfl, (by show (0 : Int) < 12; decide), lw, _, _, _, rfl, rfl, SqL.of (s _ _ ew1), at_of hj (at_map _ w1), ?_⟩
        refine ⟨_, hl, by rw [List.length_map]; exact small1000 (by omega), l ++ [nm], by rw [upd_same, List.map_append]; rfl, by rw [List.length_append, len]; rfl, fun n hn => ?_, fun b o q => ?_⟩
        · rcases List.mem_append.mp hn with hn | hn
          · exact ok n hn
          · rw [List.mem_singleton.mp hn]
            exact w2
        · rw [upd_ne (nL q)]
          exact s _ _ q
      · rintro H' ⟨l, hl, len, ok, s⟩
        refine kk H' L l hl len ok (s01.trans s) ?_
        cases q : H L with
        | none => rfl
        | some o =>
          rw [s01 _ _ q] at hL
          cases hL
    · rintro σ' H' ⟨rfl, rfl⟩
      have lo : ("o" : Str).length = 1 := by decide +kernel
      refine ⟨5, rfl, by decide, by decide, for_range (lo := 0) (n := 5) (fun i σ Hx => ∃ (l : List Str) (v4 v5 v6 : Option V), σ = [some (.int c), some (.str az), some (.ref lw), some (.ref ln), v4, v5, v6] ∧ Hx ln = some (.lst (l.map V.str)) ∧ l.length = i ∧ (∀ n ∈ l, isN n) ∧ ∀ b o, b ≠ ln → H' b = some o → Hx b = some o) ⟨[], none, none, none, rfl, e1, rfl, fun n hn => (nomatch hn), fun _ _ _ e => e⟩ ?_ ?_⟩
      · rintro i σ Hx hi ⟨l, v4, v5, v6, rfl, hl, len, ok, kp⟩
        obtain ⟨e, he, he2⟩ : ∃ e : Nat, (c + 3 * ((0 : Int) + (i : Int))) % 26 = (e : Int) ∧ e < 26 := ⟨((c + 3 * ((0 : Int) + (i : Int))) % 26).toNat, by omega, by omega⟩
        obtain ⟨f, hf, hf2⟩ : ∃ f : Nat, (c / 26 + ((0 : Int) + (i : Int))) % 26 = (f : Int) ∧ f < 26 := ⟨((c / 26 + ((0 : Int) + (i : Int))) % 26).toNat, by omega, by omega⟩
        have put : ∀ (n : Str) (v5 v6 : Option V), isN n → ∃ (l' : List Str) (v4 v5' v6' : Option V), [some (V.int c), some (.str az), some (.ref lw), some (.ref ln), some (.int (0 + (i : Int))), v5, v6] = [some (.int c), some (.str az), some (.ref lw), some (.ref ln), v4, v5', v6'] ∧ upd Hx ln (.lst (l.map V.str ++ [.str n])) ln = some (.lst (l'.map V.str)) ∧ l'.length = i + 1 ∧ (∀ n ∈ l', isN n) ∧ ∀ b o, b ≠ ln → H' b = some o → upd Hx ln (.lst (l.map V.str ++ [.str n])) b = some o := fun n v5 v6 hn => by
          refine ⟨l ++ [n], _, _, _, rfl, by rw [upd_same, List.map_append]; rfl, by rw [List.length_append, len]; rfl, fun m hm => ?_, fun b o nb q => ?_⟩
          · rcases List.mem_append.mp hm with hm | hm
            · exact ok m hm
            · rw [List.mem_singleton.mp hm]
              exact hn
          · rw [upd_ne nb]
            exact kp b o nb q
        refine ⟨_, rfl, _, rfl, _, rfl, _, _, rfl, rfl, .inl ⟨by decide, by decide⟩, _, _, rfl, rfl, _, _, rfl, rfl, (by show (0 : Int) < 26; decide), az, _, 97 + e, rfl, rfl, (by decide +kernel), (by rw [he]; exact atI_nat (az_at e he2)), ?_⟩
        refine ⟨_, rfl, _, _, rfl, rfl, ⟨by decide, by decide⟩, _, _, rfl, rfl, (by show (0 : Int) < 2; decide), rfl, _, rfl, ?_⟩
        refine ite2 (fun _ => ?_) (fun _ => ?_)
        · refine ⟨_, rfl, .inl ⟨rfl, _, SqL.of hl⟩, _, rfl, _, _, rfl, rfl, ⟨by decide, by decide⟩, _, _, rfl, rfl, (by show (0 : Int) < 5; decide), _, _, rfl, rfl, (by rw [lo]; decide), (by omega), (by omega), _, rfl, _, _, rfl, rfl, ?_, _, rfl, _, _, rfl, rfl, ⟨by decide, by decide⟩, _, _, rfl, rfl, (by show (0 : Int) < 4; decide), _, _, rfl, rfl, (by rw [lo]; decide), (by omega), (by omega), _, _, rfl, rfl, ?_, ln, _, _, rfl, rfl, hl, by rw [List.length_map]; exact small1000 (by omega), ?_⟩
          · show (Txt.mul "o" (c / 52 % 5)).length + 1 ≤ sizeLine
            rw [mul_o_len]
            exact Nat.le_of_lt (small1000 (by omega))
          · rw [app_len, mul_o_len, mul_o_len, sgn1]
            exact Nat.le_of_lt (small1000 (by omega))
          · exact put (hname (c / 52 % 5) (c / 260 % 4) e) _ _ (hname_ok (by omega) (by omega) he2)
        · have le1 : (⟨#[97 + e]⟩ : Str).length = 1 := rfl
          have le2 : (⟨#[97 + f]⟩ : Str).length = 1 := rfl
          have q2 : (0 + (i : Int)) / 2 + (0 + (i : Int)) / 4 ≤ 3 := by omega
          refine ⟨_, rfl, _, rfl, _, _, rfl, rfl, ⟨by decide, by decide⟩, _, rfl, _, _, rfl, rfl, _, _, rfl, rfl, (by show (0 : Int) < 26; decide), az, _, 97 + f, rfl, rfl, (by decide +kernel), (by rw [hf]; exact atI_nat (az_at f hf2)), ?_⟩
          refine ⟨_, rfl, .inl ⟨rfl, _, SqL.of hl⟩, _, rfl, _, rfl, _, _, rfl, rfl, _, _, rfl, rfl, (by rw [le1]; decide), (by omega), (by omega), _, rfl, _, rfl, _, _, rfl, rfl, ⟨by decide, by decide⟩, _, rfl, _, _, rfl, rfl, ⟨by decide, by decide⟩, _, _, rfl, rfl, _, _, rfl, rfl, (by rw [le2]; decide), (by omega), (by omega), _, _, rfl, rfl, ?_, ln, _, _, rfl, rfl, hl, by rw [List.length_map]; exact small1000 (by omega), ?_⟩
          · have q := rname_len e f (0 + (i : Int) + 1) ((0 + (i : Int)) / 2 + (0 + (i : Int)) / 4)
            unfold rname at q
            rw [app_len] at q
            rw [q]
            exact Nat.le_of_lt (small1000 (by omega))
          · exact put (rname e f (0 + (i : Int) + 1) ((0 + (i : Int)) / 2 + (0 + (i : Int)) / 4)) _ _ (rname_ok he2 hf2 (by omega) (by omega))
      · rintro σ Hx ⟨l, v4, v5, v6, rfl, hl, len, ok, kp⟩
        refine ⟨_, rfl, kk Hx ln l hl len ok (fun b o q => ?_) lnH⟩
        have q2 := s01 _ _ q
        exact kp b o (fun z => by rw [z, lnH] at q; cases q) q2
theorem sc_L_deed_by : FnScope ["_law_names", "_law_cell", "_law_kind", "_law_name", "_law_above", "_law_share"] ["_law_names", "_law_cell"] (defScope s_L_deed_by) := ⟨rfl, rfl, rfl, by decide +kernel, rfl, by decide +kernel, by decide +kernel⟩
theorem ok_L_deed_by {f : Addr} {fd : FuncData} (F : Fun K "_law_deed_by" "_law_deed_by" s_L_deed_by f fd) (T : WT K mg CS CW CB CT CN) (L : LT mg) :
    FnOk P w K mg base (L2.CX P w) 1 f fd ["_law_names", "_law_cell"] spDeedBy := by
  refine okN F sc_L_deed_by (fun vs H Q E h => ?_) (fun cdv A outer s H vs Q E hr h => ?_)
  · (first | (obtain ⟨_, rfl, _⟩ := h; rfl) | (obtain ⟨_, _, rfl, _⟩ := h; rfl) | (obtain ⟨_, _, _, rfl, _⟩ := h; rfl) | (obtain ⟨_, _, _, _, rfl, _⟩ := h; rfl) | (obtain ⟨_, _, _, _, _, rfl, _⟩ := h; rfl) | (obtain ⟨_, _, _, _, _, _, rfl, _⟩ := h; rfl) | (obtain ⟨_, _, _, _, _, _, _, rfl, _⟩ := h; rfl) | (obtain ⟨_, _, _, _, _, _, _, _, rfl, _⟩ := h; rfl) | (obtain ⟨_, _, _, _, _, _, _, _, _, rfl, _⟩ := h; rfl) | (obtain ⟨_, _, _, _, _, _, _, _, _, _, rfl, _⟩ := h; rfl) | (obtain ⟨_, _, _, _, _, _, _, _, _, _, _, rfl, _⟩ := h; rfl) | (obtain ⟨_, _, _, _, _, _, _, _, _, _, _, _, rfl, _⟩ := h; rfl) | (obtain ⟨_, _, _, _, _, _, _, _, _, _, _, _, _, rfl, _⟩ := h; rfl) | (obtain ⟨_, _, _, _, _, _, _, _, _, _, _, _, _, _, rfl, _⟩ := h; rfl) | (obtain ⟨_, _, _, _, _, _, _, _, _, _, _, _, _, _, _, rfl, _⟩ := h; rfl))
  · obtain ⟨l, ns, c, rfl, hl, len, ok, kk⟩ := h
    refine ⟨_, (pss_cons (ps_set (i := 2) sc_L_deed_by.nd rfl (Or.inl rfl) (pe_op op_mod (pv 1) pe_int))
      (pss_cons (ps_set (i := 3) sc_L_deed_by.nd rfl (Or.inl rfl) (pe_ix (ix_listK (K0 := K)) (pv 0) (pe_op op_mod (pe_op op_fdiv (pv 1) pe_int) pe_int) (fun _ _ => rfl)))
      (pss_cons (ps_set (i := 4) sc_L_deed_by.nd rfl (Or.inl rfl) (pe_ix (ix_listK (K0 := K)) (pe_op op_cat (pe_lst (pa_cons pe_str pa_nil)) (pv 0)) (pe_op op_mod (pe_op op_fdiv (pv 1) pe_int) pe_int) (fun _ _ => rfl)))
      (pss_cons (ps_set (i := 5) sc_L_deed_by.nd rfl (Or.inl rfl) (pe_op op_add pe_int (pe_op op_mod (pe_op op_fdiv (pv 1) pe_int) pe_int)))
      (pss_cons (ps_if (pt_cmpR op_eq (pv 2) pe_int (nomark _)) (pss_one (ps_ret (pe_tup (pa_cons pe_str (pa_cons (pv 3) (pa_cons (pv 4) (pa_cons (pv 5) pa_nil))))))) pss_nil)
      (pss_cons (ps_if (pt_cmpR op_eq (pv 2) pe_int (nomark _)) (pss_one (ps_ret (pe_tup (pa_cons pe_str (pa_cons (pv 3) (pa_cons (pv 4) (pa_cons (pv 5) pa_nil))))))) pss_nil)
      (pss_cons (ps_if (pt_cmpR op_eq (pv 2) pe_int (nomark _)) (pss_one (ps_ret (pe_tup (pa_cons pe_str (pa_cons (pv 3) (pa_cons (pv 5) pa_nil)))))) pss_nil)
      (pss_cons (ps_if (pt_cmpR op_eq (pv 2) pe_int (nomark _)) (pss_one (ps_ret (pe_tup (pa_cons pe_str pa_nil)))) pss_nil)
      (pss_one (ps_ret (pe_tup (pa_cons (pe_ix (ix_listK (K0 := K)) (pe_lst (pa_cons pe_str (pa_cons pe_str (pa_cons pe_str pa_nil)))) (pe_op op_sub (pv 2) pe_int) (fun _ _ => rfl)) (pa_cons (pv 3) pa_nil))))))))))))), ?_⟩
    obtain ⟨kd, hkd, kd7⟩ : ∃ kd : Nat, c % 7 = (kd : Int) ∧ kd < 7 := ⟨(c % 7).toNat, by omega, by omega⟩
    obtain ⟨ni, hni, ni5⟩ : ∃ ni : Nat, c / 7 % 5 = (ni : Int) ∧ ni < 5 := ⟨(c / 7 % 5).toNat, by omega, by omega⟩
    obtain ⟨ai, hai, ai6⟩ : ∃ ai : Nat, c / 35 % 6 = (ai : Int) ∧ ai < 6 := ⟨(c / 35 % 6).toNat, by omega, by omega⟩
    have en : ns[ni]? = some (ns[ni]'(by omega)) := List.getElem?_eq_getElem (by omega)
    generalize ns[ni]'(by omega) = n at en
    have okn : isN n := ok n (List.mem_of_getElem? en)
    refine ⟨_, rfl, _, _, rfl, rfl, (by show (0 : Int) < 7; decide), ?_⟩
    refine ⟨_, rfl, _, rfl, _, _, rfl, rfl, ⟨by decide, by decide⟩, _, _, rfl, rfl, (by show (0 : Int) < 5; decide), l, _, _, _, rfl, rfl, SqL.of hl, (by rw [hni]; exact atI_nat (at_map _ en)), ?_⟩
    refine ⟨(by show 1 ≤ sizeLine; decide), fun l0 hl0 => ⟨_, rfl, ?_⟩⟩
    have s1 := same_upd (o := .lst [V.str ""]) hl0
    have e0 : upd H l0 (.lst [V.str ""]) l0 = some (.lst [V.str ""]) := upd_same
    have hl1 := s1 _ _ hl
    generalize upd H l0 (.lst [V.str ""]) = H1 at s1 e0 hl1 ⊢
    refine ⟨l0, l, _, _, rfl, rfl, e0, hl1, by rw [List.length_map, len]; show 6 ≤ sizeLine; decide, fun l1 hn1 => ?_⟩
    have s2 := s1.trans (same_upd (o := .lst ([V.str ""] ++ ns.map V.str)) hn1)
    have e1 : upd H1 l1 (.lst ([V.str ""] ++ ns.map V.str)) l1 = some (.lst ((("" : Str) :: ns).map V.str)) := upd_same
    generalize upd H1 l1 (.lst ([V.str ""] ++ ns.map V.str)) = H2 at s2 e1 ⊢
    have ea : (("" : Str) :: ns)[ai]? = some ((("" : Str) :: ns)[ai]'(by rw [List.length_cons]; omega)) := List.getElem?_eq_getElem _
    generalize (("" : Str) :: ns)[ai]'(by rw [List.length_cons]; omega) = a at ea
    have oka : isA a := by
      rcases List.mem_cons.mp (List.mem_of_getElem? ea) with rfl | m
      · exact .inl rfl
      · exact .inr (ok a m)
    refine ⟨_, rfl, _, _, rfl, rfl, ⟨by decide, by decide⟩, _, _, rfl, rfl, (by show (0 : Int) < 6; decide), l1, _, _, .str a, rfl, rfl, SqL.of e1, (by rw [hai]; exact atI_nat (at_map _ ea)), ?_⟩
    refine ⟨_, rfl, _, _, rfl, rfl, ⟨by decide, by decide⟩, _, _, rfl, rfl, (by show (0 : Int) < 12; decide), _, _, rfl, rfl, ?_⟩
    have oks : isSh (1 + c / 210 % 12) := ⟨by omega, by omega⟩
    have fin : ∀ (t : Addr) (H3 : Hp) (D : Deed), D.ok → Same H H3 → H3 t = none → Q (.ref t) (upd H3 t (.tup D.vs)) := fun t H3 D od s ht => kk _ t D od upd_same (s.trans (same_upd ht)) (by
      cases q : H t with
      | none => rfl
      | some o => rw [s _ _ q] at ht; cases ht)
    refine ⟨_, rfl, rfl, _, rfl, ite2 (fun _ => ⟨_, rfl, _, rfl, _, rfl, (by show 4 ≤ sizeLine; decide), fun t ht => fin t H2 (.team n a _) ⟨okn, oka, oks⟩ s2 ht⟩) (fun q0 => ?_)⟩
    refine ⟨_, rfl, rfl, _, rfl, ite2 (fun _ => ⟨_, rfl, _, rfl, _, rfl, (by show 4 ≤ sizeLine; decide), fun t ht => fin t H2 (.hand n a _) ⟨okn, oka, oks⟩ s2 ht⟩) (fun q1 => ?_)⟩
    refine ⟨_, rfl, rfl, _, rfl, ite2 (fun _ => ⟨_, rfl, _, rfl, (by show 3 ≤ sizeLine; decide), fun t ht => fin t H2 (.share n _) ⟨okn, oks⟩ s2 ht⟩) (fun q2 => ?_)⟩
    refine ⟨_, rfl, rfl, _, rfl, ite2 (fun _ => ⟨(by show 1 ≤ sizeLine; decide), fun t ht => fin t H2 .deal trivial s2 ht⟩) (fun q6 => ?_)⟩
    have n0 : c % 7 ≠ 0 := fun z => q0 (decide_eq_true (congrArg V.int z))
    have n1 : c % 7 ≠ 1 := fun z => q1 (decide_eq_true (congrArg V.int z))
    have n2 : c % 7 ≠ 2 := fun z => q2 (decide_eq_true (congrArg V.int z))
    have n6 : c % 7 ≠ 6 := fun z => q6 (decide_eq_true (congrArg V.int z))
    refine ⟨(by show 3 ≤ sizeLine; decide), fun l3 hl3 => ?_⟩
    have s3 := s2.trans (same_upd (o := .lst [V.str "wake", V.str "rest", V.str "leave"]) hl3)
    have e3 : upd H2 l3 (.lst [V.str "wake", V.str "rest", V.str "leave"]) l3 = some (.lst [V.str "wake", V.str "rest", V.str "leave"]) := upd_same
    generalize upd H2 l3 (.lst [V.str "wake", V.str "rest", V.str "leave"]) = H3 at s3 e3 ⊢
    rcases (show c % 7 = 3 ∨ c % 7 = 4 ∨ c % 7 = 5 by omega) with z | z | z
    · exact ⟨_, rfl, _, _, rfl, rfl, l3, _, _, .str "wake", rfl, rfl, SqL.of e3, (by rw [z]; exact atI_nat (j := 0) rfl), _, rfl, (by show 2 ≤ sizeLine; decide), fun t ht => fin t H3 (.wake n) okn s3 ht⟩
    · exact ⟨_, rfl, _, _, rfl, rfl, l3, _, _, .str "rest", rfl, rfl, SqL.of e3, (by rw [z]; exact atI_nat (j := 1) rfl), _, rfl, (by show 2 ≤ sizeLine; decide), fun t ht => fin t H3 (.rest n) okn s3 ht⟩
    · exact ⟨_, rfl, _, _, rfl, rfl, l3, _, _, .str "leave", rfl, rfl, SqL.of e3, (by rw [z]; exact atI_nat (j := 2) rfl), _, rfl, (by show 2 ≤ sizeLine; decide), fun t ht => fin t H3 (.leave n) okn s3 ht⟩
end

/-! ### law k14: texts, words -/
def spChg : Sp := fun vs H Q _ => ∃ (x : Str) (c : Int), vs = [.str x, .int c] ∧ x.length ≤ 200 ∧ ∀ y : Str, y.length ≤ x.length + 1 → Q (.str y) H
def spLN : Sp := fun vs H Q _ => ∃ w : Str, vs = [.str w] ∧ w.length ≤ 1000 ∧ Q (.bl (isNm (.str w))) H
def spLS : Sp := fun vs H Q _ => ∃ w : Str, vs = [.str w] ∧ ∀ H', Same H H' → Q (.bl (sDue w).isSome) H'
theorem vs_head (D : Deed) : ∃ k r, D.vs = .str k :: r ∧ k ≠ "" := by
  obtain ⟨n1, n2, n3, n4, n5, n6, n7⟩ := ne_words
  cases D with
  | deal => exact ⟨_, _, rfl, n7⟩
  | wake n => exact ⟨_, _, rfl, n3⟩
  | rest n => exact ⟨_, _, rfl, n4⟩
  | leave n => exact ⟨_, _, rfl, n6⟩
  | share n s => exact ⟨_, _, rfl, n5⟩
  | team n a s => exact ⟨_, _, rfl, n1⟩
  | hand n a s => exact ⟨_, _, rfl, n2⟩
theorem sl_lo (z : Str) (n : Nat) : (Txt.slice z none (some (n : Int))).length = min n z.length := by
  rw [← C8.cutS_slice]
  unfold cutS
  rw [HT.sIx_none, HT.sIx_nat, ← codes_len]
  show (List.take _ (List.drop _ z.cps.toList)).length = _
  rw [List.length_take, List.length_drop, codes_len]
  omega
theorem sl_hi (z : Str) (n : Nat) : (Txt.slice z (some (n : Int)) none).length = z.length - n := by
  rw [← C8.cutS_slice]
  unfold cutS
  rw [HT.sIx_none, HT.sIx_nat, ← codes_len]
  show (List.take _ (List.drop _ z.cps.toList)).length = _
  rw [List.length_take, List.length_drop, codes_len]
  omega
theorem az_codes : az.cps.toList = (List.range 26).map (97 + ·) := by decide +kernel
theorem az_mem (c : Nat) : c ∈ az.cps.toList ↔ 97 ≤ c ∧ c ≤ 122 := by
  rw [az_codes, List.mem_map]
  constructor
  · rintro ⟨k, hk, rfl⟩
    have := List.mem_range.mp hk
    omega
  · rintro ⟨a, b⟩
    exact ⟨c - 97, List.mem_range.mpr (by omega), by omega⟩
theorem azB_iff (c : Nat) : azB c = true ↔ 97 ≤ c ∧ c ≤ 122 := by
  unfold azB
  rw [show ("a" : Str).cps.toList = [97] by decide +kernel, show ("z" : Str).cps.toList = [122] by decide +kernel, Bool.and_eq_true]
  have l1 : ∀ a b : Nat, ([a] < [b]) ↔ a < b := fun a b => by
    constructor
    · intro h
      cases h with
      | rel h => exact h
      | cons h => cases h
    · exact fun h => List.Lex.rel h
  constructor
  · rintro ⟨a, b⟩
    have a : ¬ [c] < [97] := fun z => by rw [decide_eq_true z] at a; cases a
    have b : ¬ [122] < [c] := fun z => by rw [decide_eq_true z] at b; cases b
    rw [l1] at a b
    omega
  · rintro ⟨a, b⟩
    rw [decide_eq_false (p := [c] < [97]) (by rw [l1]; omega), decide_eq_false (p := [122] < [c]) (by rw [l1]; omega)]
    exact ⟨rfl, rfl⟩
theorem inV_num (w : Str) : inV (.str w) ((List.range 12).map fun k : Nat => V.str (numT ((k : Int) + 1))) = (sDue w).isSome := by
  cases e : sDue w with
  | some i =>
    obtain ⟨hi, e2⟩ := sDue_sh e
    refine List.any_eq_true.mpr ⟨.str (numT i), List.mem_map.mpr ⟨(i - 1).toNat, List.mem_range.mpr (by have := hi.1; have := hi.2; omega), ?_⟩, ?_⟩
    · rw [show (((i - 1).toNat : Nat) : Int) + 1 = i by have := hi.1; omega]
    · show (numT i == w) = true
      rw [e2]
      exact beq_self_eq_true _
  | none =>
    refine List.any_eq_false.mpr fun v hv => ?_
    obtain ⟨k, hk, rfl⟩ := List.mem_map.mp hv
    have hk := List.mem_range.mp hk
    intro z
    have z : (numT ((k : Int) + 1) == w) = true := z
    exact sDue_none e ((k : Int) + 1) ⟨by omega, by omega⟩ (eq_of_beq z).symm
section
variable {P : Program} {w : World} {K : PySem.W.Frag} {mg : Str → Option Value} {base : Heap} {CS CW CB CT CN CH CM CY CA CD CU CE CV Pt : Addr}
theorem sc_L_text_by : FnScope ["_law_deed", "_law_words", "_law_thing"] ["_law_deed"] (defScope s_L_text_by) := ⟨rfl, rfl, rfl, by decide +kernel, rfl, by decide +kernel, by decide +kernel⟩
theorem ok_L_text_by {f : Addr} {fd : FuncData} (F : Fun K "_law_text_by" "_law_text_by" s_L_text_by f fd) (T : WT K mg CS CW CB CT CN) (L : LT mg) :
    FnOk P w K mg base (L2.CX P w) 1 f fd ["_law_deed"] spShown := by
  refine okN F sc_L_text_by (fun vs H Q E h => ?_) (fun cdv A outer s H vs Q E hr h => ?_)
  · (first | (obtain ⟨_, rfl, _⟩ := h; rfl) | (obtain ⟨_, _, rfl, _⟩ := h; rfl) | (obtain ⟨_, _, _, rfl, _⟩ := h; rfl) | (obtain ⟨_, _, _, _, rfl, _⟩ := h; rfl) | (obtain ⟨_, _, _, _, _, rfl, _⟩ := h; rfl) | (obtain ⟨_, _, _, _, _, _, rfl, _⟩ := h; rfl) | (obtain ⟨_, _, _, _, _, _, _, rfl, _⟩ := h; rfl) | (obtain ⟨_, _, _, _, _, _, _, _, rfl, _⟩ := h; rfl) | (obtain ⟨_, _, _, _, _, _, _, _, _, rfl, _⟩ := h; rfl) | (obtain ⟨_, _, _, _, _, _, _, _, _, _, rfl, _⟩ := h; rfl) | (obtain ⟨_, _, _, _, _, _, _, _, _, _, _, rfl, _⟩ := h; rfl) | (obtain ⟨_, _, _, _, _, _, _, _, _, _, _, _, rfl, _⟩ := h; rfl) | (obtain ⟨_, _, _, _, _, _, _, _, _, _, _, _, _, rfl, _⟩ := h; rfl) | (obtain ⟨_, _, _, _, _, _, _, _, _, _, _, _, _, _, rfl, _⟩ := h; rfl) | (obtain ⟨_, _, _, _, _, _, _, _, _, _, _, _, _, _, _, rfl, _⟩ := h; rfl))
  · obtain ⟨t, D, rfl, ht, ok, kk⟩ := h
    refine ⟨_, (pss_cons (ps_set (i := 1) sc_L_text_by.nd rfl (Or.inl rfl) (pe_lst (pa_cons (pe_ix (ix_tupK (K0 := K)) (pv 0) pe_int (fun _ _ => rfl)) pa_nil)))
      (pss_cons (ps_for PassesOwn.never rfl (pi_tup (pe_slice sl_tup (pv 0) (po_some pe_int) po_none)) (pg_name (i := 2) sc_L_text_by.nd rfl (Or.inl rfl))
        (pss_one (ps_expr (by exact pe_app (K0 := K) (pv 1) (pe_ifExp (pt_cmpR op_eq (pv 2) pe_str (nomark _)) pe_str (pe_callTy call_str_any (by rfl) L.str PyProof.Rows.boot_str (pa_cons (pv 2) pa_nil)))))))
      (pss_one (ps_ret (by exact pe_join pe_str (pv 1)))))), ?_⟩
    obtain ⟨k, r, ek, nk⟩ := vs_head D
    have len := vs_len D
    rw [ek] at ht len
    refine ⟨_, rfl, t, _, 0, .str k, rfl, rfl, SqT.of ht, atI_nat (j := 0) rfl, (by show 1 ≤ sizeLine; decide), fun lw hlw => ?_⟩
    have s1 := same_upd (o := .lst [V.str k]) hlw
    have e1 : upd H lw (.lst [V.str k]) lw = some (.lst [V.str k]) := upd_same
    generalize upd H lw (.lst [V.str k]) = H1 at s1 e1 ⊢
    refine ⟨_, rfl, _, rfl, t, _, rfl, SqT.of (s1 _ _ ht), ?_, fun lt hlt => ?_⟩
    · intro z
      have z1 := z.1
      have : HT.sIx (V.str k :: r).length 0 (some 1) = 1 := by
        unfold HT.sIx
        simp
      rw [this] at z1
      cases z1
    rw [show cutV (V.str k :: r) (some 1) none = r from cut_tail _ _]
    have s2 := s1.trans (same_upd (o := .tup r) hlt)
    have e2 : upd H1 lt (.tup r) lt = some (.tup r) := upd_same
    have e3 : upd H1 lt (.tup r) lw = some (.lst [V.str k]) := by
      rw [upd_ne (ne_of_none e1 hlt)]
      exact e1
    have ntl : lt ≠ lw := (ne_of_none e1 hlt).symm
    generalize upd H1 lt (.tup r) = H2 at s2 e2 e3 ⊢
    refine ⟨lt, rfl, ⟨_, SqT.of e2⟩, for_it (walk_tup (K := K) (a := lt) (xs := r)) (fun i σ' H' => ∃ v2, σ' = [some (.ref t), some (.ref lw), v2] ∧ H' lw = some (.lst ((V.str k :: r.take i).map fun v => V.str (wordOf v))) ∧ Same H H' ∧ H' lt = some (.tup r)) ⟨none, rfl, ?_, s2, e2⟩ (fun i σ' H' _ ⟨_, _, _, _, e⟩ => SqT.of e) ?_ ?_⟩
    · rw [e3]
      show some (HO.lst [V.str k]) = some (.lst [V.str (wordOf (.str k))])
      rw [wordOf_k nk]
    · rintro i v σ' Hi Hj hi ⟨v2, rfl, e, s, el⟩ ⟨rfl, hv⟩
      have mv : v ∈ D.vs := by
        rw [ek]
        exact List.mem_cons_of_mem _ (List.mem_of_getElem? hv)
      have small : ((V.str k :: r.take i).map fun v => V.str (wordOf v)).length < sizeLine := by
        rw [List.length_map, List.length_cons, List.length_take]
        rw [List.length_cons] at len
        exact small1000 (by omega)
      have fin : ∀ u, u = V.str (wordOf v) → ∃ v2', [some (V.ref t), some (.ref lw), some v] = [some (V.ref t), some (.ref lw), v2'] ∧ upd Hj lw (.lst (((V.str k :: r.take i).map fun v => V.str (wordOf v)) ++ [u])) lw = some (.lst ((V.str k :: r.take (i + 1)).map fun v => V.str (wordOf v))) ∧ Same H (upd Hj lw (.lst (((V.str k :: r.take i).map fun v => V.str (wordOf v)) ++ [u]))) ∧ upd Hj lw (.lst (((V.str k :: r.take i).map fun v => V.str (wordOf v)) ++ [u])) lt = some (.tup r) := by
        rintro u rfl
        refine ⟨_, rfl, ?_, fun b o q => ?_, ?_⟩
        · rw [upd_same, take_snoc hv]
          show _ = some (HO.lst (List.map _ ((V.str k :: r.take i) ++ [v])))
          rw [List.map_append]
          rfl
        · rw [upd_ne fun z => by rw [z, hlw] at q; cases q]
          exact s _ _ q
        · rw [upd_ne ntl]
          exact el
      rcases vs_kind ok v mv with ⟨z, rfl⟩ | ⟨j, rfl, hj⟩
      · refine ⟨_, rfl, .inl ⟨rfl, _, SqL.of e⟩, _, rfl, rfl, _, rfl, ite2 (fun q => ⟨lw, _, _, rfl, rfl, e, small, fin _ ?_⟩) (fun q => ⟨_, rfl, .inr ⟨z, rfl, lw, _, _, rfl, rfl, e, small, fin _ ?_⟩⟩)⟩
        · cases V.str.inj (of_decide_eq_true q)
          decide +kernel
        · exact congrArg V.str (wordOf_k fun z0 => q (decide_eq_true (congrArg V.str z0))).symm
      · exact ⟨_, rfl, .inl ⟨rfl, _, SqL.of e⟩, _, rfl, rfl, _, rfl, ite2 (fun q => by cases of_decide_eq_true q) (fun q => ⟨_, rfl, .inl ⟨j, rfl, log_small hj, lw, _, _, rfl, rfl, e, small, fin _ rfl⟩⟩)⟩
    · rintro σ' H' ⟨v2, rfl, e, s, el⟩
      rw [List.take_length, ← ek] at e
      have e2 : H' lw = some (.lst ((D.vs.map wordOf).map V.str)) := by
        rw [List.map_map]
        exact e
      exact ⟨⟨" ", rfl⟩, _, rfl, " ", lw, D.vs.map wordOf, rfl, rfl, .inl (SqL.of e2), join_fit ok, kk H' s⟩
theorem sc_L_changed : FnScope ["_law_text", "_law_cell", "_law_some", "_law_at", "_law_sign"] ["_law_text", "_law_cell"] (defScope s_L_changed) := ⟨rfl, rfl, rfl, by decide +kernel, rfl, by decide +kernel, by decide +kernel⟩
theorem ok_L_changed {f : Addr} {fd : FuncData} (F : Fun K "_law_changed" "_law_changed" s_L_changed f fd) (T : WT K mg CS CW CB CT CN) (L : LT mg) :
    FnOk P w K mg base (L2.CX P w) 1 f fd ["_law_text", "_law_cell"] spChg := by
  refine okN F sc_L_changed (fun vs H Q E h => ?_) (fun cdv A outer s H vs Q E hr h => ?_)
  · (first | (obtain ⟨_, rfl, _⟩ := h; rfl) | (obtain ⟨_, _, rfl, _⟩ := h; rfl) | (obtain ⟨_, _, _, rfl, _⟩ := h; rfl) | (obtain ⟨_, _, _, _, rfl, _⟩ := h; rfl) | (obtain ⟨_, _, _, _, _, rfl, _⟩ := h; rfl) | (obtain ⟨_, _, _, _, _, _, rfl, _⟩ := h; rfl) | (obtain ⟨_, _, _, _, _, _, _, rfl, _⟩ := h; rfl) | (obtain ⟨_, _, _, _, _, _, _, _, rfl, _⟩ := h; rfl) | (obtain ⟨_, _, _, _, _, _, _, _, _, rfl, _⟩ := h; rfl) | (obtain ⟨_, _, _, _, _, _, _, _, _, _, rfl, _⟩ := h; rfl) | (obtain ⟨_, _, _, _, _, _, _, _, _, _, _, rfl, _⟩ := h; rfl) | (obtain ⟨_, _, _, _, _, _, _, _, _, _, _, _, rfl, _⟩ := h; rfl) | (obtain ⟨_, _, _, _, _, _, _, _, _, _, _, _, _, rfl, _⟩ := h; rfl) | (obtain ⟨_, _, _, _, _, _, _, _, _, _, _, _, _, _, rfl, _⟩ := h; rfl) | (obtain ⟨_, _, _, _, _, _, _, _, _, _, _, _, _, _, _, rfl, _⟩ := h; rfl))
  · obtain ⟨x, c, rfl, hx, kk⟩ := h
    refine ⟨_, (pss_cons (ps_set (i := 2) sc_L_changed.nd rfl (Or.inl rfl) pe_str)
      (pss_cons (ps_set (i := 2) sc_L_changed.nd rfl (Or.inl rfl) (pe_op op_add_str (pv 2) pe_str))
      (pss_cons (ps_set (i := 3) sc_L_changed.nd rfl (Or.inl rfl) (pe_op op_mod (pe_op op_fdiv (pv 1) pe_int) (pe_op op_add (pe_callB call_len_str (by rfl) L.len PySem.boot_len (pa_cons (pv 0) pa_nil)) pe_int)))
      (pss_cons (ps_set (i := 4) sc_L_changed.nd rfl (Or.inl rfl) (pe_ix ix_str (pv 2) (pe_op op_mod (pe_op op_fdiv (pv 1) pe_int) pe_int) (fun _ _ => rfl)))
      (pss_cons (ps_if (pt_cmpR op_eq (pe_op op_mod (pv 1) pe_int) pe_int (nomark _)) (pss_one (ps_ret (pe_op op_add_str (pe_op op_add_str (pe_slice C8.sl_txt (pv 0) po_none (po_some (pv 3))) (pv 4)) (pe_slice C8.sl_txt (pv 0) (po_some (pv 3)) po_none)))) pss_nil)
      (pss_cons (ps_if (pt_cmpR op_eq (pe_op op_mod (pv 1) pe_int) pe_int (nomark _)) (pss_one (ps_ret (pe_op op_add_str (pe_slice C8.sl_txt (pv 0) po_none (po_some (pv 3))) (pe_slice C8.sl_txt (pv 0) (po_some (pe_op op_add (pv 3) pe_int)) po_none)))) pss_nil)
      (pss_one (ps_ret (pe_op op_add_str (pe_op op_add_str (pe_slice C8.sl_txt (pv 0) po_none (po_some (pv 3))) (pv 4)) (pe_slice C8.sl_txt (pv 0) (po_some (pe_op op_add (pv 3) pe_int)) po_none)))))))))), ?_⟩
    have l1 : (" !\"#$&'()*+,-./0123456789:;<=>?@ABCDEFGHIJKLMNOPQRSTUVWXYZ[\\]^_`" : Str).length + ("abcdefghijklmnopqrstuvwxyz{|}~\n" : Str).length ≤ sizeLine := by decide +kernel
    refine ⟨_, rfl, _, _, rfl, rfl, l1, ?_⟩
    have sx : x.length ≤ sizeLine := Nat.le_of_lt (small1000 (by omega))
    have big : ∀ n : Nat, n ≤ 1000 → n ≤ sizeLine := fun n h => Nat.le_of_lt (small1000 h)
    obtain ⟨a, ha, hax⟩ : ∃ a : Nat, c / 3 % ((x.length : Int) + 1) = (a : Int) ∧ a ≤ x.length := by
      have h1 := Int.emod_nonneg (c / 3) (show (x.length : Int) + 1 ≠ 0 by omega)
      have h2 := Int.emod_lt_of_pos (c / 3) (show (0 : Int) < (x.length : Int) + 1 by omega)
      exact ⟨(c / 3 % ((x.length : Int) + 1)).toNat, by omega, by omega⟩
    obtain ⟨b, hb, hb95⟩ : ∃ b : Nat, c / 7 % 95 = (b : Int) ∧ b < 95 := ⟨(c / 7 % 95).toNat, by omega, by omega⟩
    generalize hS : (Str.ofString " !\"#$&'()*+,-./0123456789:;<=>?@ABCDEFGHIJKLMNOPQRSTUVWXYZ[\\]^_`" ++ Str.ofString "abcdefghijklmnopqrstuvwxyz{|}~\n") = S
    have lS : S.cps.toList.length = 95 := by
      rw [← hS]
      decide +kernel
    have eb : S.cps.toList[b]? = some (S.cps.toList[b]'(by omega)) := List.getElem?_eq_getElem (by omega)
    generalize S.cps.toList[b]'(by omega) = sg at eb
    have lg : (⟨#[sg]⟩ : Str).length = 1 := rfl
    refine ⟨_, rfl, _, _, rfl, rfl, ⟨by decide, by decide⟩, _, rfl, x, rfl, sx, _, _, rfl, rfl, _, _, rfl, rfl, (by show (0 : Int) < (x.length : Int) + 1; omega), ?_⟩
    refine ⟨_, rfl, _, rfl, _, _, rfl, rfl, ⟨by decide, by decide⟩, _, _, rfl, rfl, (by show (0 : Int) < 95; decide), S, _, sg, rfl, rfl, (by rw [← codes_len, lS]; exact big 95 (by decide)), (by rw [hb]; exact atI_nat eb), ?_⟩
    have c1 := sl_lo x a
    have c2 := sl_hi x a
    have c3 : (Txt.slice x (some ((a : Int) + 1)) none).length = x.length - (a + 1) := sl_hi x (a + 1)
    refine ⟨_, rfl, _, _, rfl, rfl, (by show (0 : Int) < 3; decide), rfl, _, rfl, ite2 (fun _ => ?_) (fun _ => ?_)⟩
    · refine ⟨_, rfl, _, rfl, _, rfl, x, rfl, sx, _, rfl, _, _, rfl, rfl, ?_, _, rfl, _, rfl, _, rfl, x, rfl, sx, _, _, rfl, rfl, ?_, kk _ ?_⟩
      · rw [ha, c1, lg]
        exact big _ (by omega)
      · rw [ha, app_len, c1, c2, lg]
        exact big _ (by omega)
      · rw [ha, app_len, app_len, c1, c2, lg]
        omega
    · refine ⟨_, rfl, _, _, rfl, rfl, (by show (0 : Int) < 3; decide), rfl, _, rfl, ite2 (fun _ => ?_) (fun _ => ?_)⟩
      · refine ⟨_, rfl, _, rfl, _, rfl, x, rfl, sx, _, rfl, _, rfl, _, _, rfl, rfl, _, rfl, x, rfl, sx, _, _, rfl, rfl, ?_, kk _ ?_⟩
        · rw [ha, c1, c3]
          exact big _ (by omega)
        · rw [ha, app_len, c1, c3]
          omega
      · refine ⟨_, rfl, _, rfl, _, rfl, x, rfl, sx, _, rfl, _, _, rfl, rfl, ?_, _, rfl, _, rfl, _, _, rfl, rfl, _, rfl, x, rfl, sx, _, _, rfl, rfl, ?_, kk _ ?_⟩
        · rw [ha, c1, lg]
          exact big _ (by omega)
        · rw [ha, app_len, c1, c3, lg]
          exact big _ (by omega)
        · rw [ha, app_len, app_len, c1, c3, lg]
          omega
theorem sc_L_is_name : FnScope ["_law_word", "_law_sign"] ["_law_word"] (defScope s_L_is_name) := ⟨rfl, rfl, rfl, by decide +kernel, rfl, by decide +kernel, by decide +kernel⟩
theorem ok_L_is_name {f : Addr} {fd : FuncData} (F : Fun K "_law_is_name" "_law_is_name" s_L_is_name f fd) (T : WT K mg CS CW CB CT CN) (L : LT mg) :
    FnOk P w K mg base (L2.CX P w) 1 f fd ["_law_word"] spLN := by
  refine okN F sc_L_is_name (fun vs H Q E h => ?_) (fun cdv A outer s H vs Q E hr h => ?_)
  · (first | (obtain ⟨_, rfl, _⟩ := h; rfl) | (obtain ⟨_, _, rfl, _⟩ := h; rfl) | (obtain ⟨_, _, _, rfl, _⟩ := h; rfl) | (obtain ⟨_, _, _, _, rfl, _⟩ := h; rfl) | (obtain ⟨_, _, _, _, _, rfl, _⟩ := h; rfl) | (obtain ⟨_, _, _, _, _, _, rfl, _⟩ := h; rfl) | (obtain ⟨_, _, _, _, _, _, _, rfl, _⟩ := h; rfl) | (obtain ⟨_, _, _, _, _, _, _, _, rfl, _⟩ := h; rfl) | (obtain ⟨_, _, _, _, _, _, _, _, _, rfl, _⟩ := h; rfl) | (obtain ⟨_, _, _, _, _, _, _, _, _, _, rfl, _⟩ := h; rfl) | (obtain ⟨_, _, _, _, _, _, _, _, _, _, _, rfl, _⟩ := h; rfl) | (obtain ⟨_, _, _, _, _, _, _, _, _, _, _, _, rfl, _⟩ := h; rfl) | (obtain ⟨_, _, _, _, _, _, _, _, _, _, _, _, _, rfl, _⟩ := h; rfl) | (obtain ⟨_, _, _, _, _, _, _, _, _, _, _, _, _, _, rfl, _⟩ := h; rfl) | (obtain ⟨_, _, _, _, _, _, _, _, _, _, _, _, _, _, _, rfl, _⟩ := h; rfl))
  · obtain ⟨w0, rfl, hw, kk⟩ := h
    refine ⟨_, (pss_cons (ps_for PassesOwn.never rfl (pi_str (pv 0)) (pg_name (i := 1) sc_L_is_name.nd rfl (Or.inl rfl))
        (pss_one (ps_if (pt_cmpR op_notIn_sign (pv 1) pe_str (by rfl)) (pss_one (ps_ret pe_bl)) pss_nil)))
      (pss_one (ps_ret (pe_chain op_le op_le pe_int (pe_callB call_len_str (by rfl) L.len PySem.boot_len (pa_cons (pv 0) pa_nil)) pe_int)))), ?_⟩
    refine ⟨_, rfl, w0, rfl, for_it (walk_str (z := w0)) (fun i σ' H' => ∃ v1, σ' = [some (.str w0), v1] ∧ H' = H ∧ (w0.cps.toList.take i).all azB = true) ⟨_, rfl, rfl, rfl⟩ (fun _ _ _ _ _ => trivial) ?_ ?_⟩
    · rintro i v σ' Hi Hj hi ⟨v1, rfl, rfl, al⟩ ⟨rfl, c, hc, rfl⟩
      have hc2 : w0.cps.toList[i]? = some c := by
        rw [Array.getElem?_toList]
        exact hc
      refine ⟨_, rfl, c, _, rfl, rfl, _, rfl, ite2 (fun q => ?_) (fun q => ⟨_, rfl, rfl, ?_⟩)⟩
      · have nb : azB c = false := by
          cases q2 : azB c with
          | false => rfl
          | true =>
            have m := (az_mem c).mpr ((azB_iff c).mp q2)
            have q : (!decide (c ∈ az.cps.toList)) = true := q
            rw [decide_eq_true m] at q
            cases q
        have no : isNm (.str w0) = false := by
          show (decide (1 ≤ w0.length) && decide (w0.length ≤ 8) && w0.cps.toList.all azB) = false
          have : w0.cps.toList.all azB = false := by
            rw [List.all_eq_false]
            exact ⟨c, List.mem_of_getElem? hc2, by rw [nb]; decide⟩
          rw [this, Bool.and_false]
        rw [no] at kk
        exact kk
      · have yb : azB c = true := by
          refine (azB_iff c).mpr ((az_mem c).mp ?_)
          refine Classical.byContradiction fun n => q ?_
          show (!decide (c ∈ az.cps.toList)) = true
          rw [decide_eq_false n]
          rfl
        rw [take_snoc hc2, List.all_append, al]
        simp [yb]
    · rintro σ' H' ⟨v1, rfl, rfl, al⟩
      have al : w0.cps.toList.all azB = true := by
        rw [← Array.length_toList, List.take_length] at al
        exact al
      refine ⟨_, rfl, w0, rfl, Nat.le_of_lt (small1000 hw), _, _, rfl, rfl, _, rfl, ?_⟩
      have e : isNm (.str w0) = (decide (1 ≤ w0.length) && decide (w0.length ≤ 8)) := by
        show (decide (1 ≤ w0.length) && decide (w0.length ≤ 8) && w0.cps.toList.all azB) = _
        rw [al, Bool.and_true]
      rw [e] at kk
      by_cases h1 : (1 : Int) ≤ (w0.length : Int)
      · rw [if_pos (decide_eq_true h1)]
        refine ⟨_, _, rfl, rfl, ?_⟩
        rw [decide_eq_true (show 1 ≤ w0.length by omega), Bool.true_and] at kk
        rw [← show decide ((w0.length : Int) ≤ 8) = decide (w0.length ≤ 8) from decide_eq_decide.mpr (by omega)] at kk
        exact kk
      · rw [if_neg (by rw [decide_eq_false h1]; decide)]
        rw [decide_eq_false (show ¬ 1 ≤ w0.length by omega), Bool.false_and] at kk
        exact kk
theorem sc_L_is_share : FnScope ["_law_word", "_law_k"] ["_law_word"] (defScope s_L_is_share) := ⟨rfl, rfl, rfl, by decide +kernel, rfl, by decide +kernel, by decide +kernel⟩
theorem ok_L_is_share {f : Addr} {fd : FuncData} (F : Fun K "_law_is_share" "_law_is_share" s_L_is_share f fd) (T : WT K mg CS CW CB CT CN) (L : LT mg) :
    FnOk P w K mg base (L2.CX P w) 1 f fd ["_law_word"] spLS := by
  refine okN F sc_L_is_share (fun vs H Q E h => ?_) (fun cdv A outer s H vs Q E hr h => ?_)
  · (first | (obtain ⟨_, rfl, _⟩ := h; rfl) | (obtain ⟨_, _, rfl, _⟩ := h; rfl) | (obtain ⟨_, _, _, rfl, _⟩ := h; rfl) | (obtain ⟨_, _, _, _, rfl, _⟩ := h; rfl) | (obtain ⟨_, _, _, _, _, rfl, _⟩ := h; rfl) | (obtain ⟨_, _, _, _, _, _, rfl, _⟩ := h; rfl) | (obtain ⟨_, _, _, _, _, _, _, rfl, _⟩ := h; rfl) | (obtain ⟨_, _, _, _, _, _, _, _, rfl, _⟩ := h; rfl) | (obtain ⟨_, _, _, _, _, _, _, _, _, rfl, _⟩ := h; rfl) | (obtain ⟨_, _, _, _, _, _, _, _, _, _, rfl, _⟩ := h; rfl) | (obtain ⟨_, _, _, _, _, _, _, _, _, _, _, rfl, _⟩ := h; rfl) | (obtain ⟨_, _, _, _, _, _, _, _, _, _, _, _, rfl, _⟩ := h; rfl) | (obtain ⟨_, _, _, _, _, _, _, _, _, _, _, _, _, rfl, _⟩ := h; rfl) | (obtain ⟨_, _, _, _, _, _, _, _, _, _, _, _, _, _, rfl, _⟩ := h; rfl) | (obtain ⟨_, _, _, _, _, _, _, _, _, _, _, _, _, _, _, rfl, _⟩ := h; rfl))
  · obtain ⟨w0, rfl, kk⟩ := h
    refine ⟨_, (pss_one (ps_ret (pe_cmpR (op_inK (K0 := K)) (pv 0) (pe_lc (own := [("_law_k", 1)]) (g := gName 1) (tt := tYes) rfl sc_L_is_share.nd (pi_range2 rfl L.range (pa_cons pe_int (pa_cons pe_int pa_nil))) (blkOk_by (N := ["_law_word", "_law_k"]) (sc := defScope s_L_is_share) (by decide +kernel)) (fun _ _ _ _ _ => (pg_name (i := 1) sc_L_is_share.nd rfl (Or.inl rfl))) (fun _ _ _ _ _ => pts_nil) (fun _ _ _ _ _ => (pe_callTy call_str_int (by rfl) L.str PyProof.Rows.boot_str (pa_cons (pv 1) pa_nil)))) (by rfl)))), ?_⟩
    refine ⟨_, rfl, 1, 13, rfl, ⟨by decide, by decide, by decide, by decide⟩, fun L hL => ?_⟩
    have nL : ∀ {b : Addr} {o : HO}, H b = some o → b ≠ L := fun {b o} q z => by rw [z, hL] at q; cases q
    refine lc_range (lo := 1) (n := 12) (fun i H' => H' L = some (.lst ((List.range i).map fun k : Nat => V.str (numT ((k : Int) + 1)))) ∧ Same H H') ⟨upd_same, same_upd hL⟩ ?_ ?_
    · rintro i H' hi ⟨e, s⟩
      refine ⟨rfl, ?_⟩
      unfold tYes
      refine (fun {A B : Prop} (z : A) => show if true = true then A else B from z) ?_
      refine ⟨_, rfl, 1 + (i : Int), rfl, log_small ⟨by omega, by omega⟩, _, e, ?_, ?_, fun b o q => ?_⟩
      · rw [List.length_map, List.length_range]
        exact small1000 (by omega)
      · rw [upd_same, List.range_succ, List.map_append]
        show some (HO.lst (_ ++ [V.str (numT (1 + (i : Int)))])) = some (HO.lst (_ ++ [V.str (numT ((i : Int) + 1))]))
        rw [Int.add_comm]
      · rw [upd_ne (nL q)]
        exact s _ _ q
    · rintro H' ⟨e, s⟩
      refine ⟨L, _, rfl, .inl (SqL.of e), rfl, ?_, ?_⟩
      · rw [List.all_eq_true]
        intro v hv
        obtain ⟨k, _, rfl⟩ := List.mem_map.mp hv
        rfl
      · have q := kk H' s
        rw [← inV_num] at q
        exact q
end

/-! ### law k14: what is due -/
def lcode (k : Str) : Nat := if k = "share" then 115 else if k = "above" then 116 else 110
def kstr (ks : List Str) : Str := ⟨(ks.map lcode).toArray⟩
theorem signs_kstr (ks : List Str) : signs (kstr ks) = ks.map fun k => V.str ⟨#[lcode k]⟩ := by
  unfold signs kstr
  rw [List.toList_toArray, List.map_map]
  rfl
def K14 : List (Key × V) := [(.inr "deal", .str ""), (.inr "wake", .str "n"), (.inr "rest", .str "n"), (.inr "leave", .str "n"), (.inr "share", .str "ns"), (.inr "team", .str "nts"), (.inr "hand", .str "nts")]
theorem K14_merge : mergeK [] K14 = K14 := by decide +kernel
theorem K14_in : valV K14 (.inr "team") = some (.str (kstr ["name", "above", "share"])) ∧ valV K14 (.inr "hand") = some (.str (kstr ["name", "above", "share"])) ∧ valV K14 (.inr "wake") = some (.str (kstr ["name"])) ∧ valV K14 (.inr "rest") = some (.str (kstr ["name"])) ∧
  valV K14 (.inr "share") = some (.str (kstr ["name", "share"])) ∧ valV K14 (.inr "leave") = some (.str (kstr ["name"])) ∧ valV K14 (.inr "deal") = some (.str (kstr [])) := by decide +kernel
theorem K14_val (z : Str) : valV K14 (.inr z) = (kinds z).map fun ks => V.str (kstr ks) := by
  obtain ⟨q1, q2, q3, q4, q5, q6, q7⟩ := kinds_eqs
  obtain ⟨p1, p2, p3, p4, p5, p6, p7⟩ := K14_in
  cases e : kinds z with
  | some ks =>
    have mem : z = "team" ∨ z = "hand" ∨ z = "wake" ∨ z = "rest" ∨ z = "share" ∨ z = "leave" ∨ z = "deal" := by simpa [deedWords] using kinds_mem e
    rcases mem with rfl | rfl | rfl | rfl | rfl | rfl | rfl
    · rw [q1] at e; cases e; exact p1
    · rw [q2] at e; cases e; exact p2
    · rw [q3] at e; cases e; exact p3
    · rw [q4] at e; cases e; exact p4
    · rw [q5] at e; cases e; exact p5
    · rw [q6] at e; cases e; exact p6
    · rw [q7] at e; cases e; exact p7
  | none =>
    have n : ∀ {k : Str} {ks : List Str}, kinds k = some ks → ¬ (Sum.inr k : Key) = Sum.inr z := fun {k ks} h q => by
      rw [Sum.inr.inj q, e] at h
      cases h
    unfold K14
    rw [valV_neg (n q7), valV_neg (n q3), valV_neg (n q4), valV_neg (n q6), valV_neg (n q5), valV_neg (n q1), valV_neg (n q2)]
    rfl
theorem eqv_two (a b c d : Str) : PyData.eqv (.tuple [.str a, .str b]) (.tuple [.str c, .str d]) = (a == c && b == d) := by
  show (a == c && (b == d && true)) = _
  rw [Bool.and_true]
def spDue14 : Sp := fun vs H Q _ => ∃ x : Str, vs = [.str x] ∧ x.length ≤ 1000 ∧ (∀ r, due (Txt.split x " ") = some r → ∀ (H' : Hp) (a : Addr), H' a = some (.tup r) → Same H H' → H a = none → Q (.ref a) H') ∧ (due (Txt.split x " ") = none → ∀ H', Same H H' → Q .non H')
section
variable {P : Program} {w : World} {K : PySem.W.Frag} {mg : Str → Option Value} {base : Heap} {CS CW CB CT CN CH CM CY CA CD CU CE CV Pt : Addr}
theorem sc_L_due : FnScope ["_law_text", "_law_words", "_law_kinds", "_law_found", "_law_word", "_law_kind"] ["_law_text"] (defScope s_L_due) := ⟨rfl, rfl, rfl, by decide +kernel, rfl, by decide +kernel, by decide +kernel⟩
theorem ok_L_due {f : Addr} {fd : FuncData} (F : Fun K "_law_due" "_law_due" s_L_due f fd) (T : WT K mg CS CW CB CT CN) (L : LT mg) (g_Lis_name : DOk P w K mg base 1 "_law_is_name" ["_law_word"] spLN) (g_is_share : DOk P w K mg base 1 "_law_is_share" ["_law_word"] spLS) (z_tuple : mg "tuple" = none) :
    FnOk P w K mg base (L2.CX P w) 2 f fd ["_law_text"] spDue14 := by
  refine okN F sc_L_due (fun vs H Q E h => ?_) (fun cdv A outer s H vs Q E hr h => ?_)
  · (first | (obtain ⟨_, rfl, _⟩ := h; rfl) | (obtain ⟨_, _, rfl, _⟩ := h; rfl) | (obtain ⟨_, _, _, rfl, _⟩ := h; rfl) | (obtain ⟨_, _, _, _, rfl, _⟩ := h; rfl) | (obtain ⟨_, _, _, _, _, rfl, _⟩ := h; rfl) | (obtain ⟨_, _, _, _, _, _, rfl, _⟩ := h; rfl) | (obtain ⟨_, _, _, _, _, _, _, rfl, _⟩ := h; rfl) | (obtain ⟨_, _, _, _, _, _, _, _, rfl, _⟩ := h; rfl) | (obtain ⟨_, _, _, _, _, _, _, _, _, rfl, _⟩ := h; rfl) | (obtain ⟨_, _, _, _, _, _, _, _, _, _, rfl, _⟩ := h; rfl) | (obtain ⟨_, _, _, _, _, _, _, _, _, _, _, rfl, _⟩ := h; rfl) | (obtain ⟨_, _, _, _, _, _, _, _, _, _, _, _, rfl, _⟩ := h; rfl) | (obtain ⟨_, _, _, _, _, _, _, _, _, _, _, _, _, rfl, _⟩ := h; rfl) | (obtain ⟨_, _, _, _, _, _, _, _, _, _, _, _, _, _, rfl, _⟩ := h; rfl) | (obtain ⟨_, _, _, _, _, _, _, _, _, _, _, _, _, _, _, rfl, _⟩ := h; rfl))
  · obtain ⟨x, rfl, hx, k1, k2⟩ := h
    have hu := hu_of hr
    refine ⟨_, (pss_cons (ps_set (i := 1) sc_L_due.nd rfl (Or.inl rfl) (pe_split (pv 0) pe_str))
      (pss_cons (ps_set (i := 2) sc_L_due.nd rfl (Or.inl rfl) (pe_disp (pps_cons pe_str pe_str (pps_cons pe_str pe_str (pps_cons pe_str pe_str (pps_cons pe_str pe_str (pps_cons pe_str pe_str (pps_cons pe_str pe_str (pps_cons pe_str pe_str pps_nil))))))) rfl rfl (by intro z; cases z) (by decide)))
      (C8.pss_cut (ps_if (PW.pt (pw_or (pt_cmp (pc_dnotin hu (pe_ix (ix_listK (K0 := K)) (pv 1) pe_int (fun _ _ => rfl)) (pv 2))) (pw_or1 (pt_cmpR op_ne (pe_callB call_len_seq (by rfl) L.len PySem.boot_len (pa_cons (pv 1) pa_nil)) (pe_op op_add pe_int (pe_callB call_len_str (by rfl) L.len PySem.boot_len (pa_cons (pe_dget hu (pv 2) (pe_ix (ix_listK (K0 := K)) (pv 1) pe_int (fun _ _ => rfl)) (fun _ _ => rfl)) pa_nil))) (nomark _))))) (pss_one (ps_ret pe_non)) pss_nil)
      (pss_cons (ps_set (i := 3) sc_L_due.nd rfl (Or.inl rfl) (pe_lst (pa_cons (pe_ix (ix_listK (K0 := K)) (pv 1) pe_int (fun _ _ => rfl)) pa_nil)))
      (pss_cons (ps_for PassesOwn.never rfl (pi_zipM (by rfl) L.zip (pa_cons (pe_slice sl_list (pv 1) (po_some pe_int) po_none) (pa_cons (pe_dget hu (pv 2) (pe_ix (ix_listK (K0 := K)) (pv 1) pe_int (fun _ _ => rfl)) (fun _ _ => rfl)) pa_nil))) (pg_tup rfl (pgs_cons (pg_name (i := 4) sc_L_due.nd rfl (Or.inl rfl)) (pgs_cons (pg_name (i := 5) sc_L_due.nd rfl (Or.inl rfl)) pgs_nil)))
        (pss_cons (ps_if (PW.pt (pw_and (pt_cmpR op_eq (pv 5) pe_str (nomark _)) (pw_and1 (pt_not (pt_val (by exact pe_f g_is_share hr (by decide) (by rfl) (fun σ => passN σ) (pa_cons (pv 4) pa_nil))))))) (pss_one (ps_ret pe_non)) pss_nil)
      (pss_cons (ps_if (PW.pt (pw_and (pt_cmpR op_ne (pv 5) pe_str (nomark _)) (pw_and (pt_not (pt_val (by exact pe_f g_Lis_name hr (by decide) (by rfl) (fun σ => passN σ) (pa_cons (pv 4) pa_nil)))) (pw_and1 (pt_cmpR (op_neP (K0 := K) hr.units) (pe_tup (pa_cons (pv 5) (pa_cons (pv 4) pa_nil))) (pe_tup (pa_cons pe_str (pa_cons pe_str pa_nil))) (nomark _)))))) (pss_one (ps_ret pe_non)) pss_nil)
      (pss_one (ps_expr (by exact pe_app (K0 := K) (pv 3) (pe_ifExp (pt_cmpR op_eq (pv 5) pe_str (nomark _)) (pe_callTy call_int_str (by rfl) L.int PyProof.Rows.boot_int (pa_cons (pv 4) pa_nil)) (pe_ifExp (pt_cmpR op_eq (pv 4) pe_str (nomark _)) pe_str (pv 4)))))))))
      (pss_one (ps_ret (pe_tupleOf (by rfl) z_tuple (pv 3))))))))), ?_⟩
    obtain ⟨wl, wn, w0, wr, ew⟩ := split_ok x
    rw [ew] at wl wn k1 k2
    refine ⟨_, rfl, ⟨x, rfl⟩, x, " ", rfl, rfl, by decide +kernel, Nat.le_trans (show x.length + 2 ≤ 1002 by omega) (by decide +kernel), fun lw hlw => ?_⟩
    rw [ew]
    have s1 : Same H (upd H lw (.lst ((w0 :: wr).map V.str))) := same_upd hlw
    have e1 : upd H lw (.lst ((w0 :: wr).map V.str)) lw = some (.lst ((w0 :: wr).map V.str)) := upd_same
    generalize upd H lw (.lst ((w0 :: wr).map V.str)) = H1 at s1 e1 ⊢
    intro d hd
    refine ⟨upd_same, K14, rfl, by decide, ?_⟩
    rw [upd_upd, K14_merge]
    have s2 : Same H (upd H1 d (.dK K14)) := s1.trans (same_upd hd)
    have ed : upd H1 d (.dK K14) d = some (.dK K14) := upd_same
    have e2 : upd H1 d (.dK K14) lw = some (.lst ((w0 :: wr).map V.str)) := same_upd hd _ _ e1
    generalize upd H1 d (.dK K14) = H2 at s2 ed e2 ⊢
    have lws : ((w0 :: wr).map V.str).length = wr.length + 1 := by rw [List.length_map]; rfl
    refine ⟨fun σ' H' => σ' = [some (.str x), some (.ref lw), some (.ref d), none, none, none] ∧ H' = H2 ∧ ∃ ks, kinds w0 = some ks ∧ ks.length = wr.length, ?_, ?_⟩
    · refine ⟨_, rfl, lw, _, 0, .str w0, rfl, rfl, SqL.of e2, atI_nat (j := 0) rfl, _, rfl, d, _, rfl, .inl ⟨K14, .inr w0, .inl ed, rfl, rfl⟩, _, rfl, ?_⟩
      have kv := K14_val w0
      cases ek : kinds w0 with
      | none =>
        have dn : due (w0 :: wr) = none := by rw [due_cons, ek]
        rw [ek] at kv
        refine ite2 (fun _ => iteT (k2 dn H2 s2)) (fun e => (e ?_).elim)
        rw [kv]
        rfl
      | some ks =>
        rw [ek] at kv
        refine ite2 (fun e => by rw [kv] at e; cases e) (fun _ => ?_)
        have lk : (kstr ks).length = ks.length := by
          unfold kstr
          show ((ks.map lcode).toArray).size = _
          rw [List.size_toArray, List.length_map]
        refine ⟨_, rfl, lw, _, rfl, .inl (SqL.of e2), _, rfl, _, rfl, lw, _, 0, .str w0, rfl, rfl, SqL.of e2, atI_nat (j := 0) rfl, d, .str (kstr ks), rfl, .inl ⟨K14, .inr w0, .inl ed, rfl, kv.symm⟩, kstr ks, rfl, ?_, _, _, rfl, rfl, rfl, _, rfl, ite2 (fun e => ?_) (fun e => ⟨rfl, rfl, ks, rfl, ?_⟩)⟩
        · rw [lk]
          have := (kinds_parts ek).1
          exact Nat.le_of_lt (small1000 (by omega))
        · have hl : ks.length ≠ wr.length := fun z => by
            rw [lws, lk, z] at e
            simp at e
            omega
          have dn : due (w0 :: wr) = none := by
            rw [due_cons, ek]
            show (parts ks wr).map _ = none
            rw [parts_bad hl]
            rfl
          exact k2 dn H2 s2
        · refine Classical.byContradiction fun z => e ?_
          rw [lws, lk]
          simp
          omega
    · rintro σ' H' ⟨rfl, rfl, ks, ek, hl⟩
      have kv := K14_val w0
      rw [ek] at kv
      refine ⟨_, rfl, lw, _, 0, .str w0, rfl, rfl, SqL.of e2, atI_nat (j := 0) rfl, (by show 1 ≤ sizeLine; decide), fun lf hlf => ?_⟩
      have s3 : Same H (upd H' lf (.lst [V.str w0])) := s2.trans (same_upd hlf)
      have ef : upd H' lf (.lst [V.str w0]) lf = some (.lst [V.str w0]) := upd_same
      have e3 := same_upd (o := .lst [V.str w0]) hlf _ _ e2
      have ed3 := same_upd (o := .lst [V.str w0]) hlf _ _ ed
      have nlf : H lf = none := by
        cases q : H lf with
        | none => rfl
        | some o => rw [s2 _ _ q] at hlf; cases hlf
      generalize upd H' lf (.lst [V.str w0]) = H3 at s3 ef e3 ed3 ⊢
      refine ⟨_, rfl, _, rfl, lw, _, rfl, SqL.of e3, fun lt hlt => ?_⟩
      rw [show cutV ((w0 :: wr).map V.str) (some 1) none = wr.map V.str from cut_tail _ _]
      have s4 : Same H (upd H3 lt (.lst (wr.map V.str))) := s3.trans (same_upd hlt)
      have et : upd H3 lt (.lst (wr.map V.str)) lt = some (.lst (wr.map V.str)) := upd_same
      have ef4 := same_upd (o := .lst (wr.map V.str)) hlt _ _ ef
      have e4 := same_upd (o := .lst (wr.map V.str)) hlt _ _ e3
      have ed4 := same_upd (o := .lst (wr.map V.str)) hlt _ _ ed3
      have ntf : lt ≠ lf := (ne_of_none ef hlt).symm
      generalize upd H3 lt (.lst (wr.map V.str)) = H4 at s4 et ef4 e4 ed4 ⊢
      refine ⟨_, rfl, _, rfl, lw, _, 0, .str w0, rfl, rfl, SqL.of e4, atI_nat (j := 0) rfl, d, .str (kstr ks), rfl, .inl ⟨K14, .inr w0, .inl ed4, rfl, kv.symm⟩, .l lt, .s (kstr ks), wr.map V.str, signs (kstr ks), rfl, SqL.of et, rfl, ?_⟩
      refine for_zipM (by rw [signs_kstr, List.length_map, List.length_map, hl]) (fun i σ' H' => ∃ v4 v5 vs, σ' = [some (.str x), some (.ref lw), some (.ref d), some (.ref lf), v4, v5] ∧ parts (ks.take i) (wr.take i) = some vs ∧ H' lf = some (.lst (.str w0 :: vs)) ∧ Same H H' ∧ H' lt = some (.lst (wr.map V.str))) ⟨none, none, [], rfl, rfl, ef4, s4, et⟩ (fun i σ' H' ⟨_, _, _, _, _, _, _, e⟩ => ⟨SqL.of e, rfl⟩) ?_ ?_
      · rintro i x1 y1 T σ' H5 hx1 hy1 ⟨v4, v5, vs, rfl, hv, e, s, el⟩ hT
        rw [List.getElem?_map] at hx1
        rw [signs_kstr, List.getElem?_map] at hy1
        obtain ⟨w1, hw1, rfl⟩ := Option.map_eq_some_iff.mp hx1
        obtain ⟨k1', hk1, rfl⟩ := Option.map_eq_some_iff.mp hy1
        have sT : Same H (upd H5 T (.tup [.str w1, .str ⟨#[lcode k1']⟩])) := s.trans (same_upd hT)
        have eT := same_upd (o := .tup [.str w1, .str ⟨#[lcode k1']⟩]) hT _ _ e
        have elT := same_upd (o := .tup [.str w1, .str ⟨#[lcode k1']⟩]) hT _ _ el
        refine ⟨T, [.str w1, .str ⟨#[lcode k1']⟩], rfl, SqT.of upd_same, rfl, _, _, rfl, _, _, rfl, rfl, ?_⟩
        generalize upd H5 T (.tup [.str w1, .str ⟨#[lcode k1']⟩]) = H6 at sT eT elT ⊢
        have w1l := wl w1 (List.mem_cons_of_mem _ (List.mem_of_getElem? hw1))
        have vl : vs.length ≤ 3 := by
          have a := (parts_len hv).2
          have b := (kinds_parts ek).1
          rw [List.length_take] at a
          omega
        have put : ∀ (H7 : Hp) (v : V) (v4 v5 : Option V), Same H H7 → H7 lf = some (.lst (.str w0 :: vs)) → H7 lt = some (.lst (wr.map V.str)) → part k1' w1 = some v → ∃ v4' v5' vs', [some (V.str x), some (.ref lw), some (.ref d), some (.ref lf), v4, v5] = [some (V.str x), some (.ref lw), some (.ref d), some (.ref lf), v4', v5'] ∧ parts (ks.take (i + 1)) (wr.take (i + 1)) = some vs' ∧
            upd H7 lf (.lst ((.str w0 :: vs) ++ [v])) lf = some (.lst (.str w0 :: vs')) ∧ Same H (upd H7 lf (.lst ((.str w0 :: vs) ++ [v]))) ∧ upd H7 lf (.lst ((.str w0 :: vs) ++ [v])) lt = some (.lst (wr.map V.str)) := fun H7 v v4 v5 s7 e7 l7 hp =>
          ⟨_, _, vs ++ [v], rfl, parts_snoc hv hk1 hw1 hp, upd_same, fun b o q => by
            rw [upd_ne fun z => by rw [z, nlf] at q; cases q]
            exact s7 _ _ q, by rw [upd_ne ntf]; exact l7⟩
        have bad : part k1' w1 = none → ∀ H7, Same H H7 → Q .non H7 := fun hp H7 s7 => by
          refine k2 ?_ H7 s7
          rw [due_cons, ek]
          show (parts ks wr).map _ = none
          rw [parts_fail hk1 hw1 hp]
          rfl
        have small : (V.str w0 :: vs).length < sizeLine := small1000 (by rw [List.length_cons]; omega)
        rcases (kinds_parts ek).2 k1' (List.mem_of_getElem? hk1) with rfl | rfl | rfl
        · rw [show (⟨#[lcode "name"]⟩ : Str) = "n" by decide +kernel]
          refine ⟨_, rfl, rfl, _, rfl, ite2 (fun q => absurd (V.str.inj (of_decide_eq_true q)) (by decide +kernel)) (fun _ => iteF ?_)⟩
          refine ⟨_, rfl, rfl, _, rfl, ite2 (fun _ => ?_) (fun q => (q (by decide +kernel)).elim)⟩
          refine ⟨_, rfl, w1, rfl, Nat.le_trans w1l hx, _, rfl, ?_⟩
          cases nm : isNm (.str w1) with
          | true =>
            refine iteF (iteF ⟨_, rfl, .inl ⟨rfl, _, SqL.of eT⟩, _, rfl, rfl, _, rfl, ite2 (fun q => absurd (V.str.inj (of_decide_eq_true q)) (by decide +kernel)) (fun _ => ⟨_, rfl, rfl, _, rfl, ite2 (fun q => ?_) (fun _ => ⟨_, rfl, lf, _, _, rfl, rfl, eT, small, put H6 _ _ _ sT eT elT ?_⟩)⟩)⟩)
            · rw [V.str.inj (of_decide_eq_true q), dash_no] at nm
              cases nm
            · rw [part_name, if_pos nm]
          | false =>
            have pn : part "name" w1 = none := by rw [part_name, if_neg (by rw [nm]; decide)]
            refine iteT ⟨_, rfl, _, rfl, (by show 2 ≤ sizeLine; decide), fun t1 h1 => ?_⟩
            have sa : Same H (upd H6 t1 (.tup [.str "n", .str w1])) := sT.trans (same_upd h1)
            have ea : upd H6 t1 (.tup [.str "n", .str w1]) t1 = some (.tup [.str "n", .str w1]) := upd_same
            generalize upd H6 t1 (.tup [.str "n", .str w1]) = H7 at sa ea ⊢
            refine ⟨(by show 2 ≤ sizeLine; decide), fun t2 h2 => ?_⟩
            refine ⟨.tuple [.str "n", .str w1], .tuple [.str "t", .str "-"], .tup (SqT.of (same_upd h2 _ _ ea)) (.cons (.str _) (.cons (.str _) .nil)), .tup (SqT.of upd_same) (.cons (.str _) (.cons (.str _) .nil)), rfl, rfl, Nat.le_of_ble_eq_true rfl, _, rfl, ?_⟩
            rw [eqv_two, show ((("n" : Str) == "t") = false) by decide +kernel, Bool.false_and]
            exact iteT (bad pn _ (sa.trans (same_upd h2)))
        · rw [show (⟨#[lcode "above"]⟩ : Str) = "t" by decide +kernel]
          refine ⟨_, rfl, rfl, _, rfl, ite2 (fun q => absurd (V.str.inj (of_decide_eq_true q)) (by decide +kernel)) (fun _ => iteF ?_)⟩
          refine ⟨_, rfl, rfl, _, rfl, ite2 (fun _ => ?_) (fun q => (q (by decide +kernel)).elim)⟩
          refine ⟨_, rfl, w1, rfl, Nat.le_trans w1l hx, _, rfl, ?_⟩
          cases nm : isNm (.str w1) with
          | true =>
            have nd : w1 ≠ "-" := fun z => by
              rw [z, dash_no] at nm
              cases nm
            refine iteF (iteF ⟨_, rfl, .inl ⟨rfl, _, SqL.of eT⟩, _, rfl, rfl, _, rfl, ite2 (fun q => absurd (V.str.inj (of_decide_eq_true q)) (by decide +kernel)) (fun _ => ⟨_, rfl, rfl, _, rfl, ite2 (fun q => (nd (V.str.inj (of_decide_eq_true q))).elim) (fun _ => ⟨_, rfl, lf, _, _, rfl, rfl, eT, small, put H6 _ _ _ sT eT elT ?_⟩)⟩)⟩)
            rw [part_above, if_neg nd, if_pos nm]
          | false =>
            refine iteT ⟨_, rfl, _, rfl, (by show 2 ≤ sizeLine; decide), fun t1 h1 => ?_⟩
            have sa : Same H (upd H6 t1 (.tup [.str "t", .str w1])) := sT.trans (same_upd h1)
            have ea : upd H6 t1 (.tup [.str "t", .str w1]) t1 = some (.tup [.str "t", .str w1]) := upd_same
            have fa := same_upd (o := .tup [.str "t", .str w1]) h1 _ _ eT
            have ga := same_upd (o := .tup [.str "t", .str w1]) h1 _ _ elT
            generalize upd H6 t1 (.tup [.str "t", .str w1]) = H7 at sa ea fa ga ⊢
            refine ⟨(by show 2 ≤ sizeLine; decide), fun t2 h2 => ?_⟩
            have sb : Same H (upd H7 t2 (.tup [.str "t", .str "-"])) := sa.trans (same_upd h2)
            have fb := same_upd (o := .tup [.str "t", .str "-"]) h2 _ _ fa
            have gb := same_upd (o := .tup [.str "t", .str "-"]) h2 _ _ ga
            refine ⟨.tuple [.str "t", .str w1], .tuple [.str "t", .str "-"], .tup (SqT.of (same_upd h2 _ _ ea)) (.cons (.str _) (.cons (.str _) .nil)), .tup (SqT.of upd_same) (.cons (.str _) (.cons (.str _) .nil)), rfl, rfl, Nat.le_of_ble_eq_true rfl, _, rfl, ?_⟩
            generalize upd H7 t2 (.tup [.str "t", .str "-"]) = H8 at sb fb gb ⊢
            rw [eqv_two, show ((("t" : Str) == "t") = true) by decide +kernel, Bool.true_and]
            by_cases wd : w1 = "-"
            · rw [wd, show ((("-" : Str) == "-") = true) by decide +kernel]
              refine iteF ⟨_, rfl, .inl ⟨rfl, _, SqL.of fb⟩, _, rfl, rfl, _, rfl, ite2 (fun q => absurd (V.str.inj (of_decide_eq_true q)) (by decide +kernel)) (fun _ => ⟨_, rfl, rfl, _, rfl, ite2 (fun q => ⟨lf, _, _, rfl, rfl, fb, small, ?_⟩) (fun q => (q (by decide +kernel)).elim)⟩)⟩
              have := put H8 (.str "") (some (.str w1)) (some (.str "t")) sb fb gb (by rw [part_above, if_pos wd])
              rw [wd] at this
              exact this
            · rw [show (w1 == ("-" : Str)) = false from beq_eq_false_iff_ne.mpr wd]
              exact iteT (bad (by rw [part_above, if_neg wd, if_neg (by rw [nm]; decide)]) _ sb)
        · rw [show (⟨#[lcode "share"]⟩ : Str) = "s" by decide +kernel]
          refine ⟨_, rfl, rfl, _, rfl, ite2 (fun _ => ⟨_, rfl, w1, rfl, fun H7 s7 => ⟨_, rfl, ?_⟩⟩) (fun q => (q (by decide +kernel)).elim)⟩
          have s07 := sT.trans s7
          cases sd : sDue w1 with
          | none => exact iteT (bad (by rw [part_share, sd]; rfl) H7 s07)
          | some n =>
            obtain ⟨hn, en⟩ := sDue_sh sd
            refine iteF ⟨_, rfl, rfl, _, rfl, ite2 (fun q => absurd q (by decide +kernel)) (fun _ => iteF ⟨_, rfl, .inl ⟨rfl, _, SqL.of (s7 _ _ eT)⟩, _, rfl, rfl, _, rfl, ite2 (fun _ => ⟨_, rfl, w1, n, rfl, ?_, ?_, lf, _, _, rfl, rfl, s7 _ _ eT, small, put H7 _ _ _ s07 (s7 _ _ eT) (s7 _ _ elT) ?_⟩) (fun q => (q (by decide +kernel)).elim)⟩)⟩
            · rw [en]
              exact numT_int hn
            · rw [en]
              exact Nat.le_trans (numT_len hn).2 (by decide)
            · rw [part_share, sd]
              rfl
      · rintro σ' H5 ⟨v4, v5, vs, rfl, hv, e, s, el⟩
        rw [List.length_map, List.take_length, ← hl, List.take_length] at hv
        have dn : due (w0 :: wr) = some (.str w0 :: vs) := by
          rw [due_cons, ek]
          show (parts ks wr).map _ = _
          rw [hv]
          rfl
        refine ⟨_, rfl, .inl ⟨lf, _, rfl, SqL.of e, fun q hq => k1 _ dn _ q upd_same (s.trans (same_upd hq)) ?_⟩⟩
        cases q2 : H q with
        | none => rfl
        | some o => rw [s _ _ q2] at hq; cases hq
end

/-! ### law k14: what is read, what is answered -/
def spLRead (Pt : Addr) : Sp := fun vs H Q _ => ∃ x, vs = [.str x] ∧ GxR.TabG H Pt ∧ x.length ≤ 1000 ∧ ∀ H', Mv Pt H H' → (∀ r a, due (Txt.split x " ") = some r → H' a = some (.tup r) → H a = none → Q (.ref a) H') ∧ (due (Txt.split x " ") = none → Q .non H')
def spLAns (Pt CH CW CS : Addr) : Sp := fun vs H Q _ => ∃ (p t : Addr) (h : Hs) (fp : List Addr) (D : Deed), vs = [.ref p, .ref t] ∧ HAt CH CW CS H p h fp ∧ Rd h "" ∧ GxR.TabG H Pt ∧ H t = some (.tup D.vs) ∧ D.ok ∧ h.ab.length ≤ 800 ∧ AllN h ∧
  ∀ H' h' fp' r, Act h D h' r → HAt CH CW CS H' p h' fp' → Rd h' "" → Mw Pt fp H fp' H' → Q (.str r.t) H'
theorem outs14 {K : PySem.W.Frag} {CH CW CS Pt CT CM CN CD CY : Addr} {H : Hp} {p : Addr} {h : Hs} {fp : List Addr} {D : Deed} {Q : VK} {E : L2.Ends} {σ : L2.St} (hE : E.rt = Q) (rd : Rd h "") (e_DD : PySem.W.exmOne K (.ref CD) (.ref CD) = some true) (e_DM : PySem.W.exmOne K (.ref CD) (.ref CM) = some false) (e_DN : PySem.W.exmOne K (.ref CD) (.ref CN) = some false) (e_DT : PySem.W.exmOne K (.ref CD) (.ref CT) = some false)
    (e_MM : PySem.W.exmOne K (.ref CM) (.ref CM) = some true) (e_MT : PySem.W.exmOne K (.ref CM) (.ref CT) = some false) (e_NM : PySem.W.exmOne K (.ref CN) (.ref CM) = some false) (e_NN : PySem.W.exmOne K (.ref CN) (.ref CN) = some true) (e_NT : PySem.W.exmOne K (.ref CN) (.ref CT) = some false) (e_TT : PySem.W.exmOne K (.ref CT) (.ref CT) = some true)
    (e_YD : PySem.W.exmOne K (.ref CY) (.ref CD) = some false) (e_YM : PySem.W.exmOne K (.ref CY) (.ref CM) = some false) (e_YN : PySem.W.exmOne K (.ref CY) (.ref CN) = some false) (e_YT : PySem.W.exmOne K (.ref CY) (.ref CT) = some false) (e_YY : PySem.W.exmOne K (.ref CY) (.ref CY) = some true)
    (kk : ∀ H' h' fp' r, Act h D h' r → HAt CH CW CS H' p h' fp' → Rd h' "" → Mw Pt fp H fp' H' → Q (.str r.t) H') :
    Outs CH CW CS Pt CT CM CN CD CY H p h fp D (WE (wMany K (fun _ _ _ _ => False) E [(.ref CT, fun _ _ _ => tRet (tC (.str "twice"))), (.ref CM, fun _ _ _ => tRet (tC (.str "no team"))), (.ref CN, fun _ _ _ => tRet (tC (.str "no name"))), (.ref CD, fun _ _ _ => tRet (tC (.str "not a hand"))), (.ref CY, fun _ _ _ => tRet (tC (.str "not empty")))]) σ) := by
  subst hE
  intro H' r c a ec hA' mw
  have q := kk H' h fp r a hA' rd mw
  cases r with
  | ok r => cases ec
  | tw =>
    cases ec
    exact wm_hit e_TT fun _ _ => q
  | nt =>
    cases ec
    exact wm_miss e_MT (wm_hit e_MM fun _ _ => q)
  | nn =>
    cases ec
    exact wm_miss e_NT (wm_miss e_NM (wm_hit e_NN fun _ _ => q))
  | nh =>
    cases ec
    exact wm_miss e_DT (wm_miss e_DM (wm_miss e_DN (wm_hit e_DD fun _ _ => q)))
  | ne =>
    cases ec
    exact wm_miss e_YT (wm_miss e_YM (wm_miss e_YN (wm_miss e_YD (wm_hit e_YY fun _ _ => q))))
section
variable {P : Program} {w : World} {K : PySem.W.Frag} {mg : Str → Option Value} {base : Heap} {CS CW CB CT CN CH CM CY CA CD CU CE CV Pt : Addr}
theorem sc_L_read : FnScope ["_law_text", "error", "_law_other"] ["_law_text"] (defScope s_L_read) := ⟨rfl, rfl, rfl, by decide +kernel, rfl, by decide +kernel, by decide +kernel⟩
theorem ok_L_read {f : Addr} {fd : FuncData} (F : Fun K "_law_read" "_law_read" s_L_read f fd) (T : WT K mg CS CW CB CT CN) (L : LT mg) (cc_V : ExcC K CV) (e_VV : PySem.W.exmOne K (.ref CV) (.ref CV) = some true) (g_read : DOk P w K mg base 5 "read" ["line"] (spRead Pt CV)) (ge_A : mg "BadName" = some (.ref CA)) (ge_D : mg "NotHand" = some (.ref CD)) (ge_E : mg "ShareError" = some (.ref CE)) (ge_M : mg "NoTeam" = some (.ref CM)) (ge_U : mg "BadCount" = some (.ref CU)) (ge_V : mg "NoDeed" = some (.ref CV)) (ge_Y : mg "NotEmpty" = some (.ref CY)) (q_VA : PySem.W.kitOne K (.ref CV) (.ref CA) = some false) (q_VB : PySem.W.kitOne K (.ref CV) (.ref CB) = some false) (q_VD : PySem.W.kitOne K (.ref CV) (.ref CD) = some false) (q_VE : PySem.W.kitOne K (.ref CV) (.ref CE) = some true) (q_VM : PySem.W.kitOne K (.ref CV) (.ref CM) = some false) (q_VN : PySem.W.kitOne K (.ref CV) (.ref CN) = some false) (q_VT : PySem.W.kitOne K (.ref CV) (.ref CT) = some false) (q_VU : PySem.W.kitOne K (.ref CV) (.ref CU) = some false) (q_VY : PySem.W.kitOne K (.ref CV) (.ref CY) = some false) :
    FnOk P w K mg base (L2.CX P w) 6 f fd ["_law_text"] (spLRead Pt) := by
  refine okN F sc_L_read (fun vs H Q E h => ?_) (fun cdv A outer s H vs Q E hr h => ?_)
  · (first | (obtain ⟨_, rfl, _⟩ := h; rfl) | (obtain ⟨_, _, rfl, _⟩ := h; rfl) | (obtain ⟨_, _, _, rfl, _⟩ := h; rfl) | (obtain ⟨_, _, _, _, rfl, _⟩ := h; rfl) | (obtain ⟨_, _, _, _, _, rfl, _⟩ := h; rfl) | (obtain ⟨_, _, _, _, _, _, rfl, _⟩ := h; rfl) | (obtain ⟨_, _, _, _, _, _, _, rfl, _⟩ := h; rfl) | (obtain ⟨_, _, _, _, _, _, _, _, rfl, _⟩ := h; rfl) | (obtain ⟨_, _, _, _, _, _, _, _, _, rfl, _⟩ := h; rfl) | (obtain ⟨_, _, _, _, _, _, _, _, _, _, rfl, _⟩ := h; rfl) | (obtain ⟨_, _, _, _, _, _, _, _, _, _, _, rfl, _⟩ := h; rfl) | (obtain ⟨_, _, _, _, _, _, _, _, _, _, _, _, rfl, _⟩ := h; rfl) | (obtain ⟨_, _, _, _, _, _, _, _, _, _, _, _, _, rfl, _⟩ := h; rfl) | (obtain ⟨_, _, _, _, _, _, _, _, _, _, _, _, _, _, rfl, _⟩ := h; rfl) | (obtain ⟨_, _, _, _, _, _, _, _, _, _, _, _, _, _, _, rfl, _⟩ := h; rfl))
  · obtain ⟨x, rfl, hT, hx, kk⟩ := h
    refine ⟨_, (pss_one (pt_as (i := 1) rfl rfl sc_L_read.nd rfl rfl ⟨rfl, by decide, .inl ge_V⟩ takes0 (fun W pn xe tk _ => by exact (pss_one (ps_ret (by exact pe_f g_read hr (by decide) (by rfl) (fun σ => passAt tk σ) (pa_cons (pv 0) pa_nil))))) (fun a oe cls d pn hz hf => by exact (pss_cons (ps_set (i := 2) sc_L_read.nd rfl (Or.inl rfl) (pe_or (pe_callB (call_isA hz hf) (by rfl) L.isi boot_isinstance (pa_cons (pv 1) (pa_cons (pe_glob (v := .ref CN) rfl T.gN rfl) pa_nil))) (pe_or (pe_callB (call_isA hz hf) (by rfl) L.isi boot_isinstance (pa_cons (pv 1) (pa_cons (pe_glob (v := .ref CD) rfl ge_D rfl) pa_nil))) (pe_one (pe_callB (call_isA hz hf) (by rfl) L.isi boot_isinstance (pa_cons (pv 1) (pa_cons (pe_glob (v := .ref CY) rfl ge_Y rfl) pa_nil)))))))
      (pss_cons (ps_set (i := 2) sc_L_read.nd rfl (Or.inl rfl) (pe_or (pv 2) (pe_or (pe_callB (call_isA hz hf) (by rfl) L.isi boot_isinstance (pa_cons (pv 1) (pa_cons (pe_glob (v := .ref CT) rfl T.gT rfl) pa_nil))) (pe_or (pe_callB (call_isA hz hf) (by rfl) L.isi boot_isinstance (pa_cons (pv 1) (pa_cons (pe_glob (v := .ref CM) rfl ge_M rfl) pa_nil))) (pe_one (pe_callB (call_isA hz hf) (by rfl) L.isi boot_isinstance (pa_cons (pv 1) (pa_cons (pe_glob (v := .ref CB) rfl T.gB rfl) pa_nil))))))))
      (pss_cons (ps_set (i := 2) sc_L_read.nd rfl (Or.inl rfl) (pe_or (pv 2) (pe_or (pe_callB (call_isA hz hf) (by rfl) L.isi boot_isinstance (pa_cons (pv 1) (pa_cons (pe_glob (v := .ref CA) rfl ge_A rfl) pa_nil))) (pe_one (pe_callB (call_isA hz hf) (by rfl) L.isi boot_isinstance (pa_cons (pv 1) (pa_cons (pe_glob (v := .ref CU) rfl ge_U rfl) pa_nil)))))))
      (pss_one (ps_ret (pe_ifExp (PW.pt (pw_or (pt_val (pv 2)) (pw_or1 (pt_not (pt_val (pe_callB (call_isA hz hf) (by rfl) L.isi boot_isinstance (pa_cons (pv 1) (pa_cons (pe_glob (v := .ref CE) rfl ge_E rfl) pa_nil)))))))) pe_str pe_non))))))))), ?_⟩
    refine ⟨_, rfl, x, rfl, hT, hx, fun H1 m => ⟨fun r t ed et fr => (kk H1 m).1 r t ed et fr, fun hn => ⟨true, e_VV, fun _ a ha => ?_, fun z => by cases z⟩⟩⟩
    refine ⟨_, rfl, CV, cc_V, rfl, rfl, _, _, false, rfl, (fun u r => r), q_VN, _, rfl, iteF ⟨_, rfl, CV, cc_V, rfl, rfl, _, _, false, rfl, (fun u r => r), q_VD, _, rfl, iteF ⟨_, rfl, CV, cc_V, rfl, rfl, _, _, false, rfl, (fun u r => r), q_VY, ?_⟩⟩⟩
    refine ⟨_, rfl, _, rfl, iteF ⟨_, rfl, CV, cc_V, rfl, rfl, _, _, false, rfl, (fun u r => r), q_VT, _, rfl, iteF ⟨_, rfl, CV, cc_V, rfl, rfl, _, _, false, rfl, (fun u r => r), q_VM, _, rfl, iteF ⟨_, rfl, CV, cc_V, rfl, rfl, _, _, false, rfl, (fun u r => r), q_VB, ?_⟩⟩⟩⟩
    refine ⟨_, rfl, _, rfl, iteF ⟨_, rfl, CV, cc_V, rfl, rfl, _, _, false, rfl, (fun u r => r), q_VA, _, rfl, iteF ⟨_, rfl, CV, cc_V, rfl, rfl, _, _, false, rfl, (fun u r => r), q_VU, ?_⟩⟩⟩
    refine ⟨_, rfl, _, rfl, iteF ⟨_, rfl, CV, cc_V, rfl, rfl, _, _, true, rfl, (fun u r => r), q_VE, _, rfl, iteF ((kk H1 m).2 hn)⟩⟩
theorem sc_L_answer : FnScope ["_law_house", "_law_deed", "_law_found"] ["_law_house", "_law_deed"] (defScope s_L_answer) := ⟨rfl, rfl, rfl, by decide +kernel, rfl, by decide +kernel, by decide +kernel⟩
theorem ok_L_answer {f : Addr} {fd : FuncData} (F : Fun K "_law_answer" "_law_answer" s_L_answer f fd) (T : WT K mg CS CW CB CT CN) (L : LT mg) (e_DD : PySem.W.exmOne K (.ref CD) (.ref CD) = some true) (e_DM : PySem.W.exmOne K (.ref CD) (.ref CM) = some false) (e_DN : PySem.W.exmOne K (.ref CD) (.ref CN) = some false) (e_DT : PySem.W.exmOne K (.ref CD) (.ref CT) = some false) (e_MM : PySem.W.exmOne K (.ref CM) (.ref CM) = some true) (e_MT : PySem.W.exmOne K (.ref CM) (.ref CT) = some false) (e_NM : PySem.W.exmOne K (.ref CN) (.ref CM) = some false) (e_NN : PySem.W.exmOne K (.ref CN) (.ref CN) = some true) (e_NT : PySem.W.exmOne K (.ref CN) (.ref CT) = some false) (e_TT : PySem.W.exmOne K (.ref CT) (.ref CT) = some true) (e_YD : PySem.W.exmOne K (.ref CY) (.ref CD) = some false) (e_YM : PySem.W.exmOne K (.ref CY) (.ref CM) = some false) (e_YN : PySem.W.exmOne K (.ref CY) (.ref CN) = some false) (e_YT : PySem.W.exmOne K (.ref CY) (.ref CT) = some false) (e_YY : PySem.W.exmOne K (.ref CY) (.ref CY) = some true) (ge_D : mg "NotHand" = some (.ref CD)) (ge_M : mg "NoTeam" = some (.ref CM)) (ge_Y : mg "NotEmpty" = some (.ref CY)) (h_H : HT K mg CH) (m_H_deal : MOk P w K mg base 4 CH "deal" ["self"] (spDeal CH CW CS)) (m_H_hand : MOk P w K mg base 6 CH "hand" ["self", "name", "above", "share"] (spSettle Pt CH CW CS CB CT CA CM)) (m_H_leave : MOk P w K mg base 5 CH "leave" ["self", "name"] (spHLeave CH CW CS CN CY)) (m_H_reshare : MOk P w K mg base 4 CH "reshare" ["self", "name", "share"] (spHReshare CH CW CS CB CN)) (m_H_rest : MOk P w K mg base 4 CH "rest" ["self", "name"] (spHRest CH CW CS CN CD)) (m_H_team : MOk P w K mg base 6 CH "team" ["self", "name", "above", "share"] (spTeam Pt CH CW CS CB CT CA CM)) (m_H_wake : MOk P w K mg base 4 CH "wake" ["self", "name"] (spHWake CH CW CS CN CD)) :
    FnOk P w K mg base (L2.CX P w) 7 f fd ["_law_house", "_law_deed"] (spLAns Pt CH CW CS) := by
  refine okN F sc_L_answer (fun vs H Q E h => ?_) (fun cdv A outer s H vs Q E hr h => ?_)
  · (first | (obtain ⟨_, rfl, _⟩ := h; rfl) | (obtain ⟨_, _, rfl, _⟩ := h; rfl) | (obtain ⟨_, _, _, rfl, _⟩ := h; rfl) | (obtain ⟨_, _, _, _, rfl, _⟩ := h; rfl) | (obtain ⟨_, _, _, _, _, rfl, _⟩ := h; rfl) | (obtain ⟨_, _, _, _, _, _, rfl, _⟩ := h; rfl) | (obtain ⟨_, _, _, _, _, _, _, rfl, _⟩ := h; rfl) | (obtain ⟨_, _, _, _, _, _, _, _, rfl, _⟩ := h; rfl) | (obtain ⟨_, _, _, _, _, _, _, _, _, rfl, _⟩ := h; rfl) | (obtain ⟨_, _, _, _, _, _, _, _, _, _, rfl, _⟩ := h; rfl) | (obtain ⟨_, _, _, _, _, _, _, _, _, _, _, rfl, _⟩ := h; rfl) | (obtain ⟨_, _, _, _, _, _, _, _, _, _, _, _, rfl, _⟩ := h; rfl) | (obtain ⟨_, _, _, _, _, _, _, _, _, _, _, _, _, rfl, _⟩ := h; rfl) | (obtain ⟨_, _, _, _, _, _, _, _, _, _, _, _, _, _, rfl, _⟩ := h; rfl) | (obtain ⟨_, _, _, _, _, _, _, _, _, _, _, _, _, _, _, rfl, _⟩ := h; rfl))
  · obtain ⟨p, t, h, fp, D, rfl, hA, rd, hT, ht, ok, hl, an, kk⟩ := h
    refine ⟨_, (pss_cons (by exact (pt_many rfl rfl takes_none5 (fun W pn xe tk _ => by exact (pss_cons (by exact (ps_if (pt_cmpR op_eq (pe_ix (ix_tupK (K0 := K)) (pv 1) pe_int (fun _ _ => rfl)) pe_str (nomark _)) (pss_one (by exact (ps_ret (by exact pe_orK (K0 := K) (by exact pe_joinK (K0 := K) pe_str (by exact pe_m0 m_H_deal h_H.cl hr (by decide) (fun σ => passAt tk σ) (pv 0))) (pe_one pe_str))))) pss_nil))
      (pss_cons (by exact (ps_if (pt_cmpR (op_inK (K0 := K)) (pe_ix (ix_tupK (K0 := K)) (pv 1) pe_int (fun _ _ => rfl)) (pe_tup (pa_cons pe_str (pa_cons pe_str pa_nil))) (by rfl)) (pss_cons (by exact (ps_set (i := 2) sc_L_answer.nd rfl (Or.inl rfl) (pe_ifExp (pt_cmpR op_eq (pe_ix (ix_tupK (K0 := K)) (pv 1) pe_int (fun _ _ => rfl)) pe_str (nomark _)) (by exact pe_m m_H_wake h_H.cl hr (by decide) (fun σ => passAt tk σ) (pv 0) (pa_cons (pe_ix (ix_tupK (K0 := K)) (pv 1) pe_int (fun _ _ => rfl)) pa_nil)) (by exact pe_m m_H_rest h_H.cl hr (by decide) (fun σ => passAt tk σ) (pv 0) (pa_cons (pe_ix (ix_tupK (K0 := K)) (pv 1) pe_int (fun _ _ => rfl)) pa_nil)))))
      (pss_one (by exact (ps_ret (pe_ifExp (pt_val (pv 2)) pe_str pe_str))))) pss_nil))
      (pss_one (by exact (ps_if (pt_cmpR op_eq (pe_ix (ix_tupK (K0 := K)) (pv 1) pe_int (fun _ _ => rfl)) pe_str (nomark _)) (pss_one (by exact (ps_expr (by exact pe_m m_H_leave h_H.cl hr (by decide) (fun σ => passAt tk σ) (pv 0) (pa_cons (pe_ix (ix_tupK (K0 := K)) (pv 1) pe_int (fun _ _ => rfl)) pa_nil))))) (pss_one (by exact (ps_if (pt_cmpR op_eq (pe_ix (ix_tupK (K0 := K)) (pv 1) pe_int (fun _ _ => rfl)) pe_str (nomark _)) (pss_one (by exact (ps_expr (by exact pe_m m_H_reshare h_H.cl hr (by decide) (fun σ => passAt tk σ) (pv 0) (pa_cons (pe_ix (ix_tupK (K0 := K)) (pv 1) pe_int (fun _ _ => rfl)) (pa_cons (pe_ix (ix_tupK (K0 := K)) (pv 1) pe_int (fun _ _ => rfl)) pa_nil)))))) (pss_one (by exact (ps_if (pt_cmpR op_eq (pe_ix (ix_tupK (K0 := K)) (pv 1) pe_int (fun _ _ => rfl)) pe_str (nomark _)) (pss_one (by exact (ps_expr (by exact pe_m m_H_team h_H.cl hr (by decide) (fun σ => passAt tk σ) (pv 0) (pa_cons (pe_ix (ix_tupK (K0 := K)) (pv 1) pe_int (fun _ _ => rfl)) (pa_cons (pe_ix (ix_tupK (K0 := K)) (pv 1) pe_int (fun _ _ => rfl)) (pa_cons (pe_ix (ix_tupK (K0 := K)) (pv 1) pe_int (fun _ _ => rfl)) pa_nil))))))) (pss_one (by exact (ps_expr (by exact pe_m m_H_hand h_H.cl hr (by decide) (fun σ => passAt tk σ) (pv 0) (pa_cons (pe_ix (ix_tupK (K0 := K)) (pv 1) pe_int (fun _ _ => rfl)) (pa_cons (pe_ix (ix_tupK (K0 := K)) (pv 1) pe_int (fun _ _ => rfl)) (pa_cons (pe_ix (ix_tupK (K0 := K)) (pv 1) pe_int (fun _ _ => rfl)) pa_nil))))))))))))))))))) (.cons ⟨rfl, by decide, .inl T.gT⟩ (fun a oe cls d pn hz hf => by exact (pss_one (by exact (ps_ret pe_str)))) (.cons ⟨rfl, by decide, .inl ge_M⟩ (fun a oe cls d pn hz hf => by exact (pss_one (by exact (ps_ret pe_str)))) (.cons ⟨rfl, by decide, .inl T.gN⟩ (fun a oe cls d pn hz hf => by exact (pss_one (by exact (ps_ret pe_str)))) (.cons ⟨rfl, by decide, .inl ge_D⟩ (fun a oe cls d pn hz hf => by exact (pss_one (by exact (ps_ret pe_str)))) (.cons ⟨rfl, by decide, .inl ge_Y⟩ (fun a oe cls d pn hz hf => by exact (pss_one (by exact (ps_ret pe_str)))) .nil)))))))
      (pss_one (by exact (ps_ret pe_str)))), ?_⟩
    obtain ⟨dx, da, dw, hp⟩ : ∃ dx da dw, H p = some (.ins CH dx (hf da dw)) := by
      obtain ⟨da, dw, es, _, _, i, _⟩ := hA
      obtain ⟨dx, e⟩ := i.ob
      exact ⟨dx, da, dw, e⟩
    have moved : ∀ H1, Same H H1 → HAt CH CW CS H1 p h fp ∧ GxR.TabG H1 Pt ∧ H1 t = some (.tup D.vs) ∧ H1 p = some (.ins CH dx (hf da dw)) ∧ ∀ H' h' fp' r, Act h D h' r → HAt CH CW CS H' p h' fp' → Rd h' "" → Mw Pt fp H1 fp' H' → Q (.str r.t) H' := fun H1 s =>
      ⟨hA.same s, tab_same hT s, s _ _ ht, s _ _ hp, fun H' h' fp' r a hA' rd' mw => kk H' h' fp' r a hA' rd' ((Mw.of_mv (.same hT s)).trans mw)⟩
    cases D with
    | deal =>
      obtain ⟨hA1, hT1, ht1, hp1, kk1⟩ := moved H (fun _ _ e => e)
      refine ⟨_, rfl, t, _, 0, .str "deal", rfl, rfl, SqT.of ht1, atI_nat (j := 0) rfl, rfl, _, rfl, ite2 (fun _ => ?_) (fun q => (q (by decide +kernel)).elim)⟩
      refine ⟨⟨"/", rfl⟩, _, rfl, p, dx, _, rfl, hp1, hf_no _ _, ?_⟩
      refine nil_app ?_
      refine do_deal hl an hA1 rd hT1 (fun H' h' fp' r a hA' rd' mw => kk1 H' h' fp' (.ok r) a hA' rd' mw) fun H' l ns el fit z => ⟨"/", l, ns, rfl, rfl, .inl (SqL.of el), fit, ?_⟩
      obtain ⟨k, tk, y1, y2⟩ := told_or (K := K) (H := H') fit
      refine ⟨k, tk, ?_⟩
      have z : Q (.str (told ns)) H' := z
      cases k with
      | true =>
        rw [y1 rfl] at z
        exact iteT z
      | false =>
        rw [y2 rfl] at z
        exact iteF z
    | wake n =>
      refine ⟨_, rfl, t, _, 0, .str "wake", rfl, rfl, SqT.of ht, atI_nat (j := 0) rfl, rfl, _, rfl, ite2 (fun q => absurd (V.str.inj (of_decide_eq_true q)) (by decide +kernel)) (fun _ => ?_)⟩
      refine ⟨_, rfl, t, _, 0, .str "wake", rfl, rfl, SqT.of ht, atI_nat (j := 0) rfl, (by show 2 ≤ sizeLine; decide), fun tt htt => ⟨tt, [.str "wake", .str "rest"], rfl, .inr (SqT.of upd_same), rfl, rfl, _, rfl, ite2 (fun _ => ?_) (fun q => (q (by decide +kernel)).elim)⟩⟩
      obtain ⟨hA1, hT1, ht1, hp1, kk1⟩ := moved _ (same_upd htt)
      generalize upd H tt (.tup [.str "wake", .str "rest"]) = H1 at hA1 hT1 ht1 hp1 kk1 ⊢
      refine ⟨_, rfl, t, _, 0, .str "wake", rfl, rfl, SqT.of ht1, atI_nat (j := 0) rfl, rfl, _, rfl, ite2 (fun _ => ?_) (fun q => (q (by decide +kernel)).elim)⟩
      refine ⟨_, rfl, p, dx, _, rfl, hp1, hf_no _ _, _, rfl, t, _, 1, .str n, rfl, rfl, SqT.of ht1, atI_nat (j := 1) rfl, ?_⟩
      refine nil_app ?_
      exact do_wake hA1 rd hT1 (G := fun r H' => Q (.str r) H') (fun H' h' fp' r a hA' rd' mw => kk1 H' h' fp' (.ok r) a hA' rd' mw) (fun H' b z => ⟨_, rfl, b, rfl, by cases b <;> exact z⟩) (outs14 rfl rd e_DD e_DM e_DN e_DT e_MM e_MT e_NM e_NN e_NT e_TT e_YD e_YM e_YN e_YT e_YY kk1)
    | rest n =>
      refine ⟨_, rfl, t, _, 0, .str "rest", rfl, rfl, SqT.of ht, atI_nat (j := 0) rfl, rfl, _, rfl, ite2 (fun q => absurd (V.str.inj (of_decide_eq_true q)) (by decide +kernel)) (fun _ => ?_)⟩
      refine ⟨_, rfl, t, _, 0, .str "rest", rfl, rfl, SqT.of ht, atI_nat (j := 0) rfl, (by show 2 ≤ sizeLine; decide), fun tt htt => ⟨tt, [.str "wake", .str "rest"], rfl, .inr (SqT.of upd_same), rfl, rfl, _, rfl, ite2 (fun _ => ?_) (fun q => (q (by decide +kernel)).elim)⟩⟩
      obtain ⟨hA1, hT1, ht1, hp1, kk1⟩ := moved _ (same_upd htt)
      generalize upd H tt (.tup [.str "wake", .str "rest"]) = H1 at hA1 hT1 ht1 hp1 kk1 ⊢
      refine ⟨_, rfl, t, _, 0, .str "rest", rfl, rfl, SqT.of ht1, atI_nat (j := 0) rfl, rfl, _, rfl, ite2 (fun q => absurd (V.str.inj (of_decide_eq_true q)) (by decide +kernel)) (fun _ => ?_)⟩
      refine ⟨_, rfl, p, dx, _, rfl, hp1, hf_no _ _, _, rfl, t, _, 1, .str n, rfl, rfl, SqT.of ht1, atI_nat (j := 1) rfl, ?_⟩
      refine nil_app ?_
      exact do_rest hA1 rd hT1 (G := fun r H' => Q (.str r) H') (fun H' h' fp' r a hA' rd' mw => kk1 H' h' fp' (.ok r) a hA' rd' mw) (fun H' b z => ⟨_, rfl, b, rfl, by cases b <;> exact z⟩) (outs14 rfl rd e_DD e_DM e_DN e_DT e_MM e_MT e_NM e_NN e_NT e_TT e_YD e_YM e_YN e_YT e_YY kk1)
    | leave n =>
      refine ⟨_, rfl, t, _, 0, .str "leave", rfl, rfl, SqT.of ht, atI_nat (j := 0) rfl, rfl, _, rfl, ite2 (fun q => absurd (V.str.inj (of_decide_eq_true q)) (by decide +kernel)) (fun _ => ?_)⟩
      refine ⟨_, rfl, t, _, 0, .str "leave", rfl, rfl, SqT.of ht, atI_nat (j := 0) rfl, (by show 2 ≤ sizeLine; decide), fun tt htt => ⟨tt, [.str "wake", .str "rest"], rfl, .inr (SqT.of upd_same), rfl, rfl, _, rfl, ite2 (fun q => absurd q (by decide +kernel)) (fun _ => ?_)⟩⟩
      obtain ⟨hA1, hT1, ht1, hp1, kk1⟩ := moved _ (same_upd htt)
      generalize upd H tt (.tup [.str "wake", .str "rest"]) = H1 at hA1 hT1 ht1 hp1 kk1 ⊢
      refine ⟨_, rfl, t, _, 0, .str "leave", rfl, rfl, SqT.of ht1, atI_nat (j := 0) rfl, rfl, _, rfl, ite2 (fun _ => ?_) (fun q => (q (by decide +kernel)).elim)⟩
      refine ⟨_, rfl, p, dx, _, rfl, hp1, hf_no _ _, _, rfl, t, _, 1, .str n, rfl, rfl, SqT.of ht1, atI_nat (j := 1) rfl, ?_⟩
      refine nil_app ?_
      exact do_leave hA1 rd hT1 (G := fun r H' => Q (.str r) H') (fun H' h' fp' r a hA' rd' mw => kk1 H' h' fp' (.ok r) a hA' rd' mw) (fun H' z => z) (outs14 rfl rd e_DD e_DM e_DN e_DT e_MM e_MT e_NM e_NN e_NT e_TT e_YD e_YM e_YN e_YT e_YY kk1)
    | share n s =>
      refine ⟨_, rfl, t, _, 0, .str "share", rfl, rfl, SqT.of ht, atI_nat (j := 0) rfl, rfl, _, rfl, ite2 (fun q => absurd (V.str.inj (of_decide_eq_true q)) (by decide +kernel)) (fun _ => ?_)⟩
      refine ⟨_, rfl, t, _, 0, .str "share", rfl, rfl, SqT.of ht, atI_nat (j := 0) rfl, (by show 2 ≤ sizeLine; decide), fun tt htt => ⟨tt, [.str "wake", .str "rest"], rfl, .inr (SqT.of upd_same), rfl, rfl, _, rfl, ite2 (fun q => absurd q (by decide +kernel)) (fun _ => ?_)⟩⟩
      obtain ⟨hA1, hT1, ht1, hp1, kk1⟩ := moved _ (same_upd htt)
      generalize upd H tt (.tup [.str "wake", .str "rest"]) = H1 at hA1 hT1 ht1 hp1 kk1 ⊢
      refine ⟨_, rfl, t, _, 0, .str "share", rfl, rfl, SqT.of ht1, atI_nat (j := 0) rfl, rfl, _, rfl, ite2 (fun q => absurd (V.str.inj (of_decide_eq_true q)) (by decide +kernel)) (fun _ => ?_)⟩
      refine ⟨_, rfl, t, _, 0, .str "share", rfl, rfl, SqT.of ht1, atI_nat (j := 0) rfl, rfl, _, rfl, ite2 (fun _ => ?_) (fun q => (q (by decide +kernel)).elim)⟩
      refine ⟨_, rfl, p, dx, _, rfl, hp1, hf_no _ _, _, rfl, t, _, 1, .str n, rfl, rfl, SqT.of ht1, atI_nat (j := 1) rfl, _, rfl, t, _, 2, .int s, rfl, rfl, SqT.of ht1, atI_nat (j := 2) rfl, ?_⟩
      refine nil_app ?_
      exact do_share ok.2 hA1 rd hT1 (G := fun r H' => Q (.str r) H') (fun H' h' fp' r a hA' rd' mw => kk1 H' h' fp' (.ok r) a hA' rd' mw) (fun H' z => z) (outs14 rfl rd e_DD e_DM e_DN e_DT e_MM e_MT e_NM e_NN e_NT e_TT e_YD e_YM e_YN e_YT e_YY kk1)
    | team n a s =>
      refine ⟨_, rfl, t, _, 0, .str "team", rfl, rfl, SqT.of ht, atI_nat (j := 0) rfl, rfl, _, rfl, ite2 (fun q => absurd (V.str.inj (of_decide_eq_true q)) (by decide +kernel)) (fun _ => ?_)⟩
      refine ⟨_, rfl, t, _, 0, .str "team", rfl, rfl, SqT.of ht, atI_nat (j := 0) rfl, (by show 2 ≤ sizeLine; decide), fun tt htt => ⟨tt, [.str "wake", .str "rest"], rfl, .inr (SqT.of upd_same), rfl, rfl, _, rfl, ite2 (fun q => absurd q (by decide +kernel)) (fun _ => ?_)⟩⟩
      obtain ⟨hA1, hT1, ht1, hp1, kk1⟩ := moved _ (same_upd htt)
      generalize upd H tt (.tup [.str "wake", .str "rest"]) = H1 at hA1 hT1 ht1 hp1 kk1 ⊢
      refine ⟨_, rfl, t, _, 0, .str "team", rfl, rfl, SqT.of ht1, atI_nat (j := 0) rfl, rfl, _, rfl, ite2 (fun q => absurd (V.str.inj (of_decide_eq_true q)) (by decide +kernel)) (fun _ => ?_)⟩
      refine ⟨_, rfl, t, _, 0, .str "team", rfl, rfl, SqT.of ht1, atI_nat (j := 0) rfl, rfl, _, rfl, ite2 (fun q => absurd (V.str.inj (of_decide_eq_true q)) (by decide +kernel)) (fun _ => ?_)⟩
      refine ⟨_, rfl, t, _, 0, .str "team", rfl, rfl, SqT.of ht1, atI_nat (j := 0) rfl, rfl, _, rfl, ite2 (fun _ => ?_) (fun q => (q (by decide +kernel)).elim)⟩
      refine ⟨_, rfl, p, dx, _, rfl, hp1, hf_no _ _, _, rfl, t, _, 1, .str n, rfl, rfl, SqT.of ht1, atI_nat (j := 1) rfl, _, rfl, t, _, 2, .str a, rfl, rfl, SqT.of ht1, atI_nat (j := 2) rfl, _, rfl, t, _, 3, .int s, rfl, rfl, SqT.of ht1, atI_nat (j := 3) rfl, ?_⟩
      refine nil_app ?_
      exact do_team ok.1 ok.2.2 hl hA1 rd hT1 (G := fun r H' => Q (.str r) H') (fun H' h' fp' r a hA' rd' mw => kk1 H' h' fp' (.ok r) a hA' rd' mw) (fun H' z => z) (outs14 rfl rd e_DD e_DM e_DN e_DT e_MM e_MT e_NM e_NN e_NT e_TT e_YD e_YM e_YN e_YT e_YY kk1)
    | hand n a s =>
      refine ⟨_, rfl, t, _, 0, .str "hand", rfl, rfl, SqT.of ht, atI_nat (j := 0) rfl, rfl, _, rfl, ite2 (fun q => absurd (V.str.inj (of_decide_eq_true q)) (by decide +kernel)) (fun _ => ?_)⟩
      refine ⟨_, rfl, t, _, 0, .str "hand", rfl, rfl, SqT.of ht, atI_nat (j := 0) rfl, (by show 2 ≤ sizeLine; decide), fun tt htt => ⟨tt, [.str "wake", .str "rest"], rfl, .inr (SqT.of upd_same), rfl, rfl, _, rfl, ite2 (fun q => absurd q (by decide +kernel)) (fun _ => ?_)⟩⟩
      obtain ⟨hA1, hT1, ht1, hp1, kk1⟩ := moved _ (same_upd htt)
      generalize upd H tt (.tup [.str "wake", .str "rest"]) = H1 at hA1 hT1 ht1 hp1 kk1 ⊢
      refine ⟨_, rfl, t, _, 0, .str "hand", rfl, rfl, SqT.of ht1, atI_nat (j := 0) rfl, rfl, _, rfl, ite2 (fun q => absurd (V.str.inj (of_decide_eq_true q)) (by decide +kernel)) (fun _ => ?_)⟩
      refine ⟨_, rfl, t, _, 0, .str "hand", rfl, rfl, SqT.of ht1, atI_nat (j := 0) rfl, rfl, _, rfl, ite2 (fun q => absurd (V.str.inj (of_decide_eq_true q)) (by decide +kernel)) (fun _ => ?_)⟩
      refine ⟨_, rfl, t, _, 0, .str "hand", rfl, rfl, SqT.of ht1, atI_nat (j := 0) rfl, rfl, _, rfl, ite2 (fun q => absurd (V.str.inj (of_decide_eq_true q)) (by decide +kernel)) (fun _ => ?_)⟩
      refine ⟨_, rfl, p, dx, _, rfl, hp1, hf_no _ _, _, rfl, t, _, 1, .str n, rfl, rfl, SqT.of ht1, atI_nat (j := 1) rfl, _, rfl, t, _, 2, .str a, rfl, rfl, SqT.of ht1, atI_nat (j := 2) rfl, _, rfl, t, _, 3, .int s, rfl, rfl, SqT.of ht1, atI_nat (j := 3) rfl, ?_⟩
      refine nil_app ?_
      exact do_hand ok.1 ok.2.2 hl hA1 rd hT1 (G := fun r H' => Q (.str r) H') (fun H' h' fp' r a hA' rd' mw => kk1 H' h' fp' (.ok r) a hA' rd' mw) (fun H' z => z) (outs14 rfl rd e_DD e_DM e_DN e_DT e_MM e_MT e_NM e_NN e_NT e_TT e_YD e_YM e_YN e_YT e_YY kk1)
end

/-! ### law k14 -/
theorem ints14 {K : PySem.W.Frag} {H : Hp} : ∀ l : List Int, DpAll K H (l.map V.int) (l.map PyData.int)
  | [] => .nil
  | _ :: l => .cons (.int _) (ints14 l)
theorem ints14_sm (l : List Int) : Sm 64 (.list (l.map PyData.int)) := Sm.up (j := 1) (Sm.list fun d hd => by
  obtain ⟨i, _, rfl⟩ := List.mem_map.mp hd
  exact .int _ _) (by decide)
theorem eqv_none_of {ds : List PyData} : PyData.eqv (.list ds) (.list []) = ds.isEmpty := by cases ds <;> rfl
def dV : V → PyData
  | .str z => .str z
  | .int i => .int i
  | _ => .none
theorem dp_of {K : PySem.W.Frag} {H : Hp} : ∀ {l : List V}, (∀ v ∈ l, (∃ z, v = .str z) ∨ ∃ i, v = .int i ∧ isSh i) → DpAll K H l (l.map dV)
  | [], _ => .nil
  | v :: l, h => by
    refine .cons ?_ (dp_of fun u hu => h u (List.mem_cons_of_mem _ hu))
    rcases h v List.mem_cons_self with ⟨z, rfl⟩ | ⟨i, rfl, _⟩
    · exact .str z
    · exact .int i
theorem sm_of (l : List V) : Sm 64 (.tuple (l.map dV)) := Sm.up (j := 1) (Sm.tup fun d hd => by
  obtain ⟨v, _, rfl⟩ := List.mem_map.mp hd
  cases v <;> first | exact .str _ _ | exact .int _ _ | exact ⟨rfl, Nat.zero_le _⟩) (by decide)
theorem cut_init (ini : List Str) (last : Str) : cutV ((ini ++ [last]).map V.str) none (some (-1)) = ini.map V.str := by
  unfold cutV
  have hl : ((ini ++ [last]).map V.str).length = ini.length + 1 := by simp
  have h1 : HT.sIx ((ini ++ [last]).map V.str).length ((ini ++ [last]).map V.str).length (some (-1)) = ini.length := by
    rw [hl]
    show (if (-1 : Int) < 0 then ((-1 : Int) + ((ini.length + 1 : Nat) : Int)).toNat else min (-1 : Int).toNat (ini.length + 1)) = _
    rw [if_pos (by decide)]
    omega
  rw [h1, HT.sIx_none, List.drop_zero, Nat.sub_zero, List.map_append, List.take_append_of_le_length (by simp), List.take_of_length_le (by simp)]
theorem sum_by {k : Nat} {l : List Str} (h : ∀ x ∈ l, x.length ≤ k) : (l.map (·.length)).sum ≤ k * l.length := by
  induction l with
  | nil => exact Nat.zero_le _
  | cons a r ih =>
    have h1 := ih fun x hx => h x (List.mem_cons_of_mem _ hx)
    have h2 := h a List.mem_cons_self
    rw [List.map_cons, List.sum_cons, List.length_cons, Nat.mul_succ]
    omega
theorem join_by {k n : Nat} {l : List Str} (h : ∀ x ∈ l, x.length ≤ k) (hn : l.length ≤ n) : (l.map (·.length)).sum + l.length * (" " : Str).length ≤ k * n + n ∧ (Txt.join " " l).length ≤ k * n + n := by
  have h1 := sum_by h
  have h4 : (" " : Str).length = 1 := by decide +kernel
  have h5 : k * l.length ≤ k * n := Nat.mul_le_mul_left k hn
  have h6 : (l.map (·.length)).sum + l.length * (" " : Str).length ≤ k * n + n := by
    rw [h4]
    omega
  rw [TL.join_eq]
  exact ⟨h6, Nat.le_trans (PySem.StrLaws.join_length_le " " l) h6⟩
def dashes : List Str := ["wake -", "rest -", "leave -", "share - 3", "team - - 3", "hand - - 12"]
theorem dashes_at (i : Nat) (h : i < 6) : ∃ d, dashes[i]? = some d ∧ d.length ≤ 20 := by
  have all : dashes.all (fun d => decide (d.length ≤ 20)) = true := by decide +kernel
  have hl : i < dashes.length := h
  exact ⟨dashes[i], List.getElem?_eq_getElem hl, of_decide_eq_true (List.all_eq_true.mp all _ (List.getElem_mem hl))⟩
/-- what the law holds while it goes through its script -/
structure L14 (Pt : Addr) (H : Hp) (ln lt lq : Addr) (names xs : List Str) (cs : List V) : Prop where
  n : H ln = some (.lst (names.map V.str))
  t : H lt = some (.lst (xs.map V.str))
  q : H lq = some (.lst cs)
  tab : GxR.TabG H Pt
  nt : ln ≠ lt
  qt : lq ≠ lt
theorem L14.mv {Pt : Addr} {H H' : Hp} {ln lt lq : Addr} {names xs : List Str} {cs : List V} (S : L14 Pt H ln lt lq names xs cs) (m : Mv Pt H H') : L14 Pt H' ln lt lq names xs cs :=
  ⟨m.lst S.tab S.n, m.lst S.tab S.t, m.lst S.tab S.q, m.2, S.nt, S.qt⟩
theorem L14.same {Pt : Addr} {H H' : Hp} {ln lt lq : Addr} {names xs : List Str} {cs : List V} (S : L14 Pt H ln lt lq names xs cs) (s : Same H H') : L14 Pt H' ln lt lq names xs cs := S.mv (.same S.tab s)
theorem L14.app {Pt : Addr} {H : Hp} {ln lt lq : Addr} {names xs : List Str} {cs : List V} (S : L14 Pt H ln lt lq names xs cs) (x : Str) : L14 Pt (upd H lt (.lst (xs.map V.str ++ [.str x]))) ln lt lq names (xs ++ [x]) cs := by
  refine ⟨by rw [upd_ne S.nt]; exact S.n, by rw [upd_same, List.map_append]; rfl, by rw [upd_ne S.qt]; exact S.q, ?_, S.nt, S.qt⟩
  obtain ⟨ps, q, z⟩ := S.tab
  exact ⟨ps, by rw [upd_ne fun y => by rw [y, S.t] at q; cases q]; exact q, z⟩
section
variable {P : Program} {w : World} {K : PySem.W.Frag} {mg : Str → Option Value} {base : Heap} {CS CW CB CT CN CH CM CY CA CD CU CE CV Pt : Addr}
theorem sc_law : FnScope ["_law_script", "_law_names", "_law_texts", "_law_cell", "_law_deed", "_law_text", "_law_found", "_law_words", "_law_zero", "_law_dash", "_law_others", "_law_short", "_law_house", "_law_due_here", "_law_handed", "_law_thing"] ["_law_script"] (defScope s_law) := ⟨rfl, rfl, rfl, by decide +kernel, rfl, by decide +kernel, by decide +kernel⟩
theorem ok_law {f : Addr} {fd : FuncData} (F : Fun K "law" "law" s_law f fd) (T : WT K mg CS CW CB CT CN) (L : LT mg) (g_Lanswer : DOk P w K mg base 7 "_law_answer" ["_law_house", "_law_deed"] (spLAns Pt CH CW CS)) (g_Lread : DOk P w K mg base 6 "_law_read" ["_law_text"] (spLRead Pt)) (g_changed : DOk P w K mg base 1 "_law_changed" ["_law_text", "_law_cell"] spChg) (g_deed_by : DOk P w K mg base 1 "_law_deed_by" ["_law_names", "_law_cell"] spDeedBy) (g_due : DOk P w K mg base 2 "_law_due" ["_law_text"] spDue14) (g_names_by : DOk P w K mg base 1 "_law_names_by" ["_law_cell"] spNm14) (g_play : DOk P w K mg base 9 "play" ["lines"] (spPlay K Pt)) (g_shown : DOk P w K mg base 1 "shown" ["deed"] spShown) (g_text_by : DOk P w K mg base 1 "_law_text_by" ["_law_deed"] spShown) (k_House : KOk P w K mg base 3 "House" CH ["self"] (spHInit CH CW CS)) (z_tuple : mg "tuple" = none) :
    FnOk P w K mg base CX0 10 f fd ["_law_script"] (spLawT K Pt) := by
  refine F.ok sc_law (fun vs H Q E h => ?_) (fun cdv A outer s H vs Q E hr h => ?_)
  · (first | (obtain ⟨_, rfl, _⟩ := h; rfl) | (obtain ⟨_, _, rfl, _⟩ := h; rfl) | (obtain ⟨_, _, _, rfl, _⟩ := h; rfl) | (obtain ⟨_, _, _, _, rfl, _⟩ := h; rfl) | (obtain ⟨_, _, _, _, _, rfl, _⟩ := h; rfl) | (obtain ⟨_, _, _, _, _, _, rfl, _⟩ := h; rfl) | (obtain ⟨_, _, _, _, _, _, _, rfl, _⟩ := h; rfl) | (obtain ⟨_, _, _, _, _, _, _, _, rfl, _⟩ := h; rfl) | (obtain ⟨_, _, _, _, _, _, _, _, _, rfl, _⟩ := h; rfl) | (obtain ⟨_, _, _, _, _, _, _, _, _, _, rfl, _⟩ := h; rfl) | (obtain ⟨_, _, _, _, _, _, _, _, _, _, _, rfl, _⟩ := h; rfl) | (obtain ⟨_, _, _, _, _, _, _, _, _, _, _, _, rfl, _⟩ := h; rfl) | (obtain ⟨_, _, _, _, _, _, _, _, _, _, _, _, _, rfl, _⟩ := h; rfl) | (obtain ⟨_, _, _, _, _, _, _, _, _, _, _, _, _, _, rfl, _⟩ := h; rfl) | (obtain ⟨_, _, _, _, _, _, _, _, _, _, _, _, _, _, _, rfl, _⟩ := h; rfl))
  · obtain ⟨a, ns, rfl, hS, hT, hlen, fin⟩ := h
    refine ⟨_, (C8.pss_cut (by exact (ps_set (i := 1) sc_law.nd rfl (Or.inl rfl) (by exact pe_f g_names_by hr (by decide) (by rfl) (fun σ => passN σ) (pa_cons (pe_ifExp (pt_cmpR (op_neP (K0 := K) hr.units) (pv 0) (pe_lst pa_nil) (nomark _)) (pe_ix (ix_listK (K0 := K)) (pv 0) pe_int (fun _ _ => rfl)) pe_int) pa_nil))))
      (pss_cons (by exact (ps_set (i := 2) sc_law.nd rfl (Or.inl rfl) (pe_lst pa_nil)))
      (C8.pss_cut (by exact (ps_for PassesOwn.never rfl (pi_list (pe_slice sl_list (pv 0) (po_some pe_int) (po_some pe_int))) (pg_name (i := 3) sc_law.nd rfl (Or.inl rfl))
        (pss_cons (by exact (ps_set (i := 4) sc_law.nd rfl (Or.inl rfl) (by exact pe_f g_deed_by hr (by decide) (by rfl) (fun σ => passN σ) (pa_cons (pv 1) (pa_cons (pe_op op_fdiv (pv 3) pe_int) pa_nil)))))
      (pss_cons (by exact (ps_set (i := 5) sc_law.nd rfl (Or.inl rfl) (by exact pe_f g_text_by hr (by decide) (by rfl) (fun σ => passN σ) (pa_cons (pv 4) pa_nil))))
      (pss_cons (by exact (ps_set (i := 6) sc_law.nd rfl (Or.inl rfl) (by exact pe_f g_Lread hr (by decide) (by rfl) (fun σ => passN σ) (pa_cons (pv 5) pa_nil))))
      (C8.pss_cut (by exact (ps_if (PW.pt (pw_or (pt_cmpR op_ne (by exact pe_f g_shown hr (by decide) (by rfl) (fun σ => passN σ) (pa_cons (pv 4) pa_nil)) (pv 5) (nomark _)) (pw_or (pt_cmpR (op_neP (K0 := K) hr.units) (pv 6) (pv 4) (nomark _)) (pw_or1 (pt_not (pt_val (pe_callB (call_isiK (K0 := K)) (by rfl) L.isi boot_isinstance (pa_cons (pv 6) (pa_cons (pe_bltn (v := .ty "tuple") (by rfl) z_tuple (by decide +kernel) rfl) pa_nil))))))))) (pss_one (by exact (ps_ret pe_bl))) pss_nil))
      (C8.pss_cut (by exact (ps_if (pt_cmpR (op_neP (K0 := K) hr.units) (pe_lc (own := [("_law_thing", 15)]) (g := gName 15) (tt := tYes) rfl sc_law.nd (pi_tup (pv 6)) (blkOk_by (N := ["_law_script", "_law_names", "_law_texts", "_law_cell", "_law_deed", "_law_text", "_law_found", "_law_words", "_law_zero", "_law_dash", "_law_others", "_law_short", "_law_house", "_law_due_here", "_law_handed", "_law_thing"]) (sc := defScope s_law) (by decide +kernel)) (fun _ _ _ _ _ => (pg_name (i := 15) sc_law.nd rfl (Or.inl rfl))) (fun _ _ _ _ _ => pts_nil) (fun _ _ _ _ _ => (pe_callB (call_isiK (K0 := K)) (by rfl) L.isi boot_isinstance (pa_cons (pv 15) (pa_cons (pe_bltn (v := .ty "str") (by rfl) L.str PyProof.Rows.boot_str rfl) pa_nil))))) (pe_lc (own := [("_law_thing", 15)]) (g := gName 15) (tt := tYes) rfl sc_law.nd (pi_tup (pv 4)) (blkOk_by (N := ["_law_script", "_law_names", "_law_texts", "_law_cell", "_law_deed", "_law_text", "_law_found", "_law_words", "_law_zero", "_law_dash", "_law_others", "_law_short", "_law_house", "_law_due_here", "_law_handed", "_law_thing"]) (sc := defScope s_law) (by decide +kernel)) (fun _ _ _ _ _ => (pg_name (i := 15) sc_law.nd rfl (Or.inl rfl))) (fun _ _ _ _ _ => pts_nil) (fun _ _ _ _ _ => (pe_callB (call_isiK (K0 := K)) (by rfl) L.isi boot_isinstance (pa_cons (pv 15) (pa_cons (pe_bltn (v := .ty "str") (by rfl) L.str PyProof.Rows.boot_str rfl) pa_nil))))) (nomark _)) (pss_one (by exact (ps_ret pe_bl))) pss_nil))
      (C8.pss_cut (by exact (ps_if (pt_cmpR op_eq (pe_op op_mod (pv 3) pe_int) pe_int (nomark _)) (pss_cons (by exact (ps_set (i := 7) sc_law.nd rfl (Or.inl rfl) (pe_split (pv 5) pe_str)))
      (pss_cons (by exact (ps_set (i := 8) sc_law.nd rfl (Or.inl rfl) (by exact pe_joinK (K0 := K) pe_str (pe_op op_cat (pe_slice sl_list (pv 7) po_none (po_some (pe_un un_neg pe_int))) (pe_lst (pa_cons (pe_op op_add_str pe_str (pe_ix (ix_listK (K0 := K)) (pv 7) (pe_un un_neg pe_int) (fun _ _ => rfl))) pa_nil))))))
      (pss_cons (by exact (ps_set (i := 9) sc_law.nd rfl (Or.inl rfl) (pe_ix (ix_listK (K0 := K)) (pe_lst (pa_cons pe_str (pa_cons pe_str (pa_cons pe_str (pa_cons pe_str (pa_cons pe_str (pa_cons pe_str pa_nil))))))) (pe_op op_mod (pe_op op_fdiv (pv 3) pe_int) pe_int) (fun _ _ => rfl))))
      (pss_cons (by exact (ps_set (i := 10) sc_law.nd rfl (Or.inl rfl) (pe_lst (pa_cons pe_str (pa_cons (pv 8) (pa_cons (pe_op op_add_str (pv 8) pe_str) (pa_cons (by exact pe_f g_changed hr (by decide) (by rfl) (fun σ => passN σ) (pa_cons (pv 5) (pa_cons (pe_op op_fdiv (pv 3) pe_int) pa_nil))) (pa_cons (by exact pe_f g_changed hr (by decide) (by rfl) (fun σ => passN σ) (pa_cons (pv 5) (pa_cons (pe_op op_fdiv (pv 3) pe_int) pa_nil))) (pa_cons (pv 9) pa_nil)))))))))
      (pss_cons (by exact (ps_set (i := 11) sc_law.nd rfl (Or.inl rfl) (pe_lst (pa_cons pe_str (pa_cons pe_str (pa_cons (pe_ix (ix_listK (K0 := K)) (pv 7) pe_int (fun _ _ => rfl)) (pa_cons (by exact pe_joinK (K0 := K) pe_str (pe_slice sl_list (pv 7) po_none (po_some (pe_un un_neg pe_int)))) (pa_cons (pe_op op_add_str pe_str (pe_ix (ix_listK (K0 := K)) (pv 1) pe_int (fun _ _ => rfl))) (pa_cons pe_str (pa_cons (pe_op op_add_str (pe_ix (ix_listK (K0 := K)) (pv 7) pe_int (fun _ _ => rfl)) pe_str) pa_nil))))))))))
      (pss_cons (by exact (ps_set (i := 10) sc_law.nd rfl (Or.inl rfl) (pe_op op_cat (pv 10) (pe_lst (pa_cons (pe_ix (ix_listK (K0 := K)) (pv 11) (pe_op op_mod (pe_op op_fdiv (pv 3) pe_int) pe_int) (fun _ _ => rfl)) (pa_cons (pe_ix (ix_listK (K0 := K)) (pv 11) (pe_op op_mod (pe_op op_fdiv (pv 3) pe_int) pe_int) (fun _ _ => rfl)) pa_nil))))))
      (pss_one (by exact (ps_set (i := 5) sc_law.nd rfl (Or.inl rfl) (pe_ix (ix_listK (K0 := K)) (pv 10) (pe_op op_mod (pe_op op_fdiv (pv 3) pe_int) pe_int) (fun _ _ => rfl))))))))))) pss_nil))
      (C8.pss_cut (by exact (ps_if (pt_cmpR (op_neP (K0 := K) hr.units) (by exact pe_f g_Lread hr (by decide) (by rfl) (fun σ => passN σ) (pa_cons (pv 5) pa_nil)) (by exact pe_f g_due hr (by decide) (by rfl) (fun σ => passN σ) (pa_cons (pv 5) pa_nil)) (nomark _)) (pss_one (by exact (ps_ret pe_bl))) pss_nil))
      (pss_one (by exact (ps_expr (by exact pe_app (K0 := K) (pv 2) (pv 5))))))))))))))
      (pss_cons (by exact (ps_set (i := 12) sc_law.nd rfl (Or.inl rfl) (by exact pe_k0 k_House hr (by decide) (by rfl))))
      (pss_cons (by exact (ps_set (i := 13) sc_law.nd rfl (Or.inl rfl) (pe_lst pa_nil)))
      (C8.pss_cut (by exact (ps_for PassesOwn.never rfl (pi_list (pv 2)) (pg_name (i := 5) sc_law.nd rfl (Or.inl rfl))
        (pss_cons (by exact (ps_set (i := 4) sc_law.nd rfl (Or.inl rfl) (by exact pe_f g_due hr (by decide) (by rfl) (fun σ => passN σ) (pa_cons (pv 5) pa_nil))))
      (pss_one (by exact (ps_expr (by exact pe_app (K0 := K) (pv 13) (pe_ifExp (pt_cmpR op_isN (pv 4) pe_non (nomark _)) pe_str (by exact pe_f g_Lanswer hr (by decide) (by rfl) (fun σ => passN σ) (pa_cons (pv 12) (pa_cons (pv 4) pa_nil)))))))))))
      (pss_cons (by exact (ps_set (i := 14) sc_law.nd rfl (Or.inl rfl) (pe_callTy (call_list_ofK (K0 := K)) (by rfl) L.list (by decide +kernel) (pa_cons (pv 2) pa_nil))))
      (pss_cons (by exact (ps_set (i := 6) sc_law.nd rfl (Or.inl rfl) (by exact pe_f g_play hr (by decide) (by rfl) (fun σ => passN σ) (pa_cons (pv 14) pa_nil))))
      (pss_one (by exact (ps_ret (pe_and (pe_callB (call_isiK (K0 := K)) (by rfl) L.isi boot_isinstance (pa_cons (pv 6) (pa_cons (pe_bltn (v := .ty "list") (by rfl) L.list (by decide +kernel) rfl) pa_nil))) (pe_and (pe_cmpR (op_eqP (K0 := K) hr.units) (pv 6) (pv 13) (nomark _)) (pe_one (pe_cmpR (op_eqP (K0 := K) hr.units) (pv 14) (pv 2) (nomark _)))))))))))))))), ?_⟩
    have hu := hu_of hr
    refine ⟨fun σ' H' => ∃ (ln : Addr) (names : List Str), σ' = [some (.ref a), some (.ref ln), none, none, none, none, none, none, none, none, none, none, none, none, none, none] ∧ H' ln = some (.lst (names.map V.str)) ∧ names.length = 5 ∧ (∀ n ∈ names, isN n) ∧ Same H H', ?_, ?_⟩
    · refine ⟨_, rfl, (by show 0 ≤ sizeLine; decide), fun l0 hl0 => ?_⟩
      have s0 := same_upd (o := .lst []) hl0
      have sq := ((Sc.of hS).same s0).sq
      refine ⟨_, _, .lst sq (ints14 ns), .lst (SqL.of upd_same) .nil, (ints14_sm ns).1, rfl, (ints14_sm ns).2, _, rfl, ?_⟩
      rw [eqv_none_of]
      cases ns with
      | nil => exact iteF ⟨0, rfl, fun H' l names e len ok s _ => ⟨l, names, rfl, e, len, ok, s0.trans s⟩⟩
      | cons n r => exact iteT ⟨_, rfl, a, _, _, _, rfl, rfl, sq, at_of (j := 0) rfl rfl, nil_app ⟨n, rfl, fun H' l names e len ok s _ => ⟨l, names, rfl, e, len, ok, s0.trans s⟩⟩⟩
    rintro σ' H1 ⟨ln, names, rfl, en, nlen, nok, s1⟩
    have hS1 := (Sc.of hS).same s1
    have hT1 := tab_same hT s1
    refine ⟨(by show 0 ≤ sizeLine; decide), fun lt hlt => ?_⟩
    have s2 := same_upd (o := .lst []) hlt
    have et : upd H1 lt (.lst []) lt = some (.lst (([] : List Str).map V.str)) := upd_same
    have en2 := s2 _ _ en
    have hS2 := hS1.same s2
    have hT2 := tab_same hT1 s2
    have nnt : ln ≠ lt := ne_of_none en hlt
    generalize upd H1 lt (.lst []) = H2 at et en2 hS2 hT2 ⊢
    refine ⟨fun σ' H' => ∃ (xs : List Str) (v3 v4 v5 v6 v7 v8 v9 v10 v11 : Option V), σ' = [some (.ref a), some (.ref ln), some (.ref lt), v3, v4, v5, v6, v7, v8, v9, v10, v11, none, none, none, none] ∧ H' lt = some (.lst (xs.map V.str)) ∧ GxR.TabG H' Pt ∧ xs.length ≤ 63 ∧ ∀ x ∈ xs, x.length ≤ 200, ?_, ?_⟩
    · refine ⟨_, rfl, _, rfl, _, rfl, a, _, rfl, hS2.sq, fun lq hlq => ?_⟩
      generalize hcs : cutV (ns.map V.int) (some 1) (some 60) = cs
      have cl : cs.length ≤ 63 := by
        rw [← hcs]
        exact Nat.le_trans (cutV_length _ _ _) (by rw [List.length_map]; exact hlen)
      have ci : ∀ y ∈ cs, ∃ z : Int, y = .int z := fun y hy => by
        rw [← hcs] at hy
        have h2 := List.mem_of_mem_drop (List.mem_of_mem_take hy)
        obtain ⟨z, _, e⟩ := List.mem_map.mp h2
        exact ⟨z, e.symm⟩
      have S0 : L14 Pt (upd H2 lq (.lst cs)) ln lt lq names [] cs := ⟨same_upd hlq _ _ en2, same_upd hlq _ _ et, upd_same, tab_same hT2 (same_upd hlq), nnt, (ne_of_none et hlq).symm⟩
      generalize upd H2 lq (.lst cs) = H3 at S0 ⊢
      clear hlq
      refine ⟨lq, rfl, ⟨_, SqL.of S0.q⟩, for_list (K := K) (a := lq) (xs := cs) (fun i σ H' => ∃ (xs : List Str) (v3 v4 v5 v6 v7 v8 v9 v10 v11 : Option V), σ = [some (.ref a), some (.ref ln), some (.ref lt), v3, v4, v5, v6, v7, v8, v9, v10, v11, none, none, none, none] ∧ L14 Pt H' ln lt lq names xs cs ∧ xs.length ≤ i ∧ ∀ x ∈ xs, x.length ≤ 200)
        ⟨[], none, none, none, none, none, none, none, none, none, rfl, S0, Nat.le_refl _, fun x hx => (nomatch hx)⟩ (fun i σ H' _ ⟨_, _, _, _, _, _, _, _, _, _, _, S, _, _⟩ => SqL.of S.q) ?_ ?_⟩
      · rintro i y σ H5 hy ⟨xs, v3, v4, v5, v6, v7, v8, v9, v10, v11, rfl, S, xl, xk⟩
        obtain ⟨z, rfl⟩ := ci y (List.mem_of_getElem? hy)
        have hi : i < 63 := by have := (List.getElem?_eq_some_iff.mp hy).1; omega
        refine ⟨_, rfl, _, rfl, _, _, rfl, rfl, ⟨by decide, by decide⟩, ?_⟩
        refine nil_app ⟨ln, names, _, rfl, S.n, nlen, nok, fun H6 t D od et s6 _ => ?_⟩
        refine ⟨_, rfl, t, D, rfl, et, od, fun H7 s7 => ?_⟩
        have S7 := (S.same s6).same s7
        have et7 := s7 _ _ et
        have dd : due (Txt.split D.text " ") = some D.vs := by rw [split_text od, due_words od]
        refine ⟨_, rfl, D.text, rfl, S7.tab, Nat.le_trans (text_len od) (by decide), fun H8 m8 => ⟨fun r fa dr ea _ => ?_, fun hn => by rw [dd] at hn; cases hn⟩⟩
        rw [dd] at dr
        cases dr
        have S8 := S7.mv m8
        have et8 := m8.tup S7.tab et7
        clear S7 et7 m8 s7 et s6 S
        have dpt : ∀ {Hx : Hp} {u : Addr}, Hx u = some (.tup D.vs) → Dp K Hx (.ref u) (.tuple (D.vs.map dV)) := fun e => .tup (SqT.of e) (dp_of (vs_kind od))
        have smD := sm_of D.vs
        refine ⟨fun σ' H' => σ' = [some (.ref a), some (.ref ln), some (.ref lt), some (.int z), some (.ref t), some (.str D.text), some (.ref fa), v7, v8, v9, v10, v11, none, none, none, none] ∧ Same H8 H', ?_, ?_⟩
        · refine ⟨_, rfl, t, D, rfl, et8, od, fun H9 s9 => ?_⟩
          refine ⟨_, rfl, rfl, _, rfl, ite2 (fun q => absurd q (by simp)) (fun _ => ?_)⟩
          refine ⟨_, rfl, _, rfl, _, _, dpt (s9 _ _ ea), dpt (s9 _ _ et8), smD.1, smD.1, smD.2, _, rfl, ?_⟩
          rw [SeqAt.eqv_refl_plain _ smD.1]
          refine iteF ⟨_, rfl, .ref fa, _, _, _, true, rfl, .ty "tuple", .base (.tup (s9 _ _ ea)), kit_ty (by show kitB "tuple" "tuple" = some true; decide +kernel), _, rfl, iteF ⟨rfl, s9⟩⟩
        rintro σ' H9 ⟨rfl, s9⟩
        have S9 := S8.same s9
        have et9 := s9 _ _ et8
        have ea9 := s9 _ _ ea
        clear S8 et8 ea s9
        have smB : Sm 64 (.list (D.vs.map fun v => PyData.bool (isS v))) := Sm.up (j := 1) (Sm.list fun d hd => by
          obtain ⟨v, _, rfl⟩ := List.mem_map.mp hd
          exact .bl _ _) (by decide)
        refine ⟨fun σ' H' => σ' = [some (.ref a), some (.ref ln), some (.ref lt), some (.int z), some (.ref t), some (.str D.text), some (.ref fa), v7, v8, v9, v10, v11, none, none, none, none] ∧ Same H9 H', ?_, ?_⟩
        · have kd : ∀ (j : Nat) (u : Addr) (Hx : Hp) (Q' : VK), ([some (V.ref a), some (.ref ln), some (.ref lt), some (.int z), some (.ref t), some (.str D.text), some (.ref fa), v7, v8, v9, v10, v11, none, none, none, none] : L2.St)[j]? = some (some (.ref u)) → Hx u = some (.tup D.vs) → (∀ H' L, Same Hx H' → H' L = some (.lst (D.vs.map fun v => V.bl (isS v))) → Q' (.ref L) H') →
              tLc (iTup K (tVar j)) (gName 15) tYes (tCB (rIsi K) (tCons (tVar 15) (tCons (tC (.ty "str")) tNil))) (List.map (fun x => x.snd) [(("_law_thing" : Str), 15)]) [some (.ref a), some (.ref ln), some (.ref lt), some (.int z), some (.ref t), some (.str D.text), some (.ref fa), v7, v8, v9, v10, v11, none, none, none, none] Hx Q' := by
            intro j u Hx Q' hj hu2 kq
            refine ⟨_, hj, u, rfl, ⟨_, SqT.of hu2⟩, fun L hL => ?_⟩
            refine Mine.lc_it (walk_tup (K := K) (a := u) (xs := D.vs)) (fun i H' => Same Hx H' ∧ H' L = some (.lst ((D.vs.take i).map fun v => V.bl (isS v)))) ⟨same_upd hL, upd_same⟩ (fun i H' _ e => SqT.of (e.1 _ _ hu2)) ?_ ?_
            · rintro i v Ha Hb hi ⟨s, e⟩ ⟨rfl, hv⟩
              have put : ∃ acc, Hb L = some (.lst acc) ∧ acc.length < sizeLine ∧ Same Hx (upd Hb L (.lst (acc ++ [.bl (isS v)]))) ∧ upd Hb L (.lst (acc ++ [.bl (isS v)])) L = some (.lst ((D.vs.take (i + 1)).map fun v => V.bl (isS v))) := by
                refine ⟨_, e, ?_, fun b o q => ?_, ?_⟩
                · rw [List.length_map, List.length_take]
                  have := (vs_len D).2
                  exact small1000 (by omega)
                · rw [upd_ne fun z => by rw [z, hL] at q; cases q]
                  exact s _ _ q
                · rw [upd_same, take_snoc hv, List.map_append]
                  rfl
              refine ⟨rfl, ?_⟩
              unfold tYes
              refine (fun {A B : Prop} (z : A) => show if true = true then A else B from z) ?_
              rcases vs_kind od v (List.mem_of_getElem? hv) with ⟨y, rfl⟩ | ⟨y, rfl, _⟩
              · exact ⟨_, rfl, .str y, _, _, _, true, rfl, .ty "str", .base (.str y), kit_ty (by show kitB "str" "str" = some true; decide +kernel), put⟩
              · exact ⟨_, rfl, .int y, _, _, _, false, rfl, .ty "str", .base (.int y), kit_ty (by show kitB "int" "str" = some false; decide +kernel), put⟩
            · rintro H' ⟨s, e⟩
              rw [List.take_length] at e
              exact kq H' L s e
          unfold tIfS tTest tOp
          refine kd 6 fa H9 _ rfl ea9 ?_
          intro H10 L1 s10 e10
          refine kd 4 t H10 _ rfl (s10 _ _ et9) ?_
          intro H11 L2 s11 e11
          refine ⟨_, _, .lst (SqL.of (s11 _ _ e10)) (DpAll.map fun v _ => .bl (isS v)), .lst (SqL.of e11) (DpAll.map fun v _ => .bl (isS v)), smB.1, smB.1, smB.2, _, rfl, ?_⟩
          rw [SeqAt.eqv_refl_plain _ smB.1]
          exact iteF ⟨rfl, s10.trans s11⟩
        rintro σ' H10 ⟨rfl, s10⟩
        have S10 := S9.same s10
        clear S9 et9 ea9 s10 smB
        refine ⟨fun σ' H' => ∃ (y : Str) (u7 u8 u9 u10 u11 : Option V), σ' = [some (.ref a), some (.ref ln), some (.ref lt), some (.int z), some (.ref t), some (.str y), some (.ref fa), u7, u8, u9, u10, u11, none, none, none, none] ∧ y.length ≤ 200 ∧ Same H10 H', ?_, ?_⟩
        · have tl := text_len od
          refine ⟨_, rfl, _, _, rfl, rfl, (by show (0 : Int) < 4; decide), rfl, _, rfl, ite2 (fun _ => ?_) (fun _ => ⟨D.text, v7, v8, v9, v10, v11, rfl, by omega, fun _ _ e => e⟩)⟩
          refine ⟨_, rfl, ⟨D.text, rfl⟩, D.text, " ", rfl, rfl, by decide +kernel, Nat.le_of_lt (small1000 (by omega)), fun lw hlw => ?_⟩
          rw [split_text od]
          obtain ⟨ws, hws⟩ : ∃ ws, ws = D.vs.map wordOf := ⟨_, rfl⟩
          have wlen : ws.length ≤ 4 := by rw [hws, List.length_map]; exact (vs_len D).2
          have wsm : ∀ x ∈ ws, x.length ≤ 8 := fun x hx => by
            rw [hws] at hx
            obtain ⟨v, hv, rfl⟩ := List.mem_map.mp hx
            exact (words_ok od v hv).2
          obtain ⟨ini, last, ews⟩ : ∃ ini last, ws = ini ++ [last] := by
            rcases List.eq_nil_or_concat ws with h | ⟨ini, last, h⟩
            · have := (vs_len D).1
              rw [← List.length_map wordOf, ← hws, h] at this
              exact absurd this (by decide)
            · exact ⟨ini, last, by rw [h, List.concat_eq_append]⟩
          obtain ⟨w0, wr, ew0⟩ : ∃ w0 wr, ws = w0 :: wr := by
            cases ws with
            | nil => exact absurd ews (by simp)
            | cons w0 wr => exact ⟨w0, wr, rfl⟩
          rw [← hws]
          have sA : Same H10 (upd H10 lw (.lst (ws.map V.str))) := same_upd hlw
          have eA : upd H10 lw (.lst (ws.map V.str)) lw = some (.lst (ws.map V.str)) := upd_same
          generalize upd H10 lw (.lst (ws.map V.str)) = HA at sA eA ⊢
          have ini8 : ∀ x ∈ ini, x.length ≤ 8 := fun x hx => wsm x (by rw [ews]; exact List.mem_append_left _ hx)
          have last8 : last.length ≤ 8 := wsm last (by rw [ews]; exact List.mem_append_right _ (List.mem_singleton.mpr rfl))
          have inilen : ini.length ≤ 3 := by
            rw [ews, List.length_append, List.length_singleton] at wlen
            omega
          have w08 : w0.length ≤ 8 := wsm w0 (by rw [ew0]; exact List.mem_cons_self)
          have lz : ("0" : Str).length = 1 := by decide +kernel
          have lb : (" " : Str).length = 1 := by decide +kernel
          refine ⟨⟨" ", rfl⟩, _, rfl, 1, rfl, -1, rfl, lw, _, rfl, SqL.of eA, fun l1 hl1 => ?_⟩
          have cutI : cutV (ws.map V.str) none (some (-1)) = ini.map V.str := by rw [ews]; exact cut_init ini last
          rw [cutI]
          have at0 : atI (ws.map V.str) 0 = some (V.str w0) := by rw [ew0]; exact atI_nat (j := 0) rfl
          have big : ∀ n : Nat, n ≤ 1000 → n ≤ sizeLine := fun n h => Nat.le_of_lt (small1000 h)
          have sB : Same H10 (upd HA l1 (.lst (ini.map V.str))) := sA.trans (same_upd hl1)
          have eB : upd HA l1 (.lst (ini.map V.str)) l1 = some (.lst (ini.map V.str)) := upd_same
          have eA := same_upd (o := .lst (ini.map V.str)) hl1 _ _ eA
          generalize upd HA l1 (.lst (ini.map V.str)) = HB at sB eB eA ⊢
          refine ⟨_, rfl, 1, rfl, lw, _, -1, .str last, rfl, rfl, SqL.of eA, (by rw [ews, List.map_append]; exact atI_last _ _), _, _, rfl, rfl, (by rw [lz]; exact big _ (by omega)), (by show 1 ≤ sizeLine; decide), fun l2 hl2 => ?_⟩
          have sC : Same H10 (upd HB l2 (.lst [V.str ("0" ++ last)])) := sB.trans (same_upd hl2)
          have eC : upd HB l2 (.lst [V.str ("0" ++ last)]) l2 = some (.lst [V.str ("0" ++ last)]) := upd_same
          have eB := same_upd (o := .lst [V.str ("0" ++ last)]) hl2 _ _ eB
          have eA := same_upd (o := .lst [V.str ("0" ++ last)]) hl2 _ _ eA
          generalize upd HB l2 (.lst [V.str ("0" ++ last)]) = HC at sC eC eB eA ⊢
          refine ⟨l1, l2, _, _, rfl, rfl, eB, eC, (by rw [List.length_map]; exact big _ (by show ini.length + 1 ≤ 1000; omega)), fun l3 hl3 => ?_⟩
          obtain ⟨zs, hzs⟩ : ∃ zs, zs = ini ++ ["0" ++ last] := ⟨_, rfl⟩
          have ezs : ini.map V.str ++ [V.str ("0" ++ last)] = zs.map V.str := by rw [hzs, List.map_append]; rfl
          rw [ezs]
          have zs9 : ∀ x ∈ zs, x.length ≤ 9 := fun x hx => by
            rw [hzs] at hx
            rcases List.mem_append.mp hx with hx | hx
            · exact Nat.le_trans (ini8 x hx) (by decide)
            · rw [List.mem_singleton.mp hx, app_len, lz]
              omega
          have zs4 : zs.length ≤ 4 := by
            rw [hzs, List.length_append, List.length_singleton]
            omega
          obtain ⟨fitz, lenz⟩ := join_by zs9 zs4
          have sD : Same H10 (upd HC l3 (.lst (zs.map V.str))) := sC.trans (same_upd hl3)
          have eD : upd HC l3 (.lst (zs.map V.str)) l3 = some (.lst (zs.map V.str)) := upd_same
          have eA := same_upd (o := .lst (zs.map V.str)) hl3 _ _ eA
          generalize upd HC l3 (.lst (zs.map V.str)) = HD at sD eD eA ⊢
          refine ⟨" ", l3, zs, rfl, rfl, .inl (SqL.of eD), Nat.le_trans fitz (by decide), ?_⟩
          generalize Txt.join " " zs = zero at lenz ⊢
          clear sA sB sC eB eC eD fitz zs9 zs4 ezs hzs
          obtain ⟨di, hdi, di6⟩ : ∃ di : Nat, z / 48 % 6 = (di : Int) ∧ di < 6 := ⟨(z / 48 % 6).toNat, by omega, by omega⟩
          obtain ⟨ds, hds, ds20⟩ := dashes_at di di6
          refine ⟨(by show 6 ≤ sizeLine; decide), fun l4 hl4 => ?_⟩
          have sE : Same H10 (upd HD l4 (.lst [V.str "wake -", V.str "rest -", V.str "leave -", V.str "share - 3", V.str "team - - 3", V.str "hand - - 12"])) := sD.trans (same_upd hl4)
          have eE : upd HD l4 (.lst [V.str "wake -", V.str "rest -", V.str "leave -", V.str "share - 3", V.str "team - - 3", V.str "hand - - 12"]) l4 = some (.lst (dashes.map V.str)) := upd_same
          have eA := same_upd (o := .lst [V.str "wake -", V.str "rest -", V.str "leave -", V.str "share - 3", V.str "team - - 3", V.str "hand - - 12"]) hl4 _ _ eA
          generalize upd HD l4 (.lst [V.str "wake -", V.str "rest -", V.str "leave -", V.str "share - 3", V.str "team - - 3", V.str "hand - - 12"]) = HE at sE eE eA ⊢
          refine ⟨_, rfl, _, _, rfl, rfl, ⟨by decide, by decide⟩, _, _, rfl, rfl, (by show (0 : Int) < 6; decide), l4, _, _, .str ds, rfl, rfl, SqL.of eE, (by rw [hdi]; exact atI_nat (at_map V.str hds)), ?_⟩
          refine ⟨_, rfl, _, rfl, _, _, rfl, rfl, (by rw [lb]; exact big _ (by omega)), ?_⟩
          refine ⟨_, rfl, _, rfl, _, _, rfl, rfl, ⟨by decide, by decide⟩, nil_app ⟨D.text, _, rfl, by omega, fun y1 hy1 => ?_⟩⟩
          refine ⟨_, rfl, _, rfl, _, _, rfl, rfl, ⟨by decide, by decide⟩, nil_app ⟨D.text, _, rfl, by omega, fun y2 hy2 => ?_⟩⟩
          refine ⟨_, rfl, (by show 6 ≤ sizeLine; decide), fun l5 hl5 => ?_⟩
          have sF : Same H10 (upd HE l5 (.lst [V.str "deal ", V.str zero, V.str (zero ++ " "), V.str y1, V.str y2, V.str ds])) := sE.trans (same_upd hl5)
          have eF : upd HE l5 (.lst [V.str "deal ", V.str zero, V.str (zero ++ " "), V.str y1, V.str y2, V.str ds]) l5 = some (.lst [V.str "deal ", V.str zero, V.str (zero ++ " "), V.str y1, V.str y2, V.str ds]) := upd_same
          have eA := same_upd (o := .lst [V.str "deal ", V.str zero, V.str (zero ++ " "), V.str y1, V.str y2, V.str ds]) hl5 _ _ eA
          generalize upd HE l5 (.lst [V.str "deal ", V.str zero, V.str (zero ++ " "), V.str y1, V.str y2, V.str ds]) = HF at sF eF eA ⊢
          obtain ⟨n0, nr, en0⟩ : ∃ n0 nr, names = n0 :: nr := by
            cases names with
            | nil => cases nlen
            | cons n0 nr => exact ⟨n0, nr, rfl⟩
          have n08 := (nm_len8 (nok n0 (by rw [en0]; exact List.mem_cons_self))).2
          have ld : ("deal " : Str).length = 5 := by decide +kernel
          refine ⟨_, rfl, lw, _, 0, .str w0, rfl, rfl, SqL.of eA, at0, ⟨" ", rfl⟩, _, rfl, 1, rfl, -1, rfl, lw, _, rfl, SqL.of eA, fun l6 hl6 => ?_⟩
          rw [cutI]
          have sG : Same H10 (upd HF l6 (.lst (ini.map V.str))) := sF.trans (same_upd hl6)
          have eG : upd HF l6 (.lst (ini.map V.str)) l6 = some (.lst (ini.map V.str)) := upd_same
          have eA := same_upd (o := .lst (ini.map V.str)) hl6 _ _ eA
          have eF := same_upd (o := .lst (ini.map V.str)) hl6 _ _ eF
          generalize upd HF l6 (.lst (ini.map V.str)) = HG at sG eG eA eF ⊢
          obtain ⟨fiti, leni⟩ := join_by ini8 inilen
          refine ⟨" ", l6, ini, rfl, rfl, .inl (SqL.of eG), Nat.le_trans fiti (by decide), ?_⟩
          refine ⟨_, rfl, ln, _, 0, .str n0, rfl, rfl, SqL.of (sG _ _ S10.n), (by rw [en0]; exact atI_nat (j := 0) rfl), _, _, rfl, rfl, (by rw [ld]; exact big _ (by omega)), ?_⟩
          refine ⟨_, rfl, lw, _, 0, .str w0, rfl, rfl, SqL.of eA, at0, _, _, rfl, rfl, (by rw [lb]; exact big _ (by omega)), (by show 7 ≤ sizeLine; decide), fun l7 hl7 => ?_⟩
          have sI : Same H10 (upd HG l7 (.lst [V.str "", V.str " ", V.str w0, V.str (Txt.join " " ini), V.str ("deal " ++ n0), V.str "deal 3", V.str (w0 ++ " ")])) := sG.trans (same_upd hl7)
          have eI : upd HG l7 (.lst [V.str "", V.str " ", V.str w0, V.str (Txt.join " " ini), V.str ("deal " ++ n0), V.str "deal 3", V.str (w0 ++ " ")]) l7 = some (.lst [V.str "", V.str " ", V.str w0, V.str (Txt.join " " ini), V.str ("deal " ++ n0), V.str "deal 3", V.str (w0 ++ " ")]) := upd_same
          have eF := same_upd (o := .lst [V.str "", V.str " ", V.str w0, V.str (Txt.join " " ini), V.str ("deal " ++ n0), V.str "deal 3", V.str (w0 ++ " ")]) hl7 _ _ eF
          generalize upd HG l7 (.lst [V.str "", V.str " ", V.str w0, V.str (Txt.join " " ini), V.str ("deal " ++ n0), V.str "deal 3", V.str (w0 ++ " ")]) = HI at sI eI eF ⊢
          obtain ⟨si, hsi, si7⟩ : ∃ si : Nat, z / 64 % 7 = (si : Int) ∧ si < 7 := ⟨(z / 64 % 7).toNat, by omega, by omega⟩
          have short : ∃ sx : Str, ([V.str "", V.str " ", V.str w0, V.str (Txt.join " " ini), V.str ("deal " ++ n0), V.str "deal 3", V.str (w0 ++ " ")] : List V)[si]? = some (.str sx) ∧ sx.length ≤ 100 := by
            have l0 : ("" : Str).length = 0 := by decide +kernel
            have l3 : ("deal 3" : Str).length = 6 := by decide +kernel
            rcases (show si = 0 ∨ si = 1 ∨ si = 2 ∨ si = 3 ∨ si = 4 ∨ si = 5 ∨ si = 6 by omega) with rfl | rfl | rfl | rfl | rfl | rfl | rfl
            · exact ⟨_, rfl, by rw [l0]; omega⟩
            · exact ⟨_, rfl, by rw [lb]; omega⟩
            · exact ⟨_, rfl, by omega⟩
            · exact ⟨_, rfl, by omega⟩
            · exact ⟨_, rfl, by rw [app_len, ld]; omega⟩
            · exact ⟨_, rfl, by rw [l3]; omega⟩
            · exact ⟨_, rfl, by rw [app_len, lb]; omega⟩
          obtain ⟨sx, hsx, sxl⟩ := short
          have ats : atI ([V.str "", V.str " ", V.str w0, V.str (Txt.join " " ini), V.str ("deal " ++ n0), V.str "deal 3", V.str (w0 ++ " ")] : List V) (z / 64 % 7) = some (.str sx) := by rw [hsi]; exact atI_nat hsx
          refine ⟨_, rfl, _, rfl, _, rfl, _, _, rfl, rfl, ⟨by decide, by decide⟩, _, _, rfl, rfl, (by show (0 : Int) < 7; decide), l7, _, _, .str sx, rfl, rfl, SqL.of eI, ats, ?_⟩
          refine ⟨_, rfl, _, rfl, _, _, rfl, rfl, ⟨by decide, by decide⟩, _, _, rfl, rfl, (by show (0 : Int) < 7; decide), l7, _, _, .str sx, rfl, rfl, SqL.of eI, ats, (by show 2 ≤ sizeLine; decide), fun l8 hl8 => ?_⟩
          have sJ : Same H10 (upd HI l8 (.lst [V.str sx, V.str sx])) := sI.trans (same_upd hl8)
          have eJ : upd HI l8 (.lst [V.str sx, V.str sx]) l8 = some (.lst [V.str sx, V.str sx]) := upd_same
          have eF := same_upd (o := .lst [V.str sx, V.str sx]) hl8 _ _ eF
          generalize upd HI l8 (.lst [V.str sx, V.str sx]) = HJ at sJ eJ eF ⊢
          refine ⟨l5, l8, _, _, rfl, rfl, eF, eJ, (by show 8 ≤ sizeLine; decide), fun l9 hl9 => ?_⟩
          have sK : Same H10 (upd HJ l9 (.lst ([V.str "deal ", V.str zero, V.str (zero ++ " "), V.str y1, V.str y2, V.str ds] ++ [V.str sx, V.str sx]))) := sJ.trans (same_upd hl9)
          have eK : upd HJ l9 (.lst ([V.str "deal ", V.str zero, V.str (zero ++ " "), V.str y1, V.str y2, V.str ds] ++ [V.str sx, V.str sx])) l9 = some (.lst ([V.str "deal ", V.str zero, V.str (zero ++ " "), V.str y1, V.str y2, V.str ds] ++ [V.str sx, V.str sx])) := upd_same
          generalize upd HJ l9 (.lst ([V.str "deal ", V.str zero, V.str (zero ++ " "), V.str y1, V.str y2, V.str ds] ++ [V.str sx, V.str sx])) = HK at sK eK ⊢
          obtain ⟨oi, hoi, oi8⟩ : ∃ oi : Nat, z / 8 % 8 = (oi : Int) ∧ oi < 8 := ⟨(z / 8 % 8).toNat, by omega, by omega⟩
          have other : ∃ y : Str, ([V.str "deal ", V.str zero, V.str (zero ++ " "), V.str y1, V.str y2, V.str ds] ++ [V.str sx, V.str sx])[oi]? = some (.str y) ∧ y.length ≤ 200 := by
            rcases (show oi = 0 ∨ oi = 1 ∨ oi = 2 ∨ oi = 3 ∨ oi = 4 ∨ oi = 5 ∨ oi = 6 ∨ oi = 7 by omega) with rfl | rfl | rfl | rfl | rfl | rfl | rfl | rfl
            · exact ⟨_, rfl, by rw [ld]; omega⟩
            · exact ⟨_, rfl, by omega⟩
            · exact ⟨_, rfl, by rw [app_len, lb]; omega⟩
            · exact ⟨_, rfl, by omega⟩
            · exact ⟨_, rfl, by omega⟩
            · exact ⟨_, rfl, by omega⟩
            · exact ⟨_, rfl, by omega⟩
            · exact ⟨_, rfl, by omega⟩
          obtain ⟨y, hy2', yl⟩ := other
          refine ⟨_, rfl, _, rfl, _, _, rfl, rfl, ⟨by decide, by decide⟩, _, _, rfl, rfl, (by show (0 : Int) < 8; decide), l9, _, _, .str y, rfl, rfl, SqL.of eK, (by rw [hoi]; exact atI_nat hy2'), ?_⟩
          exact ⟨y, _, _, _, _, _, rfl, yl, sK⟩
        rintro σ' H11 ⟨y, u7, u8, u9, u10, u11, rfl, yl, s11⟩
        have S11 := S10.same s11
        clear S10 s11
        refine ⟨fun σ' H' => σ' = [some (.ref a), some (.ref ln), some (.ref lt), some (.int z), some (.ref t), some (.str y), some (.ref fa), u7, u8, u9, u10, u11, none, none, none, none] ∧ L14 Pt H' ln lt lq names xs cs, ?_, ?_⟩
        · refine ⟨_, rfl, y, rfl, S11.tab, by omega, fun H12 m12 => ⟨fun r fb dr eb _ => ?_, fun hn => ?_⟩⟩
          · refine ⟨_, rfl, y, rfl, by omega, fun r2 dr2 H13 f2 e2 s13 _ => ?_, fun hn => by rw [hn] at dr; cases dr⟩
            rw [dr] at dr2
            cases dr2
            obtain ⟨D2, rfl, od2⟩ := due_deed dr
            refine ⟨_, _, .tup (SqT.of (s13 _ _ eb)) (dp_of (vs_kind od2)), .tup (SqT.of e2) (dp_of (vs_kind od2)), (sm_of D2.vs).1, (sm_of D2.vs).1, (sm_of D2.vs).2, _, rfl, ?_⟩
            rw [SeqAt.eqv_refl_plain _ (sm_of D2.vs).1]
            exact iteF ⟨rfl, (S11.mv m12).same s13⟩
          · refine ⟨_, rfl, y, rfl, by omega, (fun r2 dr2 => by rw [hn] at dr2; cases dr2), fun _ H13 s13 => ?_⟩
            refine ⟨.none, .none, .non, .non, rfl, rfl, Nat.le_of_ble_eq_true rfl, _, rfl, ?_⟩
            exact iteF ⟨rfl, (S11.mv m12).same s13⟩
        rintro σ' H12 ⟨rfl, S12⟩
        refine ⟨_, rfl, .inl ⟨rfl, _, SqL.of S12.t⟩, _, rfl, lt, _, _, rfl, rfl, S12.t, by rw [List.length_map]; exact small1000 (by omega), ?_⟩
        refine ⟨xs ++ [y], _, _, _, _, _, _, _, _, _, rfl, S12.app y, by rw [List.length_append, List.length_singleton]; omega, fun x hx => ?_⟩
        rcases List.mem_append.mp hx with hx | hx
        · exact xk x hx
        · rw [List.mem_singleton.mp hx]
          exact yl
      · rintro σ H5 ⟨xs, v3, v4, v5, v6, v7, v8, v9, v10, v11, rfl, S, xl, xk⟩
        exact ⟨xs, v3, v4, v5, v6, v7, v8, v9, v10, v11, rfl, S.t, S.tab, by omega, xk⟩
    rintro σ' H3 ⟨xs, v3, v4, v5, v6, v7, v8, v9, v10, v11, rfl, et3, hT3, xl, xk⟩
    intro p dxp hxp hdp _
    refine mk_house hxp hdp fun H4 fp0 A4 s4 fr4 => ⟨rfl, ?_⟩
    have et4 := s4 _ _ et3
    have hT4 : GxR.TabG H4 Pt := tab_same hT3 s4
    refine ⟨(by show 0 ≤ sizeLine; decide), fun ld hld => ?_⟩
    have ed5 : upd H4 ld (.lst []) ld = some (.lst (([] : List Str).map V.str)) := upd_same
    have et5 := same_upd (o := .lst []) hld _ _ et4
    have A5 := A4.same (same_upd (o := .lst []) hld)
    have hT5 : GxR.TabG (upd H4 ld (.lst [])) Pt := tab_same hT4 (same_upd hld)
    have ntd : lt ≠ ld := ne_of_none et4 hld
    generalize upd H4 ld (.lst []) = H5 at ed5 et5 A5 hT5 ⊢
    refine ⟨fun σ' H' => ∃ (rs : List Str) (h : Hs) (w4 w5 : Option V), σ' = [some (.ref a), some (.ref ln), some (.ref lt), v3, w4, w5, v6, v7, v8, v9, v10, v11, some (.ref p), some (.ref ld), none, none] ∧ Run H0 xs.reverse rs h ∧ H' ld = some (.lst (rs.reverse.map V.str)) ∧ H' lt = some (.lst (xs.map V.str)) ∧ GxR.TabG H' Pt, ?_, ?_⟩
    · refine ⟨_, rfl, lt, rfl, ⟨_, SqL.of et5⟩, for_list (K := K) (a := lt) (xs := xs.map V.str) (fun i σ H' => ∃ (rs : List Str) (hi : Hs) (fpi : List Addr) (w4 w5 : Option V), σ = [some (.ref a), some (.ref ln), some (.ref lt), v3, w4, w5, v6, v7, v8, v9, v10, v11, some (.ref p), some (.ref ld), none, none] ∧ Run H0 (xs.take i).reverse rs hi ∧ HAt CH CW CS H' p hi fpi ∧ Rd hi "" ∧ AllN hi ∧ hi.ab.length ≤ i ∧ H' ld = some (.lst (rs.reverse.map V.str)) ∧ H' lt = some (.lst (xs.map V.str)) ∧ GxR.TabG H' Pt)
        ⟨[], H0, fp0, v4, v5, rfl, .nil, A5, H0_rd, (fun n a e => by cases e), Nat.le_refl _, ed5, et5, hT5⟩ (fun i σ H' _ ⟨_, _, _, _, _, _, _, _, _, _, _, _, e, _⟩ => SqL.of e) ?_ ?_⟩
      · rintro i v σ' H6 hv ⟨rs, hi, fpi, w4, w5, rfl, run, hA, rd, an, hln, ed, et, tb⟩
        rw [List.getElem?_map] at hv
        obtain ⟨x, ex, rfl⟩ := Option.map_eq_some_iff.mp hv
        have mx := List.mem_of_getElem? ex
        have ix := (List.getElem?_eq_some_iff.mp ex).1
        have xl2 := xk x mx
        have nd := hA.lst ed
        have nt := hA.lst et
        have ndP : ld ≠ Pt := tab_ne tb ed fun _ z => nomatch z
        have ntP : lt ≠ Pt := tab_ne tb et fun _ z => nomatch z
        have tk : (xs.take (i + 1)).reverse = x :: (xs.take i).reverse := by
          rw [take_snoc ex, List.reverse_append]
          rfl
        have small : (rs.reverse.map V.str).length < sizeLine := by
          have := run.len
          rw [List.length_map, List.length_reverse, this, List.length_reverse, List.length_take]
          exact small1000 (by omega)
        have put : ∀ (H' : Hp) (h' : Hs) (fp' : List Addr) (b : Str) (w4 w5 : Option V), Run H0 (x :: (xs.take i).reverse) (b :: rs) h' → HAt CH CW CS H' p h' fp' → Rd h' "" → AllN h' → h'.ab.length ≤ i + 1 → H' ld = some (.lst (rs.reverse.map V.str)) → H' lt = some (.lst (xs.map V.str)) → GxR.TabG H' Pt →
            ∃ (rs' : List Str) (hi : Hs) (fpi : List Addr) (w4' w5' : Option V), ([some (V.ref a), some (.ref ln), some (.ref lt), v3, w4, w5, v6, v7, v8, v9, v10, v11, some (.ref p), some (.ref ld), none, none] : L2.St) = [some (.ref a), some (.ref ln), some (.ref lt), v3, w4', w5', v6, v7, v8, v9, v10, v11, some (.ref p), some (.ref ld), none, none] ∧ Run H0 (xs.take (i + 1)).reverse rs' hi ∧ HAt CH CW CS (upd H' ld (.lst (rs.reverse.map V.str ++ [.str b]))) p hi fpi ∧ Rd hi "" ∧ AllN hi ∧ hi.ab.length ≤ i + 1 ∧ upd H' ld (.lst (rs.reverse.map V.str ++ [.str b])) ld = some (.lst (rs'.reverse.map V.str)) ∧ upd H' ld (.lst (rs.reverse.map V.str ++ [.str b])) lt = some (.lst (xs.map V.str)) ∧ GxR.TabG (upd H' ld (.lst (rs.reverse.map V.str ++ [.str b]))) Pt := by
          intro H' h' fp' b w4 w5 run' hA' rd' an' hln' ed' et' tb'
          refine ⟨b :: rs, h', fp', w4, w5, rfl, by rw [tk]; exact run', hA'.keep fun c hc o e => ?_, rd', an', hln', ?_, ?_, ?_⟩
          · rw [upd_ne fun z => hA'.lst ed' (by rw [← z]; exact hc)]
            exact e
          · rw [upd_same, List.reverse_cons, List.map_append]
            rfl
          · rw [upd_ne ntd]
            exact et'
          · obtain ⟨ps, q, z⟩ := tb'
            exact ⟨ps, by rw [upd_ne ndP.symm]; exact q, z⟩
        refine ⟨_, rfl, x, rfl, by omega, fun r dr H7 t et7 s7 _ => ?_, fun hn H7 s7 => ?_⟩
        · obtain ⟨D, rfl, od⟩ := due_deed dr
          refine ⟨_, rfl, .inl ⟨rfl, _, SqL.of (s7 _ _ ed)⟩, _, rfl, rfl, _, rfl, ite2 (fun q => by cases of_decide_eq_true q) (fun _ => ?_)⟩
          refine ⟨_, rfl, _, rfl, p, t, hi, fpi, D, rfl, hA.same s7, rd, tab_same tb s7, et7, od, by omega, an, fun H8 h8 fp8 r act hA8 rd8 mw => ?_⟩
          obtain ⟨an8, len8⟩ := act.keeps od an
          have ed8 := mw.kept _ _ (s7 _ _ ed) nd ndP
          have et8 := mw.kept _ _ (s7 _ _ et) nt ntP
          exact ⟨ld, _, _, rfl, rfl, ed8, small, put H8 h8 fp8 r.t _ _ (.act run hA.ok dr act) hA8 rd8 an8 (by omega) ed8 et8 mw.tab⟩
        · refine ⟨_, rfl, .inl ⟨rfl, _, SqL.of (s7 _ _ ed)⟩, _, rfl, rfl, _, rfl, ite2 (fun _ => ?_) (fun q => (q (decide_eq_true rfl)).elim)⟩
          exact ⟨ld, _, _, rfl, rfl, s7 _ _ ed, small, put H7 hi fpi "no deed" _ _ (.bad run hn) (hA.same s7) rd an (by omega) (s7 _ _ ed) (s7 _ _ et) (tab_same tb s7)⟩
      · rintro σ' H6 ⟨rs, hi, fpi, w4, w5, rfl, run, hA, rd, an, hln, ed, et, tb⟩
        rw [List.length_map, List.take_length] at run
        exact ⟨rs, hi, w4, w5, rfl, run, ed, et, tb⟩
    rintro σ' H6 ⟨rs, hi, w4, w5, rfl, run, ed, et, tb⟩
    refine ⟨_, rfl, lt, _, rfl, .inl (SqL.of et), fun lh hlh => ?_⟩
    have eh7 : upd H6 lh (.lst (xs.map V.str)) lh = some (.lst (xs.map V.str)) := upd_same
    have ed7 := same_upd (o := .lst (xs.map V.str)) hlh _ _ ed
    have et7 := same_upd (o := .lst (xs.map V.str)) hlh _ _ et
    have tb7 : GxR.TabG (upd H6 lh (.lst (xs.map V.str))) Pt := tab_same tb (same_upd hlh)
    generalize upd H6 lh (.lst (xs.map V.str)) = H7 at eh7 ed7 et7 tb7 ⊢
    refine ⟨_, rfl, lh, xs, rfl, eh7, tb7, by omega, fun x hx => Nat.le_trans (xk x hx) (by decide), fun H8 lf rs2 h2 run2 ef m8 _ => ?_⟩
    obtain ⟨rfl, _⟩ := run.det run2
    have eh8 := m8.lst tb7 eh7
    have ed8 := m8.lst tb7 ed7
    have et8 := m8.lst tb7 et7
    refine ⟨_, rfl, .ref lf, _, _, _, true, rfl, .ty "list", .base (.lst ef), kit_ty (by show kitB "list" "list" = some true; decide +kernel), true, rfl, iteT ?_⟩
    refine ⟨_, rfl, _, rfl, eq_same (Dp.strs (SqL.of ef)) (Dp.strs (SqL.of ed8)) (Sm.strs _) ?_⟩
    exact ⟨_, rfl, iteT ⟨_, rfl, _, rfl, eq_same (Dp.strs (SqL.of eh8)) (Dp.strs (SqL.of et8)) (Sm.strs _) (fin _)⟩⟩
end

end Mine
namespace Mine
open PySem PySem.Spec PyProof.Rows L2
def fa0 : List He.Fa := [.int "ROUND" 27720, .int "MOST" 12, .free "len", .free "range", .free "isinstance", .free "int", .free "bool", .free "str", .free "max", .free "min", .free "list", .free "dict", .free "zip", .free "ValueError", .cls "Sharer", .cls "Wheel", .noat "Sharer" "share", .noat "Sharer" "clock", .noat "Sharer" "ready", .noat "Wheel" "past", .noat "Wheel" "_sharers", .glo "BadShare", .glo "Twice", .glo "NoName", .exc "BadShare", .exc "Twice", .exc "NoName", .glo "NotEmpty", .glo "NotHand", .glo "NoTeam", .glo "NoDeed", .glo "BadCount", .glo "BadName", .glo "ShareError", .exc "NoTeam", .exc "NotHand", .exc "NotEmpty", .exc "BadName", .exc "NoDeed", .str "TOP" ""]
def fa1 : List He.Fa := [.cls "House", .noat "House" "_above", .noat "House" "_wheels", .free "tuple", .str "TOP_SIGN" "-", .glo "PARTS", .exm "NoDeed" "NoDeed" true, .exm "Twice" "NoDeed" false, .exm "Twice" "Twice" true, .exm "NoTeam" "NoDeed" false, .exm "NoTeam" "Twice" false, .exm "NoTeam" "NoTeam" true, .exm "NoName" "NoDeed" false, .exm "NoName" "Twice" false, .exm "NoName" "NoTeam" false, .exm "NoName" "NoName" true, .exm "NotHand" "NoDeed" false, .exm "NotHand" "Twice" false, .exm "NotHand" "NoTeam" false, .exm "NotHand" "NoName" false, .exm "NotHand" "NotHand" true, .exm "NotEmpty" "NoDeed" false, .exm "NotEmpty" "Twice" false, .exm "NotEmpty" "NoTeam" false, .exm "NotEmpty" "NoName" false, .exm "NotEmpty" "NotHand" false, .exm "NotEmpty" "NotEmpty" true, .glo "stands_in", .glo "is_whole", .glo "step", .mkr "Sharer", .glo "Sharer", .mkr "Wheel", .glo "Wheel", .meth "Wheel" "_sharer", .meth "Wheel" "enter", .meth "Wheel" "leave", .meth "Wheel" "reshare", .meth "Wheel" "wake", .meth "Wheel" "rest"]
def fa2 : List He.Fa := [.meth "Wheel" "whose", .meth "Wheel" "turn", .meth "Wheel" "names", .int "LONGEST" 8, .free "all", .glo "is_name", .meth "House" "_need_team", .meth "House" "_need_name", .meth "House" "_need_hand", .meth "House" "_wheel_around", .meth "House" "wake", .meth "House" "rest", .meth "House" "reshare", .meth "House" "deal", .meth "House" "leave", .mkr "House", .glo "House", .meth "House" "_settle", .meth "House" "hand", .meth "House" "team", .glo "read_share", .glo "read_part", .glo "read", .glo "shown", .glo "do", .glo "answer", .glo "play", .glo "_law_names_by", .glo "_law_deed_by", .glo "_law_text_by", .glo "_law_changed", .glo "_law_is_name", .glo "_law_is_share", .glo "_law_due", .glo "_law_read", .glo "_law_answer", .glo "law"]
def fas : List He.Fa := fa0 ++ fa1 ++ fa2
def fn0 : List He.DefD := [⟨("stands_in", none), "stands_in", "stands_in", defArgs s_stands_in, defBody s_stands_in, defScope s_stands_in, [], []⟩,
  ⟨("is_whole", none), "is_whole", "is_whole", defArgs s_is_whole, defBody s_is_whole, defScope s_is_whole, [], []⟩,
  ⟨("step", none), "step", "step", defArgs s_step, defBody s_step, defScope s_step, [], []⟩,
  ⟨("Sharer", some "__init__"), "__init__", "Sharer.__init__", defArgs sSharer_init, defBody sSharer_init, defScope sSharer_init, [], []⟩,
  ⟨("Wheel", some "__init__"), "__init__", "Wheel.__init__", defArgs sWheel_init, defBody sWheel_init, defScope sWheel_init, [], []⟩,
  ⟨("Wheel", some "_sharer"), "_sharer", "Wheel._sharer", defArgs sWheel_sharer, defBody sWheel_sharer, defScope sWheel_sharer, [], []⟩,
  ⟨("Wheel", some "enter"), "enter", "Wheel.enter", defArgs sWheel_enter, defBody sWheel_enter, defScope sWheel_enter, [], []⟩,
  ⟨("Wheel", some "leave"), "leave", "Wheel.leave", defArgs sWheel_leave, defBody sWheel_leave, defScope sWheel_leave, [], []⟩,
  ⟨("Wheel", some "reshare"), "reshare", "Wheel.reshare", defArgs sWheel_reshare, defBody sWheel_reshare, defScope sWheel_reshare, [], []⟩,
  ⟨("Wheel", some "wake"), "wake", "Wheel.wake", defArgs sWheel_wake, defBody sWheel_wake, defScope sWheel_wake, [], []⟩,
  ⟨("Wheel", some "rest"), "rest", "Wheel.rest", defArgs sWheel_rest, defBody sWheel_rest, defScope sWheel_rest, [], []⟩,
  ⟨("Wheel", some "whose"), "whose", "Wheel.whose", defArgs sWheel_whose, defBody sWheel_whose, defScope sWheel_whose, [], []⟩,
  ⟨("Wheel", some "turn"), "turn", "Wheel.turn", defArgs sWheel_turn, defBody sWheel_turn, defScope sWheel_turn, [], []⟩,
  ⟨("Wheel", some "names"), "names", "Wheel.names", defArgs sWheel_names, defBody sWheel_names, defScope sWheel_names, [], []⟩,
  ⟨("is_name", none), "is_name", "is_name", defArgs s_is_name, defBody s_is_name, defScope s_is_name, [], []⟩,
  ⟨("House", some "_need_team"), "_need_team", "House._need_team", defArgs sHouse_need_team, defBody sHouse_need_team, defScope sHouse_need_team, [], []⟩,
  ⟨("House", some "_need_name"), "_need_name", "House._need_name", defArgs sHouse_need_name, defBody sHouse_need_name, defScope sHouse_need_name, [], []⟩,
  ⟨("House", some "_need_hand"), "_need_hand", "House._need_hand", defArgs sHouse_need_hand, defBody sHouse_need_hand, defScope sHouse_need_hand, [], []⟩,
  ⟨("House", some "_wheel_around"), "_wheel_around", "House._wheel_around", defArgs sHouse_wheel_around, defBody sHouse_wheel_around, defScope sHouse_wheel_around, [], []⟩,
  ⟨("House", some "wake"), "wake", "House.wake", defArgs sHouse_wake, defBody sHouse_wake, defScope sHouse_wake, [], []⟩,
  ⟨("House", some "rest"), "rest", "House.rest", defArgs sHouse_rest, defBody sHouse_rest, defScope sHouse_rest, [], []⟩,
  ⟨("House", some "reshare"), "reshare", "House.reshare", defArgs sHouse_reshare, defBody sHouse_reshare, defScope sHouse_reshare, [], []⟩,
  ⟨("House", some "deal"), "deal", "House.deal", defArgs sHouse_deal, defBody sHouse_deal, defScope sHouse_deal, [], []⟩,
  ⟨("House", some "leave"), "leave", "House.leave", defArgs sHouse_leave, defBody sHouse_leave, defScope sHouse_leave, [], []⟩,
  ⟨("House", some "__init__"), "__init__", "House.__init__", defArgs sHouse_init, defBody sHouse_init, defScope sHouse_init, [], []⟩,
  ⟨("House", some "_settle"), "_settle", "House._settle", defArgs sHouse_settle, defBody sHouse_settle, defScope sHouse_settle, [], []⟩,
  ⟨("House", some "hand"), "hand", "House.hand", defArgs sHouse_hand, defBody sHouse_hand, defScope sHouse_hand, [], []⟩,
  ⟨("House", some "team"), "team", "House.team", defArgs sHouse_team, defBody sHouse_team, defScope sHouse_team, [], []⟩,
  ⟨("read_share", none), "read_share", "read_share", defArgs s_read_share, defBody s_read_share, defScope s_read_share, [], []⟩,
  ⟨("read_part", none), "read_part", "read_part", defArgs s_read_part, defBody s_read_part, defScope s_read_part, [], []⟩]
def fn1 : List He.DefD := [⟨("read", none), "read", "read", defArgs s_read, defBody s_read, defScope s_read, [], []⟩,
  ⟨("shown", none), "shown", "shown", defArgs s_shown, defBody s_shown, defScope s_shown, [], []⟩,
  ⟨("do", none), "do", "do", defArgs s_do, defBody s_do, defScope s_do, [], []⟩,
  ⟨("answer", none), "answer", "answer", defArgs s_answer, defBody s_answer, defScope s_answer, [], []⟩,
  ⟨("play", none), "play", "play", defArgs s_play, defBody s_play, defScope s_play, [], []⟩,
  ⟨("_law_names_by", none), "_law_names_by", "_law_names_by", defArgs s_L_names_by, defBody s_L_names_by, defScope s_L_names_by, [], []⟩,
  ⟨("_law_deed_by", none), "_law_deed_by", "_law_deed_by", defArgs s_L_deed_by, defBody s_L_deed_by, defScope s_L_deed_by, [], []⟩,
  ⟨("_law_text_by", none), "_law_text_by", "_law_text_by", defArgs s_L_text_by, defBody s_L_text_by, defScope s_L_text_by, [], []⟩,
  ⟨("_law_changed", none), "_law_changed", "_law_changed", defArgs s_L_changed, defBody s_L_changed, defScope s_L_changed, [], []⟩,
  ⟨("_law_is_name", none), "_law_is_name", "_law_is_name", defArgs s_L_is_name, defBody s_L_is_name, defScope s_L_is_name, [], []⟩,
  ⟨("_law_is_share", none), "_law_is_share", "_law_is_share", defArgs s_L_is_share, defBody s_L_is_share, defScope s_L_is_share, [], []⟩,
  ⟨("_law_due", none), "_law_due", "_law_due", defArgs s_L_due, defBody s_L_due, defScope s_L_due, [], []⟩,
  ⟨("_law_read", none), "_law_read", "_law_read", defArgs s_L_read, defBody s_L_read, defScope s_L_read, [], []⟩,
  ⟨("_law_answer", none), "_law_answer", "_law_answer", defArgs s_L_answer, defBody s_L_answer, defScope s_L_answer, [], []⟩,
  ⟨("law", none), "law", "law", defArgs s_law, defBody s_law, defScope s_law, [], []⟩]
def fns : List He.DefD := fn0 ++ fn1
def exB (K : PySem.W.Frag) : Bool := decide (partsB K = true) && decide (PySem.W.kitOne K (.ref (He.ga K "NoDeed")) (.ref (He.ga K "NoName")) = some false) && decide (PySem.W.kitOne K (.ref (He.ga K "NoDeed")) (.ref (He.ga K "NotHand")) = some false) && decide (PySem.W.kitOne K (.ref (He.ga K "NoDeed")) (.ref (He.ga K "NotEmpty")) = some false) && decide (PySem.W.kitOne K (.ref (He.ga K "NoDeed")) (.ref (He.ga K "Twice")) = some false) && decide (PySem.W.kitOne K (.ref (He.ga K "NoDeed")) (.ref (He.ga K "NoTeam")) = some false) && decide (PySem.W.kitOne K (.ref (He.ga K "NoDeed")) (.ref (He.ga K "BadShare")) = some false) && decide (PySem.W.kitOne K (.ref (He.ga K "NoDeed")) (.ref (He.ga K "BadName")) = some false) && decide (PySem.W.kitOne K (.ref (He.ga K "NoDeed")) (.ref (He.ga K "BadCount")) = some false) && decide (PySem.W.kitOne K (.ref (He.ga K "NoDeed")) (.ref (He.ga K "ShareError")) = some true) && decide (PySem.W.findIn K (.ref (He.ga K "NoDeed")) "__getattribute__" = some (some (.builtin "BaseException.__getattribute__"))) && decide (PySem.W.findIn K (.ref (He.ga K "NoDeed")) "__getattr__" = some none) && decide (PySem.W.subIn K (.ref (He.ga K "NoDeed")) (.type "BaseException") = some true) && decide (PySem.W.hasDictIn K (He.ga K "NoDeed") = true) && decide (PySem.W.findIn K (.ref (He.ga K "NoDeed")) "__class__" = some (some (.builtin "object.__class__"))) && decide (PySem.W.specialIn K (.builtin "object.__class__") "__get__" = some (some (.builtin "getset_descriptor.__get__"))) && decide (PySem.W.takesIn K (.builtin "object.__class__") = some true) && decide (PySem.W.mroIn K (He.ga K "NoDeed") (.type "object") = some true)
def loose : List Str := [("_wall" : Str), ("ShareError" : Str), ("BadShare" : Str), ("BadName" : Str), ("Twice" : Str), ("NoTeam" : Str), ("NoName" : Str), ("NotHand" : Str), ("NotEmpty" : Str), ("BadCount" : Str), ("NoDeed" : Str), ("LONGEST" : Str), ("is_name" : Str), ("stands_in" : Str), ("ROUND" : Str), ("MOST" : Str), ("is_whole" : Str), ("step" : Str), ("Sharer" : Str), ("Wheel" : Str)] ++ [("TOP" : Str), ("House" : Str), ("TOP_SIGN" : Str), ("PARTS" : Str), ("shown" : Str), ("read" : Str), ("read_part" : Str), ("read_share" : Str), ("play" : Str), ("answer" : Str), ("do" : Str), ("_law_names_by" : Str), ("_law_deed_by" : Str), ("_law_text_by" : Str), ("_law_changed" : Str), ("_law_is_name" : Str), ("_law_is_share" : Str), ("_law_due" : Str), ("_law_read" : Str), ("_law_answer" : Str)]
def tbs : List He.Defn := [("is_name", none)]
abbrev Rw : PySem.W.OpenRow := PySem.W.OpenLaw.row PySem.Challenge.rw_sharetime_k14_deeds_as_texts
abbrev hk : PySem.W.Hook := He.hookX 6 fas fns ptabs tbs exB
def ob (s : PySem.W.SharedT) : He.AlX := He.obsX 6 fas fns ptabs tbs exB (HandSHeadRun.getT s)
theorem ob_eq (s : PySem.W.SharedT) : ob s = hk.obs s.abs := He.obsX_eq (HandSHeadRun.getT_eq s)
theorem run_true (w : World) : HandSHeadRun.RunEq Rw (PySem.W.view Rw.prog [47]) hk ob 6000 loose (wordW w true) := by
  intro os
  kernel_rfl
theorem run_false (w : World) : HandSHeadRun.RunEq Rw (PySem.W.view Rw.prog [47]) hk ob 6000 loose (wordW w false) := by
  intro os
  kernel_rfl
theorem run_top (w : World) : HandSHeadRun.RunEq Rw (PySem.W.view Rw.prog [47]) hk ob 6000 loose w :=
  by_word (C := fun w => HandSHeadRun.RunEq Rw (PySem.W.view Rw.prog [47]) hk ob 6000 loose w) (fun w b => match b with | true => run_true w | false => run_false w) w
theorem fun_of {K : PySem.W.Frag} {x qual : Str} {st : Stmt} {f : Addr} {fd : FuncData} (F : FunD K x qual (defArgs st) (defBody st) (defScope st) [] [] f fd) : Fun K x qual st f fd := by
  obtain ⟨oc, od, dV, kV, doc, pm, an, cdv, ct, osl, e, lk, hcd, df, _⟩ := F.ex
  rcases df with ⟨_, rfl⟩ | ⟨z, _⟩
  · exact ⟨⟨oc, od, kV, doc, pm, an, cdv, ct, osl, e, lk, hcd⟩, F.kp⟩
  · exact (z rfl).elim
theorem funC_of {K : PySem.W.Frag} {x qual : Str} {st : Stmt} {p : He.Defn} {fd : FuncData} (F : FunD K x qual (defArgs st) (defBody st) (defScope st) [] [] (He.fAd K p) fd) : FunC K x qual st (He.codeOf K p) (He.fAd K p) fd := by
  obtain ⟨oc, od, dV, kV, doc, pm, an, cdv, ct, osl, rfl, lk, hcd, df, _⟩ := F.ex
  obtain ⟨c, rfl⟩ := He.codeIn_ref hcd
  rw [He.codeOf_eq lk rfl]
  rcases df with ⟨_, rfl⟩ | ⟨z, _⟩
  · exact ⟨⟨oc, od, kV, doc, pm, an, ct, osl, rfl, lk, hcd⟩, F.kp⟩
  · exact (z rfl).elim
theorem law_at {w : World} {K : PySem.W.Frag} {h : Heap} {mg : Str → Option Value} {fL : Addr} (X : K.In h) (G : h.Ns mainGlobals mg) (hfa : mg "law" = some (.ref fL)) (c : He.SaysX fas fns ptabs tbs exB w h K) :
    LamX.LawAtS PySem.Challenge.rw_sharetime_k14_deeds_as_texts w K CX0 10 63 "_law_script" mg fL h := by
  have e := hfa.symm.trans (He.glo_ok X G (c.t.d.fact 116 rfl))
  cases e
  have exh : exB K = true := c.more
  unfold exB at exh
  simp only [Bool.and_eq_true, decide_eq_true_eq] at exh
  obtain ⟨⟨⟨⟨⟨⟨⟨⟨⟨⟨⟨⟨⟨⟨⟨⟨⟨h_PB, q_VN⟩, q_VD⟩, q_VY⟩, q_VT⟩, q_VM⟩, q_VB⟩, q_VA⟩, q_VU⟩, q_VE⟩, cc_V_0⟩, cc_V_1⟩, cc_V_2⟩, cc_V_3⟩, cc_V_4⟩, cc_V_5⟩, cc_V_6⟩, cc_V_7⟩ := exh
  have cc_V : ExcC K (He.ga K "NoDeed") := ⟨cc_V_0, cc_V_1, cc_V_2, cc_V_3, cc_V_4, cc_V_5, cc_V_6, cc_V_7⟩
  obtain ⟨tR, mR⟩ := He.int_ok X G (c.t.d.fact 0 rfl)
  obtain ⟨tM, mM⟩ := He.int_ok X G (c.t.d.fact 1 rfl)
  have L : LT mg := ⟨He.free_ok X G (c.t.d.fact 2 rfl), He.free_ok X G (c.t.d.fact 3 rfl), He.free_ok X G (c.t.d.fact 4 rfl), He.free_ok X G (c.t.d.fact 5 rfl), He.free_ok X G (c.t.d.fact 6 rfl), He.free_ok X G (c.t.d.fact 7 rfl), He.free_ok X G (c.t.d.fact 8 rfl), He.free_ok X G (c.t.d.fact 9 rfl), He.free_ok X G (c.t.d.fact 10 rfl), He.free_ok X G (c.t.d.fact 11 rfl), He.free_ok X G (c.t.d.fact 12 rfl), He.free_ok X G (c.t.d.fact 13 rfl)⟩
  have T : WT K mg (He.ga K "Sharer") (He.ga K "Wheel") (He.ga K "BadShare") (He.ga K "Twice") (He.ga K "NoName") := ⟨He.cls_ok (c.t.d.fact 14 rfl), He.cls_ok (c.t.d.fact 15 rfl), He.noat_ok (c.t.d.fact 16 rfl), He.noat_ok (c.t.d.fact 17 rfl), He.noat_ok (c.t.d.fact 18 rfl), He.noat_ok (c.t.d.fact 19 rfl), He.noat_ok (c.t.d.fact 20 rfl), He.glo_ok X G (c.t.d.fact 21 rfl), He.glo_ok X G (c.t.d.fact 22 rfl), He.glo_ok X G (c.t.d.fact 23 rfl), (by obtain ⟨h1, h2, h3, h4⟩ := He.exc_ok (c.t.d.fact 24 rfl); exact ⟨h1, h2, h3, h4⟩), (by obtain ⟨h1, h2, h3, h4⟩ := He.exc_ok (c.t.d.fact 25 rfl); exact ⟨h1, h2, h3, h4⟩), (by obtain ⟨h1, h2, h3, h4⟩ := He.exc_ok (c.t.d.fact 26 rfl); exact ⟨h1, h2, h3, h4⟩), He.free_ok X G (c.t.d.fact 4 rfl), He.free_ok X G (c.t.d.fact 5 rfl), He.free_ok X G (c.t.d.fact 6 rfl), He.free_ok X G (c.t.d.fact 7 rfl), He.free_ok X G (c.t.d.fact 8 rfl), He.free_ok X G (c.t.d.fact 10 rfl), ⟨tR, mR⟩, ⟨tM, mM⟩⟩
  have ge_Y := He.glo_ok X G (c.t.d.fact 27 rfl)
  have ge_D := He.glo_ok X G (c.t.d.fact 28 rfl)
  have ge_M := He.glo_ok X G (c.t.d.fact 29 rfl)
  have ge_V := He.glo_ok X G (c.t.d.fact 30 rfl)
  have ge_U := He.glo_ok X G (c.t.d.fact 31 rfl)
  have ge_A := He.glo_ok X G (c.t.d.fact 32 rfl)
  have ge_E := He.glo_ok X G (c.t.d.fact 33 rfl)
  have r_M : ErT K mg "NoTeam" (He.ga K "NoTeam") := ⟨He.glo_ok X G (c.t.d.fact 29 rfl), (by obtain ⟨h1, h2, h3, h4⟩ := He.exc_ok (c.t.d.fact 34 rfl); exact ⟨h1, h2, h3, h4⟩)⟩
  have r_D : ErT K mg "NotHand" (He.ga K "NotHand") := ⟨He.glo_ok X G (c.t.d.fact 28 rfl), (by obtain ⟨h1, h2, h3, h4⟩ := He.exc_ok (c.t.d.fact 35 rfl); exact ⟨h1, h2, h3, h4⟩)⟩
  have r_Y : ErT K mg "NotEmpty" (He.ga K "NotEmpty") := ⟨He.glo_ok X G (c.t.d.fact 27 rfl), (by obtain ⟨h1, h2, h3, h4⟩ := He.exc_ok (c.t.d.fact 36 rfl); exact ⟨h1, h2, h3, h4⟩)⟩
  have r_A : ErT K mg "BadName" (He.ga K "BadName") := ⟨He.glo_ok X G (c.t.d.fact 32 rfl), (by obtain ⟨h1, h2, h3, h4⟩ := He.exc_ok (c.t.d.fact 37 rfl); exact ⟨h1, h2, h3, h4⟩)⟩
  have r_V : ErT K mg "NoDeed" (He.ga K "NoDeed") := ⟨He.glo_ok X G (c.t.d.fact 30 rfl), (by obtain ⟨h1, h2, h3, h4⟩ := He.exc_ok (c.t.d.fact 38 rfl); exact ⟨h1, h2, h3, h4⟩)⟩
  obtain ⟨tT, mT⟩ := He.str_ok X G (c.t.d.fact 39 rfl)
  have h_H : HT K mg (He.ga K "House") := ⟨He.cls_ok (c.t.d.fact 40 rfl), He.noat_ok (c.t.d.fact 41 rfl), He.noat_ok (c.t.d.fact 42 rfl), ⟨tT, mT⟩⟩
  have z_tuple := He.free_ok X G (c.t.d.fact 43 rfl)
  have h_TS := He.str_ok X G (c.t.d.fact 44 rfl)
  have h_PA : PartsOk K w mg := parts_ok (tab_parts c.t) h_PB (He.glo_ok X G (c.t.d.fact 45 rfl))
  have e_VV := He.exm_ok (c.t.d.fact 46 rfl)
  have e_TV := He.exm_ok (c.t.d.fact 47 rfl)
  have e_TT := He.exm_ok (c.t.d.fact 48 rfl)
  have e_MV := He.exm_ok (c.t.d.fact 49 rfl)
  have e_MT := He.exm_ok (c.t.d.fact 50 rfl)
  have e_MM := He.exm_ok (c.t.d.fact 51 rfl)
  have e_NV := He.exm_ok (c.t.d.fact 52 rfl)
  have e_NT := He.exm_ok (c.t.d.fact 53 rfl)
  have e_NM := He.exm_ok (c.t.d.fact 54 rfl)
  have e_NN := He.exm_ok (c.t.d.fact 55 rfl)
  have e_DV := He.exm_ok (c.t.d.fact 56 rfl)
  have e_DT := He.exm_ok (c.t.d.fact 57 rfl)
  have e_DM := He.exm_ok (c.t.d.fact 58 rfl)
  have e_DN := He.exm_ok (c.t.d.fact 59 rfl)
  have e_DD := He.exm_ok (c.t.d.fact 60 rfl)
  have e_YV := He.exm_ok (c.t.d.fact 61 rfl)
  have e_YT := He.exm_ok (c.t.d.fact 62 rfl)
  have e_YM := He.exm_ok (c.t.d.fact 63 rfl)
  have e_YN := He.exm_ok (c.t.d.fact 64 rfl)
  have e_YD := He.exm_ok (c.t.d.fact 65 rfl)
  have e_YY := He.exm_ok (c.t.d.fact 66 rfl)
  obtain ⟨fd_g_stands_in, D_g_stands_in⟩ := c.t.d.def_ 0 rfl
  have F_g_stands_in := fun_of (st := s_stands_in) D_g_stands_in
  have b_g_stands_in := F_g_stands_in.binds (ps := ["thing", "table"]) fun _ _ _ _ _ _ us hl => match us, hl with | [_, _], _ => rfl
  obtain ⟨fd_g_is_whole, D_g_is_whole⟩ := c.t.d.def_ 1 rfl
  have F_g_is_whole := fun_of (st := s_is_whole) D_g_is_whole
  have b_g_is_whole := F_g_is_whole.binds (ps := ["thing"]) fun _ _ _ _ _ _ us hl => match us, hl with | [_], _ => rfl
  obtain ⟨fd_g_step, D_g_step⟩ := c.t.d.def_ 2 rfl
  have F_g_step := fun_of (st := s_step) D_g_step
  have b_g_step := F_g_step.binds (ps := ["share"]) fun _ _ _ _ _ _ us hl => match us, hl with | [_], _ => rfl
  obtain ⟨fd_k_Sharer, D_k_Sharer⟩ := c.t.d.def_ 3 rfl
  have F_k_Sharer := fun_of (st := sSharer_init) D_k_Sharer
  have b_k_Sharer := F_k_Sharer.binds (ps := ["self", "share"]) fun _ _ _ _ _ _ us hl => match us, hl with | [_, _], _ => rfl
  obtain ⟨fd_k_Wheel, D_k_Wheel⟩ := c.t.d.def_ 4 rfl
  have F_k_Wheel := fun_of (st := sWheel_init) D_k_Wheel
  have b_k_Wheel := F_k_Wheel.binds (ps := ["self"]) fun _ _ _ _ _ _ us hl => match us, hl with | [_], _ => rfl
  obtain ⟨fd_m_W_sharer, D_m_W_sharer⟩ := c.t.d.def_ 5 rfl
  have F_m_W_sharer := fun_of (st := sWheel_sharer) D_m_W_sharer
  have b_m_W_sharer := F_m_W_sharer.binds (ps := ["self", "name"]) fun _ _ _ _ _ _ us hl => match us, hl with | [_, _], _ => rfl
  obtain ⟨fd_m_W_enter, D_m_W_enter⟩ := c.t.d.def_ 6 rfl
  have F_m_W_enter := fun_of (st := sWheel_enter) D_m_W_enter
  have b_m_W_enter := F_m_W_enter.binds (ps := ["self", "name", "share"]) fun _ _ _ _ _ _ us hl => match us, hl with | [_, _, _], _ => rfl
  obtain ⟨fd_m_W_leave, D_m_W_leave⟩ := c.t.d.def_ 7 rfl
  have F_m_W_leave := fun_of (st := sWheel_leave) D_m_W_leave
  have b_m_W_leave := F_m_W_leave.binds (ps := ["self", "name"]) fun _ _ _ _ _ _ us hl => match us, hl with | [_, _], _ => rfl
  obtain ⟨fd_m_W_reshare, D_m_W_reshare⟩ := c.t.d.def_ 8 rfl
  have F_m_W_reshare := fun_of (st := sWheel_reshare) D_m_W_reshare
  have b_m_W_reshare := F_m_W_reshare.binds (ps := ["self", "name", "share"]) fun _ _ _ _ _ _ us hl => match us, hl with | [_, _, _], _ => rfl
  obtain ⟨fd_m_W_wake, D_m_W_wake⟩ := c.t.d.def_ 9 rfl
  have F_m_W_wake := fun_of (st := sWheel_wake) D_m_W_wake
  have b_m_W_wake := F_m_W_wake.binds (ps := ["self", "name"]) fun _ _ _ _ _ _ us hl => match us, hl with | [_, _], _ => rfl
  obtain ⟨fd_m_W_rest, D_m_W_rest⟩ := c.t.d.def_ 10 rfl
  have F_m_W_rest := fun_of (st := sWheel_rest) D_m_W_rest
  have b_m_W_rest := F_m_W_rest.binds (ps := ["self", "name"]) fun _ _ _ _ _ _ us hl => match us, hl with | [_, _], _ => rfl
  obtain ⟨fd_m_W_whose, D_m_W_whose⟩ := c.t.d.def_ 11 rfl
  have F_m_W_whose := fun_of (st := sWheel_whose) D_m_W_whose
  have b_m_W_whose := F_m_W_whose.binds (ps := ["self"]) fun _ _ _ _ _ _ us hl => match us, hl with | [_], _ => rfl
  obtain ⟨fd_m_W_turn, D_m_W_turn⟩ := c.t.d.def_ 12 rfl
  have F_m_W_turn := fun_of (st := sWheel_turn) D_m_W_turn
  have b_m_W_turn := F_m_W_turn.binds (ps := ["self"]) fun _ _ _ _ _ _ us hl => match us, hl with | [_], _ => rfl
  obtain ⟨fd_m_W_names, D_m_W_names⟩ := c.t.d.def_ 13 rfl
  have F_m_W_names := fun_of (st := sWheel_names) D_m_W_names
  have b_m_W_names := F_m_W_names.binds (ps := ["self"]) fun _ _ _ _ _ _ us hl => match us, hl with | [_], _ => rfl
  obtain ⟨fd_g_is_name, D_g_is_name⟩ := c.t.d.def_ 14 rfl
  have F_g_is_name := funC_of (st := s_is_name) D_g_is_name
  have b_g_is_name := (fun_of (st := s_is_name) D_g_is_name).binds (ps := ["thing"]) fun _ _ _ _ _ _ us hl => match us, hl with | [_], _ => rfl
  obtain ⟨tL, mLong⟩ := He.int_ok X G (c.t.d.fact 83 rfl)
  have zall := He.free_ok X G (c.t.d.fact 84 rfl)
  obtain ⟨fd_m_H_need_team, D_m_H_need_team⟩ := c.t.d.def_ 15 rfl
  have F_m_H_need_team := fun_of (st := sHouse_need_team) D_m_H_need_team
  have b_m_H_need_team := F_m_H_need_team.binds (ps := ["self", "team"]) fun _ _ _ _ _ _ us hl => match us, hl with | [_, _], _ => rfl
  obtain ⟨fd_m_H_need_name, D_m_H_need_name⟩ := c.t.d.def_ 16 rfl
  have F_m_H_need_name := fun_of (st := sHouse_need_name) D_m_H_need_name
  have b_m_H_need_name := F_m_H_need_name.binds (ps := ["self", "name"]) fun _ _ _ _ _ _ us hl => match us, hl with | [_, _], _ => rfl
  obtain ⟨fd_m_H_need_hand, D_m_H_need_hand⟩ := c.t.d.def_ 17 rfl
  have F_m_H_need_hand := fun_of (st := sHouse_need_hand) D_m_H_need_hand
  have b_m_H_need_hand := F_m_H_need_hand.binds (ps := ["self", "name"]) fun _ _ _ _ _ _ us hl => match us, hl with | [_, _], _ => rfl
  obtain ⟨fd_m_H_wheel_around, D_m_H_wheel_around⟩ := c.t.d.def_ 18 rfl
  have F_m_H_wheel_around := fun_of (st := sHouse_wheel_around) D_m_H_wheel_around
  have b_m_H_wheel_around := F_m_H_wheel_around.binds (ps := ["self", "name"]) fun _ _ _ _ _ _ us hl => match us, hl with | [_, _], _ => rfl
  obtain ⟨fd_m_H_wake, D_m_H_wake⟩ := c.t.d.def_ 19 rfl
  have F_m_H_wake := fun_of (st := sHouse_wake) D_m_H_wake
  have b_m_H_wake := F_m_H_wake.binds (ps := ["self", "name"]) fun _ _ _ _ _ _ us hl => match us, hl with | [_, _], _ => rfl
  obtain ⟨fd_m_H_rest, D_m_H_rest⟩ := c.t.d.def_ 20 rfl
  have F_m_H_rest := fun_of (st := sHouse_rest) D_m_H_rest
  have b_m_H_rest := F_m_H_rest.binds (ps := ["self", "name"]) fun _ _ _ _ _ _ us hl => match us, hl with | [_, _], _ => rfl
  obtain ⟨fd_m_H_reshare, D_m_H_reshare⟩ := c.t.d.def_ 21 rfl
  have F_m_H_reshare := fun_of (st := sHouse_reshare) D_m_H_reshare
  have b_m_H_reshare := F_m_H_reshare.binds (ps := ["self", "name", "share"]) fun _ _ _ _ _ _ us hl => match us, hl with | [_, _, _], _ => rfl
  obtain ⟨fd_m_H_deal, D_m_H_deal⟩ := c.t.d.def_ 22 rfl
  have F_m_H_deal := fun_of (st := sHouse_deal) D_m_H_deal
  have b_m_H_deal := F_m_H_deal.binds (ps := ["self"]) fun _ _ _ _ _ _ us hl => match us, hl with | [_], _ => rfl
  obtain ⟨fd_m_H_leave, D_m_H_leave⟩ := c.t.d.def_ 23 rfl
  have F_m_H_leave := fun_of (st := sHouse_leave) D_m_H_leave
  have b_m_H_leave := F_m_H_leave.binds (ps := ["self", "name"]) fun _ _ _ _ _ _ us hl => match us, hl with | [_, _], _ => rfl
  obtain ⟨fd_k_House, D_k_House⟩ := c.t.d.def_ 24 rfl
  have F_k_House := fun_of (st := sHouse_init) D_k_House
  have b_k_House := F_k_House.binds (ps := ["self"]) fun _ _ _ _ _ _ us hl => match us, hl with | [_], _ => rfl
  obtain ⟨fd_m_H_settle, D_m_H_settle⟩ := c.t.d.def_ 25 rfl
  have F_m_H_settle := fun_of (st := sHouse_settle) D_m_H_settle
  have b_m_H_settle := F_m_H_settle.binds (ps := ["self", "name", "above", "share"]) fun _ _ _ _ _ _ us hl => match us, hl with | [_, _, _, _], _ => rfl
  obtain ⟨fd_m_H_hand, D_m_H_hand⟩ := c.t.d.def_ 26 rfl
  have F_m_H_hand := fun_of (st := sHouse_hand) D_m_H_hand
  have b_m_H_hand := F_m_H_hand.binds (ps := ["self", "name", "above", "share"]) fun _ _ _ _ _ _ us hl => match us, hl with | [_, _, _, _], _ => rfl
  obtain ⟨fd_m_H_team, D_m_H_team⟩ := c.t.d.def_ 27 rfl
  have F_m_H_team := fun_of (st := sHouse_team) D_m_H_team
  have b_m_H_team := F_m_H_team.binds (ps := ["self", "name", "above", "share"]) fun _ _ _ _ _ _ us hl => match us, hl with | [_, _, _, _], _ => rfl
  obtain ⟨fd_g_read_share, D_g_read_share⟩ := c.t.d.def_ 28 rfl
  have F_g_read_share := fun_of (st := s_read_share) D_g_read_share
  have b_g_read_share := F_g_read_share.binds (ps := ["word"]) fun _ _ _ _ _ _ us hl => match us, hl with | [_], _ => rfl
  obtain ⟨fd_g_read_part, D_g_read_part⟩ := c.t.d.def_ 29 rfl
  have F_g_read_part := fun_of (st := s_read_part) D_g_read_part
  have b_g_read_part := F_g_read_part.binds (ps := ["part", "word"]) fun _ _ _ _ _ _ us hl => match us, hl with | [_, _], _ => rfl
  obtain ⟨fd_g_read, D_g_read⟩ := c.t.d.def_ 30 rfl
  have F_g_read := fun_of (st := s_read) D_g_read
  have b_g_read := F_g_read.binds (ps := ["line"]) fun _ _ _ _ _ _ us hl => match us, hl with | [_], _ => rfl
  obtain ⟨fd_g_shown, D_g_shown⟩ := c.t.d.def_ 31 rfl
  have F_g_shown := fun_of (st := s_shown) D_g_shown
  have b_g_shown := F_g_shown.binds (ps := ["deed"]) fun _ _ _ _ _ _ us hl => match us, hl with | [_], _ => rfl
  obtain ⟨fd_g_do, D_g_do⟩ := c.t.d.def_ 32 rfl
  have F_g_do := fun_of (st := s_do) D_g_do
  have b_g_do := F_g_do.binds (ps := ["house", "deed"]) fun _ _ _ _ _ _ us hl => match us, hl with | [_, _], _ => rfl
  obtain ⟨fd_g_answer, D_g_answer⟩ := c.t.d.def_ 33 rfl
  have F_g_answer := fun_of (st := s_answer) D_g_answer
  have b_g_answer := F_g_answer.binds (ps := ["house", "line"]) fun _ _ _ _ _ _ us hl => match us, hl with | [_, _], _ => rfl
  obtain ⟨fd_g_play, D_g_play⟩ := c.t.d.def_ 34 rfl
  have F_g_play := fun_of (st := s_play) D_g_play
  have b_g_play := F_g_play.binds (ps := ["lines"]) fun _ _ _ _ _ _ us hl => match us, hl with | [_], _ => rfl
  obtain ⟨fd_g_names_by, D_g_names_by⟩ := c.t.d.def_ 35 rfl
  have F_g_names_by := fun_of (st := s_L_names_by) D_g_names_by
  have b_g_names_by := F_g_names_by.binds (ps := ["_law_cell"]) fun _ _ _ _ _ _ us hl => match us, hl with | [_], _ => rfl
  obtain ⟨fd_g_deed_by, D_g_deed_by⟩ := c.t.d.def_ 36 rfl
  have F_g_deed_by := fun_of (st := s_L_deed_by) D_g_deed_by
  have b_g_deed_by := F_g_deed_by.binds (ps := ["_law_names", "_law_cell"]) fun _ _ _ _ _ _ us hl => match us, hl with | [_, _], _ => rfl
  obtain ⟨fd_g_text_by, D_g_text_by⟩ := c.t.d.def_ 37 rfl
  have F_g_text_by := fun_of (st := s_L_text_by) D_g_text_by
  have b_g_text_by := F_g_text_by.binds (ps := ["_law_deed"]) fun _ _ _ _ _ _ us hl => match us, hl with | [_], _ => rfl
  obtain ⟨fd_g_changed, D_g_changed⟩ := c.t.d.def_ 38 rfl
  have F_g_changed := fun_of (st := s_L_changed) D_g_changed
  have b_g_changed := F_g_changed.binds (ps := ["_law_text", "_law_cell"]) fun _ _ _ _ _ _ us hl => match us, hl with | [_, _], _ => rfl
  obtain ⟨fd_g_Lis_name, D_g_Lis_name⟩ := c.t.d.def_ 39 rfl
  have F_g_Lis_name := fun_of (st := s_L_is_name) D_g_Lis_name
  have b_g_Lis_name := F_g_Lis_name.binds (ps := ["_law_word"]) fun _ _ _ _ _ _ us hl => match us, hl with | [_], _ => rfl
  obtain ⟨fd_g_is_share, D_g_is_share⟩ := c.t.d.def_ 40 rfl
  have F_g_is_share := fun_of (st := s_L_is_share) D_g_is_share
  have b_g_is_share := F_g_is_share.binds (ps := ["_law_word"]) fun _ _ _ _ _ _ us hl => match us, hl with | [_], _ => rfl
  obtain ⟨fd_g_due, D_g_due⟩ := c.t.d.def_ 41 rfl
  have F_g_due := fun_of (st := s_L_due) D_g_due
  have b_g_due := F_g_due.binds (ps := ["_law_text"]) fun _ _ _ _ _ _ us hl => match us, hl with | [_], _ => rfl
  obtain ⟨fd_g_Lread, D_g_Lread⟩ := c.t.d.def_ 42 rfl
  have F_g_Lread := fun_of (st := s_L_read) D_g_Lread
  have b_g_Lread := F_g_Lread.binds (ps := ["_law_text"]) fun _ _ _ _ _ _ us hl => match us, hl with | [_], _ => rfl
  obtain ⟨fd_g_Lanswer, D_g_Lanswer⟩ := c.t.d.def_ 43 rfl
  have F_g_Lanswer := fun_of (st := s_L_answer) D_g_Lanswer
  have b_g_Lanswer := F_g_Lanswer.binds (ps := ["_law_house", "_law_deed"]) fun _ _ _ _ _ _ us hl => match us, hl with | [_, _], _ => rfl
  obtain ⟨fd_law, D_law⟩ := c.t.d.def_ 44 rfl
  have F_law := fun_of (st := s_law) D_law
  have tb : (("is_name", none) : He.Defn) ∈ tbs := List.mem_cons_self
  have own : ∀ p : Addr × Addr, p ∈ [He.cT K ("is_name", none)] → p = He.cT K ("is_name", none) := fun p hp => List.mem_singleton.mp hp
  refine ⟨fd_law, [He.cT K ("is_name", none)], spLawT K (He.cT K ("is_name", none)).2, fun p hp => by rw [own p hp]; exact c.empty _ tb, fun p hp => by rw [own p hp]; exact c.out _ tb, fun p hp => by rw [own p hp]; exact PySem.W.codeHd_of_K X (c.hd _ tb),
    fun s v => (FunD.bindsA (ps := ["_law_script"]) D_law fun _ _ _ _ _ _ us hl => match us, hl with | [_], _ => rfl) s [v] rfl, fun H a ns hl _ hH hS => ⟨a, ns, rfl, hS, ⟨#[], hH _ List.mem_cons_self, trivial⟩, hl, fun _ => rfl⟩, fun base _ _ hTB => ?_⟩
  have tb0 := hTB _ List.mem_cons_self
  have TB : GxR.TabB base mg (He.codeOf K ("is_name", none)) (He.cT K ("is_name", none)).2 := ⟨tb0.code, tb0.bm, tb0.gP⟩
  have g_stands_in : DOk PySem.Challenge.rw_sharetime_k14_deeds_as_texts.prog w K mg base 1 "stands_in" ["thing", "table"] spStands := ⟨_, _, He.glo_ok X G (c.t.d.fact 67 rfl), D_g_stands_in.kp, ok_stands F_g_stands_in T, b_g_stands_in⟩
  have g_is_whole : DOk PySem.Challenge.rw_sharetime_k14_deeds_as_texts.prog w K mg base 1 "is_whole" ["thing"] spWhole := ⟨_, _, He.glo_ok X G (c.t.d.fact 68 rfl), D_g_is_whole.kp, ok_whole F_g_is_whole T, b_g_is_whole⟩
  have g_step : DOk PySem.Challenge.rw_sharetime_k14_deeds_as_texts.prog w K mg base 2 "step" ["share"] (spStep (He.ga K "BadShare")) := ⟨_, _, He.glo_ok X G (c.t.d.fact 69 rfl), D_g_step.kp, ok_step F_g_step T g_is_whole, b_g_step⟩
  have k_Sharer : KOk PySem.Challenge.rw_sharetime_k14_deeds_as_texts.prog w K mg base 1 "Sharer" (He.ga K "Sharer") ["self", "share"] (spSInit (He.ga K "Sharer")) := ⟨_, _, He.mkr_ok (c.t.d.fact 70 rfl), ok_sinit F_k_Sharer T, He.glo_ok X G (c.t.d.fact 71 rfl), b_k_Sharer⟩
  have k_Wheel : KOk PySem.Challenge.rw_sharetime_k14_deeds_as_texts.prog w K mg base 1 "Wheel" (He.ga K "Wheel") ["self"] (spWInit (He.ga K "Wheel") (He.ga K "Sharer")) := ⟨_, _, He.mkr_ok (c.t.d.fact 72 rfl), ok_winit F_k_Wheel T, He.glo_ok X G (c.t.d.fact 73 rfl), b_k_Wheel⟩
  have m_W_sharer : MOk PySem.Challenge.rw_sharetime_k14_deeds_as_texts.prog w K mg base 2 (He.ga K "Wheel") "_sharer" ["self", "name"] (spSharer (He.ga K "Wheel") (He.ga K "Sharer") (He.ga K "NoName")) := ⟨_, _, He.meth_ok (c.t.d.fact 74 rfl), ok_sharer F_m_W_sharer T g_stands_in, b_m_W_sharer⟩
  have m_W_enter : MOk PySem.Challenge.rw_sharetime_k14_deeds_as_texts.prog w K mg base 3 (He.ga K "Wheel") "enter" ["self", "name", "share"] (spEnter (He.ga K "Wheel") (He.ga K "Sharer") (He.ga K "BadShare") (He.ga K "Twice")) := ⟨_, _, He.meth_ok (c.t.d.fact 75 rfl), ok_enter F_m_W_enter T g_step k_Sharer, b_m_W_enter⟩
  have m_W_leave : MOk PySem.Challenge.rw_sharetime_k14_deeds_as_texts.prog w K mg base 3 (He.ga K "Wheel") "leave" ["self", "name"] (spLeave (He.ga K "Wheel") (He.ga K "Sharer") (He.ga K "NoName")) := ⟨_, _, He.meth_ok (c.t.d.fact 76 rfl), ok_leave F_m_W_leave T m_W_sharer, b_m_W_leave⟩
  have m_W_reshare : MOk PySem.Challenge.rw_sharetime_k14_deeds_as_texts.prog w K mg base 3 (He.ga K "Wheel") "reshare" ["self", "name", "share"] (spReshare (He.ga K "Wheel") (He.ga K "Sharer") (He.ga K "BadShare") (He.ga K "NoName")) := ⟨_, _, He.meth_ok (c.t.d.fact 77 rfl), ok_reshare F_m_W_reshare T m_W_sharer g_step, b_m_W_reshare⟩
  have m_W_wake : MOk PySem.Challenge.rw_sharetime_k14_deeds_as_texts.prog w K mg base 3 (He.ga K "Wheel") "wake" ["self", "name"] (spWake (He.ga K "Wheel") (He.ga K "Sharer") (He.ga K "NoName")) := ⟨_, _, He.meth_ok (c.t.d.fact 78 rfl), ok_wake F_m_W_wake T m_W_sharer, b_m_W_wake⟩
  have m_W_rest : MOk PySem.Challenge.rw_sharetime_k14_deeds_as_texts.prog w K mg base 3 (He.ga K "Wheel") "rest" ["self", "name"] (spRest (He.ga K "Wheel") (He.ga K "Sharer") (He.ga K "NoName")) := ⟨_, _, He.meth_ok (c.t.d.fact 79 rfl), ok_rest F_m_W_rest T m_W_sharer, b_m_W_rest⟩
  have m_W_whose : MOk PySem.Challenge.rw_sharetime_k14_deeds_as_texts.prog w K mg base 1 (He.ga K "Wheel") "whose" ["self"] (spWhose (He.ga K "Wheel") (He.ga K "Sharer")) := ⟨_, _, He.meth_ok (c.t.d.fact 80 rfl), ok_whose F_m_W_whose T, b_m_W_whose⟩
  have m_W_turn : MOk PySem.Challenge.rw_sharetime_k14_deeds_as_texts.prog w K mg base 3 (He.ga K "Wheel") "turn" ["self"] (spTurn (He.ga K "Wheel") (He.ga K "Sharer")) := ⟨_, _, He.meth_ok (c.t.d.fact 81 rfl), ok_turn F_m_W_turn T m_W_whose g_step, b_m_W_turn⟩
  have m_W_names : MOk PySem.Challenge.rw_sharetime_k14_deeds_as_texts.prog w K mg base 1 (He.ga K "Wheel") "names" ["self"] (spNames (He.ga K "Wheel") (He.ga K "Sharer")) := ⟨_, _, He.meth_ok (c.t.d.fact 82 rfl), ok_names F_m_W_names T, b_m_W_names⟩
  have g_is_name : DOk PySem.Challenge.rw_sharetime_k14_deeds_as_texts.prog w K mg base 2 "is_name" ["thing"] (spIsName (He.cT K ("is_name", none)).2) := ⟨_, _, He.glo_ok X G (c.t.d.fact 85 rfl), F_g_is_name.kp, ok_is_name F_g_is_name L TB mLong zall, b_g_is_name⟩
  have m_H_need_team : MOk PySem.Challenge.rw_sharetime_k14_deeds_as_texts.prog w K mg base 2 (He.ga K "House") "_need_team" ["self", "team"] (spNeedTeam (He.ga K "House") (He.ga K "Wheel") (He.ga K "Sharer") (He.ga K "NoTeam")) := ⟨_, _, He.meth_ok (c.t.d.fact 86 rfl), ok_H_need_team F_m_H_need_team T L g_stands_in h_H r_M, b_m_H_need_team⟩
  have m_H_need_name : MOk PySem.Challenge.rw_sharetime_k14_deeds_as_texts.prog w K mg base 2 (He.ga K "House") "_need_name" ["self", "name"] (spNeedName (He.ga K "House") (He.ga K "Wheel") (He.ga K "Sharer") (He.ga K "NoName")) := ⟨_, _, He.meth_ok (c.t.d.fact 87 rfl), ok_H_need_name F_m_H_need_name T L g_stands_in h_H, b_m_H_need_name⟩
  have m_H_need_hand : MOk PySem.Challenge.rw_sharetime_k14_deeds_as_texts.prog w K mg base 3 (He.ga K "House") "_need_hand" ["self", "name"] (spNeedHand (He.ga K "House") (He.ga K "Wheel") (He.ga K "Sharer") (He.ga K "NoName") (He.ga K "NotHand")) := ⟨_, _, He.meth_ok (c.t.d.fact 88 rfl), ok_H_need_hand F_m_H_need_hand T L h_H m_H_need_name r_D, b_m_H_need_hand⟩
  have m_H_wheel_around : MOk PySem.Challenge.rw_sharetime_k14_deeds_as_texts.prog w K mg base 1 (He.ga K "House") "_wheel_around" ["self", "name"] (spAround (He.ga K "House") (He.ga K "Wheel") (He.ga K "Sharer")) := ⟨_, _, He.meth_ok (c.t.d.fact 89 rfl), ok_H_wheel_around F_m_H_wheel_around T L h_H, b_m_H_wheel_around⟩
  have m_H_wake : MOk PySem.Challenge.rw_sharetime_k14_deeds_as_texts.prog w K mg base 4 (He.ga K "House") "wake" ["self", "name"] (spHWake (He.ga K "House") (He.ga K "Wheel") (He.ga K "Sharer") (He.ga K "NoName") (He.ga K "NotHand")) := ⟨_, _, He.meth_ok (c.t.d.fact 90 rfl), ok_H_wake F_m_H_wake T L h_H m_H_need_hand m_H_wheel_around m_W_wake, b_m_H_wake⟩
  have m_H_rest : MOk PySem.Challenge.rw_sharetime_k14_deeds_as_texts.prog w K mg base 4 (He.ga K "House") "rest" ["self", "name"] (spHRest (He.ga K "House") (He.ga K "Wheel") (He.ga K "Sharer") (He.ga K "NoName") (He.ga K "NotHand")) := ⟨_, _, He.meth_ok (c.t.d.fact 91 rfl), ok_H_rest F_m_H_rest T L h_H m_H_need_hand m_H_wheel_around m_W_rest m_W_whose, b_m_H_rest⟩
  have m_H_reshare : MOk PySem.Challenge.rw_sharetime_k14_deeds_as_texts.prog w K mg base 4 (He.ga K "House") "reshare" ["self", "name", "share"] (spHReshare (He.ga K "House") (He.ga K "Wheel") (He.ga K "Sharer") (He.ga K "BadShare") (He.ga K "NoName")) := ⟨_, _, He.meth_ok (c.t.d.fact 92 rfl), ok_H_reshare F_m_H_reshare T L h_H m_H_need_name m_H_wheel_around m_W_reshare, b_m_H_reshare⟩
  have m_H_deal : MOk PySem.Challenge.rw_sharetime_k14_deeds_as_texts.prog w K mg base 4 (He.ga K "House") "deal" ["self"] (spDeal (He.ga K "House") (He.ga K "Wheel") (He.ga K "Sharer")) := ⟨_, _, He.meth_ok (c.t.d.fact 93 rfl), ok_H_deal F_m_H_deal T L h_H m_W_turn, b_m_H_deal⟩
  have m_H_leave : MOk PySem.Challenge.rw_sharetime_k14_deeds_as_texts.prog w K mg base 5 (He.ga K "House") "leave" ["self", "name"] (spHLeave (He.ga K "House") (He.ga K "Wheel") (He.ga K "Sharer") (He.ga K "NoName") (He.ga K "NotEmpty")) := ⟨_, _, He.meth_ok (c.t.d.fact 94 rfl), ok_H_leave F_m_H_leave T L h_H m_H_need_name m_H_rest m_H_wheel_around m_W_leave m_W_names r_Y, b_m_H_leave⟩
  have k_House : KOk PySem.Challenge.rw_sharetime_k14_deeds_as_texts.prog w K mg base 3 "House" (He.ga K "House") ["self"] (spHInit (He.ga K "House") (He.ga K "Wheel") (He.ga K "Sharer")) := ⟨_, _, He.mkr_ok (c.t.d.fact 95 rfl), ok_H_init F_k_House T L h_H k_Wheel, He.glo_ok X G (c.t.d.fact 96 rfl), b_k_House⟩
  have m_H_settle : MOk PySem.Challenge.rw_sharetime_k14_deeds_as_texts.prog w K mg base 5 (He.ga K "House") "_settle" ["self", "name", "above", "share"] (spSettle (He.cT K ("is_name", none)).2 (He.ga K "House") (He.ga K "Wheel") (He.ga K "Sharer") (He.ga K "BadShare") (He.ga K "Twice") (He.ga K "BadName") (He.ga K "NoTeam")) := ⟨_, _, He.meth_ok (c.t.d.fact 97 rfl), ok_H_settle F_m_H_settle T L g_is_name h_H m_H_need_team m_W_enter r_A, b_m_H_settle⟩
  have m_H_hand : MOk PySem.Challenge.rw_sharetime_k14_deeds_as_texts.prog w K mg base 6 (He.ga K "House") "hand" ["self", "name", "above", "share"] (spSettle (He.cT K ("is_name", none)).2 (He.ga K "House") (He.ga K "Wheel") (He.ga K "Sharer") (He.ga K "BadShare") (He.ga K "Twice") (He.ga K "BadName") (He.ga K "NoTeam")) := ⟨_, _, He.meth_ok (c.t.d.fact 98 rfl), ok_H_hand F_m_H_hand T L h_H m_H_settle, b_m_H_hand⟩
  have m_H_team : MOk PySem.Challenge.rw_sharetime_k14_deeds_as_texts.prog w K mg base 6 (He.ga K "House") "team" ["self", "name", "above", "share"] (spTeam (He.cT K ("is_name", none)).2 (He.ga K "House") (He.ga K "Wheel") (He.ga K "Sharer") (He.ga K "BadShare") (He.ga K "Twice") (He.ga K "BadName") (He.ga K "NoTeam")) := ⟨_, _, He.meth_ok (c.t.d.fact 99 rfl), ok_H_team F_m_H_team T L h_H k_Wheel m_H_settle, b_m_H_team⟩
  have g_read_share : DOk PySem.Challenge.rw_sharetime_k14_deeds_as_texts.prog w K mg base 1 "read_share" ["word"] (spShr (He.ga K "NoDeed")) := ⟨_, _, He.glo_ok X G (c.t.d.fact 100 rfl), D_g_read_share.kp, ok_read_share F_g_read_share T L r_V, b_g_read_share⟩
  have g_read_part : DOk PySem.Challenge.rw_sharetime_k14_deeds_as_texts.prog w K mg base 4 "read_part" ["part", "word"] (spPart (He.cT K ("is_name", none)).2 (He.ga K "NoDeed")) := ⟨_, _, He.glo_ok X G (c.t.d.fact 101 rfl), D_g_read_part.kp, ok_read_part F_g_read_part T L g_is_name g_read_share h_H h_TS r_V, b_g_read_part⟩
  have g_read : DOk PySem.Challenge.rw_sharetime_k14_deeds_as_texts.prog w K mg base 5 "read" ["line"] (spRead (He.cT K ("is_name", none)).2 (He.ga K "NoDeed")) := ⟨_, _, He.glo_ok X G (c.t.d.fact 102 rfl), D_g_read.kp, ok_read F_g_read T L g_read_part h_PA r_V, b_g_read⟩
  have g_shown : DOk PySem.Challenge.rw_sharetime_k14_deeds_as_texts.prog w K mg base 1 "shown" ["deed"] spShown := ⟨_, _, He.glo_ok X G (c.t.d.fact 103 rfl), D_g_shown.kp, ok_shown F_g_shown T L h_H h_TS, b_g_shown⟩
  have g_do : DOk PySem.Challenge.rw_sharetime_k14_deeds_as_texts.prog w K mg base 7 "do" ["house", "deed"] (spDo (He.cT K ("is_name", none)).2 (He.ga K "House") (He.ga K "Wheel") (He.ga K "Sharer") (He.ga K "Twice") (He.ga K "NoTeam") (He.ga K "NoName") (He.ga K "NotHand") (He.ga K "NotEmpty")) := ⟨_, _, He.glo_ok X G (c.t.d.fact 104 rfl), D_g_do.kp, ok_do F_g_do T L h_H m_H_deal m_H_hand m_H_leave m_H_reshare m_H_rest m_H_team m_H_wake, b_g_do⟩
  have g_answer : DOk PySem.Challenge.rw_sharetime_k14_deeds_as_texts.prog w K mg base 8 "answer" ["house", "line"] (spAns (He.cT K ("is_name", none)).2 (He.ga K "House") (He.ga K "Wheel") (He.ga K "Sharer")) := ⟨_, _, He.glo_ok X G (c.t.d.fact 105 rfl), D_g_answer.kp, ok_answer F_g_answer T L e_DD e_DM e_DN e_DT e_DV e_MM e_MT e_MV e_NM e_NN e_NT e_NV e_TT e_TV e_VV e_YD e_YM e_YN e_YT e_YV e_YY g_do g_read ge_D ge_M ge_V ge_Y, b_g_answer⟩
  have g_play : DOk PySem.Challenge.rw_sharetime_k14_deeds_as_texts.prog w K mg base 9 "play" ["lines"] (spPlay K (He.cT K ("is_name", none)).2) := ⟨_, _, He.glo_ok X G (c.t.d.fact 106 rfl), D_g_play.kp, ok_play F_g_play T L g_answer k_House, b_g_play⟩
  have g_names_by : DOk PySem.Challenge.rw_sharetime_k14_deeds_as_texts.prog w K mg base 1 "_law_names_by" ["_law_cell"] spNm14 := ⟨_, _, He.glo_ok X G (c.t.d.fact 107 rfl), D_g_names_by.kp, ok_L_names_by F_g_names_by T L, b_g_names_by⟩
  have g_deed_by : DOk PySem.Challenge.rw_sharetime_k14_deeds_as_texts.prog w K mg base 1 "_law_deed_by" ["_law_names", "_law_cell"] spDeedBy := ⟨_, _, He.glo_ok X G (c.t.d.fact 108 rfl), D_g_deed_by.kp, ok_L_deed_by F_g_deed_by T L, b_g_deed_by⟩
  have g_text_by : DOk PySem.Challenge.rw_sharetime_k14_deeds_as_texts.prog w K mg base 1 "_law_text_by" ["_law_deed"] spShown := ⟨_, _, He.glo_ok X G (c.t.d.fact 109 rfl), D_g_text_by.kp, ok_L_text_by F_g_text_by T L, b_g_text_by⟩
  have g_changed : DOk PySem.Challenge.rw_sharetime_k14_deeds_as_texts.prog w K mg base 1 "_law_changed" ["_law_text", "_law_cell"] spChg := ⟨_, _, He.glo_ok X G (c.t.d.fact 110 rfl), D_g_changed.kp, ok_L_changed F_g_changed T L, b_g_changed⟩
  have g_Lis_name : DOk PySem.Challenge.rw_sharetime_k14_deeds_as_texts.prog w K mg base 1 "_law_is_name" ["_law_word"] spLN := ⟨_, _, He.glo_ok X G (c.t.d.fact 111 rfl), D_g_Lis_name.kp, ok_L_is_name F_g_Lis_name T L, b_g_Lis_name⟩
  have g_is_share : DOk PySem.Challenge.rw_sharetime_k14_deeds_as_texts.prog w K mg base 1 "_law_is_share" ["_law_word"] spLS := ⟨_, _, He.glo_ok X G (c.t.d.fact 112 rfl), D_g_is_share.kp, ok_L_is_share F_g_is_share T L, b_g_is_share⟩
  have g_due : DOk PySem.Challenge.rw_sharetime_k14_deeds_as_texts.prog w K mg base 2 "_law_due" ["_law_text"] spDue14 := ⟨_, _, He.glo_ok X G (c.t.d.fact 113 rfl), D_g_due.kp, ok_L_due F_g_due T L g_Lis_name g_is_share z_tuple, b_g_due⟩
  have g_Lread : DOk PySem.Challenge.rw_sharetime_k14_deeds_as_texts.prog w K mg base 6 "_law_read" ["_law_text"] (spLRead (He.cT K ("is_name", none)).2) := ⟨_, _, He.glo_ok X G (c.t.d.fact 114 rfl), D_g_Lread.kp, ok_L_read F_g_Lread T L cc_V e_VV g_read ge_A ge_D ge_E ge_M ge_U ge_V ge_Y q_VA q_VB q_VD q_VE q_VM q_VN q_VT q_VU q_VY, b_g_Lread⟩
  have g_Lanswer : DOk PySem.Challenge.rw_sharetime_k14_deeds_as_texts.prog w K mg base 7 "_law_answer" ["_law_house", "_law_deed"] (spLAns (He.cT K ("is_name", none)).2 (He.ga K "House") (He.ga K "Wheel") (He.ga K "Sharer")) := ⟨_, _, He.glo_ok X G (c.t.d.fact 115 rfl), D_g_Lanswer.kp, ok_L_answer F_g_Lanswer T L e_DD e_DM e_DN e_DT e_MM e_MT e_NM e_NN e_NT e_TT e_YD e_YM e_YN e_YT e_YY ge_D ge_M ge_Y h_H m_H_deal m_H_hand m_H_leave m_H_reshare m_H_rest m_H_team m_H_wake, b_g_Lanswer⟩
  exact ok_law F_law T L g_Lanswer g_Lread g_changed g_deed_by g_due g_names_by g_play g_shown g_text_by k_House z_tuple
end Mine
open PySem PySem.W PySem.Calls PyProof.Rows
set_option maxRecDepth 100000 in
set_option maxHeartbeats 0 in
theorem PySem.Challenge.cw_sharetime_k14_deeds_as_texts_holds : PySem.Challenge.rw_sharetime_k14_deeds_as_texts.Holds := by
  w_on; o_law
  refine HandSHeadRun.head_any (r := (OpenLaw.row PySem.Challenge.rw_sharetime_k14_deeds_as_texts)) (q := view (OpenLaw.row PySem.Challenge.rw_sharetime_k14_deeds_as_texts).prog [47]) (H := Mine.hk) (ob := Mine.ob) (M := 6000) (loose := Mine.loose) (d := HandSHeadRun.topDef (OpenLaw.row PySem.Challenge.rw_sharetime_k14_deeds_as_texts).prog 47) (kwd := []) Mine.ob_eq (by kernel_rfl) (fun s => by kernel_rfl) Mine.run_top (by kernel_rfl) (by kernel_rfl) (by kernel_rfl) (by rfl) (by first | assumption | decide +kernel) (by decide +kernel) ⟨rfl, rfl, rfl, rfl, rfl, by decide +kernel⟩ ?hw ?hc
  case hw => w_witness2
  case hc =>
    refine LamX.walk_ofTsE (l := PySem.Challenge.rw_sharetime_k14_deeds_as_texts) (n := 63) (k := 10) (x := "_law_script") (CX := fun _ => L2.CX0) rfl (by decide) (by kernel_rfl) ⟨rfl, by decide, by decide⟩ ?F (fun _ _ _ _ _ z => z)
    intro w mg fa h Y G hmg0
    obtain ⟨K, KX, c⟩ := Y
    have hmg : mg ("law" : PySem.Str) = some (.ref fa) := by
      have e : (HandSHeadRun.topDef (OpenLaw.row PySem.Challenge.rw_sharetime_k14_deeds_as_texts).prog 47).name = ("law" : PySem.Str) := by kernel_rfl
      rw [← e]
      exact hmg0
    exact ⟨K, KX, Mine.law_at KX G hmg c⟩
#print axioms PySem.Challenge.cw_sharetime_k14_deeds_as_texts_holds
