import PyProof.Rows.All
import Wide.All
import OpenK.AllK
import Wide.FinOn
import KE.RegKIsAll
import HandS.ForExc
import HandS.IsInst
import HandS.ExcIs
import HandS.FStr
import HandS.Small
import PySem.Challenge.RW_sharetime_k01_steps
set_option Elab.async false
set_option maxRecDepth 100000
set_option maxHeartbeats 4000000
namespace Mine
open PySem PySem.Spec PyProof.Rows L2
/-! ### the text by places -/
def top (i : Nat) : Stmt := PySem.Challenge.pw_sharetime_k01_steps.main.body.getD i (.Pass ⟨0, 0, 0, 0⟩)
abbrev sWhole : Stmt := top 6
abbrev sStep : Stmt := top 7
abbrev sThing : Stmt := top 9
abbrev sRight : Stmt := top 10
abbrev sLaw : Stmt := top 11
/-! ### the kinds of things that the law hands in -/
inductive Th (H : Hp) : V → Prop where
  | int (i : Int) : Th H (.int i)
  | bl (b : Bool) : Th H (.bl b)
  | non : Th H .non
  | str (z : Str) : Th H (.str z)
  | lst {a : Addr} {xs : List V} (e : H a = some (.lst xs)) : Th H (.ref a)
def isI : V → Bool
  | .int _ => true
  | _ => false
def isB : V → Bool
  | .bl _ => true
  | _ => false
def good : V → Bool
  | .int i => decide (1 ≤ i) && decide (i ≤ 12)
  | _ => false
theorem Th.ty {K : PySem.W.Frag} {H : Hp} {x : V} (h : Th H x) : ∃ t, TyX K H x t ∧ PySem.W.kitOne K t (.type "int") = some (isI x || isB x) ∧ PySem.W.kitOne K t (.type "bool") = some (isB x) := by
  cases h with
  | int i => exact ⟨_, .base (.int i), kit_ty (by show kitB "int" "int" = some true; decide +kernel), kit_ty (by show kitB "int" "bool" = some false; decide +kernel)⟩
  | bl b => exact ⟨_, .base (.bl b), kit_ty (by show kitB "bool" "int" = some true; decide +kernel), kit_ty (by show kitB "bool" "bool" = some true; decide +kernel)⟩
  | non => exact ⟨_, .base .non, kit_ty (by show kitB "NoneType" "int" = some false; decide +kernel), kit_ty (by show kitB "NoneType" "bool" = some false; decide +kernel)⟩
  | str z => exact ⟨_, .base (.str z), kit_ty (by show kitB "str" "int" = some false; decide +kernel), kit_ty (by show kitB "str" "bool" = some false; decide +kernel)⟩
  | lst e => exact ⟨_, .base (.lst e), kit_ty (by show kitB "list" "int" = some false; decide +kernel), kit_ty (by show kitB "list" "bool" = some false; decide +kernel)⟩
theorem exact_q {y : Int} (h1 : 1 ≤ y) (h2 : y ≤ 12) : Int.fdiv 27720 y * y = 27720 ∧ 0 ≤ Int.fdiv 27720 y ∧ Int.fdiv 27720 y ≤ 27720 := by
  have h : y = 1 ∨ y = 2 ∨ y = 3 ∨ y = 4 ∨ y = 5 ∨ y = 6 ∨ y = 7 ∨ y = 8 ∨ y = 9 ∨ y = 10 ∨ y = 11 ∨ y = 12 := by omega
  rcases h with h | h | h | h | h | h | h | h | h | h | h | h <;> (subst h; decide)
/-! ### what each def promises -/
def spWhole : Sp := fun vs H Q _ => ∃ x, vs = [x] ∧ Th H x ∧ Q (.bl (isI x)) H
def spStep (C : Addr) : Sp := fun vs H Q E => ∃ x, vs = [x] ∧ Th H x ∧ (∀ i, x = .int i → 1 ≤ i → i ≤ 12 → Q (.int (Int.fdiv 27720 i)) H) ∧ (good x = false → E (.ref C) none H)
def spThing : Sp := fun vs H Q _ => ∃ n, vs = [.int n] ∧ ∀ x H', Th H' x → Same H H' → Q x H'
def spRight : Sp := fun vs H Q _ => ∃ x, vs = [x] ∧ Th H x ∧ ∀ H', Same H H' → Q (.bl true) H'
def spLaw (K : PySem.W.Frag) : Sp := fun vs H Q _ => ∃ (a : Addr) (ns : List Int), vs = [.ref a] ∧ SqL K H a (ns.map V.int) ∧ ns.length ≤ 63 ∧ ∀ H', Q (.bl true) H'
/-! ### what the top has written -/
structure Txt (K : PySem.W.Frag) (mg : Str → Option Value) (S C : Addr) : Prop where
  gC : mg "BadShare" = some (.ref C)
  gS : mg "ShareError" = some (.ref S)
  xC : PySem.W.excIn K C [.type "ValueError", .type "Exception", .type "BaseException", .type "object"] "ValueError.__new__" = true
  kC : PySem.W.keepIn K (.ref C) = true
  bC : PySem.W.subIn K (.ref C) (.type "BaseException") = some true
  tC : PySem.W.typeIn K (.ref C) = some (.type "type")
  eC : PySem.W.exmOne K (.ref C) (.ref C) = some true
  ec : ExcC K C
  qS : PySem.W.kitOne K (.ref C) (.ref S) = some true
  qV : PySem.W.kitOne K (.ref C) (.type "ValueError") = some true
  isi : mg "isinstance" = none
  int : mg "int" = none
  bool : mg "bool" = none
  str : mg "str" = none
  ve : mg "ValueError" = none
  mR : ∃ t, mg "ROUND" = some (.int 27720 t)
  mM : ∃ t, mg "MOST" = some (.int 12 t)
/-! ### isinstance of the caught error -/
def rIsE2 (K : PySem.W.Frag) (D a : Addr) (cls : Value) (d : Option Addr) : List V → Hp → VK → Prop := fun xs H Q => cls = .ref D ∧ d = none ∧ rIsE K D a xs H Q
theorem call_isE2 {X : Cx} {a D : Addr} {oe : Obj} {pn : List (Addr × Obj)} {cls : Value} {d : Option Addr} (C : ExcC X.K D) (hz : Zc cls d oe) (hf : ∃ vs, oe.data = .fields vs) :
    CallR (X.suite a ((a, oe) :: pn)) (.builtin "isinstance") (rIsE2 X.K D a cls d) := by
  intro pins s σ H xs us Q I r h
  obtain ⟨rfl, rfl, h⟩ := h
  exact call_isE C hz hf pins s σ H xs us Q I r h
section
variable {P : Program} {w : World} {K : PySem.W.Frag} {mg : Str → Option Value} {base : Heap} {S C : Addr}
theorem scW : FnScope ["thing"] ["thing"] (defScope sWhole) := ⟨rfl, rfl, rfl, by decide +kernel, rfl, by decide +kernel, by decide +kernel⟩
theorem ok_whole {f : Addr} {fd : FuncData} (F : Fun K "is_whole" "is_whole" sWhole f fd) (T : Txt K mg S C) : FnOk P w K mg base CX0 1 f fd ["thing"] spWhole := by
  refine F.ok scW (fun vs H Q E h => ?_) (fun cdv A outer s H vs Q E hr h => ?_)
  · obtain ⟨x, rfl, _⟩ := h
    rfl
  · obtain ⟨x, rfl, hx, k⟩ := h
    refine ⟨_, pss_one (ps_ret (pe_and (pe_callB call_isi (by rfl) T.isi boot_isinstance (pa_cons (pv 0) (pa_cons (pe_bltn (v := .ty "int") (by rfl) T.int PyProof.Rows.boot_int rfl) pa_nil)))
      (pe_one (pe_not (pe_callB call_isi (by rfl) T.isi boot_isinstance (pa_cons (pv 0) (pa_cons (pe_bltn (v := .ty "bool") (by rfl) T.bool PyProof.Rows.boot_bool rfl) pa_nil))))))), ?_⟩
    obtain ⟨t, ty, e1, e2⟩ := hx.ty (K := K)
    refine ⟨_, rfl, _, _, t, _, _, rfl, .ty _, ty, e1, _, rfl, ?_⟩
    have k2 : isI x = false → Q (.bl false) H := fun z => by rw [← z]; exact k
    cases hx with
    | int i => exact iteT ⟨_, rfl, _, _, t, _, _, rfl, .ty _, ty, e2, _, rfl, k⟩
    | bl b => exact iteT ⟨_, rfl, _, _, t, _, _, rfl, .ty _, ty, e2, _, rfl, k⟩
    | non => exact iteF (k2 rfl)
    | str z => exact iteF (k2 rfl)
    | lst e => exact iteF (k2 rfl)
theorem scS : FnScope ["share"] ["share"] (defScope sStep) := ⟨rfl, rfl, rfl, by decide +kernel, rfl, by decide +kernel, by decide +kernel⟩
theorem ok_step {f fW : Addr} {fd fdW : FuncData} (F : Fun K "step" "step" sStep f fd) (T : Txt K mg S C) (FW : Fun K "is_whole" "is_whole" sWhole fW fdW) (bW : Binds K fdW ["thing"] []) (gW : mg "is_whole" = some (.ref fW)) :
    FnOk P w K mg base (L2.CX P w) 2 f fd ["share"] (spStep C) := by
  have GW : FnOk P w K mg base CX0 1 fW fdW ["thing"] spWhole := ok_whole FW T
  refine F.okX scS (fun vs H Q E h => ?_) (fun cdv A outer s H vs Q E hr h => ?_)
  · obtain ⟨x, rfl, _⟩ := h
    rfl
  · obtain ⟨x, rfl, hx, k, e⟩ := h
    obtain ⟨tR, mR⟩ := T.mR
    obtain ⟨tM, mM⟩ := T.mM
    refine ⟨_, pss_cons (ps_if (PW.pt (pw_or (pt_not (pt_val (pe_call GW hr rfl gW FW.kp bW .nil pass0 (pa_cons (pv 0) pa_nil)))) (pw_or1 (pt_not (pt_chain op_le op_le pe_int (pv 0) (pe_glob (v := .int 12) rfl mM ⟨_, rfl⟩))))))
        (pss_one (ps_raise rfl (takes_of rfl rfl rfl rfl) (pmk_ownA PySem.F.excBase_ValueError T.xC T.gC T.kC (raises_own T.bC T.tC) (by exact rfl)
          (pa_cons (pe_joined (.cons pe_str (.cons (pe_fmt (pe_glob (v := .int 12) rfl mM ⟨_, rfl⟩)) .nil))) pa_nil)))) pss_nil)
      (pss_one (ps_ret (pe_op op_fdivN (pe_glob (v := .int 27720) rfl mR ⟨_, rfl⟩) (pv 0)))), ?_⟩
    refine ⟨_, rfl, x, rfl, hx, _, rfl, ?_⟩
    have bad : good x = false → tJs [tC (.str "a share is a whole number from 1 to "), tFmt (tC (.int 12))] Str.empty [some x] H fun out H1 => (1 ≤ sizeLine ∧ E (.ref C) none H1) := fun z => by
      refine ⟨_, rfl, (by decide +kernel), .inr ⟨12, rfl, by decide +kernel, _, rfl, (by decide +kernel), by decide, e z⟩⟩
    cases hx with
    | int i =>
      refine iteF ⟨_, rfl, _, _, rfl, rfl, _, rfl, ?_⟩
      by_cases h1 : (1 : Int) ≤ i
      · rw [if_pos (decide_eq_true h1)]
        refine ⟨_, _, rfl, rfl, _, rfl, ?_⟩
        by_cases h2 : i ≤ 12
        · rw [decide_eq_true h2]
          refine iteF ?_
          exact ⟨_, rfl, _, _, rfl, rfl, ⟨by omega, by omega⟩, k i rfl h1 h2⟩
        · rw [decide_eq_false h2]
          refine iteT ?_
          exact bad (by show (decide (1 ≤ i) && decide (i ≤ 12)) = false; rw [decide_eq_false h2, Bool.and_false])
      · rw [if_neg (by rw [decide_eq_false h1]; exact Bool.false_ne_true)]
        refine ⟨_, rfl, ?_⟩
        refine iteT ?_
        exact bad (by show (decide (1 ≤ i) && decide (i ≤ 12)) = false; rw [decide_eq_false h1, Bool.false_and])
    | bl b => exact iteT (iteT (bad rfl))
    | non => exact iteT (iteT (bad rfl))
    | str z => exact iteT (iteT (bad rfl))
    | lst e => exact iteT (iteT (bad rfl))
theorem scT : FnScope ["_law_cell", "_law_number", "_law_kind"] ["_law_cell"] (defScope sThing) := ⟨rfl, rfl, rfl, by decide +kernel, rfl, by decide +kernel, by decide +kernel⟩
theorem ok_thing {f : Addr} {fd : FuncData} (F : Fun K "_law_thing_by" "_law_thing_by" sThing f fd) (T : Txt K mg S C) : FnOk P w K mg base CX0 1 f fd ["_law_cell"] spThing := by
  refine F.ok scT (fun vs H Q E h => ?_) (fun cdv A outer s H vs Q E hr h => ?_)
  · obtain ⟨x, rfl, _⟩ := h
    rfl
  · obtain ⟨n, rfl, k⟩ := h
    refine ⟨_, pss_cons (ps_set (i := 1) scT.nd rfl (Or.inl rfl) (pe_op op_sub (pe_op op_mod (pe_op op_fdiv (pv 0) pe_int) pe_int) pe_int))
      (pss_cons (ps_set (i := 2) scT.nd rfl (Or.inl rfl) (pe_op op_mod (pv 0) pe_int))
      (pss_cons (ps_if (pt_cmpR op_lt (pv 2) pe_int (nomark _)) (pss_one (ps_ret (pv 1))) pss_nil)
      (pss_cons (ps_if (pt_cmpR op_lt (pv 2) pe_int (nomark _)) (pss_one (ps_ret (pe_op op_add (pv 1) (pe_op op_mul (pe_op op_sub (pe_op op_mod (pe_op op_fdiv (pv 0) pe_int) pe_int) pe_int) (pe_op op_pow pe_int pe_int))))) pss_nil)
      (pss_cons (ps_if (pt_cmpR op_eq (pv 2) pe_int (nomark _)) (pss_one (ps_ret (pe_cmpR op_gt (pv 1) pe_int (nomark _)))) pss_nil)
      (pss_cons (ps_if (pt_cmpR op_eq (pv 2) pe_int (nomark _)) (pss_one (ps_ret pe_non)) pss_nil)
      (pss_cons (ps_if (pt_cmpR op_eq (pv 2) pe_int (nomark _)) (pss_one (ps_ret (pe_callTy call_str_int (by rfl) T.str PyProof.Rows.boot_str (pa_cons (pv 1) pa_nil)))) pss_nil)
      (pss_one (ps_ret (pe_lst (pa_cons (pv 1) pa_nil)))))))))), ?_⟩
    refine ⟨_, rfl, _, _, rfl, rfl, ⟨by decide, by decide⟩, _, _, rfl, rfl, (by show (0 : Int) < 16; decide), _, _, rfl, rfl, ?_⟩
    refine ⟨_, rfl, _, _, rfl, rfl, (by show (0 : Int) < 16; decide), ?_⟩
    generalize hm : n / 16 % 16 - 1 = m
    have b1 : -1 ≤ m := by omega
    have b2 : m ≤ 14 := by omega
    refine ⟨_, rfl, _, _, rfl, rfl, _, rfl, ?_⟩
    refine ite2 (fun _ => ?_) (fun _ => ?_)
    · exact ⟨_, rfl, k _ _ (.int _) (Same.refl _)⟩
    refine ⟨_, rfl, _, _, rfl, rfl, _, rfl, ?_⟩
    refine ite2 (fun _ => ?_) (fun _ => ?_)
    · refine ⟨_, rfl, _, rfl, _, _, rfl, rfl, ⟨by decide, by decide⟩, _, _, rfl, rfl, (by show (0 : Int) < 3; decide), _, _, rfl, rfl, _, _, rfl, rfl, ⟨by decide, by decide, by decide⟩, _, _, rfl, rfl, .inl ⟨by omega, by omega⟩, _, _, rfl, rfl, k _ _ (.int _) (Same.refl _)⟩
    refine ⟨_, rfl, rfl, _, rfl, ?_⟩
    refine ite2 (fun _ => ?_) (fun _ => ?_)
    · exact ⟨_, rfl, _, _, rfl, rfl, k _ _ (.bl _) (Same.refl _)⟩
    refine ⟨_, rfl, rfl, _, rfl, ?_⟩
    refine ite2 (fun _ => ?_) (fun _ => ?_)
    · exact k _ _ .non (Same.refl _)
    refine ⟨_, rfl, rfl, _, rfl, ?_⟩
    refine ite2 (fun _ => ?_) (fun _ => ?_)
    · exact ⟨_, rfl, _, rfl, Nat.lt_of_le_of_lt (Nat.log2_le_self _) (by omega), k _ _ (.str _) (Same.refl _)⟩
    refine ⟨_, rfl, (by show 1 ≤ sizeLine; decide), fun p hp => ?_⟩
    exact k _ _ (.lst upd_same) fun b o e => by rw [upd_ne (ne_of_none e hp)]; exact e
def rLe : R2 := rI0 fun i j => .bl (decide (i ≤ j))
/-- what the suite reckons -/
def tSuite (K : PySem.W.Frag) (S C : Addr) : Addr → Value → Option Addr → TS := fun a cls d =>
  tRet (tAndV (tCB (rIsE2 K C a cls d) (tCons (tVar 3) (tCons (tC (.ref S)) tNil))) (tAndV (tCB (rIsE2 K C a cls d) (tCons (tVar 3) (tCons (tC (.ty "ValueError")) tNil)))
    (tNotV (tAndV (tVar 1) (tChain rLe rLe (tC (.int 1)) (tVar 0) (tC (.int 12)))))))
theorem whole_read {H : Hp} {x : V} {σ : L2.St} {Q : VK} {i : Nat} (hx : Th H x) (h0 : σ[i]? = some (some x)) (k : Q (.bl (isI x)) H) :
    (tAndV (tCB (rIsi K) (tCons (tVar i) (tCons (tC (.ty "int")) tNil))) (tNotV (tCB (rIsi K) (tCons (tVar i) (tCons (tC (.ty "bool")) tNil))))) σ H Q := by
  obtain ⟨t, ty, e1, e2⟩ := hx.ty (K := K)
  refine ⟨_, h0, _, _, t, _, _, rfl, .ty _, ty, e1, _, rfl, ?_⟩
  have k2 : isI x = false → Q (.bl false) H := fun z => by rw [← z]; exact k
  cases hx with
  | int i => exact iteT ⟨_, h0, _, _, t, _, _, rfl, .ty _, ty, e2, _, rfl, k⟩
  | bl b => exact iteT ⟨_, h0, _, _, t, _, _, rfl, .ty _, ty, e2, _, rfl, k⟩
  | non => exact iteF (k2 rfl)
  | str z => exact iteF (k2 rfl)
  | lst e => exact iteF (k2 rfl)
theorem scR : FnScope ["_law_thing", "_law_whole", "_law_found", "error"] ["_law_thing"] (defScope sRight) := ⟨rfl, rfl, rfl, by decide +kernel, rfl, by decide +kernel, by decide +kernel⟩
theorem ok_right {f fW fS : Addr} {fd fdW fdS : FuncData} (F : Fun K "_law_right" "_law_right" sRight f fd) (T : Txt K mg S C) (FW : Fun K "is_whole" "is_whole" sWhole fW fdW) (bW : Binds K fdW ["thing"] []) (gW : mg "is_whole" = some (.ref fW))
    (FS : Fun K "step" "step" sStep fS fdS) (bS : Binds K fdS ["share"] []) (gS : mg "step" = some (.ref fS)) :
    FnOk P w K mg base CX0 3 f fd ["_law_thing"] spRight := by
  have GS : FnOk P w K mg base (L2.CX P w) 2 fS fdS ["share"] (spStep C) := ok_step FS T FW bW gW
  refine F.ok scR (fun vs H Q E h => ?_) (fun cdv A outer s H vs Q E hr h => ?_)
  · obtain ⟨x, rfl, _⟩ := h
    rfl
  · obtain ⟨x, rfl, hx, k⟩ := h
    refine ⟨_, pss_cons (ps_set (i := 1) scR.nd rfl (Or.inl rfl) (pe_and (pe_callB call_isi (by rfl) T.isi boot_isinstance (pa_cons (pv 0) (pa_cons (pe_bltn (v := .ty "int") (by rfl) T.int PyProof.Rows.boot_int rfl) pa_nil)))
        (pe_one (pe_not (pe_callB call_isi (by rfl) T.isi boot_isinstance (pa_cons (pv 0) (pa_cons (pe_bltn (v := .ty "bool") (by rfl) T.bool PyProof.Rows.boot_bool rfl) pa_nil)))))))
      (pss_cons (ps_try_as (i := 3) (tb := fun W => tAsg (tCallS (spStep C) (WE W) (tCons (tVar 0) tNil)) (gName 2)) (ts := tSuite K S C) (Wout := fun _ _ _ _ => False) rfl rfl scR.nd rfl rfl ⟨rfl, by decide, Or.inl T.gC⟩ takes0
          (fun W pn xe tk _ => pss_one (ps_set (i := 2) scR.nd rfl (Or.inl rfl) (by exact (pe_callS GS hr rfl gS FS.kp bS (fun σ => passAt tk σ) (by exact (pa_cons (pv 0) pa_nil))))))
          (fun a oe cls d pn hz hf => pss_one (ps_ret (by exact (pe_and (pe_callB (call_isE2 T.ec hz hf) (by rfl) T.isi boot_isinstance (pa_cons (pv 3) (pa_cons (pe_glob (v := .ref S) rfl T.gS rfl) pa_nil)))
            (pe_and (pe_callB (call_isE2 T.ec hz hf) (by rfl) T.isi boot_isinstance (pa_cons (pv 3) (pa_cons (pe_bltn (v := .ty "ValueError") (by rfl) T.ve (by decide +kernel) rfl) pa_nil)))
              (pe_one (pe_not (pe_and (pv 1) (pe_one (pe_chain op_le op_le pe_int (pv 0) pe_int)))))))))))
      (pss_cons (ps_if (PW.pt (pw_or (pt_not (pt_val (pv 1))) (pw_or1 (pt_not (pt_chain op_le op_le pe_int (pv 0) pe_int))))) (pss_one (ps_ret pe_bl)) pss_nil)
      (pss_one (ps_ret (pe_and (pe_callB call_isi (by rfl) T.isi boot_isinstance (pa_cons (pv 2) (pa_cons (pe_bltn (v := .ty "int") (by rfl) T.int PyProof.Rows.boot_int rfl) pa_nil)))
        (pe_and (pe_not (pe_callB call_isi (by rfl) T.isi boot_isinstance (pa_cons (pv 2) (pa_cons (pe_bltn (v := .ty "bool") (by rfl) T.bool PyProof.Rows.boot_bool rfl) pa_nil))))
          (pe_one (pe_cmpR op_eq (pe_op op_mul (pv 2) (pv 0)) pe_int (nomark _))))))))), ?_⟩
    refine whole_read (K := K) (i := 0) (σ := [some x, none, none, none]) hx rfl ?_
    -- try: found = step(thing)
    refine ⟨_, rfl, x, rfl, hx, fun i hi h1 h2 => ?_, fun z => ⟨true, T.eC, fun _ a ha => ?_, fun q => Bool.noConfusion q⟩⟩
    · -- it is a share
      subst hi
      obtain ⟨q1, q2, q3⟩ := exact_q h1 h2
      refine ⟨_, rfl, _, rfl, ?_⟩
      refine iteF ⟨_, rfl, _, _, rfl, rfl, _, rfl, ?_⟩
      rw [if_pos (decide_eq_true h1)]
      refine ⟨_, _, rfl, rfl, _, rfl, ?_⟩
      rw [decide_eq_true h2]
      refine iteF ?_
      obtain ⟨t, ty, e1, e2⟩ := (Th.int (Int.fdiv 27720 i) : Th H _).ty (K := K)
      refine ⟨_, rfl, _, _, t, _, _, rfl, .ty _, ty, e1, _, rfl, iteT ?_⟩
      refine ⟨_, rfl, _, _, t, _, _, rfl, .ty _, ty, e2, _, rfl, _, rfl, iteT ?_⟩
      refine ⟨_, rfl, _, rfl, _, _, rfl, rfl, .inl ⟨by omega, by omega⟩, ?_⟩
      refine ⟨rfl, ?_⟩
      rw [decide_eq_true (congrArg V.int q1)]
      exact k H (Same.refl _)
    · -- it is none: the suite
      refine ⟨_, rfl, rfl, rfl, _, _, _, rfl, (fun u r => r), T.qS, _, rfl, iteT ?_⟩
      refine ⟨_, rfl, rfl, rfl, _, _, _, rfl, (fun u r => r), T.qV, _, rfl, iteT ?_⟩
      refine ⟨_, rfl, _, rfl, ?_⟩
      have end_ : ∀ v : Bool, v = false → (∃ c, V.bl v = V.bl c ∧ Q (.bl (!c)) H) := fun v z => ⟨v, rfl, by rw [z]; exact k H (Same.refl _)⟩
      cases hx with
      | int i =>
        refine iteT ⟨_, rfl, _, _, rfl, rfl, _, rfl, ?_⟩
        have z' : (decide (1 ≤ i) && decide (i ≤ 12)) = false := z
        by_cases h1 : (1 : Int) ≤ i
        · rw [if_pos (decide_eq_true h1)]
          rw [decide_eq_true h1, Bool.true_and] at z'
          exact ⟨_, _, rfl, rfl, end_ _ z'⟩
        · rw [if_neg (by rw [decide_eq_false h1]; exact Bool.false_ne_true)]
          exact end_ _ rfl
      | bl b => exact iteF (end_ _ rfl)
      | non => exact iteF (end_ _ rfl)
      | str z => exact iteF (end_ _ rfl)
      | lst e => exact iteF (end_ _ rfl)
theorem scL : FnScope ["_law_script", "_law_cell"] ["_law_script"] (defScope sLaw) := ⟨rfl, rfl, rfl, by decide +kernel, rfl, by decide +kernel, by decide +kernel⟩
theorem cut_ints {ns : List Int} {y : V} (h : y ∈ cutV (ns.map V.int) none (some 40) ++ [V.int 0]) : ∃ z, y = .int z := by
  rcases List.mem_append.mp h with h | h
  · have h2 := List.mem_of_mem_drop (List.mem_of_mem_take h)
    obtain ⟨z, _, e⟩ := List.mem_map.mp h2
    exact ⟨z, e.symm⟩
  · exact ⟨0, List.mem_singleton.mp h⟩
theorem cut_len {ns : List Int} : (cutV (ns.map V.int) none (some 40)).length ≤ ns.length := by
  unfold cutV
  rw [List.length_take, List.length_drop, List.length_map]
  omega
theorem ok_law {f fT fR fW fS : Addr} {fd fdT fdR fdW fdS : FuncData} (F : Fun K "law" "law" sLaw f fd) (T : Txt K mg S C) (FW : Fun K "is_whole" "is_whole" sWhole fW fdW) (bW : Binds K fdW ["thing"] []) (gW : mg "is_whole" = some (.ref fW))
    (FS : Fun K "step" "step" sStep fS fdS) (bS : Binds K fdS ["share"] []) (gS : mg "step" = some (.ref fS)) (FT : Fun K "_law_thing_by" "_law_thing_by" sThing fT fdT) (bT : Binds K fdT ["_law_cell"] []) (gT : mg "_law_thing_by" = some (.ref fT))
    (FR : Fun K "_law_right" "_law_right" sRight fR fdR) (bR : Binds K fdR ["_law_thing"] []) (gR : mg "_law_right" = some (.ref fR)) :
    FnOk P w K mg base CX0 4 f fd ["_law_script"] (spLaw K) := by
  have GT : FnOk P w K mg base CX0 1 fT fdT ["_law_cell"] spThing := ok_thing FT T
  have GR : FnOk P w K mg base CX0 3 fR fdR ["_law_thing"] spRight := ok_right FR T FW bW gW FS bS gS
  refine F.ok scL (fun vs H Q E h => ?_) (fun cdv A outer s H vs Q E hr h => ?_)
  · obtain ⟨a, ns, rfl, _⟩ := h
    rfl
  · obtain ⟨a, ns, rfl, hS, hlen, k⟩ := h
    obtain ⟨tR, mR⟩ := T.mR
    obtain ⟨tM, mM⟩ := T.mM
    have hr1 : Room 1 _ := hr.mono (by decide)
    refine ⟨_, pss_cons (ps_for PassesOwn.never rfl (pi_list (pe_op op_cat (pe_slice sl_list (pv 0) po_none (po_some pe_int)) (pe_lst (pa_cons pe_int pa_nil)))) (pg_name (i := 1) scL.nd rfl (Or.inl rfl))
        (pss_one (ps_if (pt_not (pt_val (pe_call GR hr rfl gR FR.kp bR .nil pass0 (pa_cons (pe_call GT hr1 rfl gT FT.kp bT .nil pass0 (pa_cons (pv 1) pa_nil)) pa_nil)))) (pss_one (ps_ret pe_bl)) pss_nil)))
      (pss_one (ps_ret (pe_and (pe_cmpR op_eq (pe_glob (v := .int 27720) rfl mR ⟨_, rfl⟩) pe_int (nomark _)) (pe_one (pe_cmpR op_eq (pe_glob (v := .int 12) rfl mM ⟨_, rfl⟩) pe_int (nomark _)))))), ?_⟩
    have hc := cut_len (ns := ns)
    refine ⟨_, rfl, _, rfl, a, _, rfl, hS, fun p hp => ?_⟩
    refine ⟨(by show 1 ≤ sizeLine; decide), fun q hq => ?_⟩
    have npq : p ≠ q := fun z => by
      rw [← z, upd_same] at hq
      cases hq
    refine ⟨p, q, _, _, rfl, rfl, (by rw [upd_ne npq]; exact upd_same), upd_same, (by have := small1000 (n := 100) (by decide); simp only [List.length_cons, List.length_nil]; omega), fun r hr' => ?_⟩
    refine ⟨r, rfl, ⟨_, SqL.of upd_same⟩, for_list (K := K) (a := r) (xs := cutV (ns.map V.int) none (some 40) ++ [V.int 0]) (fun i σ H2 => ∃ v : Option V, σ = [some (.ref a), v] ∧ H2 r = some (.lst (cutV (ns.map V.int) none (some 40) ++ [V.int 0])))
      ⟨none, rfl, upd_same⟩ (fun i σ H2 _ ⟨_, _, e⟩ => SqL.of e) ?_ ?_⟩
    · rintro i y σ H2 hi ⟨v, rfl, e⟩
      obtain ⟨z, rfl⟩ := cut_ints (List.mem_of_getElem? hi)
      refine ⟨_, rfl, z, rfl, fun x H3 hx s3 => ⟨x, rfl, hx, fun H4 s4 => ⟨_, rfl, ?_⟩⟩⟩
      refine iteF ?_
      exact ⟨_, rfl, s4 _ _ (s3 _ _ e)⟩
    · rintro σ H2 ⟨v, rfl, e⟩
      refine ⟨rfl, _, rfl, ?_⟩
      refine iteT ⟨rfl, ?_⟩
      exact k H2
end
/-- an error of the class at S is what «except S» names -/
theorem exm_self {K : PySem.W.Frag} {S : Addr} (h1 : PySem.W.subIn K (.ref S) (.type "BaseException") = some true) (h2 : PySem.W.isClsIn K S = true) (h3 : PySem.W.typeIn K (.ref S) = some (.type "type")) (h4 : PySem.W.subIn K (.ref S) (.ref S) = some true) :
    PySem.W.exmOne K (.ref S) (.ref S) = some true := by
  have e1 : (PySem.W.subIn K (.ref S) (.type "BaseException") == some true) = true := by rw [h1] <;> rfl
  have e2 : ((PySem.W.clsIn K S).isSome && PySem.W.typeIn K (.ref S) == some (.type "type")) = true := by
    have h2' : (PySem.W.clsIn K S).isSome = true := h2
    rw [h2', h3] <;> rfl
  show (if (PySem.W.subIn K (.ref S) (.type "BaseException") == some true) = true then (if ((PySem.W.clsIn K S).isSome && PySem.W.typeIn K (.ref S) == some (.type "type")) = true then PySem.W.subIn K (.ref S) (.ref S) else none) else none) = some true
  rw [if_pos e1, if_pos e2]
  exact h4
theorem all_mk {P : Program} {w : World} {K : PySem.W.Frag} {h : Heap} {mg : Str → Option Value} {fa S C f1 f2 f3 f4 f5 : Addr} {tR tM : Tok} (X : K.In h) (G : h.Ns mainGlobals mg) (hfa : mg "law" = some (.ref fa))
    {od1 an1 od2 an2 od3 an3 od4 an4 od5 an5 : Option Addr} {sl1 sl2 sl3 sl4 sl5 : Array (Option Value)} {oc1 kV1 dc1 pm1 cd1 ct1 oc2 kV2 dc2 pm2 cd2 ct2 oc3 kV3 dc3 pm3 cd3 ct3 oc4 kV4 dc4 pm4 cd4 ct4 oc5 kV5 dc5 pm5 cd5 ct5 : Value}
    (aS : PySem.W.nsIn K mainGlobals "ShareError" = some (some (.ref S))) (aC : PySem.W.nsIn K mainGlobals "BadShare" = some (some (.ref C)))
    (a1 : PySem.W.nsIn K mainGlobals "_law_thing_by" = some (some (.ref f1))) (l1 : K.lookup f1 = some ⟨oc1, od1, .func (PySem.W.fnOf "_law_thing_by" "_law_thing_by" (defArgs sThing) (defBody sThing) (defScope sThing) .none kV1 dc1 pm1 an1 cd1 ct1), sl1⟩) (c1 : PySem.W.codeIn K cd1 "_law_thing_by" = true) (k1 : PySem.W.keepIn K (.ref f1) = true)
    (a2 : PySem.W.nsIn K mainGlobals "_law_right" = some (some (.ref f2))) (l2 : K.lookup f2 = some ⟨oc2, od2, .func (PySem.W.fnOf "_law_right" "_law_right" (defArgs sRight) (defBody sRight) (defScope sRight) .none kV2 dc2 pm2 an2 cd2 ct2), sl2⟩) (c2 : PySem.W.codeIn K cd2 "_law_right" = true) (k2 : PySem.W.keepIn K (.ref f2) = true)
    (a3 : PySem.W.nsIn K mainGlobals "is_whole" = some (some (.ref f3))) (l3 : K.lookup f3 = some ⟨oc3, od3, .func (PySem.W.fnOf "is_whole" "is_whole" (defArgs sWhole) (defBody sWhole) (defScope sWhole) .none kV3 dc3 pm3 an3 cd3 ct3), sl3⟩) (c3 : PySem.W.codeIn K cd3 "is_whole" = true) (k3 : PySem.W.keepIn K (.ref f3) = true)
    (a4 : PySem.W.nsIn K mainGlobals "step" = some (some (.ref f4))) (l4 : K.lookup f4 = some ⟨oc4, od4, .func (PySem.W.fnOf "step" "step" (defArgs sStep) (defBody sStep) (defScope sStep) .none kV4 dc4 pm4 an4 cd4 ct4), sl4⟩) (c4 : PySem.W.codeIn K cd4 "step" = true) (k4 : PySem.W.keepIn K (.ref f4) = true)
    (a5 : PySem.W.nsIn K mainGlobals "law" = some (some (.ref f5))) (l5 : K.lookup f5 = some ⟨oc5, od5, .func (PySem.W.fnOf "law" "law" (defArgs sLaw) (defBody sLaw) (defScope sLaw) .none kV5 dc5 pm5 an5 cd5 ct5), sl5⟩) (c5 : PySem.W.codeIn K cd5 "law" = true) (k5 : PySem.W.keepIn K (.ref f5) = true)
    (xC : PySem.W.excIn K C [.type "ValueError", .type "Exception", .type "BaseException", .type "object"] "ValueError.__new__" = true) (kC : PySem.W.keepIn K (.ref C) = true) (bC : PySem.W.subIn K (.ref C) (.type "BaseException") = some true) (tC : PySem.W.typeIn K (.ref C) = some (.type "type"))
    (iC : PySem.W.isClsIn K C = true) (sC : PySem.W.subIn K (.ref C) (.ref C) = some true)
    (e1 : PySem.W.findIn K (.ref C) "__getattribute__" = some (some (.builtin "BaseException.__getattribute__"))) (e2 : PySem.W.findIn K (.ref C) "__getattr__" = some none) (e3 : PySem.W.hasDictIn K C = true)
    (e4 : PySem.W.findIn K (.ref C) "__class__" = some (some (.builtin "object.__class__"))) (e5 : PySem.W.specialIn K (.builtin "object.__class__") "__get__" = some (some (.builtin "getset_descriptor.__get__"))) (e6 : PySem.W.takesIn K (.builtin "object.__class__") = some true) (e7 : PySem.W.mroIn K C (.type "object") = some true)
    (qS : PySem.W.kitOne K (.ref C) (.ref S) = some true) (qV : PySem.W.kitOne K (.ref C) (.type "ValueError") = some true)
    (z1 : PySem.W.nsIn K mainGlobals "isinstance" = some none) (z2 : PySem.W.nsIn K mainGlobals "int" = some none) (z3 : PySem.W.nsIn K mainGlobals "bool" = some none) (z4 : PySem.W.nsIn K mainGlobals "str" = some none) (z5 : PySem.W.nsIn K mainGlobals "ValueError" = some none)
    (mR : PySem.W.nsIn K mainGlobals "ROUND" = some (some (.int 27720 tR))) (mM : PySem.W.nsIn K mainGlobals "MOST" = some (some (.int 12 tM))) :
    ∃ fd : FuncData, (∀ (s : Shared) (v : Value), BindsTo s fd ⟨[v], []⟩ [("_law_script", v)]) ∧ ∀ base : Heap, K.In base → base.Ns mainGlobals mg → FnOk P w K mg base CX0 4 fa fd ["_law_script"] (spLaw K) := by
  have e := hfa.symm.trans (PySem.W.mg_of X G a5)
  cases e
  have T : Txt K mg S C := ⟨PySem.W.mg_of X G aC, PySem.W.mg_of X G aS, xC, kC, bC, tC, exm_self bC iC tC sC, ⟨e1, e2, bC, e3, e4, e5, e6, e7⟩, qS, qV, PySem.W.mg_none_of X G z1, PySem.W.mg_none_of X G z2, PySem.W.mg_none_of X G z3, PySem.W.mg_none_of X G z4, PySem.W.mg_none_of X G z5, ⟨tR, PySem.W.mg_of X G mR⟩, ⟨tM, PySem.W.mg_of X G mM⟩⟩
  have F1 := fun_mk (st := sThing) l1 c1 k1
  have F2 := fun_mk (st := sRight) l2 c2 k2
  have F3 := fun_mk (st := sWhole) l3 c3 k3
  have F4 := fun_mk (st := sStep) l4 c4 k4
  have F5 := fun_mk (st := sLaw) l5 c5 k5
  have b1 := F1.binds (ps := ["_law_cell"]) fun _ _ _ _ _ _ us hl => match us, hl with | [_], _ => rfl
  have b2 := F2.binds (ps := ["_law_thing"]) fun _ _ _ _ _ _ us hl => match us, hl with | [_], _ => rfl
  have b3 := F3.binds (ps := ["thing"]) fun _ _ _ _ _ _ us hl => match us, hl with | [_], _ => rfl
  have b4 := F4.binds (ps := ["share"]) fun _ _ _ _ _ _ us hl => match us, hl with | [_], _ => rfl
  exact ⟨PySem.W.fnOf "law" "law" (defArgs sLaw) (defBody sLaw) (defScope sLaw) .none kV5 dc5 pm5 an5 cd5 ct5, fun s v => .of_eq rfl, fun base _ _ => ok_law F5 T F3 b3 (PySem.W.mg_of X G a3) F4 b4 (PySem.W.mg_of X G a4) F1 b1 (PySem.W.mg_of X G a1) F2 b2 (PySem.W.mg_of X G a2)⟩
end Mine
open PySem PySem.W PyProof.Rows
set_option maxRecDepth 100000 in
set_option maxHeartbeats 0 in
theorem PySem.Challenge.cw_sharetime_k01_steps_holds : PySem.Challenge.rw_sharetime_k01_steps.Holds := by
  w_on; o_law; k_head; (case hw => w_witness2)
  k_fill
  refine L2.walk_ofK (n := 63) (k := 4) (x := "_law_script") (CX := L2.CX0) (sp := Mine.spLaw) rfl (by decide) rfl ⟨rfl, by decide, by decide⟩ (fun w h Y => PySem.W.kIn_of Y) ?F (fun K H a ns hl _ hS => ⟨a, ns, rfl, hS, hl, fun _ => rfl⟩) (fun _ _ _ _ z => z)
  case F =>
    intro w mg fa h KX G hmg
    refine' Mine.all_mk KX G hmg ?aS ?aC ?a1 ?l1 ?c1 ?k1 ?a2 ?l2 ?c2 ?k2 ?a3 ?l3 ?c3 ?k3 ?a4 ?l4 ?c4 ?k4 ?a5 ?l5 ?c5 ?k5 ?xC ?kC ?bC ?tC ?iC ?sC ?e1 ?e2 ?e3 ?e4 ?e5 ?e6 ?e7 ?qS ?qV ?z1 ?z2 ?z3 ?z4 ?z5 ?mR ?mM
    (case aS => k_is); (case aC => k_is)
    (case a1 => k_is); (case l1 => k_is); (case c1 => k_is); (case k1 => k_is)
    (case a2 => k_is); (case l2 => k_is); (case c2 => k_is); (case k2 => k_is)
    (case a3 => k_is); (case l3 => k_is); (case c3 => k_is); (case k3 => k_is)
    (case a4 => k_is); (case l4 => k_is); (case c4 => k_is); (case k4 => k_is)
    (case a5 => k_is); (case l5 => k_is); (case c5 => k_is); (case k5 => k_is)
    (case xC => k_exc); (case kC => k_is); (case bC => k_is); (case tC => k_is); (case iC => k_is); (case sC => first | rfl | k_is)
    (case e1 => k_is); (case e2 => k_is); (case e3 => k_is); (case e4 => k_is); (case e5 => k_is); (case e6 => k_is); (case e7 => k_is)
    (case qS => kit_is); (case qV => kit_is)
    (case z1 => k_is); (case z2 => k_is); (case z3 => k_is); (case z4 => k_is); (case z5 => k_is)
    (case mR => k_is); (case mM => k_is)
#print axioms PySem.Challenge.cw_sharetime_k01_steps_holds
