import PyProof.Rows.All
import Wide.All
import OpenK.AllK
import Wide.FinOn
import HandS.ForMost
import HandS.IsInst
import HandS.Wide
import HandS.Style
import HandS.Codes
import PySem.Challenge.RW_bytebridge_k01_integer_of_a_code
set_option Elab.async false
set_option linter.all false
set_option maxRecDepth 100000
set_option maxHeartbeats 4000000
namespace My
open PySem PySem.Spec PyProof.Rows L2
def topS (i : Nat) : Stmt := PySem.Challenge.pw_bytebridge_k01_integer_of_a_code.main.body.getD i (.Pass ⟨0, 0, 0, 0⟩)
abbrev s_code_of : Stmt := topS 1
theorem sc_code_of : FnScope ["number", "width"] ["number", "width"] (defScope s_code_of) := ⟨rfl, rfl, rfl, by decide +kernel, rfl, by decide +kernel, by decide +kernel⟩
abbrev s_number_of : Stmt := topS 2
theorem sc_number_of : FnScope ["code", "width", "signed"] ["code", "width", "signed"] (defScope s_number_of) := ⟨rfl, rfl, rfl, by decide +kernel, rfl, by decide +kernel, by decide +kernel⟩
abbrev s_l_tape : Stmt := topS 4
theorem sc_l_tape : FnScope ["script", "total", "cell"] ["script"] (defScope s_l_tape) := ⟨rfl, rfl, rfl, by decide +kernel, rfl, by decide +kernel, by decide +kernel⟩
abbrev s_l_draw : Stmt := topS 5
theorem sc_l_draw : FnScope ["tape", "many", "place", "number"] ["tape", "many"] (defScope s_l_draw) := ⟨rfl, rfl, rfl, by decide +kernel, rfl, by decide +kernel, by decide +kernel⟩
abbrev s_l_is_integer : Stmt := topS 6
theorem sc_l_is_integer : FnScope ["told", "due"] ["told", "due"] (defScope s_l_is_integer) := ⟨rfl, rfl, rfl, by decide +kernel, rfl, by decide +kernel, by decide +kernel⟩
abbrev s_l_power : Stmt := topS 7
theorem sc_l_power : FnScope ["width", "power", "k"] ["width"] (defScope s_l_power) := ⟨rfl, rfl, rfl, by decide +kernel, rfl, by decide +kernel, by decide +kernel⟩
abbrev s_l_code : Stmt := topS 8
theorem sc_l_code : FnScope ["tape", "width", "power", "edge", "code", "k"] ["tape", "width"] (defScope s_l_code) := ⟨rfl, rfl, rfl, by decide +kernel, rfl, by decide +kernel, by decide +kernel⟩
abbrev s_law : Stmt := topS 9
theorem sc_law : FnScope ["script", "tape", "width", "code", "half", "low", "top", "plain"] ["script"] (defScope s_law) := ⟨rfl, rfl, rfl, by decide +kernel, rfl, by decide +kernel, by decide +kernel⟩
structure Fx where
  f : Addr
  fd : FuncData
structure Ad where
  code_of : Fx
  number_of : Fx
  l_tape : Fx
  l_draw : Fx
  l_is_integer : Fx
  l_power : Fx
  l_code : Fx
  law : Fx
structure Txt (K : PySem.W.Frag) (mg : Str → Option Value) (A : Ad) : Prop where
  F_code_of : Fun K "code_of" "code_of" s_code_of A.code_of.f A.code_of.fd
  g_code_of : mg "code_of" = some (.ref A.code_of.f)
  b_code_of : Binds K A.code_of.fd ["number", "width"] []
  F_number_of : Fun K "number_of" "number_of" s_number_of A.number_of.f A.number_of.fd
  g_number_of : mg "number_of" = some (.ref A.number_of.f)
  b_number_of : Binds K A.number_of.fd ["code", "width", "signed"] []
  F_l_tape : Fun K "_law_tape" "_law_tape" s_l_tape A.l_tape.f A.l_tape.fd
  g_l_tape : mg "_law_tape" = some (.ref A.l_tape.f)
  b_l_tape : Binds K A.l_tape.fd ["script"] []
  F_l_draw : Fun K "_law_draw" "_law_draw" s_l_draw A.l_draw.f A.l_draw.fd
  g_l_draw : mg "_law_draw" = some (.ref A.l_draw.f)
  b_l_draw : Binds K A.l_draw.fd ["tape", "many"] []
  F_l_is_integer : Fun K "_law_is_integer" "_law_is_integer" s_l_is_integer A.l_is_integer.f A.l_is_integer.fd
  g_l_is_integer : mg "_law_is_integer" = some (.ref A.l_is_integer.f)
  b_l_is_integer : Binds K A.l_is_integer.fd ["told", "due"] []
  F_l_power : Fun K "_law_power" "_law_power" s_l_power A.l_power.f A.l_power.fd
  g_l_power : mg "_law_power" = some (.ref A.l_power.f)
  b_l_power : Binds K A.l_power.fd ["width"] []
  F_l_code : Fun K "_law_code" "_law_code" s_l_code A.l_code.f A.l_code.fd
  g_l_code : mg "_law_code" = some (.ref A.l_code.f)
  b_l_code : Binds K A.l_code.fd ["tape", "width"] []
  F_law : Fun K "law" "law" s_law A.law.f A.law.fd
  g_law : mg "law" = some (.ref A.law.f)
  b_law : Binds K A.law.fd ["script"] []
  n_abs : mg "abs" = none
  n_bool : mg "bool" = none
  n_int : mg "int" = none
  n_isinstance : mg "isinstance" = none
  n_len : mg "len" = none
  n_list : mg "list" = none
  n_max : mg "max" = none
  n_range : mg "range" = none
theorem same_upd {H : Hp} {p : Addr} {o : HO} (h : H p = none) : Same H (upd H p o) := fun b x e => by
  rw [upd_ne (ne_of_none e h)]
  exact e
/-- a tape stands at t -/
def Tape (H : Hp) (t : Addr) : Prop := ∃ (q : Addr) (ns : List Int) (p h s : Int), H t = some (.lst [.ref q, .int p, .int h, .int s]) ∧ H q = some (.lst (ns.map V.int)) ∧ 0 ≤ p ∧ 0 ≤ h
/-- all objects but the one at t stay -/
def Kept (t : Addr) (H H' : Hp) : Prop := ∀ b o, b ≠ t → H b = some o → H' b = some o
theorem Kept.rfl {t : Addr} {H : Hp} : Kept t H H := fun _ _ _ e => e
theorem Kept.trans {t : Addr} {H H1 H2 : Hp} (a : Kept t H H1) (b : Kept t H1 H2) : Kept t H H2 := fun c o n e => b c o n (a c o n e)
theorem Kept.put {t : Addr} {H H1 : Hp} {o : HO} (a : Kept t H H1) : Kept t H (upd H1 t o) := fun c x n e => by
  rw [upd_ne n]
  exact a c x n e
theorem Kept.same {t : Addr} {H0 H H1 : Hp} (h0 : H0 t = none) (s : Same H0 H) (a : Kept t H H1) : Same H0 H1 := fun b o e => a b o (ne_of_none e h0) (s b o e)
theorem tape_ne {H : Hp} {t q : Addr} {ns : List Int} {p h s : Int} (h1 : H t = some (.lst [.ref q, .int p, .int h, .int s])) (h2 : H q = some (.lst (ns.map V.int))) : q ≠ t := fun e => by
  subst e
  rw [h1] at h2
  cases ns with
  | nil => cases h2
  | cons x r => cases h2
theorem map_int_at {ns : List Int} {i : Nat} {y : V} (h : (ns.map V.int)[i]? = some y) : ∃ z, y = V.int z ∧ ns[i]? = some z := by
  rw [List.getElem?_map] at h
  cases e : ns[i]? with
  | none => rw [e] at h; cases h
  | some z => rw [e] at h; exact ⟨z, (Option.some.inj h).symm, _root_.rfl⟩
theorem dec_eq_int {a b : Int} (e : decide (V.int a = V.int b) = true) : a = b := V.int.inj (of_decide_eq_true e)
theorem dec_ne_int {a b : Int} (e : ¬ decide (V.int a = V.int b) = true) : a ≠ b := fun z => e (decide_eq_true (congrArg V.int z))
theorem Tape.new {H : Hp} {t l : Addr} {o : HO} (h : Tape H t) (hl : H l = none) : Tape (upd H l o) t := by
  obtain ⟨q, ns, p, z, s, h1, h2, h3, h4⟩ := h
  exact ⟨q, ns, p, z, s, by rw [upd_ne (ne_of_none h1 hl)]; exact h1, by rw [upd_ne (ne_of_none h2 hl)]; exact h2, h3, h4⟩
theorem Kept.new {t l : Addr} {H H1 : Hp} {o : HO} (a : Kept t H H1) (hl : H1 l = none) : Kept t H (upd H1 l o) := fun c x n e => by
  have e1 := a c x n e
  rw [upd_ne (ne_of_none e1 hl)]
  exact e1
theorem Kept.free {t l : Addr} {H H1 : Hp} (a : Kept t H H1) (hT : Tape H1 t) (hl : H1 l = none) : H l = none := by
  cases e : H l with
  | none => rfl
  | some o =>
    by_cases n : l = t
    · obtain ⟨q, ns, p, z, s, h1, _⟩ := hT
      rw [n, h1] at hl
      cases hl
    · rw [a l o n e] at hl
      cases hl
theorem two_pos (n : Nat) : (0 : Int) < 2 ^ n := Int.pow_pos (by decide)

section
variable {P : Program} {w : World} {K : PySem.W.Frag} {mg : Str → Option Value} {base : Heap} {A : Ad}
/-! def code_of -/
def sp_code_of (K : PySem.W.Frag) : Sp := fun vs H Q _ => ∃ (x : Int) (n : Nat), vs = [.int x, .int (n : Int)] ∧ n ≤ 10000 ∧ Q (.int (if x < 0 then x + 2 ^ n else x)) H
theorem ok_code_of (T : Txt K mg A) : FnOk P w K mg base CX0 1 A.code_of.f A.code_of.fd ["number", "width"] (sp_code_of K) := by
  refine T.F_code_of.ok sc_code_of (fun vs H Q E h => ?_) (fun cdv Ar outer s H vs Q E hr h => ?_)
  · obtain ⟨x, n, rfl, _⟩ := h; rfl
  · obtain ⟨x, n, rfl, hn, k⟩ := h
    refine ⟨_, (pss_cons (ps_if (pt_cmpR op_lt (pv 0) pe_int (nomark _)) (pss_one (ps_ret (pe_op op_add (pv 0) (pe_op op_shl pe_int (pv 1))))) pss_nil)
        (pss_one (ps_ret (pv 0)))), ?_⟩
    refine ⟨_, rfl, _, _, rfl, rfl, _, rfl, ite2 (fun e => ?_) (fun e => ?_)⟩
    · have e : x < 0 := of_decide_eq_true e
      rw [if_pos e] at k
      refine ⟨_, rfl, _, rfl, _, _, rfl, rfl, ⟨by omega, by omega, by decide⟩, _, _, rfl, rfl, ?_⟩
      rw [Int.toNat_natCast, Int.one_mul]
      exact k
    · have e : ¬ x < 0 := fun z => e (decide_eq_true z)
      rw [if_neg e] at k
      exact ⟨_, rfl, k⟩

/-! def number_of -/
def sp_number_of (K : PySem.W.Frag) : Sp := fun vs H Q _ => ∃ (x : Int) (n : Nat) (b : Bool), vs = [.int x, .int ((n + 1 : Nat) : Int), .bl b] ∧ n ≤ 10000 ∧ Q (.int (if b = true ∧ 2 ^ n ≤ x then x - 2 ^ (n + 1) else x)) H
theorem ok_number_of (T : Txt K mg A) : FnOk P w K mg base CX0 1 A.number_of.f A.number_of.fd ["code", "width", "signed"] (sp_number_of K) := by
  refine T.F_number_of.ok sc_number_of (fun vs H Q E h => ?_) (fun cdv Ar outer s H vs Q E hr h => ?_)
  · obtain ⟨x, n, b, rfl, _⟩ := h; rfl
  · obtain ⟨x, n, b, rfl, hn, k⟩ := h
    refine ⟨_, (pss_cons (ps_if (PW.pt (pw_and (pt_val (pv 2)) (pw_and1 (pt_cmpR op_ge (pv 0) (pe_op op_shl pe_int (pe_op op_sub (pv 1) pe_int)) (nomark _))))) (pss_one (ps_ret (pe_op op_sub (pv 0) (pe_op op_shl pe_int (pv 1))))) pss_nil)
        (pss_one (ps_ret (pv 0)))), ?_⟩
    have en : ((n + 1 : Nat) : Int) - 1 = (n : Int) := by omega
    refine ⟨_, rfl, b, rfl, ite2 (fun e => ?_) (fun e => ?_)⟩
    · refine ⟨_, rfl, _, rfl, _, _, rfl, rfl, _, _, rfl, rfl, ⟨by omega, by omega, by decide⟩, _, _, rfl, rfl, _, rfl, ite2 (fun e2 => ?_) (fun e2 => ?_)⟩
      · have e2 : 1 * 2 ^ (((n + 1 : Nat) : Int) - 1).toNat ≤ x := of_decide_eq_true e2
        rw [en, Int.toNat_natCast, Int.one_mul] at e2
        rw [if_pos ⟨e, e2⟩] at k
        refine ⟨_, rfl, _, rfl, _, _, rfl, rfl, ⟨by omega, by omega, by decide⟩, _, _, rfl, rfl, ?_⟩
        rw [Int.toNat_natCast, Int.one_mul]
        exact k
      · have e2 : ¬ 1 * 2 ^ (((n + 1 : Nat) : Int) - 1).toNat ≤ x := fun z => e2 (decide_eq_true z)
        rw [en, Int.toNat_natCast, Int.one_mul] at e2
        rw [if_neg (fun z => e2 z.2)] at k
        exact ⟨_, rfl, k⟩
    · rw [if_neg (fun z => e z.1)] at k
      exact ⟨_, rfl, k⟩

/-! def _law_tape -/
def sp_l_tape (K : PySem.W.Frag) : Sp := fun vs H Q _ => ∃ (a : Addr) (ns : List Int), vs = [.ref a] ∧ SqL K H a (ns.map V.int) ∧ ∀ (H' : Hp) (t : Addr), Same H H' → H t = none → Tape H' t → Q (.ref t) H'
theorem ok_l_tape (T : Txt K mg A) : FnOk P w K mg base CX0 1 A.l_tape.f A.l_tape.fd ["script"] (sp_l_tape K) := by
  refine T.F_l_tape.ok sc_l_tape (fun vs H Q E h => ?_) (fun cdv Ar outer s H vs Q E hr h => ?_)
  · obtain ⟨a, ns, rfl, _⟩ := h; rfl
  · obtain ⟨a, ns, rfl, hS, k⟩ := h
    refine ⟨_, (pss_cons (ps_set (i := 1) sc_l_tape.nd rfl (.inl rfl) pe_int)
        (pss_cons (ps_for PassesOwn.never rfl (pi_list (pv 0)) (pg_name (i := 2) sc_l_tape.nd rfl (Or.inl rfl)) (pss_one (ps_set (i := 1) sc_l_tape.nd rfl (.inl rfl) (pe_op op_mod (pe_callTy call_int1 (by rfl) T.n_int (by decide +kernel) (pa_cons (pe_op op_add (pe_op op_mul (pv 1) pe_int) (pe_callB call_abs (by rfl) T.n_abs (by decide +kernel) (pa_cons (pe_callTy call_int1 (by rfl) T.n_int (by decide +kernel) (pa_cons (pv 2) pa_nil)) pa_nil))) pa_nil)) pe_int))))
        (pss_one (ps_ret (pe_lst (pa_cons (pe_callTy call_list_of (by rfl) T.n_list (by decide +kernel) (pa_cons (pv 0) pa_nil)) (pa_cons pe_int (pa_cons pe_int (pa_cons (pv 1) pa_nil))))))))), ?_⟩
    refine ⟨_, rfl, a, rfl, ⟨_, hS⟩, for_list (K := K) (a := a) (xs := ns.map V.int) (fun i σ H2 => ∃ (z : Int) (v : Option V), σ = [some (.ref a), some (.int z), v] ∧ H2 = H) ⟨_, _, rfl, rfl⟩ (fun i σ H2 _ ⟨_, _, _, e⟩ => by rw [e]; exact hS) ?_ ?_⟩
    · rintro i y σ H2 hi ⟨z, v, rfl, rfl⟩
      obtain ⟨n, rfl, _⟩ := map_int_at hi
      refine ⟨_, rfl, _, _, rfl, rfl, .inr ⟨by decide, by decide⟩, _, rfl, .inl ⟨_, rfl, _, rfl, _, _, rfl, rfl, .inl ⟨_, rfl, _, _, rfl, rfl, (by show (0 : Int) < _; decide), ?_⟩⟩⟩
      exact ⟨_, _, rfl, rfl⟩
    · rintro σ H2 ⟨z, v, rfl, rfl⟩
      refine ⟨_, rfl, a, _, rfl, .inl hS, fun q hq => ?_⟩
      refine ⟨_, rfl, (by show 4 ≤ sizeLine; decide), fun t ht => ?_⟩
      have s1 : Same H2 (upd H2 q (.lst (ns.map V.int))) := same_upd hq
      have nqt : q ≠ t := fun e => by
        rw [← e, upd_same] at ht
        cases ht
      refine k _ t (s1.trans (same_upd ht)) (s1.free ht) ⟨q, ns, 0, 0, z, upd_same, ?_, by decide, by decide⟩
      rw [upd_ne nqt, upd_same]

/-! def _law_draw -/
def sp_l_draw (K : PySem.W.Frag) : Sp := fun vs H Q _ => ∃ (t : Addr) (m : Int), vs = [.ref t, .int m] ∧ Tape H t ∧ 1 ≤ m ∧ m < 1073741824 ∧ ∀ (H' : Hp) (v : Int), 0 ≤ v → v < m → Tape H' t → Kept t H H' → Q (.int v) H'
theorem ok_l_draw (T : Txt K mg A) : FnOk P w K mg base CX0 1 A.l_draw.f A.l_draw.fd ["tape", "many"] (sp_l_draw K) := by
  refine T.F_l_draw.ok sc_l_draw (fun vs H Q E h => ?_) (fun cdv Ar outer s H vs Q E hr h => ?_)
  · obtain ⟨t, m, rfl, _⟩ := h; rfl
  · obtain ⟨t, m, rfl, ⟨q, ns, p, h, s0, hT, hq, hp, hh⟩, hm1, hm2, k⟩ := h
    refine ⟨_, (C8.pss_cut (ps_if (pt_cmpR op_eq (pe_ix ix_list (pv 0) pe_int (fun _ _ => rfl)) pe_int (nomark _)) (pss_cons (ps_set (i := 2) sc_l_draw.nd rfl (.inl rfl) (pe_ix ix_list (pv 0) pe_int (fun _ _ => rfl)))
        (pss_cons (ps_set (i := 3) sc_l_draw.nd rfl (.inl rfl) pe_int)
        (C8.pss_cut (ps_if (pt_cmpR op_lt (pv 2) (pe_callB call_len_seq (by rfl) T.n_len (by decide +kernel) (pa_cons (pe_ix ix_list (pv 0) pe_int (fun _ _ => rfl)) pa_nil)) (nomark _)) (pss_one (ps_set (i := 3) sc_l_draw.nd rfl (.inl rfl) (pe_callB call_abs (by rfl) T.n_abs (by decide +kernel) (pa_cons (pe_callTy call_int1 (by rfl) T.n_int (by decide +kernel) (pa_cons (pe_ix ix_list (pe_ix ix_list (pv 0) pe_int (fun _ _ => rfl)) (pv 2) (fun _ _ => rfl)) pa_nil)) pa_nil)))) (pss_cons (ps_asg (pe_op op_mod (pe_callTy call_int1 (by rfl) T.n_int (by decide +kernel) (pa_cons (pe_op op_add (pe_op op_add (pe_op op_mul (pe_ix ix_list (pv 0) pe_int (fun _ _ => rfl)) pe_int) (pv 2)) pe_int) pa_nil)) pe_int) (pg_sub (pv 0) pe_int set_list))
        (pss_one (ps_set (i := 3) sc_l_draw.nd rfl (.inl rfl) (pe_ix ix_list (pv 0) pe_int (fun _ _ => rfl))))))
        (pss_cons (ps_asg (pe_op op_add (pv 2) pe_int) (pg_sub (pv 0) pe_int set_list))
        (pss_cons (ps_if (pt_cmpR op_lt (pv 3) (pe_op op_pow pe_int pe_int) (nomark _)) (pss_cons (ps_set (i := 3) sc_l_draw.nd rfl (.inl rfl) (pe_op op_mod (pe_callTy call_int1 (by rfl) T.n_int (by decide +kernel) (pa_cons (pe_op op_add (pe_op op_add (pe_op op_mul (pv 3) pe_int) (pe_op op_mul (pv 2) pe_int)) pe_int) pa_nil)) pe_int))
        (pss_cons (ps_set (i := 3) sc_l_draw.nd rfl (.inl rfl) (pe_op op_mod (pe_callTy call_int1 (by rfl) T.n_int (by decide +kernel) (pa_cons (pe_op op_mul (pv 3) pe_int) pa_nil)) pe_int))
        (pss_one (ps_ret (pe_op op_mod (pe_callTy call_int1 (by rfl) T.n_int (by decide +kernel) (pa_cons (pv 3) pa_nil)) (pe_callB (call_max2 rfl) (by rfl) T.n_max (by decide +kernel) (pa_cons (pv 1) (pa_cons pe_int pa_nil)))))))) pss_nil)
        (pss_one (ps_asg (pv 3) (pg_sub (pv 0) pe_int set_list)))))))) pss_nil)
        (pss_cons (ps_set (i := 3) sc_l_draw.nd rfl (.inl rfl) (pe_ix ix_list (pv 0) pe_int (fun _ _ => rfl)))
        (pss_cons (ps_asg (pe_op op_fdiv (pv 3) (pe_callB (call_max2 rfl) (by rfl) T.n_max (by decide +kernel) (pa_cons (pv 1) (pa_cons pe_int pa_nil)))) (pg_sub (pv 0) pe_int set_list))
        (pss_one (ps_ret (pe_op op_mod (pe_callTy call_int1 (by rfl) T.n_int (by decide +kernel) (pa_cons (pv 3) pa_nil)) (pe_callB (call_max2 rfl) (by rfl) T.n_max (by decide +kernel) (pa_cons (pv 1) (pa_cons pe_int pa_nil))))))))), ?_⟩
    have nqt : q ≠ t := tape_ne hT hq
    have e1 : (if (1 : Int) > m then (1 : Int) else m) = m := if_neg (by omega)
    have fin : ∀ (n : Int) (H' : Hp), Tape H' t → Kept t H H' → Q (.int (n % (if (1 : Int) > m then (1 : Int) else m))) H' := fun n H' hT' hK' => by
      rw [e1]
      exact k H' _ (Int.emod_nonneg _ (by omega)) (Int.emod_lt_of_pos _ (by omega)) hT' hK'
    refine ⟨fun σ' H' => ∃ (x y : Option V), σ' = [some (.ref t), some (.int m), x, y] ∧ Tape H' t ∧ Kept t H H', ?_, ?_⟩
    · refine ⟨_, rfl, t, _, _, _, rfl, rfl, SqL.of hT, rfl, rfl, _, rfl, ite2 (fun e => ?_) (fun e => ?_)⟩
      · have eh : h = 0 := dec_eq_int e
        refine ⟨_, rfl, t, _, _, _, rfl, rfl, SqL.of hT, rfl, ?_⟩
        refine ⟨fun σ' H' => ∃ (n s' : Int), 0 ≤ n ∧ σ' = [some (.ref t), some (.int m), some (.int p), some (.int n)] ∧ H' t = some (.lst [.ref q, .int p, .int h, .int s']) ∧ Kept t H H', ?_, ?_⟩
        · refine ⟨_, rfl, _, rfl, t, _, _, _, rfl, rfl, SqL.of hT, rfl, q, _, rfl, .inl (SqL.of hq), _, _, rfl, rfl, _, rfl, ite2 (fun e => ?_) (fun e => ?_)⟩
          · have hlt : p < (ns.map V.int).length := of_decide_eq_true e
            rw [List.length_map] at hlt
            have hj : p.toNat < ns.length := by omega
            have ha : atI (ns.map V.int) p = some (V.int ns[p.toNat]) := at_of (j := p.toNat) (by omega) (by rw [List.getElem?_map, List.getElem?_eq_getElem hj]; rfl)
            refine ⟨_, rfl, t, _, _, _, rfl, rfl, SqL.of hT, rfl, _, rfl, q, _, _, _, rfl, rfl, SqL.of hq, ha, .inl ⟨_, rfl, _, rfl, ?_⟩⟩
            exact ⟨_, s0, (by split <;> omega), rfl, hT, Kept.rfl⟩
          · refine ⟨_, rfl, t, _, _, _, rfl, rfl, SqL.of hT, rfl, _, _, rfl, rfl, .inr ⟨by decide, by decide⟩, _, rfl, _, _, rfl, rfl, _, _, rfl, rfl, .inl ⟨_, rfl, _, _, rfl, rfl, (by show (0 : Int) < _; decide), _, rfl, t, _, _, 3, rfl, rfl, hT, rfl, ?_⟩⟩
            refine ⟨_, rfl, t, _, _, _, rfl, rfl, SqL.of upd_same, rfl, ?_⟩
            exact ⟨_, _, Int.emod_nonneg _ (by decide), rfl, upd_same, Kept.rfl.put⟩
        · rintro σ' H' ⟨n, s', hn, rfl, hT', hK'⟩
          have hq' := hK' q _ nqt hq
          refine ⟨_, rfl, _, _, rfl, rfl, _, rfl, t, _, _, 1, rfl, rfl, hT', rfl, ?_⟩
          have hT2 : Tape (upd H' t (.lst [.ref q, .int (p + 1), .int h, .int s'])) t := ⟨q, ns, p + 1, h, s', upd_same, by rw [upd_ne nqt]; exact hq', by omega, hh⟩
          refine ⟨_, rfl, _, _, rfl, rfl, ⟨by decide, by decide, by decide⟩, _, _, rfl, rfl, _, rfl, ite2 (fun e => ?_) (fun e => ?_)⟩
          · refine ⟨_, rfl, _, _, rfl, rfl, .inr ⟨by decide, by decide⟩, _, rfl, _, _, rfl, rfl, .inr ⟨by decide, by decide⟩, _, _, rfl, rfl, _, _, rfl, rfl, .inl ⟨_, rfl, _, _, rfl, rfl, (by show (0 : Int) < _; decide), ?_⟩⟩
            refine ⟨_, rfl, _, _, rfl, rfl, .inr ⟨by decide, by decide⟩, .inl ⟨_, rfl, _, _, rfl, rfl, (by show (0 : Int) < _; decide), ?_⟩⟩
            refine ⟨_, rfl, .inl ⟨_, rfl, _, rfl, _, _, rfl, _, _, rfl, rfl, (by rw [e1]; omega), ?_⟩⟩
            exact fin _ _ hT2 hK'.put
          · refine ⟨_, rfl, _, rfl, t, _, _, 2, rfl, rfl, upd_same, rfl, ?_⟩
            refine ⟨_, _, rfl, ⟨q, ns, p + 1, n, s', upd_same, ?_, by omega, hn⟩, hK'.put.put⟩
            rw [upd_ne nqt, upd_ne nqt]
            exact hq'
      · exact ⟨_, _, rfl, ⟨q, ns, p, h, s0, hT, hq, hp, hh⟩, Kept.rfl⟩
    · rintro σ' H' ⟨x, y, rfl, ⟨q', ns', p', h', s', hT', hq', hp', hh'⟩, hK'⟩
      have nqt' : q' ≠ t := tape_ne hT' hq'
      have e2 : (0 : Int) < (if (2 : Int) > m then (2 : Int) else m) := by split <;> omega
      refine ⟨_, rfl, t, _, _, _, rfl, rfl, SqL.of hT', rfl, ?_⟩
      refine ⟨_, rfl, _, rfl, _, _, rfl, _, _, rfl, rfl, ⟨e2, by split <;> omega⟩, _, rfl, t, _, _, 2, rfl, rfl, hT', rfl, ?_⟩
      refine ⟨_, rfl, .inl ⟨_, rfl, _, rfl, _, _, rfl, _, _, rfl, rfl, (by rw [e1]; omega), ?_⟩⟩
      refine fin _ _ ⟨q', ns', p', _, s', upd_same, ?_, hp', Int.ediv_nonneg hh' (by omega)⟩ hK'.put
      rw [upd_ne nqt']
      exact hq'

/-! def _law_is_integer -/
def sp_l_is_integer (K : PySem.W.Frag) : Sp := fun vs H Q _ => ∃ (x y : Int), vs = [.int x, .int y] ∧ Q (.bl (decide (x = y))) H
theorem ok_l_is_integer (T : Txt K mg A) : FnOk P w K mg base CX0 1 A.l_is_integer.f A.l_is_integer.fd ["told", "due"] (sp_l_is_integer K) := by
  refine T.F_l_is_integer.ok sc_l_is_integer (fun vs H Q E h => ?_) (fun cdv Ar outer s H vs Q E hr h => ?_)
  · obtain ⟨x, y, rfl, _⟩ := h; rfl
  · obtain ⟨x, y, rfl, k⟩ := h
    refine ⟨_, (pss_one (ps_ret (pe_and (pe_callB call_isi (by rfl) T.n_isinstance (by decide +kernel) (pa_cons (pv 0) (pa_cons (pe_bltn (v := .ty "int") (by rfl) T.n_int boot_int rfl) pa_nil))) (pe_and (pe_not (pe_callB call_isi (by rfl) T.n_isinstance (by decide +kernel) (pa_cons (pv 0) (pa_cons (pe_bltn (v := .ty "bool") (by rfl) T.n_bool boot_bool rfl) pa_nil)))) (pe_one (pe_cmpR op_eq (pv 0) (pv 1) (nomark _))))))), ?_⟩
    refine ⟨_, rfl, _, _, .type "int", .type "int", true, rfl, .ty _, .base (.int _), kit_ty (by decide +kernel), true, rfl, ?_⟩
    rw [if_pos rfl]
    refine ⟨_, rfl, _, _, .type "int", .type "bool", false, rfl, .ty _, .base (.int _), kit_ty (by decide +kernel), false, rfl, true, rfl, ?_⟩
    rw [if_pos rfl]
    refine ⟨_, rfl, _, rfl, rfl, ?_⟩
    have e : decide (V.int x = V.int y) = decide (x = y) := by
      by_cases h : x = y
      · rw [decide_eq_true h, decide_eq_true (congrArg V.int h)]
      · rw [decide_eq_false h, decide_eq_false (fun z => h (V.int.inj z))]
    show Q (.bl (decide (V.int x = V.int y))) H
    rw [e]
    exact k

/-! def _law_power -/
def sp_l_power (K : PySem.W.Frag) : Sp := fun vs H Q _ => ∃ (n : Nat), vs = [.int (n : Int)] ∧ n ≤ 10000 ∧ Q (.int (2 ^ n)) H
theorem ok_l_power (T : Txt K mg A) : FnOk P w K mg base CX0 1 A.l_power.f A.l_power.fd ["width"] (sp_l_power K) := by
  refine T.F_l_power.ok sc_l_power (fun vs H Q E h => ?_) (fun cdv Ar outer s H vs Q E hr h => ?_)
  · obtain ⟨n, rfl, _⟩ := h; rfl
  · obtain ⟨n, rfl, hn, k⟩ := h
    refine ⟨_, (pss_cons (ps_set (i := 1) sc_l_power.nd rfl (.inl rfl) pe_int)
        (pss_cons (ps_for PassesOwn.never rfl (pi_range1 rfl T.n_range (pa_cons (pv 0) pa_nil)) (pg_name (i := 2) sc_l_power.nd rfl (Or.inl rfl)) (pss_one (ps_set (i := 1) sc_l_power.nd rfl (.inl rfl) (pe_op op_mul (pv 1) pe_int))))
        (pss_one (ps_ret (pv 1))))), ?_⟩
    refine ⟨_, rfl, n, rfl, by omega, by omega, for_range (n := n) (fun i σ H2 => ∃ v, σ = [some (.int (n : Int)), some (.int (2 ^ i)), v] ∧ H2 = H) ⟨_, rfl, rfl⟩ ?_ ?_⟩
    · rintro i σ H2 hi ⟨v, rfl, rfl⟩
      refine ⟨_, rfl, _, _, rfl, rfl, .inr ⟨by decide, by decide⟩, ?_⟩
      exact ⟨_, by rw [Int.pow_succ]; rfl, rfl⟩
    · rintro σ H2 ⟨v, rfl, rfl⟩
      exact ⟨_, rfl, k⟩

/-! def _law_code -/
def sp_l_code (K : PySem.W.Frag) : Sp := fun vs H Q _ => ∃ (t : Addr) (n : Nat), vs = [.ref t, .int (n : Int)] ∧ Tape H t ∧ n ≤ 64 ∧ ∀ (H' : Hp) (c : Int), 0 ≤ c → c < 2 ^ n → Tape H' t → Kept t H H' → Q (.int c) H'
theorem ok_l_code (T : Txt K mg A) : FnOk P w K mg base CX0 2 A.l_code.f A.l_code.fd ["tape", "width"] (sp_l_code K) := by
  have G_l_draw : FnOk P w K mg base CX0 1 A.l_draw.f A.l_draw.fd ["tape", "many"] (sp_l_draw K) := ok_l_draw T
  have G_l_power : FnOk P w K mg base CX0 1 A.l_power.f A.l_power.fd ["width"] (sp_l_power K) := ok_l_power T
  refine T.F_l_code.ok sc_l_code (fun vs H Q E h => ?_) (fun cdv Ar outer s H vs Q E hr h => ?_)
  · obtain ⟨t, n, rfl, _⟩ := h; rfl
  · obtain ⟨t, n, rfl, hT, hn, k⟩ := h
    refine ⟨_, (pss_cons (ps_set (i := 2) sc_l_code.nd rfl (.inl rfl) (pe_call G_l_power (hr.mono (by decide)) (by rfl) T.g_l_power T.F_l_power.kp T.b_l_power .nil pass0 (pa_cons (pv 1) pa_nil)))
        (pss_cons (ps_set (i := 3) sc_l_code.nd rfl (.inl rfl) (pe_call G_l_draw (hr.mono (by decide)) (by rfl) T.g_l_draw T.F_l_draw.kp T.b_l_draw .nil pass0 (pa_cons (pv 0) (pa_cons pe_int pa_nil))))
        (pss_cons (ps_if (pt_cmpR op_lt (pv 3) pe_int (nomark _)) (pss_one (ps_ret (pe_op op_mod (pe_callTy call_int1 (by rfl) T.n_int (by decide +kernel) (pa_cons (pe_ix ix_list (pe_lst (pa_cons pe_int (pa_cons pe_int (pa_cons (pe_op op_sub (pv 2) pe_int) (pa_cons (pe_op op_fdiv (pv 2) pe_int) (pa_cons (pe_op op_sub (pe_op op_fdiv (pv 2) pe_int) pe_int) pa_nil)))))) (pv 3) (fun _ _ => rfl)) pa_nil)) (pv 2)))) pss_nil)
        (pss_cons (ps_set (i := 4) sc_l_code.nd rfl (.inl rfl) pe_int)
        (pss_cons (ps_for PassesOwn.never rfl (pi_range1 rfl T.n_range (pa_cons pe_int pa_nil)) (pg_name (i := 5) sc_l_code.nd rfl (Or.inl rfl)) (pss_one (ps_set (i := 4) sc_l_code.nd rfl (.inl rfl) (pe_op op_add (pe_op op_mul (pv 4) pe_int) (pe_call G_l_draw (hr.mono (by decide)) (by rfl) T.g_l_draw T.F_l_draw.kp T.b_l_draw .nil pass0 (pa_cons (pv 0) (pa_cons pe_int pa_nil)))))))
        (pss_one (ps_ret (pe_op op_mod (pe_callTy call_int1 (by rfl) T.n_int (by decide +kernel) (pa_cons (pv 4) pa_nil)) (pv 2))))))))), ?_⟩
    have hp := two_pos n
    refine ⟨_, rfl, n, rfl, by omega, ?_⟩
    refine ⟨_, rfl, t, 10, rfl, hT, by decide, by decide, fun H1 v hv0 hv1 hT1 hK1 => ?_⟩
    refine ⟨_, rfl, _, _, rfl, rfl, _, rfl, ite2 (fun e => ?_) (fun e => ?_)⟩
    · have e : v < 5 := of_decide_eq_true e
      refine ⟨_, rfl, _, _, rfl, rfl, _, rfl, _, _, rfl, rfl, ⟨by decide, by decide⟩, _, rfl, _, _, rfl, rfl, ⟨by decide, by decide⟩, _, _, rfl, rfl, (by show 5 ≤ sizeLine; decide), fun l hl => ?_⟩
      have hat : ∃ z : Int, atI [V.int 0, V.int 1, V.int (2 ^ n - 1), V.int (2 ^ n / 2), V.int (2 ^ n / 2 - 1)] v = some (V.int z) := by
        rcases (show v = 0 ∨ v = 1 ∨ v = 2 ∨ v = 3 ∨ v = 4 by omega) with rfl | rfl | rfl | rfl | rfl <;> exact ⟨_, rfl⟩
      obtain ⟨z, hz⟩ := hat
      refine ⟨_, rfl, l, _, _, _, rfl, rfl, SqL.of upd_same, hz, .inl ⟨_, rfl, _, rfl, _, _, rfl, rfl, hp, ?_⟩⟩
      exact k _ _ (Int.emod_nonneg _ (by omega)) (Int.emod_lt_of_pos _ hp) (hT1.new hl) (hK1.new hl)
    · refine ⟨4, rfl, by decide, by decide, for_range (n := 4) (fun i σ H2 => ∃ (c : Int) (v5 : Option V), σ = [some (.ref t), some (.int (n : Int)), some (.int (2 ^ n)), some (.int v), some (.int c), v5] ∧ Tape H2 t ∧ Kept t H H2) ⟨_, _, rfl, hT1, hK1⟩ ?_ ?_⟩
      · rintro i σ H2 hi ⟨c, v5, rfl, hT2, hK2⟩
        refine ⟨_, rfl, _, _, rfl, rfl, .inr ⟨by decide, by decide⟩, _, rfl, t, 256, rfl, hT2, by decide, by decide, fun H3 u hu0 hu1 hT3 hK3 => ?_⟩
        exact ⟨_, _, rfl, rfl, _, _, rfl, hT3, hK2.trans hK3⟩
      · rintro σ H2 ⟨c, v5, rfl, hT2, hK2⟩
        refine ⟨_, rfl, .inl ⟨_, rfl, _, rfl, _, _, rfl, rfl, hp, ?_⟩⟩
        exact k _ _ (Int.emod_nonneg _ (by omega)) (Int.emod_lt_of_pos _ hp) hT2 hK2

/-! def law -/
theorem half_pow (n : Nat) : (2 : Int) ^ (n + 1) / 2 = 2 ^ n := by
  rw [Int.pow_succ, Int.mul_ediv_cancel _ (by decide)]
theorem dbl_pow (n : Nat) : (2 : Int) ^ (n + 1) = 2 * 2 ^ n := by
  rw [Int.pow_succ, Int.mul_comm]
theorem whole_of {c p : Int} : c % p + c / p * p = c := by
  rw [Int.emod_def, Int.mul_comm p]
  omega
theorem top_of {c p : Int} (h0 : 0 ≤ c) (h : c < 2 * p) (hp : 0 < p) : c / p = if p ≤ c then 1 else 0 := by
  by_cases e : p ≤ c
  · rw [if_pos e]
    have h1 : c / p < 2 := Int.ediv_lt_of_lt_mul hp h
    have h2 : 1 ≤ c / p := Int.le_ediv_of_mul_le hp (by omega)
    omega
  · rw [if_neg e]
    exact Int.ediv_eq_zero_of_lt h0 (by omega)
def sp_law (K : PySem.W.Frag) : Sp := fun vs H Q _ => ∃ (a : Addr) (ns : List Int), vs = [.ref a] ∧ SqL K H a (ns.map V.int) ∧ ns.length ≤ 63 ∧ ∀ H', Q (.bl true) H'
theorem ok_law (T : Txt K mg A) : FnOk P w K mg base CX0 3 A.law.f A.law.fd ["script"] (sp_law K) := by
  have G_l_code : FnOk P w K mg base CX0 2 A.l_code.f A.l_code.fd ["tape", "width"] (sp_l_code K) := ok_l_code T
  have G_l_draw : FnOk P w K mg base CX0 1 A.l_draw.f A.l_draw.fd ["tape", "many"] (sp_l_draw K) := ok_l_draw T
  have G_l_is_integer : FnOk P w K mg base CX0 1 A.l_is_integer.f A.l_is_integer.fd ["told", "due"] (sp_l_is_integer K) := ok_l_is_integer T
  have G_l_power : FnOk P w K mg base CX0 1 A.l_power.f A.l_power.fd ["width"] (sp_l_power K) := ok_l_power T
  have G_l_tape : FnOk P w K mg base CX0 1 A.l_tape.f A.l_tape.fd ["script"] (sp_l_tape K) := ok_l_tape T
  have G_code_of : FnOk P w K mg base CX0 1 A.code_of.f A.code_of.fd ["number", "width"] (sp_code_of K) := ok_code_of T
  have G_number_of : FnOk P w K mg base CX0 1 A.number_of.f A.number_of.fd ["code", "width", "signed"] (sp_number_of K) := ok_number_of T
  refine T.F_law.ok sc_law (fun vs H Q E h => ?_) (fun cdv Ar outer s H vs Q E hr h => ?_)
  · obtain ⟨a, ns, rfl, _⟩ := h; rfl
  · obtain ⟨a, ns, rfl, hS, hlen, k⟩ := h
    refine ⟨_, (pss_cons (ps_set (i := 1) sc_law.nd rfl (.inl rfl) (pe_call G_l_tape (hr.mono (by decide)) (by rfl) T.g_l_tape T.F_l_tape.kp T.b_l_tape .nil pass0 (pa_cons (pv 0) pa_nil)))
        (pss_cons (ps_set (i := 2) sc_law.nd rfl (.inl rfl) (pe_op op_add pe_int (pe_call G_l_draw (hr.mono (by decide)) (by rfl) T.g_l_draw T.F_l_draw.kp T.b_l_draw .nil pass0 (pa_cons (pv 1) (pa_cons pe_int pa_nil)))))
        (pss_cons (ps_set (i := 3) sc_law.nd rfl (.inl rfl) (pe_call G_l_code (hr.mono (by decide)) (by rfl) T.g_l_code T.F_l_code.kp T.b_l_code .nil pass0 (pa_cons (pv 1) (pa_cons (pv 2) pa_nil))))
        (pss_cons (ps_set (i := 4) sc_law.nd rfl (.inl rfl) (pe_call G_l_power (hr.mono (by decide)) (by rfl) T.g_l_power T.F_l_power.kp T.b_l_power .nil pass0 (pa_cons (pe_op op_sub (pv 2) pe_int) pa_nil)))
        (pss_cons (ps_set (i := 5) sc_law.nd rfl (.inl rfl) (pe_op op_mod (pe_callTy call_int1 (by rfl) T.n_int (by decide +kernel) (pa_cons (pv 3) pa_nil)) (pv 4)))
        (pss_cons (ps_set (i := 6) sc_law.nd rfl (.inl rfl) (pe_op op_fdivW (pv 3) (pv 4)))
        (pss_cons (ps_set (i := 7) sc_law.nd rfl (.inl rfl) (pe_op op_add (pv 5) (pe_op op_mul (pv 6) (pv 4))))
        (pss_cons (ps_if (pt_not (pt_val (pe_call G_l_is_integer (hr.mono (by decide)) (by rfl) T.g_l_is_integer T.F_l_is_integer.kp T.b_l_is_integer .nil pass0 (pa_cons (pe_call G_number_of (hr.mono (by decide)) (by rfl) T.g_number_of T.F_number_of.kp T.b_number_of .nil pass0 (pa_cons (pv 3) (pa_cons (pv 2) (pa_cons pe_bl pa_nil)))) (pa_cons (pv 7) pa_nil))))) (pss_one (ps_ret pe_bl)) pss_nil)
        (pss_cons (ps_if (pt_not (pt_val (pe_call G_l_is_integer (hr.mono (by decide)) (by rfl) T.g_l_is_integer T.F_l_is_integer.kp T.b_l_is_integer .nil pass0 (pa_cons (pe_call G_number_of (hr.mono (by decide)) (by rfl) T.g_number_of T.F_number_of.kp T.b_number_of .nil pass0 (pa_cons (pv 3) (pa_cons (pv 2) (pa_cons pe_bl pa_nil)))) (pa_cons (pe_op op_sub (pv 5) (pe_op op_mul (pv 6) (pv 4))) pa_nil))))) (pss_one (ps_ret pe_bl)) pss_nil)
        (pss_cons (ps_if (pt_not (pt_val (pe_call G_l_is_integer (hr.mono (by decide)) (by rfl) T.g_l_is_integer T.F_l_is_integer.kp T.b_l_is_integer .nil pass0 (pa_cons (pe_call G_code_of (hr.mono (by decide)) (by rfl) T.g_code_of T.F_code_of.kp T.b_code_of .nil pass0 (pa_cons (pv 7) (pa_cons (pv 2) pa_nil))) (pa_cons (pv 3) pa_nil))))) (pss_one (ps_ret pe_bl)) pss_nil)
        (pss_one (ps_ret (pe_call G_l_is_integer (hr.mono (by decide)) (by rfl) T.g_l_is_integer T.F_l_is_integer.kp T.b_l_is_integer .nil pass0 (pa_cons (pe_call G_code_of (hr.mono (by decide)) (by rfl) T.g_code_of T.F_code_of.kp T.b_code_of .nil pass0 (pa_cons (pe_op op_sub (pv 5) (pe_op op_mul (pv 6) (pv 4))) (pa_cons (pv 2) pa_nil))) (pa_cons (pv 3) pa_nil))))))))))))))), ?_⟩
    refine ⟨_, rfl, a, ns, rfl, hS, fun H1 t s1 ht hT => ?_⟩
    refine ⟨_, rfl, t, 32, rfl, hT, by decide, by decide, fun H2 v hv0 hv1 hT2 hK2 => ⟨_, _, rfl, rfl, ?_⟩⟩
    obtain ⟨n, hn⟩ : ∃ n : Nat, 1 + v = ((n + 1 : Nat) : Int) := ⟨v.toNat, by omega⟩
    have hn31 : n ≤ 31 := by omega
    dsimp only
    rw [hn]
    clear hn hv0 hv1
    refine ⟨_, rfl, _, rfl, t, n + 1, rfl, hT2, by omega, fun H3 c hc0 hc1 hT3 hK3 => ?_⟩
    have en : ((n + 1 : Nat) : Int) - 1 = (n : Int) := by omega
    have hp := two_pos n
    have hd := dbl_pow n
    rw [hd] at hc1
    have hb : ((2 : Int) ^ n).natAbs < 2 ^ 32 := by
      rw [Int.natAbs_pow]
      exact Nat.pow_lt_pow_right (by decide) (by omega)
    refine ⟨_, rfl, _, _, rfl, rfl, n, congrArg (fun z => [V.int z]) en, by omega, ?_⟩
    refine ⟨_, rfl, .inl ⟨_, rfl, _, rfl, _, _, rfl, rfl, hp, ?_⟩⟩
    refine ⟨_, rfl, _, rfl, _, _, rfl, rfl, wide_div hp hb (by decide) (by decide), ?_⟩
    have hw : c % 2 ^ n + c / 2 ^ n * 2 ^ n = c := whole_of
    have ht2 := top_of hc0 hc1 hp
    have h64 : -(2 ^ 64) < c / 2 ^ n ∧ c / 2 ^ n < 2 ^ 64 := by
      rw [ht2]
      split <;> exact ⟨by decide, by decide⟩
    refine ⟨_, rfl, _, rfl, _, rfl, _, _, rfl, rfl, .inl h64, _, _, rfl, rfl, ?_⟩
    have e3 : (if True ∧ 2 ^ n ≤ c then c - 2 ^ (n + 1) else c) = c % 2 ^ n - c / 2 ^ n * 2 ^ n := by
      rw [ht2] at hw ⊢
      by_cases e : (2 : Int) ^ n ≤ c
      · rw [if_pos ⟨trivial, e⟩]
        rw [if_pos e] at hw ⊢
        omega
      · rw [if_neg (fun z => e z.2)]
        rw [if_neg e] at hw ⊢
        omega
    refine ⟨_, rfl, _, rfl, c, n, false, rfl, by omega, _, rfl, _, _, rfl, _, rfl, iteNS ?_ ?_⟩
    · rw [hw, if_neg (fun z => nomatch z.1)]
    refine ⟨_, rfl, _, rfl, c, n, true, rfl, by omega, _, rfl, _, rfl, _, rfl, _, _, rfl, rfl, .inl h64, _, _, rfl, rfl, _, _, rfl, _, rfl, iteNS ?_ ?_⟩
    · rw [← e3]
      simp only [true_and]
    refine ⟨_, rfl, _, rfl, _, n + 1, rfl, by omega, _, rfl, _, _, rfl, _, rfl, iteNS ?_ ?_⟩
    · rw [hw, if_neg (by omega)]
    refine ⟨_, rfl, _, rfl, _, rfl, _, _, rfl, rfl, .inl h64, _, _, rfl, rfl, _, rfl, _, n + 1, rfl, by omega, _, rfl, _, _, rfl, ?_⟩
    have e4 : (if c % 2 ^ n - c / 2 ^ n * 2 ^ n < 0 then c % 2 ^ n - c / 2 ^ n * 2 ^ n + 2 ^ (n + 1) else c % 2 ^ n - c / 2 ^ n * 2 ^ n) = c := by
      rw [← e3]
      simp only [true_and]
      by_cases e : (2 : Int) ^ n ≤ c
      · rw [if_pos e, if_pos (by omega)]
        omega
      · rw [if_neg e, if_neg (by omega)]
    rw [e4, decide_eq_true rfl]
    exact k _
end
theorem all_mk {l : PySem.W.OpenLaw} {w : World} {K : PySem.W.Frag} {h : Heap} {mg : Str → Option Value} {fa : Addr} (X : K.In h) (G : h.Ns mainGlobals mg) (hfa : mg "law" = some (.ref fa))
    {f0 : Addr} {od0 an0 : Option Addr} {sl0 : Array (Option Value)} {oc0 kV0 dc0 pm0 cd0 ct0 : Value}
    (a0 : PySem.W.nsIn K mainGlobals "code_of" = some (some (.ref f0))) (l0 : K.lookup f0 = some ⟨oc0, od0, .func (PySem.W.fnOf "code_of" "code_of" (defArgs s_code_of) (defBody s_code_of) (defScope s_code_of) .none kV0 dc0 pm0 an0 cd0 ct0), sl0⟩) (c0 : PySem.W.codeIn K cd0 "code_of" = true) (k0 : PySem.W.keepIn K (.ref f0) = true)
    {f1 : Addr} {od1 an1 : Option Addr} {sl1 : Array (Option Value)} {oc1 kV1 dc1 pm1 cd1 ct1 : Value}
    (a1 : PySem.W.nsIn K mainGlobals "number_of" = some (some (.ref f1))) (l1 : K.lookup f1 = some ⟨oc1, od1, .func (PySem.W.fnOf "number_of" "number_of" (defArgs s_number_of) (defBody s_number_of) (defScope s_number_of) .none kV1 dc1 pm1 an1 cd1 ct1), sl1⟩) (c1 : PySem.W.codeIn K cd1 "number_of" = true) (k1 : PySem.W.keepIn K (.ref f1) = true)
    {f2 : Addr} {od2 an2 : Option Addr} {sl2 : Array (Option Value)} {oc2 kV2 dc2 pm2 cd2 ct2 : Value}
    (a2 : PySem.W.nsIn K mainGlobals "_law_tape" = some (some (.ref f2))) (l2 : K.lookup f2 = some ⟨oc2, od2, .func (PySem.W.fnOf "_law_tape" "_law_tape" (defArgs s_l_tape) (defBody s_l_tape) (defScope s_l_tape) .none kV2 dc2 pm2 an2 cd2 ct2), sl2⟩) (c2 : PySem.W.codeIn K cd2 "_law_tape" = true) (k2 : PySem.W.keepIn K (.ref f2) = true)
    {f3 : Addr} {od3 an3 : Option Addr} {sl3 : Array (Option Value)} {oc3 kV3 dc3 pm3 cd3 ct3 : Value}
    (a3 : PySem.W.nsIn K mainGlobals "_law_draw" = some (some (.ref f3))) (l3 : K.lookup f3 = some ⟨oc3, od3, .func (PySem.W.fnOf "_law_draw" "_law_draw" (defArgs s_l_draw) (defBody s_l_draw) (defScope s_l_draw) .none kV3 dc3 pm3 an3 cd3 ct3), sl3⟩) (c3 : PySem.W.codeIn K cd3 "_law_draw" = true) (k3 : PySem.W.keepIn K (.ref f3) = true)
    {f4 : Addr} {od4 an4 : Option Addr} {sl4 : Array (Option Value)} {oc4 kV4 dc4 pm4 cd4 ct4 : Value}
    (a4 : PySem.W.nsIn K mainGlobals "_law_is_integer" = some (some (.ref f4))) (l4 : K.lookup f4 = some ⟨oc4, od4, .func (PySem.W.fnOf "_law_is_integer" "_law_is_integer" (defArgs s_l_is_integer) (defBody s_l_is_integer) (defScope s_l_is_integer) .none kV4 dc4 pm4 an4 cd4 ct4), sl4⟩) (c4 : PySem.W.codeIn K cd4 "_law_is_integer" = true) (k4 : PySem.W.keepIn K (.ref f4) = true)
    {f5 : Addr} {od5 an5 : Option Addr} {sl5 : Array (Option Value)} {oc5 kV5 dc5 pm5 cd5 ct5 : Value}
    (a5 : PySem.W.nsIn K mainGlobals "_law_power" = some (some (.ref f5))) (l5 : K.lookup f5 = some ⟨oc5, od5, .func (PySem.W.fnOf "_law_power" "_law_power" (defArgs s_l_power) (defBody s_l_power) (defScope s_l_power) .none kV5 dc5 pm5 an5 cd5 ct5), sl5⟩) (c5 : PySem.W.codeIn K cd5 "_law_power" = true) (k5 : PySem.W.keepIn K (.ref f5) = true)
    {f6 : Addr} {od6 an6 : Option Addr} {sl6 : Array (Option Value)} {oc6 kV6 dc6 pm6 cd6 ct6 : Value}
    (a6 : PySem.W.nsIn K mainGlobals "_law_code" = some (some (.ref f6))) (l6 : K.lookup f6 = some ⟨oc6, od6, .func (PySem.W.fnOf "_law_code" "_law_code" (defArgs s_l_code) (defBody s_l_code) (defScope s_l_code) .none kV6 dc6 pm6 an6 cd6 ct6), sl6⟩) (c6 : PySem.W.codeIn K cd6 "_law_code" = true) (k6 : PySem.W.keepIn K (.ref f6) = true)
    {f7 : Addr} {od7 an7 : Option Addr} {sl7 : Array (Option Value)} {oc7 kV7 dc7 pm7 cd7 ct7 : Value}
    (a7 : PySem.W.nsIn K mainGlobals "law" = some (some (.ref f7))) (l7 : K.lookup f7 = some ⟨oc7, od7, .func (PySem.W.fnOf "law" "law" (defArgs s_law) (defBody s_law) (defScope s_law) .none kV7 dc7 pm7 an7 cd7 ct7), sl7⟩) (c7 : PySem.W.codeIn K cd7 "law" = true) (k7 : PySem.W.keepIn K (.ref f7) = true)
    (z_abs : PySem.W.nsIn K mainGlobals "abs" = some none)
    (z_bool : PySem.W.nsIn K mainGlobals "bool" = some none)
    (z_int : PySem.W.nsIn K mainGlobals "int" = some none)
    (z_isinstance : PySem.W.nsIn K mainGlobals "isinstance" = some none)
    (z_len : PySem.W.nsIn K mainGlobals "len" = some none)
    (z_list : PySem.W.nsIn K mainGlobals "list" = some none)
    (z_max : PySem.W.nsIn K mainGlobals "max" = some none)
    (z_range : PySem.W.nsIn K mainGlobals "range" = some none)
    : ∃ fd : FuncData, (∀ (s : Shared) (v : Value), BindsTo s fd ⟨[v], []⟩ [("script", v)]) ∧ ∀ base : Heap, K.In base → base.Ns mainGlobals mg → FnOk l.prog w K mg base CX0 3 fa fd ["script"] (sp_law K) := by
  have e := hfa.symm.trans (PySem.W.mg_of X G a7)
  cases e
  have F0 := fun_mk (st := s_code_of) l0 c0 k0
  have b0 := F0.binds (ps := ["number", "width"]) fun _ _ _ _ _ _ us hl => match us, hl with | [_, _], _ => rfl
  have F1 := fun_mk (st := s_number_of) l1 c1 k1
  have b1 := F1.binds (ps := ["code", "width", "signed"]) fun _ _ _ _ _ _ us hl => match us, hl with | [_, _, _], _ => rfl
  have F2 := fun_mk (st := s_l_tape) l2 c2 k2
  have b2 := F2.binds (ps := ["script"]) fun _ _ _ _ _ _ us hl => match us, hl with | [_], _ => rfl
  have F3 := fun_mk (st := s_l_draw) l3 c3 k3
  have b3 := F3.binds (ps := ["tape", "many"]) fun _ _ _ _ _ _ us hl => match us, hl with | [_, _], _ => rfl
  have F4 := fun_mk (st := s_l_is_integer) l4 c4 k4
  have b4 := F4.binds (ps := ["told", "due"]) fun _ _ _ _ _ _ us hl => match us, hl with | [_, _], _ => rfl
  have F5 := fun_mk (st := s_l_power) l5 c5 k5
  have b5 := F5.binds (ps := ["width"]) fun _ _ _ _ _ _ us hl => match us, hl with | [_], _ => rfl
  have F6 := fun_mk (st := s_l_code) l6 c6 k6
  have b6 := F6.binds (ps := ["tape", "width"]) fun _ _ _ _ _ _ us hl => match us, hl with | [_, _], _ => rfl
  have F7 := fun_mk (st := s_law) l7 c7 k7
  have b7 := F7.binds (ps := ["script"]) fun _ _ _ _ _ _ us hl => match us, hl with | [_], _ => rfl
  have T : Txt K mg ⟨⟨f0, _⟩, ⟨f1, _⟩, ⟨f2, _⟩, ⟨f3, _⟩, ⟨f4, _⟩, ⟨f5, _⟩, ⟨f6, _⟩, ⟨fa, _⟩⟩ := ⟨F0, PySem.W.mg_of X G a0, b0, F1, PySem.W.mg_of X G a1, b1, F2, PySem.W.mg_of X G a2, b2, F3, PySem.W.mg_of X G a3, b3, F4, PySem.W.mg_of X G a4, b4, F5, PySem.W.mg_of X G a5, b5, F6, PySem.W.mg_of X G a6, b6, F7, PySem.W.mg_of X G a7, b7, PySem.W.mg_none_of X G z_abs, PySem.W.mg_none_of X G z_bool, PySem.W.mg_none_of X G z_int, PySem.W.mg_none_of X G z_isinstance, PySem.W.mg_none_of X G z_len, PySem.W.mg_none_of X G z_list, PySem.W.mg_none_of X G z_max, PySem.W.mg_none_of X G z_range⟩
  exact ⟨PySem.W.fnOf "law" "law" (defArgs s_law) (defBody s_law) (defScope s_law) .none kV7 dc7 pm7 an7 cd7 ct7, fun s v => .of_eq rfl, fun base _ _ => ok_law T⟩
end My
open PySem PySem.W PyProof.Rows
set_option maxHeartbeats 0 in
theorem PySem.Challenge.cw_bytebridge_k01_integer_of_a_code_holds : PySem.Challenge.rw_bytebridge_k01_integer_of_a_code.Holds := by
  w_on; o_law; k_head; (case hw => w_witness2)
  k_fill
  refine L2.walk_of (l := PySem.Challenge.rw_bytebridge_k01_integer_of_a_code) (n := 63) (k := 3) (x := "script") (CX := fun _ => L2.CX0) (sp := fun w => My.sp_law _) rfl (by decide) rfl ⟨rfl, by decide, by decide⟩ (fun w h Y => PySem.W.kIn_of Y) ?F (fun _ _ a ns hl hO hS => ⟨a, ns, rfl, hS, hl, fun _ => rfl⟩) (fun _ _ _ _ _ h => h)
  case F =>
    intro w mg fa h KX G hmg
    refine' My.all_mk KX G hmg ?a0 ?l0 ?c0 ?k0 ?a1 ?l1 ?c1 ?k1 ?a2 ?l2 ?c2 ?k2 ?a3 ?l3 ?c3 ?k3 ?a4 ?l4 ?c4 ?k4 ?a5 ?l5 ?c5 ?k5 ?a6 ?l6 ?c6 ?k6 ?a7 ?l7 ?c7 ?k7 ?z_abs ?z_bool ?z_int ?z_isinstance ?z_len ?z_list ?z_max ?z_range
    (case a0 => k_is)
    (case l0 => k_is)
    (case c0 => k_is)
    (case k0 => k_is)
    (case a1 => k_is)
    (case l1 => k_is)
    (case c1 => k_is)
    (case k1 => k_is)
    (case a2 => k_is)
    (case l2 => k_is)
    (case c2 => k_is)
    (case k2 => k_is)
    (case a3 => k_is)
    (case l3 => k_is)
    (case c3 => k_is)
    (case k3 => k_is)
    (case a4 => k_is)
    (case l4 => k_is)
    (case c4 => k_is)
    (case k4 => k_is)
    (case a5 => k_is)
    (case l5 => k_is)
    (case c5 => k_is)
    (case k5 => k_is)
    (case a6 => k_is)
    (case l6 => k_is)
    (case c6 => k_is)
    (case k6 => k_is)
    (case a7 => k_is)
    (case l7 => k_is)
    (case c7 => k_is)
    (case k7 => k_is)
    (case z_abs => k_is)
    (case z_bool => k_is)
    (case z_int => k_is)
    (case z_isinstance => k_is)
    (case z_len => k_is)
    (case z_list => k_is)
    (case z_max => k_is)
    (case z_range => k_is)
