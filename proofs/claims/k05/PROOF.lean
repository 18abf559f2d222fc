import PyProof.Rows.All
import Wide.All
import OpenK.AllK
import Wide.FinOn
import HandS.ForMost
import HandS.IsInst
import HandS.Wide
import HandS.Style
import HandS.Codes
import HandS.WideBits
import HandS.More
import HandS.Walk
import HandS.TupAny
import HandS.Sort
import HandS.SortInts
import HandS.ExcInit
import HandS.ExcIs
import HandS.ExcValue
import HandS.FStr
import HandS.FStrTup
import HandS.ClsMeth
import KE.KExcIs
import PySem.Challenge.RW_bytebridge_k05_classes_of_errors
set_option Elab.async false
set_option linter.all false
set_option maxRecDepth 100000
set_option maxHeartbeats 4000000
namespace My
open PySem PySem.Spec PyProof.Rows L2
def topS (i : Nat) : Stmt := PySem.Challenge.pw_bytebridge_k05_classes_of_errors.main.body.getD i (.Pass ⟨0, 0, 0, 0⟩)
abbrev s_l_tape : Stmt := topS 33
theorem sc_l_tape : FnScope ["script", "total", "cell"] ["script"] (defScope s_l_tape) := ⟨rfl, rfl, rfl, by decide +kernel, rfl, by decide +kernel, by decide +kernel⟩
abbrev s_l_draw : Stmt := topS 34
theorem sc_l_draw : FnScope ["tape", "many", "place", "number"] ["tape", "many"] (defScope s_l_draw) := ⟨rfl, rfl, rfl, by decide +kernel, rfl, by decide +kernel, by decide +kernel⟩
abbrev s_l_name : Stmt := topS 35
theorem sc_l_name : FnScope ["tape", "used", "signs", "words", "name", "k", "fresh"] ["tape", "used"] (defScope s_l_name) := ⟨rfl, rfl, rfl, by decide +kernel, rfl, by decide +kernel, by decide +kernel⟩
abbrev s_l_classes : Stmt := topS 36
theorem sc_l_classes : FnScope ["e", "told"] ["e"] (defScope s_l_classes) := ⟨rfl, rfl, rfl, by decide +kernel, rfl, by decide +kernel, by decide +kernel⟩
abbrev s_i_AlreadySet : Stmt := inClass (topS 6) 0
theorem sc_i_AlreadySet : FnScope ["self", "name"] ["self", "name"] (defScope s_i_AlreadySet) := ⟨rfl, rfl, rfl, by decide +kernel, rfl, by decide +kernel, by decide +kernel⟩
abbrev s_i_BadPlan : Stmt := inClass (topS 12) 0
theorem sc_i_BadPlan : FnScope ["self", "part", "place"] ["self", "part", "place"] (defScope s_i_BadPlan) := ⟨rfl, rfl, rfl, by decide +kernel, rfl, by decide +kernel, by decide +kernel⟩
abbrev s_i_TextError : Stmt := inClass (topS 13) 0
theorem sc_i_TextError : FnScope ["self", "place"] ["self", "place"] (defScope s_i_TextError) := ⟨rfl, rfl, rfl, by decide +kernel, rfl, by decide +kernel, by decide +kernel⟩
abbrev s_i_BitsLeft : Stmt := inClass (topS 24) 0
theorem sc_i_BitsLeft : FnScope ["self", "place", "bits"] ["self", "place", "bits"] (defScope s_i_BitsLeft) := ⟨rfl, rfl, rfl, by decide +kernel, rfl, by decide +kernel, by decide +kernel⟩
abbrev s_i_InvalidMember : Stmt := inClass (topS 2) 0
theorem sc_i_InvalidMember : FnScope ["self", "path"] ["self", "path"] (defScope s_i_InvalidMember) := ⟨rfl, rfl, rfl, by decide +kernel, rfl, by decide +kernel, by decide +kernel⟩
abbrev s_i_KindsDiffer : Stmt := inClass (topS 7) 0
theorem sc_i_KindsDiffer : FnScope ["self", "path"] ["self", "path"] (defScope s_i_KindsDiffer) := ⟨rfl, rfl, rfl, by decide +kernel, rfl, by decide +kernel, by decide +kernel⟩
abbrev s_i_MessageTooLong : Stmt := inClass (topS 31) 0
theorem sc_i_MessageTooLong : FnScope ["self", "size"] ["self", "size"] (defScope s_i_MessageTooLong) := ⟨rfl, rfl, rfl, by decide +kernel, rfl, by decide +kernel, by decide +kernel⟩
abbrev s_i_MissingDefault : Stmt := inClass (topS 8) 0
theorem sc_i_MissingDefault : FnScope ["self", "path"] ["self", "path"] (defScope s_i_MissingDefault) := ⟨rfl, rfl, rfl, by decide +kernel, rfl, by decide +kernel, by decide +kernel⟩
abbrev s_i_NotConvertible : Stmt := inClass (topS 10) 0
theorem sc_i_NotConvertible : FnScope ["self"] ["self"] (defScope s_i_NotConvertible) := ⟨rfl, rfl, rfl, by decide +kernel, rfl, by decide +kernel, by decide +kernel⟩
abbrev s_i_NothingConvertible : Stmt := inClass (topS 9) 0
theorem sc_i_NothingConvertible : FnScope ["self"] ["self"] (defScope s_i_NothingConvertible) := ⟨rfl, rfl, rfl, by decide +kernel, rfl, by decide +kernel, by decide +kernel⟩
abbrev s_i_NumberExpected : Stmt := inClass (topS 22) 0
theorem sc_i_NumberExpected : FnScope ["self", "place", "least", "greatest"] ["self", "place", "least", "greatest"] (defScope s_i_NumberExpected) := ⟨rfl, rfl, rfl, by decide +kernel, rfl, by decide +kernel, by decide +kernel⟩
abbrev s_i_SymbolExpected : Stmt := inClass (topS 30) 0
theorem sc_i_SymbolExpected : FnScope ["self", "place", "symbol"] ["self", "place", "symbol"] (defScope s_i_SymbolExpected) := ⟨rfl, rfl, rfl, by decide +kernel, rfl, by decide +kernel, by decide +kernel⟩
abbrev s_i_UnexpectedByte : Stmt := inClass (topS 3) 0
theorem sc_i_UnexpectedByte : FnScope ["self", "place"] ["self", "place"] (defScope s_i_UnexpectedByte) := ⟨rfl, rfl, rfl, by decide +kernel, rfl, by decide +kernel, by decide +kernel⟩
abbrev s_i_UnexpectedEnd : Stmt := inClass (topS 4) 0
theorem sc_i_UnexpectedEnd : FnScope ["self"] ["self"] (defScope s_i_UnexpectedEnd) := ⟨rfl, rfl, rfl, by decide +kernel, rfl, by decide +kernel, by decide +kernel⟩
abbrev s_i_UnknownField : Stmt := inClass (topS 11) 0
theorem sc_i_UnknownField : FnScope ["self", "path"] ["self", "path"] (defScope s_i_UnknownField) := ⟨rfl, rfl, rfl, by decide +kernel, rfl, by decide +kernel, by decide +kernel⟩
abbrev s_i_UnknownMember : Stmt := inClass (topS 5) 0
theorem sc_i_UnknownMember : FnScope ["self", "name"] ["self", "name"] (defScope s_i_UnknownMember) := ⟨rfl, rfl, rfl, by decide +kernel, rfl, by decide +kernel, by decide +kernel⟩
abbrev s_l_made : Stmt := topS 37
theorem sc_l_made : FnScope ["word", "at", "low", "high", "made"] ["word", "at", "low", "high"] (defScope s_l_made) := ⟨rfl, rfl, rfl, by decide +kernel, rfl, by decide +kernel, by decide +kernel⟩
abbrev s_l_attributes : Stmt := topS 38
theorem sc_l_attributes : FnScope ["k", "e"] ["k", "e"] (defScope s_l_attributes) := ⟨rfl, rfl, rfl, by decide +kernel, rfl, by decide +kernel, by decide +kernel⟩
abbrev s_law : Stmt := topS 39
theorem sc_law : FnScope ["script", "tape", "word", "at", "low", "high", "made", "due", "k", "j"] ["script"] (defScope s_law) := ⟨rfl, rfl, rfl, by decide +kernel, rfl, by decide +kernel, by decide +kernel⟩
structure Fx where
  f : Addr
  fd : FuncData
structure Ad where
  l_tape : Fx
  l_draw : Fx
  l_name : Fx
  l_classes : Fx
  i_AlreadySet : Fx
  i_BadPlan : Fx
  i_TextError : Fx
  i_BitsLeft : Fx
  i_InvalidMember : Fx
  i_KindsDiffer : Fx
  i_MessageTooLong : Fx
  i_MissingDefault : Fx
  i_NotConvertible : Fx
  i_NothingConvertible : Fx
  i_NumberExpected : Fx
  i_SymbolExpected : Fx
  i_UnexpectedByte : Fx
  i_UnexpectedEnd : Fx
  i_UnknownField : Fx
  i_UnknownMember : Fx
  l_made : Fx
  l_attributes : Fx
  law : Fx
  k_BridgeError : Addr
  k_InvalidMember : Addr
  k_UnexpectedByte : Addr
  k_UnexpectedEnd : Addr
  k_UnknownMember : Addr
  k_AlreadySet : Addr
  k_KindsDiffer : Addr
  k_MissingDefault : Addr
  k_NothingConvertible : Addr
  k_NotConvertible : Addr
  k_UnknownField : Addr
  k_BadPlan : Addr
  k_TextError : Addr
  k_WordTooLong : Addr
  k_InvalidNumber : Addr
  k_UnexpectedCharacter : Addr
  k_ItemExpected : Addr
  k_NameExpected : Addr
  k_DuplicateName : Addr
  k_WordExpected : Addr
  k_CountExpected : Addr
  k_NumberExpected : Addr
  k_DuplicateNumber : Addr
  k_BitsLeft : Addr
  k_RangesNotAllowed : Addr
  k_DefaultNotAllowed : Addr
  k_NestedTooDeeply : Addr
  k_EmptyElements : Addr
  k_CheckExpected : Addr
  k_SymbolExpected : Addr
  k_MessageTooLong : Addr
/-! errors as values -/
/-- the attributes that an error of the program can have -/
def errAttrs : List Str := ["path", "place", "name", "part", "size", "least", "greatest", "bits", "symbol"]
/-- a class of errors -/
structure EC (K : PySem.W.Frag) (C : Addr) : Prop where
  ox : OexC K C
  ex : ExcC K C
  no : ∀ f ∈ errAttrs, PySem.W.findIn K (.ref C) f = some none
/-- at a: an error of the class at C with these attributes, the last one first -/
def Err (H : Hp) (a C : Addr) (fs : List (Str × V)) : Prop := (fs = [] ∧ H a = some (exo a C none)) ∨ ∃ dx, H a = some (exo a C (some dx)) ∧ H dx = some (exd dx fs)
section
variable {X : Cx} {pins : List (Addr × Obj)} {σ : L2.St} {H : Hp} {s : Shared} {a C : Addr} {fs : List (Str × V)}
theorem Err.inst (I : Inv X pins σ H s) (e : Err H a C fs) : ∃ (ox : Obj) (od : Option Obj), PySem.W.InstAt s.heap a ox C od := by
  rcases e with ⟨_, e⟩ | ⟨dx, e, ed⟩
  · obtain ⟨t1, ho⟩ := exo_at I.hok e
    exact ⟨_, none, ho, rfl, rfl, trivial⟩
  · obtain ⟨t1, ho⟩ := exo_at I.hok e
    obtain ⟨mA, hns, rel⟩ := exd_at I.hok ed
    obtain ⟨od, h1, hl⟩ := lookIn_ns hns
    exact ⟨_, some od, ho, rfl, rfl, h1⟩
/-- isinstance(e, c), e an error -/
def rIsErr (K : PySem.W.Frag) : List V → Hp → VK → Prop := fun xs H Q => ∃ (a C : Addr) (fs : List (Str × V)) (c : V) (cv : Value) (b : Bool), xs = [.ref a, c] ∧ EC K C ∧ Err H a C fs ∧ ClsV c cv ∧ PySem.W.kitOne K (.ref C) cv = some b ∧ Q (.bl b) H
theorem call_isErr : CallR X (.builtin "isinstance") (rIsErr X.K) := by
  intro pins s σ H xs us Q I r h
  obtain ⟨a, C, fs, c, cv, b, rfl, ec, er, kc, e, q⟩ := h
  obtain ⟨u1, u2, rfl, r1, r2⟩ := vals2 r
  obtain rfl : u1 = Value.ref a := r1
  have e2 := kc.eq r2
  subst e2
  obtain ⟨ox, od, J⟩ := er.inst I
  have D := ec.ex
  have cs : (PySem.W.clsIn X.K C).isSome = true := by
    obtain ⟨cd, hc, _⟩ := PySem.W.any_some D.hd
    rw [hc]
    rfl
  exact PySem.W.kia_one (PySem.W.kitx_exc cs D.hg D.hk D.hs D.ha D.hn D.ht D.hm) I.kIn J e (fun z => nomatch z) fun tk => ⟨.bl b, H, I.tok tk, rfl, q⟩
/-- e.f, e an error with this attribute -/
def tXat (K : PySem.W.Frag) (f : Str) (te : TE) : TE := fun σ H Q => te σ H fun x H1 => ∃ (a C : Addr) (fs : List (Str × V)) (v : V), x = .ref a ∧ EC K C ∧ f ∈ errAttrs ∧ Err H1 a C fs ∧ fs.lookup f = some v ∧ Q v H1
theorem pe_xat {e : Expr} {f : Str} {te : TE} {pos : Pos} (he : PE X e te) (hb : attributeBase e f X.env (eval e X.env) = eval e X.env := by rfl) : PE X (.Attribute e f pos) (tXat X.K f te) := by
  refine ⟨fun pins s σ H Q I h => ?_⟩
  refine attr_of hb (thn (he.run pins s σ H _ I h) fun u s1 hh => ?_)
  obtain ⟨x, H1, I1, rx, a, C, fs, v, ex, ec, hf, er, l, q⟩ := hh
  subst ex
  obtain rfl : u = Value.ref a := rx
  rcases er with ⟨z, _⟩ | ⟨dx, e, ed⟩
  · subst z
    cases l
  · obtain ⟨t1, ho⟩ := exo_at I1.hok e
    obtain ⟨mA, hns, rel⟩ := exd_at I1.hok ed
    obtain ⟨od, h1, hl⟩ := lookIn_ns hns
    obtain ⟨w, hw, rw'⟩ := RelO.some_of (v := v) (o := mA f) (by rw [← l]; exact rel f)
    have D := ec.ex
    refine HandSPX.exc_get (ox := { cls := .ref C, dict := some dx, data := .fields #[.ref t1, .none, .none, .none, .bool false, .none] }) (od := some od) I1.kIn ⟨ho, rfl, rfl, h1⟩ D.hg D.hk D.hs (PySem.W.findObj_own D.hd (ec.no f hf) rfl (by rw [hl, hw])) (handed_of rw') ⟨v, H1, I1.tok _, rw', q⟩
end

section
variable {X : Cx} {x : Str} {C CB fI : Addr} {e : Expr} {es : List Expr} {ta : TA} {p p1 p2 pos : Pos} {mc : Value} {pl : Sem Bool} {k : Nat} {fd : FuncData} {ps : List Str} {sp : Sp}
/-- the shape of B.__init__(..) -/
def InitShape (X : Cx) (x : Str) (p1 p2 pos : Pos) (es : List Expr) (pl : Sem Bool) : Prop :=
  eval (.Call (.Attribute (.Name x p1) "__init__" p2) es [] pos) X.env = (do let ov ← eval (.Name x p1) X.env; standAt p2.atName; let (f, first) ← holding [ov] (getMethod ov "__init__" pl); callWith pos f first (backTo pos (starEach es X.env)) (backToKw pos (keywordEach [] X.env)))
/-- B.__init__(self, ..), B a class of the program without an own one -/
theorem pe_binit (hg : Gl X x) (hm : X.mg x = some (.ref CB)) (rd : ClX.CRead X.K CB mc) (vV : PySem.W.findCls X.K (.ref CB) mc "__init__" = some (.val (.builtin "ValueError.__init__"))) (ha : PA X (e :: es) ta) (hdb : (x == ("__debug__" : Str)) = false := by decide)
    (hc : InitShape X x p1 p2 pos (e :: es) pl := by rfl) (he : starEach (e :: es) X.env = (false, eval e X.env) :: starEach es X.env := by rfl) (hpl : (backTo pos (starEach es X.env)).any (·.1) = false := by rfl) :
    PE X (.Call (.Attribute (.Name x p1) "__init__" p2) (e :: es) [] pos) (tVeI X.K ta) := by
  refine ⟨fun pins s σ H Q I h => ?_⟩
  refine PySem.W.methodCall_KW (ld_glob I hg hm ?_ hdb) hc
  refine PySem.W.method_cls I.kIn rd.ga (PySem.W.cls_value I.kIn rd.rd vV (by decide +kernel) ?_)
  refine PyProof.Rows.callWith_method1 (first := []) (thn (ha.run pos pins _ σ H _ (I.tok _) h) fun us s1 hh => ?_) he hpl
  obtain ⟨vs, H1, I1, r1, a, C, ws, ev, hl, T, ea, q⟩ := hh
  subst ev
  cases r1 with
  | @cons _ u0 _ ur ra rw' =>
    obtain rfl : u0 = Value.ref a := ra
    refine oinit_ok T I1 ea ?_ fun s' J => ⟨.non, H1, J, rfl, q⟩
    rw [← Paired.length rw', sizeLine_eq]
    omega
/-- .. with one of the text -/
theorem pe_tinit (hg : Gl X x) (hm : X.mg x = some (.ref CB)) (rd : ClX.CRead X.K CB mc) (vV : PySem.W.findCls X.K (.ref CB) mc "__init__" = some (.val (.ref fI))) (hk : PySem.W.keepIn X.K (.ref fI) = true)
    (F : FnOk X.prog X.w X.K X.mg X.base CX0 k fI fd ps sp) (hr : Room k X.A) (hb : Binds X.K fd ps []) (ha : PA X (e :: es) ta) (hdb : (x == ("__debug__" : Str)) = false := by decide)
    (hc : InitShape X x p1 p2 pos (e :: es) pl := by rfl) (he : starEach (e :: es) X.env = (false, eval e X.env) :: starEach es X.env := by rfl) (hpl : (backTo pos (starEach es X.env)).any (·.1) = false := by rfl) :
    PE X (.Call (.Attribute (.Name x p1) "__init__" p2) (e :: es) [] pos) (tCall sp [] E0 ta) := by
  refine ⟨fun pins s σ H Q I h => ?_⟩
  refine PySem.W.methodCall_KW (ld_glob I hg hm ?_ hdb) hc
  refine PySem.W.method_cls I.kIn rd.ga (PySem.W.cls_value I.kIn rd.rd vV rfl ?_)
  refine PySem.W.callWith_K (h₀ := X.base) (first := []) I.ok.mod.kin hk (thn (ha.run pos pins _ σ H _ (I.tok _) h) fun us s1 ⟨vs, H1, I1, r, q⟩ => ⟨I1.kIn, ?_⟩) he hpl
  exact run_fn F hr hb .nil pass0 I1 r q
/-- C(..), an error -/
def tMk (C : Addr) (sp : Sp) (ta : TA) : TE := fun σ H Q => ta σ H fun vs H1 => vs.length ≤ 1000 ∧ ∀ a, H1 a = none → sp (.ref a :: vs) (upd H1 a (exo a C none)) (fun v H2 => v = .non ∧ Q (.ref a) H2) E0
theorem make_run {pins : List (Addr × Obj)} {σ : L2.St} {H1 : Hp} {s1 : Shared} {Q : VK} {us : List Value} {vs : List V} (T : OexC X.K C) (iC : PySem.W.findIn X.K (.ref C) "__init__" = some (some (.ref fI))) (tI : PySem.W.typeIn X.K (.ref fI) = some (.type "function"))
    (F1 : FnOk X.prog X.w X.K X.mg X.base CX0 k fI fd ps sp) (hr : Room (k + 1) X.A) (hb : Binds X.K fd ps []) (I1 : Inv X pins σ H1 s1) (r1 : Vals vs us) (hz : vs.length ≤ 1000)
    (q1 : ∀ a, H1 a = none → sp (.ref a :: vs) (upd H1 a (exo a C none)) (fun v H2 => v = .non ∧ Q (.ref a) H2) E0) : wpAny (model X.prog X.w) X.A (call (.ref C) us) (EP X pins σ Q) X.xe s1 := by
  obtain ⟨nm, q, N, bs, bm, sn, sub, ab, col, dd, k0, k1, k2, k3, k5, hC, hbm⟩ := T.cls
  obtain ⟨hp, g, dr, tk, os⟩ := s1
  have hsz : hp.objs.size ≤ hp.objs.size + 1 := Nat.le_succ _
  have hn : H1 (hp.objs.size + 1) = none := I1.hok.fresh hsz
  have hq := q1 _ hn
  have kk : ∀ b o, hp.get? b = some o → ((hp.push (PySem.W.kdv_tup us)).push (PySem.HandSPX.excO C hp.objs.size)).get? b = some o := fun b o z => Heap.get?_push_of_some _ (Heap.get?_push_of_some _ z)
  have hget : ((hp.push (PySem.W.kdv_tup us)).push (PySem.HandSPX.excO C hp.objs.size)).get? (hp.objs.size + 1) = some (PySem.HandSPX.excO C hp.objs.size) := by heap_get
  have I2 := I1.laid (t' := tk) (a := hp.objs.size + 1) (o := exo (hp.objs.size + 1) C none) kk hsz (exo_ok hget)
  have r2 : Vals (V.ref (hp.objs.size + 1) :: vs) (Value.ref (hp.objs.size + 1) :: us) := .cons rfl r1
  have hl : (Value.ref (hp.objs.size + 1) :: us).length = ps.length := by
    have z := r2.length
    rw [F1.len _ _ _ _ hq] at z
    exact z.symm
  have hus : us.length ≤ sizeLine := by
    rw [← Paired.length r1, sizeLine_eq]
    omega
  refine wpAny_call (PySem.HandSPX.call_own F.excBase_ValueError (fun Y => PySem.HandSPX.refsVE_contains Y bm hbm) (I1.kIn _ _ hC) (PySem.W.looks_findIn I1.kIn iC) (fun self => PySem.W.bind_fn I1.kIn self tI) hus ?_)
  have hbs := hb ⟨(hp.push (PySem.W.kdv_tup us)).push (PySem.HandSPX.excO C hp.objs.size), g, dr, tk, os⟩ (Value.ref (hp.objs.size + 1) :: us) I2.kIn (by rw [List.append_nil]; exact hl)
  rw [List.append_nil] at hbs
  refine codeAny_mono (F1.run _ X.stack _ _ ⟨Value.ref (hp.objs.size + 1) :: us, []⟩ _ _ _ _ (hr.make C us []) (I2.env0.make C us []) hbs r2 hq) fun r s' hq' => ?_
  cases r with
  | error er => exact hq'.elim
  | ok fl =>
    cases fl with
    | ret u =>
      obtain ⟨v, H', J, rv, ev, qq⟩ := I2.after hq'
      subst ev
      exact ⟨rv, .ref (hp.objs.size + 1), H', J, rfl, qq⟩
    | next => exact False.elim hq'
    | brk => exact False.elim hq'
    | cont => exact False.elim hq'
theorem pe_mk (T : OexC X.K C) (iC : PySem.W.findIn X.K (.ref C) "__init__" = some (some (.ref fI))) (tI : PySem.W.typeIn X.K (.ref fI) = some (.type "function"))
    (F1 : FnOk X.prog X.w X.K X.mg X.base CX0 k fI fd ps sp) (hr : Room (k + 1) X.A) (hb : Binds X.K fd ps []) (hg : Gl X x) (hm : X.mg x = some (.ref C)) (ha : PA X (e :: es) ta)
    (hdb : (x == ("__debug__" : Str)) = false := by decide) (he : starEach (e :: es) X.env = (false, eval e X.env) :: starEach es X.env := by rfl) (hpl : (backTo pos (starEach es X.env)).any (·.1) = false := by rfl) :
    PE X (.Call (.Name x p) (e :: es) [] pos) (tMk C sp ta) := by
  refine ⟨fun pins s σ H Q I h => ?_⟩
  refine wpAny_Call_Name_kw (ld_glob I hg hm ?_ hdb)
  refine PySem.W.callWith_K (h₀ := X.base) (first := []) I.ok.mod.kin T.kC (thn (ha.run pos pins s σ H _ I h) fun us s1 ⟨vs, H1, I1, r1, hz, q1⟩ => ⟨I1.kIn, ?_⟩) he hpl
  exact make_run T iC tI F1 hr hb I1 r1 hz q1
theorem pe_mk0 (T : OexC X.K C) (iC : PySem.W.findIn X.K (.ref C) "__init__" = some (some (.ref fI))) (tI : PySem.W.typeIn X.K (.ref fI) = some (.type "function"))
    (F1 : FnOk X.prog X.w X.K X.mg X.base CX0 k fI fd ps sp) (hr : Room (k + 1) X.A) (hb : Binds X.K fd ps []) (hg : Gl X x) (hm : X.mg x = some (.ref C)) (hdb : (x == ("__debug__" : Str)) = false := by decide) :
    PE X (.Call (.Name x p) [] [] pos) (tMk C sp tNil) := by
  refine ⟨fun pins s σ H Q I h => ?_⟩
  refine wpAny_Call_Name_kw (ld_glob I hg hm ?_ hdb)
  exact PySem.W.callWith_K0 (first := []) I.kIn T.kC (make_run (us := []) (vs := []) T iC tI F1 hr hb I .nil h.1 h.2)
/-- C(), a class without an own __init__ -/
theorem pe_mkB (q : PySem.W.excIn X.K C [.type "ValueError", .type "Exception", .type "BaseException", .type "object"] "ValueError.__new__" = true) (kC : PySem.W.keepIn X.K (.ref C) = true) (hg : Gl X x) (hm : X.mg x = some (.ref C)) (hdb : (x == ("__debug__" : Str)) = false := by decide) :
    PE X (.Call (.Name x p) [] [] pos) (fun _ H Q => ∀ a, H a = none → Q (.ref a) (upd H a (exo a C none))) := by
  refine ⟨fun pins s σ H Q I h => ?_⟩
  refine wpAny_Call_Name_kw (ld_glob I hg hm ?_ hdb)
  refine PySem.W.callWith_K0 (first := []) I.kIn kC ?_
  show wpAny _ _ (call (.ref C) []) _ _ _
  obtain ⟨bm, N, nm, qn, bs, hdct, sn, sub, ab, col, dd, k0, k1, k2, k3, k5, mN, hC, hN, hni, T⟩ := exc_obj I.kIn q
  refine wpAny_call_exc_subT F.excBase_ValueError T hC hN hni (fun h' a hm => ?_) (Nat.zero_le _)
  have hn : H a = none := I.hok.gone hm.new
  obtain ⟨t, ht, _, _⟩ := hm.there
  exact ⟨.ref a, _, I.laidN hm.keeps hm.new hn (exo_ok ht), rfl, h a hn⟩
end
/-! repr of small tuples -/
def toD : V → PyData
  | .int i => .int i
  | .str x => .str x
  | _ => .none
/-- small ints and short texts -/
def Sml (y : V) : Prop := (∃ i : Int, y = .int i ∧ i.natAbs < 10 ^ 9) ∨ ∃ z : Str, y = .str z ∧ z.length ≤ 100 ∧ ∀ c ∈ z.cps.toList, c < 16 ^ 8
def shownT (ys : List V) : Str := (PyData.tuple (ys.map toD)).shown
theorem log2_small {n : Nat} (h : n < 10 ^ 9) : n.log2 < 1920 := by
  by_cases z : n = 0
  · subst z; decide
  · rw [Nat.log2_lt z]
    exact Nat.lt_trans h (Nat.lt_of_lt_of_le (show 10 ^ 9 < 2 ^ 30 by decide) (Nat.pow_le_pow_right (by decide) (by decide)))
theorem sml_shown {y : V} (h : Sml y) : (toD y).shown.length ≤ 1002 ∧ (toD y).showable = true ∧ (toD y).hasDict = false ∧ (toD y).depth = 0 := by
  rcases h with ⟨i, rfl, hi⟩ | ⟨z, rfl, hz, hc⟩
  · refine ⟨?_, ?_, ?_, ?_⟩
    · have e := int_text_length_le10 (k := 9) (by decide) hi
      show (Str.ofString (toString i)).length ≤ _
      rw [PySem.ofString_length]
      omega
    · simp only [toD, PyData.showable, decide_eq_true_eq]
      exact log2_small hi
    · simp only [toD, PyData.hasDict]
    · simp only [toD, PyData.depth]
  · refine ⟨?_, ?_, ?_, ?_⟩
    · have e := StrLaws.reprText_len z hc
      simp only [toD, PyData.shown]
      omega
    · simp only [toD, PyData.showable]
    · simp only [toD, PyData.hasDict]
    · simp only [toD, PyData.depth]
theorem reads_all {h : Heap} : ∀ {ys : List V} {its : List Value}, (∀ y ∈ ys, Sml y) → Vals ys its → ∃ as, ReadsAll h its (ys.map toD) as
  | [], _, _, r => by
    cases r
    exact ⟨[], .nil⟩
  | y :: ys, _, hs, r => by
    cases r with
    | cons r1 r2 =>
      obtain ⟨as, q⟩ := reads_all (fun z hz => hs z (List.mem_cons_of_mem _ hz)) r2
      rcases hs y List.mem_cons_self with ⟨i, rfl, _⟩ | ⟨z, rfl, _⟩
      · obtain ⟨t, rfl⟩ := r1
        exact ⟨_, .cons (.int i t) q⟩
      · obtain ⟨t, rfl⟩ := r1
        exact ⟨_, .cons (.str z t) q⟩
theorem sml_all : ∀ (ys : List V), (∀ y ∈ ys, Sml y) → piled (PyData.shownAll (ys.map toD)) ≤ 1004 * ys.length ∧ PyData.showableAll (ys.map toD) = true ∧ PyData.hasDictAll (ys.map toD) = false ∧ PyData.depthAll (ys.map toD) = 0
  | [], _ => by simp [PyData.shownAll, piled_nil, PyData.showableAll, PyData.hasDictAll, PyData.depthAll]
  | y :: ys, h => by
    obtain ⟨a1, a2, a3, a4⟩ := sml_shown (h y List.mem_cons_self)
    obtain ⟨b1, b2, b3, b4⟩ := sml_all ys fun z hz => h z (List.mem_cons_of_mem _ hz)
    simp only [List.map_cons, PyData.shownAll, PyData.showableAll, PyData.hasDictAll, PyData.depthAll, piled_cons, List.length_cons, a2, a3, a4, b2, b3, b4]
    refine ⟨by omega, rfl, rfl, by first | rfl | simp⟩
def rRepr (K : PySem.W.Frag) : List V → Hp → VK → Prop := fun xs H Q => ∃ (p : Addr) (ys : List V), xs = [.ref p] ∧ SqT K H p ys ∧ (∀ y ∈ ys, Sml y) ∧ ys.length ≤ 3 ∧ Q (.str (shownT ys)) H
theorem call_repr {X : Cx} {k : Nat} (hG : X.A.guards = some []) (hr : Room k X.A) : CallR X (.builtin "repr") (rRepr X.K) := by
  intro pins s σ H xs us Q I r h
  obtain ⟨p, ys, rfl, ht, hs, hl, q⟩ := h
  obtain ⟨u, rfl, r1⟩ := vals1 r
  obtain rfl : u = Value.ref p := r1
  obtain ⟨its, rv, ⟨o, ho, hcl, n, hd⟩, _⟩ := I.tuple ht
  obtain ⟨as, ra⟩ := reads_all (h := s.heap) hs rv
  obtain ⟨b1, b2, b3, b4⟩ := sml_all ys hs
  have hu := hr.un
  have e1 : (PyData.tuple (ys.map toD)).showable = true := by simp only [PyData.showable]; exact b2
  have e2 : (PyData.tuple (ys.map toD)).hasDict = false := by simp only [PyData.hasDict]; exact b3
  have e3 : (PyData.tuple (ys.map toD)).depth ≤ 1 := by simp only [PyData.depth]; omega
  have e4 : (PyData.tuple (ys.map toD)).shown.length ≤ sizeLine := by
    have z := fmt_text (PyData.shownAll (ys.map toD))
    simp only [PyData.shown]
    rw [sizeLine_eq]
    omega
  refine repr_of_reads' (Reads.tuple ho hcl hd (by simpa using ra)) e1 (fun z => absurd (e2.symm.trans z) Bool.false_ne_true) hG (by omega) (fun _ _ z => z) (fun h' u tk k => ?_) e4
  exact ⟨.str _, H, I.kept k, ⟨u, rfl⟩, q⟩
/-! the law's def called from the top, where no repr is under way -/
section
variable {P : Program} {w : World} {K : PySem.W.Frag} {mg mb : Str → Option Value} {base : Heap} {k : Nat} {f a : Addr} {ps N : List Str}
/-- a def called by the top's caller alone -/
def TopFn (P : Program) (w : World) (K : PySem.W.Frag) (mg : Str → Option Value) (base : Heap) (k : Nat) (f : Addr) (sp : Sp) : Prop :=
  ∀ (s : Shared) (H : Hp) (us : List Value) (vs : List V) (Q : VK), Room k callerA → Env0 P w K mg base callerA [] s H → Vals vs us → sp vs H Q E0 → codeAny (model P w) callerA (.call (.ref f) ⟨us, []⟩) (CR CX0 [] P w H s Q E0) s
theorem top_fn {x qual : Str} {st : Stmt} {fd : FuncData} {sp : Sp} (F : Fun K x qual st f fd) (S : FnScope N ps (defScope st)) (hb : L2.Binds K fd ps []) (len : ∀ vs H Q, sp vs H Q E0 → vs.length = ps.length)
    (body : ∀ (cdv : Value) (s : Shared) (H : Hp) (vs : List V) (Q : VK), Room k (callerA.deeper (envOfC qual (defScope st) s.heap.objs.size f cdv)) → sp vs H Q E0 →
      ∃ t, PSs (cxOf CX0 P w K mg base N qual (defScope st) f cdv callerA [] s H E0).nox (defBody st) t ∧ t { nx := fun _ H' => Q .non H', rt := Q } (start N vs) H) : TopFn P w K mg base (k + 1) f sp := by
  intro s H us vs Q room e0 rel hs
  obtain ⟨oc, od, kV, doc, pm, an, cdv, ct, osl, rfl, lk, code⟩ := F.ex
  have n1 : vs.length = ps.length := len _ _ _ hs
  have n2 : us.length = ps.length := (Paired.length rel).symm.trans n1
  have low : ∀ b o, base.get? b = some o → s.heap.get? b = some o := fun b o z => (e0.bs b o z).1
  have inK := e0.mod.kin.keeps low
  have bnd := hb s us inK (by rw [List.append_nil]; exact n2)
  rw [List.append_nil] at bnd
  refine codeAny_call_function (hroom := room.depth) (ho := inK _ _ lk) (hd' := rfl) (hco := S.co) (hgen := S.gen) (hbody := rfl) (hcd := PySem.W.codeRec_of inK code) (bnd _ _ _ _ ?_)
  refine wpAny_newFunctionEnv_cells S.kind (fun y my => ?_) (fun env eq s1 ic => ?_)
  · rcases S.par y.1 (List.of_mem_zip (a := y.1) (b := y.2) my).1 with z | z
    · exact Or.inl z
    · exact Or.inr (And.intro z (PySem.W.cellsFrom_some _ _ _ (Or.inl z)))
  · cases eq
    obtain ⟨t, run, fin⟩ := body cdv s H vs Q (room.deeper _) hs
    have start0 := inv_start (CX := CX0) (N := N) (E := E0) S room.hd e0 n1 rel ic
    refine And.intro ((e0.mod.nolimit.keeps low).keeps ic.toInCall.keep) (codeAny_func ?_)
    refine wpAny_mono (run.nox.run [] s1 (start N vs) H _ start0 fin) (fun fl s2 got => ?_) (fun e s2 got => got)
    match fl, got with
    | .ret u, ⟨v, σ2, H2, J, rv, q⟩ => exact ⟨v, H2, J.os, J.bare, J.base, J.hok, rv, q⟩
    | .next, ⟨σ2, H2, J, q⟩ => exact ⟨.non, H2, J.os, J.bare, J.base, J.hok, rfl, q⟩
    | .brk, ⟨_, _, _, q⟩ => exact q.elim
    | .cont, ⟨_, _, _, q⟩ => exact q.elim
end
/-- the script among what is tracked, or known to the module -/
structure Scr (P : Program) (w : World) (K : PySem.W.Frag) (H : Hp) (h : Heap) (a : Addr) (ns : List Int) : Prop where
  one : ∀ b u, H b = some u → b = a ∧ K.lookup a = none ∧ ∃ ob, u = .frz ob (.lst (ns.map V.int))
  seq : SqL K H a (ns.map V.int)
  ok : HOk P w H h
section
variable {P : Program} {w : World} {K : PySem.W.Frag} {a : Addr}
theorem scr_of {h : Heap} {vs : List Value} {ns : List Int} (X : K.In h) (ha : h.get? a = some { cls := .type "list", data := .seq vs.toArray }) (hi : IntsAre vs ns) (hl : ns.length ≤ sizeLine) : ∃ H, Scr P w K H h a ns := by
  have rv := vals_ints hi
  rcases hk : K.lookup a with _ | o
  · refine ⟨fun b => if b = a then some (.frz { cls := .type "list", data := .seq vs.toArray } (.lst (ns.map V.int))) else none, fun b u e => ?_, Or.inl (Or.inr ⟨_, if_pos rfl⟩), fun b u e => ?_⟩
    all_goals
      (try dsimp only at e)
      split at e
      rotate_left
      · cases e
      · rename_i q
        subst q
        cases e
        first
          | exact ⟨rfl, hk, _, rfl⟩
          | exact ⟨ha, by rw [List.length_map]; exact hl, vs, _, rv, ha⟩
  · have e := X a o hk
    rw [ha] at e
    cases e
    have n1 : vs.toArray.size ≤ sizeLine := by
      rw [List.size_toArray, hi.length]
      exact hl
    exact ⟨fun _ => none, fun b u z => (nomatch z), Or.inr ⟨_, vs.toArray, _, hk, rfl, rfl, rfl, n1, by simpa using rv⟩, fun b u z => (nomatch z)⟩
theorem Scr.gone {H : Hp} {h : Heap} {ns : List Int} (t : Scr P w K H h a ns) {b : Addr} (z : b ≠ a) : H b = none := by
  rcases e : H b with _ | u
  · rfl
  · exact absurd (t.one b u e).1 z
/-- the law is called: its promise, told of the top's caller, gives the row -/
theorem law_top {mg mb : Str → Option Value} {k : Nat} {fa : Addr} {sp : Sp} {s : Shared} {vs : List Value} {ns : List Int} (X : K.In s.heap) (g1 : s.heap.Ns mainGlobals mg) (g2 : s.heap.Ns builtinsNs mb)
    (g3 : ∀ x : Str, x ≠ "__name__" → mb x = bootBuiltins x) (lim : s.heap.NoLimit) (gs : s.gens = #[]) (ha : s.heap.get? a = some { cls := .type "list", data := .seq vs.toArray }) (hi : IntsAre vs ns) (hl : ns.length ≤ sizeLine) (hr : Room k callerA)
    (F : ∀ base : Heap, K.In base → base.Ns mainGlobals mg → TopFn P w K mg base k fa sp) (say : ∀ H : Hp, SqL K H a (ns.map V.int) → sp [.ref a] H (fun v _ => v = .bl true) E0) :
    codeAny (model P w) callerA (.call (.ref fa) ⟨[.ref a], []⟩) (fun r s' => r = .ok (.ret (.bool true)) ∧ OldK s.heap s'.heap ∧ s'.os = s.os ∧ AllBare s'.gens) s := by
  obtain ⟨H, T⟩ := scr_of (P := P) (w := w) X ha hi hl
  have there : ∀ {b : Addr} {o : Obj}, s.heap.get? b = some o → (b = a → ∃ z, K.lookup a = some z) → (hidT s.heap H).get? b = some o := fun {b o} e n => hidT_get e (by
    rcases q : H b with _ | u
    · rfl
    · obtain ⟨e1, e2, _⟩ := T.one b u q
      obtain ⟨z, e3⟩ := n e1
      rw [e2] at e3
      cases e3)
  have dic : ∀ {b : Addr} {m : Str → Option Value}, s.heap.Ns b m → (hidT s.heap H).Ns b m := fun {b m} ⟨o, es, ep, e, d, r⟩ => by
    refine ⟨o, es, ep, there e fun z => ?_, d, r⟩
    rw [z, ha] at e
    cases e
    cases d
  have inK : K.In (hidT s.heap H) := fun b o e => there (X b o e) fun z => ⟨o, by rw [← z]; exact e⟩
  obtain ⟨mc, l1, l2⟩ := lim
  have e0 : Env0 P w K mg (hidT s.heap H) callerA [] s H :=
    { frames := rfl, mod := ⟨inK, dic g1, ⟨mb, dic g2, g3⟩, ⟨mc, dic l1, l2⟩⟩, bs := fun b o => of_hidT, bsz := Nat.le_of_eq (hidT_size _ _), funs := trivial, frf := fun b z => (nomatch z), hok := T.ok, bare := .of_eq gs }
  refine codeAny_mono (F _ inK (dic g1) s H [.ref a] [.ref a] _ hr e0 (.cons rfl .nil) (say H T.seq)) fun r s' out => ?_
  match r, out with
  | .ok (.ret u), ⟨v, H', os, bare, un, hok', rel, q⟩ =>
    have q' : v = .bl true := q
    subst q'
    obtain rfl : u = Value.bool true := rel
    refine ⟨rfl, OldK.of_keep fun b o e => ?_, os, bare⟩
    rcases q : H b with _ | u
    · exact un.keep b o e q (fun z => nomatch z) (fun z => nomatch z)
    · obtain ⟨e1, _, ob, e2⟩ := T.one b u q
      subst e2
      obtain ⟨o1, _⟩ := T.ok b _ q
      obtain ⟨o2, _⟩ := hok' b _ (un.frzs b ob _ q)
      rw [e] at o1
      cases o1
      exact o2
end


theorem no_of {K : PySem.W.Frag} {C : Addr} (a1 : PySem.W.findIn K (.ref C) "path" = some none) (a2 : PySem.W.findIn K (.ref C) "place" = some none) (a3 : PySem.W.findIn K (.ref C) "name" = some none)
    (a4 : PySem.W.findIn K (.ref C) "part" = some none) (a5 : PySem.W.findIn K (.ref C) "size" = some none) (a6 : PySem.W.findIn K (.ref C) "least" = some none)
    (a7 : PySem.W.findIn K (.ref C) "greatest" = some none) (a8 : PySem.W.findIn K (.ref C) "bits" = some none) (a9 : PySem.W.findIn K (.ref C) "symbol" = some none) :
    ∀ f ∈ errAttrs, PySem.W.findIn K (.ref C) f = some none := by
  intro f hf
  unfold errAttrs at hf
  simp only [List.mem_cons, List.not_mem_nil, or_false] at hf
  rcases hf with rfl | rfl | rfl | rfl | rfl | rfl | rfl | rfl | rfl <;> assumption
/-- the row of a law whose def is walked from the top's caller -/
theorem walk_top {l : PySem.W.OpenLaw} {n k : Nat} {q : Program} {loose : List Str} {XP : (Str → Option Value) → Heap → Prop} {YP : World → Heap → Prop} {d : DefRec} {K : Params → PySem.W.Frag} {sp : PySem.W.Frag → Sp}
    (m : l.most = some n) (m2 : n ≤ sizeLine) (df : d.params.defaults = []) (hr : Room k callerA) (hY : ∀ (w : World) (h : Heap), YP w h → (K w.params).In h)
    (F : ∀ (w : World) (mg : Str → Option Value) (fa : Addr) (h : Heap), (K w.params).In h → h.Ns mainGlobals mg → mg d.name = some (.ref fa) → ∀ base : Heap, (K w.params).In base → base.Ns mainGlobals mg → TopFn l.prog w (K w.params) mg base k fa (sp (K w.params)))
    (say : ∀ (K : PySem.W.Frag) (H : Hp) (a : Addr) (ns : List Int), ns.length ≤ n → SqL K H a (ns.map V.int) → sp K [.ref a] H (fun v _ => v = .bl true) E0) : PySem.W.WalkO q loose XP YP l.row.toRowW d [] (fun f vs => PySem.call f vs) :=
  Att.attach_call m df fun w t0 t1 mg mb fa o pm cd doc a vs ns G Y _ _ _ hm ob are len gs =>
    law_top (hY w _ Y) G.T.g G.T.b G.T.builtins G.T.nolimit gs ob are (Nat.le_trans len m2) hr (F w mg fa _ (hY w _ Y) G.T.g hm) fun H hS => say _ H a ns len hS
theorem boot_ValueError : bootBuiltins "ValueError" = some (.type "ValueError") := PyProof.Rows.Boot.«ValueError»

/-- the classes of errors in the order of the law -/
def errNames : List Str := ["BridgeError", "InvalidMember", "UnexpectedByte", "UnexpectedEnd", "UnknownMember", "AlreadySet", "KindsDiffer", "MissingDefault", "NothingConvertible", "NotConvertible", "UnknownField", "BadPlan", "MessageTooLong", "TextError", "WordTooLong", "InvalidNumber", "UnexpectedCharacter", "ItemExpected", "NameExpected", "DuplicateName", "WordExpected", "CountExpected", "DuplicateNumber", "RangesNotAllowed", "DefaultNotAllowed", "NestedTooDeeply", "EmptyElements", "CheckExpected", "NumberExpected", "BitsLeft", "SymbolExpected"]
def errCls (K : PySem.W.Frag) : List Addr := errNames.map fun n => match PySem.W.nsIn K mainGlobals n with
  | some (some (.ref c)) => c
  | _ => 0
/-- is the k-th error one of the j-th class -/
def isB (k j : Nat) : Bool := j == k || j == 0 || (j == 13 && decide (13 < k))
def kitAll (K : PySem.W.Frag) (cs : List Addr) : Bool := (List.range 31).all fun k => ((List.range 31).all fun j => ((cs[k]?).bind fun c => (cs[j]?).bind fun d => PySem.W.kitOne K (.ref c) (.ref d)) == some (isB k j)) && ((cs[k]?).bind fun c => PySem.W.kitOne K (.ref c) (.type "ValueError")) == some true
theorem kit_at {K : PySem.W.Frag} {cs : List Addr} (h : kitAll K cs = true) {k j : Nat} {c d : Addr} (hk : k < 31) (hj : j < 31) (ec : cs[k]? = some c) (ed : cs[j]? = some d) : PySem.W.kitOne K (.ref c) (.ref d) = some (isB k j) := by
  have z := List.all_eq_true.mp h k (List.mem_range.mpr hk)
  rw [Bool.and_eq_true] at z
  have y := List.all_eq_true.mp z.1 j (List.mem_range.mpr hj)
  rw [ec, ed] at y
  exact eq_of_beq y
theorem kit_ve {K : PySem.W.Frag} {cs : List Addr} (h : kitAll K cs = true) {k : Nat} {c : Addr} (hk : k < 31) (ec : cs[k]? = some c) : PySem.W.kitOne K (.ref c) (.type "ValueError") = some true := by
  have z := List.all_eq_true.mp h k (List.mem_range.mpr hk)
  rw [Bool.and_eq_true] at z
  have y := z.2
  rw [ec] at y
  exact eq_of_beq y
def errRow (k : Nat) : List V := (List.range 31).map fun j => .bl (isB k j)

theorem is_at {K : PySem.W.Frag} {cs : List Addr} (h : kitAll K cs = true) {k j : Nat} {c d e : Addr} {fs : List (Str × V)} {H : Hp} {Q : VK} (hk : k < 31) (hj : j < 31) (hc : cs[k]? = some c) (hd : cs[j]? = some d) (ec : EC K c) (er : Err H e c fs) (q : Q (.bl (isB k j)) H) :
    rIsErr K [.ref e, .ref d] H Q := ⟨e, c, fs, _, _, isB k j, rfl, ec, er, .own d, kit_at h hk hj hc hd, q⟩
theorem gl_of {X : Cx} {x : Str} (h : X.env.kindOf x = some .globalImplicit) : Gl X x := h

def rowTo (k n : Nat) : List V := (List.range n).map fun j => V.bl (isB k j)
theorem rowTo_len (k n : Nat) : (rowTo k n).length = n := by unfold rowTo; rw [List.length_map, List.length_range]
theorem row_app (k n : Nat) (ys : List V) {m : Nat} (h : (List.range ys.length).map (fun j => V.bl (isB k (n + j))) = ys) (hm : n + ys.length = m := by rfl) : rowTo k m = rowTo k n ++ ys := by
  subst hm
  unfold rowTo
  rw [List.range_add, List.map_append, List.map_map]
  exact congrArg _ h
theorem row_len {k n : Nat} {ys : List V} (h : n + ys.length ≤ 1000) : (rowTo k n).length + ys.length ≤ sizeLine := by
  rw [rowTo_len]
  exact Nat.le_of_lt (small1000 h)

/-- the class of an error, each fact by itself -/
theorem ec_mk {K : PySem.W.Frag} {C : Addr} {nm q N bs bm sn sub ab col dd k0 k1 k2 k3 k5}
    (c : K.lookup C = some (excClassObj nm q C N bs bm true sn sub ab col dd k0 k1 k2 k3 k5 "ValueError.__new__")) (b : PySem.HandSPX.refsVE bm = true)
    (s1 : PySem.W.findIn K (.ref C) "__setattr__" = some (some (.builtin "object.__setattr__"))) (s2 : PySem.W.subIn K (.ref C) (.type "BaseException") = some true) (s3 : PySem.W.typeIn K (.ref C) = some (.type "type")) (s4 : PySem.W.keepIn K (.ref C) = true)
    (d1 : PySem.W.findIn K (.ref C) "__getattribute__" = some (some (.builtin "BaseException.__getattribute__"))) (d2 : PySem.W.findIn K (.ref C) "__getattr__" = some none) (d3 : PySem.W.subIn K (.ref C) (.type "BaseException") = some true) (d4 : PySem.W.hasDictIn K C = true)
    (d5 : PySem.W.findIn K (.ref C) "__class__" = some (some (.builtin "object.__class__"))) (d6 : PySem.W.specialIn K (.builtin "object.__class__") "__get__" = some (some (.builtin "getset_descriptor.__get__"))) (d7 : PySem.W.takesIn K (.builtin "object.__class__") = some true) (d8 : PySem.W.mroIn K C (.type "object") = some true)
    (a1 : PySem.W.findIn K (.ref C) "path" = some none) (a2 : PySem.W.findIn K (.ref C) "place" = some none) (a3 : PySem.W.findIn K (.ref C) "name" = some none) (a4 : PySem.W.findIn K (.ref C) "part" = some none) (a5 : PySem.W.findIn K (.ref C) "size" = some none) (a6 : PySem.W.findIn K (.ref C) "least" = some none) (a7 : PySem.W.findIn K (.ref C) "greatest" = some none) (a8 : PySem.W.findIn K (.ref C) "bits" = some none) (a9 : PySem.W.findIn K (.ref C) "symbol" = some none) : EC K C :=
  ⟨⟨⟨nm, q, N, bs, bm, sn, sub, ab, col, dd, k0, k1, k2, k3, k5, c, b⟩, s1, s2, s3, s4⟩, ⟨d1, d2, d3, d4, d5, d6, d7, d8⟩, no_of a1 a2 a3 a4 a5 a6 a7 a8 a9⟩
theorem cr_mk {K : PySem.W.Frag} {C : Addr} {mc : Value} (r1 : PySem.W.readsIn K C mc = true) (r2 : PySem.W.specialIn K (.ref C) "__getattribute__" = some (some (.builtin "type.__getattribute__"))) : ClX.CRead K C mc := ⟨r1, r2⟩

structure Txt (K : PySem.W.Frag) (w : World) (mg : Str → Option Value) (A : Ad) : Prop where
  F_l_tape : Fun K "_law_tape" "_law_tape" s_l_tape A.l_tape.f A.l_tape.fd
  g_l_tape : mg "_law_tape" = some (.ref A.l_tape.f)
  b_l_tape : Binds K A.l_tape.fd ["script"] []
  F_l_draw : Fun K "_law_draw" "_law_draw" s_l_draw A.l_draw.f A.l_draw.fd
  g_l_draw : mg "_law_draw" = some (.ref A.l_draw.f)
  b_l_draw : Binds K A.l_draw.fd ["tape", "many"] []
  F_l_name : Fun K "_law_name" "_law_name" s_l_name A.l_name.f A.l_name.fd
  g_l_name : mg "_law_name" = some (.ref A.l_name.f)
  b_l_name : Binds K A.l_name.fd ["tape", "used"] []
  F_l_classes : Fun K "_law_classes" "_law_classes" s_l_classes A.l_classes.f A.l_classes.fd
  g_l_classes : mg "_law_classes" = some (.ref A.l_classes.f)
  b_l_classes : Binds K A.l_classes.fd ["e"] []
  F_i_AlreadySet : Fun K "__init__" "AlreadySet.__init__" s_i_AlreadySet A.i_AlreadySet.f A.i_AlreadySet.fd
  b_i_AlreadySet : Binds K A.i_AlreadySet.fd ["self", "name"] []
  t_i_AlreadySet : PySem.W.typeIn K (.ref A.i_AlreadySet.f) = some (.type "function")
  F_i_BadPlan : Fun K "__init__" "BadPlan.__init__" s_i_BadPlan A.i_BadPlan.f A.i_BadPlan.fd
  b_i_BadPlan : Binds K A.i_BadPlan.fd ["self", "part", "place"] []
  t_i_BadPlan : PySem.W.typeIn K (.ref A.i_BadPlan.f) = some (.type "function")
  F_i_TextError : Fun K "__init__" "TextError.__init__" s_i_TextError A.i_TextError.f A.i_TextError.fd
  b_i_TextError : Binds K A.i_TextError.fd ["self", "place"] []
  t_i_TextError : PySem.W.typeIn K (.ref A.i_TextError.f) = some (.type "function")
  F_i_BitsLeft : Fun K "__init__" "BitsLeft.__init__" s_i_BitsLeft A.i_BitsLeft.f A.i_BitsLeft.fd
  b_i_BitsLeft : Binds K A.i_BitsLeft.fd ["self", "place", "bits"] []
  t_i_BitsLeft : PySem.W.typeIn K (.ref A.i_BitsLeft.f) = some (.type "function")
  F_i_InvalidMember : Fun K "__init__" "InvalidMember.__init__" s_i_InvalidMember A.i_InvalidMember.f A.i_InvalidMember.fd
  b_i_InvalidMember : Binds K A.i_InvalidMember.fd ["self", "path"] []
  t_i_InvalidMember : PySem.W.typeIn K (.ref A.i_InvalidMember.f) = some (.type "function")
  F_i_KindsDiffer : Fun K "__init__" "KindsDiffer.__init__" s_i_KindsDiffer A.i_KindsDiffer.f A.i_KindsDiffer.fd
  b_i_KindsDiffer : Binds K A.i_KindsDiffer.fd ["self", "path"] []
  t_i_KindsDiffer : PySem.W.typeIn K (.ref A.i_KindsDiffer.f) = some (.type "function")
  F_i_MessageTooLong : Fun K "__init__" "MessageTooLong.__init__" s_i_MessageTooLong A.i_MessageTooLong.f A.i_MessageTooLong.fd
  b_i_MessageTooLong : Binds K A.i_MessageTooLong.fd ["self", "size"] []
  t_i_MessageTooLong : PySem.W.typeIn K (.ref A.i_MessageTooLong.f) = some (.type "function")
  F_i_MissingDefault : Fun K "__init__" "MissingDefault.__init__" s_i_MissingDefault A.i_MissingDefault.f A.i_MissingDefault.fd
  b_i_MissingDefault : Binds K A.i_MissingDefault.fd ["self", "path"] []
  t_i_MissingDefault : PySem.W.typeIn K (.ref A.i_MissingDefault.f) = some (.type "function")
  F_i_NotConvertible : Fun K "__init__" "NotConvertible.__init__" s_i_NotConvertible A.i_NotConvertible.f A.i_NotConvertible.fd
  b_i_NotConvertible : Binds K A.i_NotConvertible.fd ["self"] []
  t_i_NotConvertible : PySem.W.typeIn K (.ref A.i_NotConvertible.f) = some (.type "function")
  F_i_NothingConvertible : Fun K "__init__" "NothingConvertible.__init__" s_i_NothingConvertible A.i_NothingConvertible.f A.i_NothingConvertible.fd
  b_i_NothingConvertible : Binds K A.i_NothingConvertible.fd ["self"] []
  t_i_NothingConvertible : PySem.W.typeIn K (.ref A.i_NothingConvertible.f) = some (.type "function")
  F_i_NumberExpected : Fun K "__init__" "NumberExpected.__init__" s_i_NumberExpected A.i_NumberExpected.f A.i_NumberExpected.fd
  b_i_NumberExpected : Binds K A.i_NumberExpected.fd ["self", "place", "least", "greatest"] []
  t_i_NumberExpected : PySem.W.typeIn K (.ref A.i_NumberExpected.f) = some (.type "function")
  F_i_SymbolExpected : Fun K "__init__" "SymbolExpected.__init__" s_i_SymbolExpected A.i_SymbolExpected.f A.i_SymbolExpected.fd
  b_i_SymbolExpected : Binds K A.i_SymbolExpected.fd ["self", "place", "symbol"] []
  t_i_SymbolExpected : PySem.W.typeIn K (.ref A.i_SymbolExpected.f) = some (.type "function")
  F_i_UnexpectedByte : Fun K "__init__" "UnexpectedByte.__init__" s_i_UnexpectedByte A.i_UnexpectedByte.f A.i_UnexpectedByte.fd
  b_i_UnexpectedByte : Binds K A.i_UnexpectedByte.fd ["self", "place"] []
  t_i_UnexpectedByte : PySem.W.typeIn K (.ref A.i_UnexpectedByte.f) = some (.type "function")
  F_i_UnexpectedEnd : Fun K "__init__" "UnexpectedEnd.__init__" s_i_UnexpectedEnd A.i_UnexpectedEnd.f A.i_UnexpectedEnd.fd
  b_i_UnexpectedEnd : Binds K A.i_UnexpectedEnd.fd ["self"] []
  t_i_UnexpectedEnd : PySem.W.typeIn K (.ref A.i_UnexpectedEnd.f) = some (.type "function")
  F_i_UnknownField : Fun K "__init__" "UnknownField.__init__" s_i_UnknownField A.i_UnknownField.f A.i_UnknownField.fd
  b_i_UnknownField : Binds K A.i_UnknownField.fd ["self", "path"] []
  t_i_UnknownField : PySem.W.typeIn K (.ref A.i_UnknownField.f) = some (.type "function")
  F_i_UnknownMember : Fun K "__init__" "UnknownMember.__init__" s_i_UnknownMember A.i_UnknownMember.f A.i_UnknownMember.fd
  b_i_UnknownMember : Binds K A.i_UnknownMember.fd ["self", "name"] []
  t_i_UnknownMember : PySem.W.typeIn K (.ref A.i_UnknownMember.f) = some (.type "function")
  F_l_made : Fun K "_law_made" "_law_made" s_l_made A.l_made.f A.l_made.fd
  g_l_made : mg "_law_made" = some (.ref A.l_made.f)
  b_l_made : Binds K A.l_made.fd ["word", "at", "low", "high"] []
  F_l_attributes : Fun K "_law_attributes" "_law_attributes" s_l_attributes A.l_attributes.f A.l_attributes.fd
  g_l_attributes : mg "_law_attributes" = some (.ref A.l_attributes.f)
  b_l_attributes : Binds K A.l_attributes.fd ["k", "e"] []
  F_law : Fun K "law" "law" s_law A.law.f A.law.fd
  g_law : mg "law" = some (.ref A.law.f)
  b_law : Binds K A.law.fd ["script"] []
  n_ValueError : mg "ValueError" = none
  n_abs : mg "abs" = none
  n_int : mg "int" = none
  n_isinstance : mg "isinstance" = none
  n_len : mg "len" = none
  n_list : mg "list" = none
  n_max : mg "max" = none
  n_range : mg "range" = none
  n_repr : mg "repr" = none
  n_str : mg "str" = none
  g_BridgeError : mg "BridgeError" = some (.ref A.k_BridgeError)
  e_BridgeError : EC K A.k_BridgeError
  x_BridgeError : PySem.W.excIn K A.k_BridgeError [.type "ValueError", .type "Exception", .type "BaseException", .type "object"] "ValueError.__new__" = true
  r_BridgeError : ClX.CRead K A.k_BridgeError (.type "type")
  v_BridgeError : PySem.W.findCls K (.ref A.k_BridgeError) (.type "type") "__init__" = some (.val (.builtin "ValueError.__init__"))
  g_InvalidMember : mg "InvalidMember" = some (.ref A.k_InvalidMember)
  e_InvalidMember : EC K A.k_InvalidMember
  iC_InvalidMember : PySem.W.findIn K (.ref A.k_InvalidMember) "__init__" = some (some (.ref A.i_InvalidMember.f))
  g_UnexpectedByte : mg "UnexpectedByte" = some (.ref A.k_UnexpectedByte)
  e_UnexpectedByte : EC K A.k_UnexpectedByte
  iC_UnexpectedByte : PySem.W.findIn K (.ref A.k_UnexpectedByte) "__init__" = some (some (.ref A.i_UnexpectedByte.f))
  g_UnexpectedEnd : mg "UnexpectedEnd" = some (.ref A.k_UnexpectedEnd)
  e_UnexpectedEnd : EC K A.k_UnexpectedEnd
  iC_UnexpectedEnd : PySem.W.findIn K (.ref A.k_UnexpectedEnd) "__init__" = some (some (.ref A.i_UnexpectedEnd.f))
  g_UnknownMember : mg "UnknownMember" = some (.ref A.k_UnknownMember)
  e_UnknownMember : EC K A.k_UnknownMember
  iC_UnknownMember : PySem.W.findIn K (.ref A.k_UnknownMember) "__init__" = some (some (.ref A.i_UnknownMember.f))
  g_AlreadySet : mg "AlreadySet" = some (.ref A.k_AlreadySet)
  e_AlreadySet : EC K A.k_AlreadySet
  iC_AlreadySet : PySem.W.findIn K (.ref A.k_AlreadySet) "__init__" = some (some (.ref A.i_AlreadySet.f))
  g_KindsDiffer : mg "KindsDiffer" = some (.ref A.k_KindsDiffer)
  e_KindsDiffer : EC K A.k_KindsDiffer
  iC_KindsDiffer : PySem.W.findIn K (.ref A.k_KindsDiffer) "__init__" = some (some (.ref A.i_KindsDiffer.f))
  g_MissingDefault : mg "MissingDefault" = some (.ref A.k_MissingDefault)
  e_MissingDefault : EC K A.k_MissingDefault
  iC_MissingDefault : PySem.W.findIn K (.ref A.k_MissingDefault) "__init__" = some (some (.ref A.i_MissingDefault.f))
  g_NothingConvertible : mg "NothingConvertible" = some (.ref A.k_NothingConvertible)
  e_NothingConvertible : EC K A.k_NothingConvertible
  iC_NothingConvertible : PySem.W.findIn K (.ref A.k_NothingConvertible) "__init__" = some (some (.ref A.i_NothingConvertible.f))
  g_NotConvertible : mg "NotConvertible" = some (.ref A.k_NotConvertible)
  e_NotConvertible : EC K A.k_NotConvertible
  iC_NotConvertible : PySem.W.findIn K (.ref A.k_NotConvertible) "__init__" = some (some (.ref A.i_NotConvertible.f))
  g_UnknownField : mg "UnknownField" = some (.ref A.k_UnknownField)
  e_UnknownField : EC K A.k_UnknownField
  iC_UnknownField : PySem.W.findIn K (.ref A.k_UnknownField) "__init__" = some (some (.ref A.i_UnknownField.f))
  g_BadPlan : mg "BadPlan" = some (.ref A.k_BadPlan)
  e_BadPlan : EC K A.k_BadPlan
  iC_BadPlan : PySem.W.findIn K (.ref A.k_BadPlan) "__init__" = some (some (.ref A.i_BadPlan.f))
  g_TextError : mg "TextError" = some (.ref A.k_TextError)
  e_TextError : EC K A.k_TextError
  iC_TextError : PySem.W.findIn K (.ref A.k_TextError) "__init__" = some (some (.ref A.i_TextError.f))
  r_TextError : ClX.CRead K A.k_TextError (.type "type")
  v_TextError : PySem.W.findCls K (.ref A.k_TextError) (.type "type") "__init__" = some (.val (.ref A.i_TextError.f))
  g_WordTooLong : mg "WordTooLong" = some (.ref A.k_WordTooLong)
  e_WordTooLong : EC K A.k_WordTooLong
  iC_WordTooLong : PySem.W.findIn K (.ref A.k_WordTooLong) "__init__" = some (some (.ref A.i_TextError.f))
  g_InvalidNumber : mg "InvalidNumber" = some (.ref A.k_InvalidNumber)
  e_InvalidNumber : EC K A.k_InvalidNumber
  iC_InvalidNumber : PySem.W.findIn K (.ref A.k_InvalidNumber) "__init__" = some (some (.ref A.i_TextError.f))
  g_UnexpectedCharacter : mg "UnexpectedCharacter" = some (.ref A.k_UnexpectedCharacter)
  e_UnexpectedCharacter : EC K A.k_UnexpectedCharacter
  iC_UnexpectedCharacter : PySem.W.findIn K (.ref A.k_UnexpectedCharacter) "__init__" = some (some (.ref A.i_TextError.f))
  g_ItemExpected : mg "ItemExpected" = some (.ref A.k_ItemExpected)
  e_ItemExpected : EC K A.k_ItemExpected
  iC_ItemExpected : PySem.W.findIn K (.ref A.k_ItemExpected) "__init__" = some (some (.ref A.i_TextError.f))
  g_NameExpected : mg "NameExpected" = some (.ref A.k_NameExpected)
  e_NameExpected : EC K A.k_NameExpected
  iC_NameExpected : PySem.W.findIn K (.ref A.k_NameExpected) "__init__" = some (some (.ref A.i_TextError.f))
  g_DuplicateName : mg "DuplicateName" = some (.ref A.k_DuplicateName)
  e_DuplicateName : EC K A.k_DuplicateName
  iC_DuplicateName : PySem.W.findIn K (.ref A.k_DuplicateName) "__init__" = some (some (.ref A.i_TextError.f))
  g_WordExpected : mg "WordExpected" = some (.ref A.k_WordExpected)
  e_WordExpected : EC K A.k_WordExpected
  iC_WordExpected : PySem.W.findIn K (.ref A.k_WordExpected) "__init__" = some (some (.ref A.i_TextError.f))
  g_CountExpected : mg "CountExpected" = some (.ref A.k_CountExpected)
  e_CountExpected : EC K A.k_CountExpected
  iC_CountExpected : PySem.W.findIn K (.ref A.k_CountExpected) "__init__" = some (some (.ref A.i_TextError.f))
  g_NumberExpected : mg "NumberExpected" = some (.ref A.k_NumberExpected)
  e_NumberExpected : EC K A.k_NumberExpected
  iC_NumberExpected : PySem.W.findIn K (.ref A.k_NumberExpected) "__init__" = some (some (.ref A.i_NumberExpected.f))
  g_DuplicateNumber : mg "DuplicateNumber" = some (.ref A.k_DuplicateNumber)
  e_DuplicateNumber : EC K A.k_DuplicateNumber
  iC_DuplicateNumber : PySem.W.findIn K (.ref A.k_DuplicateNumber) "__init__" = some (some (.ref A.i_TextError.f))
  g_BitsLeft : mg "BitsLeft" = some (.ref A.k_BitsLeft)
  e_BitsLeft : EC K A.k_BitsLeft
  iC_BitsLeft : PySem.W.findIn K (.ref A.k_BitsLeft) "__init__" = some (some (.ref A.i_BitsLeft.f))
  g_RangesNotAllowed : mg "RangesNotAllowed" = some (.ref A.k_RangesNotAllowed)
  e_RangesNotAllowed : EC K A.k_RangesNotAllowed
  iC_RangesNotAllowed : PySem.W.findIn K (.ref A.k_RangesNotAllowed) "__init__" = some (some (.ref A.i_TextError.f))
  g_DefaultNotAllowed : mg "DefaultNotAllowed" = some (.ref A.k_DefaultNotAllowed)
  e_DefaultNotAllowed : EC K A.k_DefaultNotAllowed
  iC_DefaultNotAllowed : PySem.W.findIn K (.ref A.k_DefaultNotAllowed) "__init__" = some (some (.ref A.i_TextError.f))
  g_NestedTooDeeply : mg "NestedTooDeeply" = some (.ref A.k_NestedTooDeeply)
  e_NestedTooDeeply : EC K A.k_NestedTooDeeply
  iC_NestedTooDeeply : PySem.W.findIn K (.ref A.k_NestedTooDeeply) "__init__" = some (some (.ref A.i_TextError.f))
  g_EmptyElements : mg "EmptyElements" = some (.ref A.k_EmptyElements)
  e_EmptyElements : EC K A.k_EmptyElements
  iC_EmptyElements : PySem.W.findIn K (.ref A.k_EmptyElements) "__init__" = some (some (.ref A.i_TextError.f))
  g_CheckExpected : mg "CheckExpected" = some (.ref A.k_CheckExpected)
  e_CheckExpected : EC K A.k_CheckExpected
  iC_CheckExpected : PySem.W.findIn K (.ref A.k_CheckExpected) "__init__" = some (some (.ref A.i_TextError.f))
  g_SymbolExpected : mg "SymbolExpected" = some (.ref A.k_SymbolExpected)
  e_SymbolExpected : EC K A.k_SymbolExpected
  iC_SymbolExpected : PySem.W.findIn K (.ref A.k_SymbolExpected) "__init__" = some (some (.ref A.i_SymbolExpected.f))
  g_MessageTooLong : mg "MessageTooLong" = some (.ref A.k_MessageTooLong)
  e_MessageTooLong : EC K A.k_MessageTooLong
  iC_MessageTooLong : PySem.W.findIn K (.ref A.k_MessageTooLong) "__init__" = some (some (.ref A.i_MessageTooLong.f))
  cl : errCls K = [A.k_BridgeError, A.k_InvalidMember, A.k_UnexpectedByte, A.k_UnexpectedEnd, A.k_UnknownMember, A.k_AlreadySet, A.k_KindsDiffer, A.k_MissingDefault, A.k_NothingConvertible, A.k_NotConvertible, A.k_UnknownField, A.k_BadPlan, A.k_MessageTooLong, A.k_TextError, A.k_WordTooLong, A.k_InvalidNumber, A.k_UnexpectedCharacter, A.k_ItemExpected, A.k_NameExpected, A.k_DuplicateName, A.k_WordExpected, A.k_CountExpected, A.k_DuplicateNumber, A.k_RangesNotAllowed, A.k_DefaultNotAllowed, A.k_NestedTooDeeply, A.k_EmptyElements, A.k_CheckExpected, A.k_NumberExpected, A.k_BitsLeft, A.k_SymbolExpected]
  kt : kitAll K [A.k_BridgeError, A.k_InvalidMember, A.k_UnexpectedByte, A.k_UnexpectedEnd, A.k_UnknownMember, A.k_AlreadySet, A.k_KindsDiffer, A.k_MissingDefault, A.k_NothingConvertible, A.k_NotConvertible, A.k_UnknownField, A.k_BadPlan, A.k_MessageTooLong, A.k_TextError, A.k_WordTooLong, A.k_InvalidNumber, A.k_UnexpectedCharacter, A.k_ItemExpected, A.k_NameExpected, A.k_DuplicateName, A.k_WordExpected, A.k_CountExpected, A.k_DuplicateNumber, A.k_RangesNotAllowed, A.k_DefaultNotAllowed, A.k_NestedTooDeeply, A.k_EmptyElements, A.k_CheckExpected, A.k_NumberExpected, A.k_BitsLeft, A.k_SymbolExpected] = true
theorem same_upd {H : Hp} {p : Addr} {o : HO} (h : H p = none) : Same H (upd H p o) := fun b x e => by
  rw [upd_ne (ne_of_none e h)]
  exact e
/-- a tape stands at t -/
def Tape (H : Hp) (t q : Addr) : Prop := ∃ (ns : List Int) (p h s : Int), H t = some (.lst [.ref q, .int p, .int h, .int s]) ∧ H q = some (.lst (ns.map V.int)) ∧ 0 ≤ p ∧ 0 ≤ h
/-- all objects but the one at t stay -/
def Kept (t : Addr) (H H' : Hp) : Prop := ∀ b o, b ≠ t → H b = some o → H' b = some o
theorem Kept.rfl {t : Addr} {H : Hp} : Kept t H H := fun _ _ _ e => e
theorem Kept.trans {t : Addr} {H H1 H2 : Hp} (a : Kept t H H1) (b : Kept t H1 H2) : Kept t H H2 := fun c o n e => b c o n (a c o n e)
theorem Kept.put {t : Addr} {H H1 : Hp} {o : HO} (a : Kept t H H1) : Kept t H (upd H1 t o) := fun c x n e => by
  rw [upd_ne n]
  exact a c x n e
theorem Kept.same {t : Addr} {H0 H H1 : Hp} (h0 : H0 t = none) (s : Same H0 H) (a : Kept t H H1) : Same H0 H1 := fun b o e => a b o (ne_of_none e h0) (s b o e)
theorem tape_ne {H : Hp} {t q : Addr} {ns : List Int} {p h s : Int} (h1 : H t = some (.lst [.ref q, .int p, .int h, .int s])) (h2 : H q = some (.lst (ns.map V.int))) : q ≠ t := fun e => by
  subst e
  rw [h1] at h2
  cases ns with
  | nil => cases h2
  | cons x r => cases h2
theorem map_int_at {ns : List Int} {i : Nat} {y : V} (h : (ns.map V.int)[i]? = some y) : ∃ z, y = V.int z ∧ ns[i]? = some z := by
  rw [List.getElem?_map] at h
  cases e : ns[i]? with
  | none => rw [e] at h; cases h
  | some z => rw [e] at h; exact ⟨z, (Option.some.inj h).symm, _root_.rfl⟩
theorem dec_eq_int {a b : Int} (e : decide (V.int a = V.int b) = true) : a = b := V.int.inj (of_decide_eq_true e)
theorem dec_ne_int {a b : Int} (e : ¬ decide (V.int a = V.int b) = true) : a ≠ b := fun z => e (decide_eq_true (congrArg V.int z))
theorem Tape.new {H : Hp} {t tq l : Addr} {o : HO} (h : Tape H t tq) (hl : H l = none) : Tape (upd H l o) t tq := by
  obtain ⟨ns, p, z, s, h1, h2, h3, h4⟩ := h
  exact ⟨ns, p, z, s, by rw [upd_ne (ne_of_none h1 hl)]; exact h1, by rw [upd_ne (ne_of_none h2 hl)]; exact h2, h3, h4⟩
/-- a store at another place -/
theorem Tape.put {H : Hp} {t tq l : Addr} {o : HO} (h : Tape H t tq) (n1 : l ≠ t) (n2 : l ≠ tq) : Tape (upd H l o) t tq := by
  obtain ⟨ns, p, z, s, h1, h2, h3, h4⟩ := h
  exact ⟨ns, p, z, s, by rw [upd_ne n1.symm]; exact h1, by rw [upd_ne n2.symm]; exact h2, h3, h4⟩
/-- what is new is not the tape's -/
theorem Tape.off {H : Hp} {t tq l : Addr} (h : Tape H t tq) (hl : H l = none) : l ≠ t ∧ l ≠ tq := by
  obtain ⟨ns, p, z, s, h1, h2, _⟩ := h
  exact ⟨(ne_of_none h1 hl).symm, (ne_of_none h2 hl).symm⟩
theorem Kept.new {t l : Addr} {H H1 : Hp} {o : HO} (a : Kept t H H1) (hl : H1 l = none) : Kept t H (upd H1 l o) := fun c x n e => by
  have e1 := a c x n e
  rw [upd_ne (ne_of_none e1 hl)]
  exact e1
theorem Kept.free {t tq l : Addr} {H H1 : Hp} (a : Kept t H H1) (hT : Tape H1 t tq) (hl : H1 l = none) : H l = none := by
  cases e : H l with
  | none => rfl
  | some o =>
    by_cases n : l = t
    · obtain ⟨ns, p, z, s, h1, _⟩ := hT
      rw [n, h1] at hl
      cases hl
    · rw [a l o n e] at hl
      cases hl
theorem two_pos (n : Nat) : (0 : Int) < 2 ^ n := Int.pow_pos (by decide)
theorem pow_abs (n : Nat) : ((2 : Int) ^ n).natAbs = 2 ^ n := by
  rw [Int.natAbs_pow]
  rfl
theorem pow_div {n m : Nat} (h : n < m) (hm : m ≤ 9000) : CDivW 0 (2 ^ n) ∧ ∀ i, CDivW i (2 ^ n) := by
  have h1 : ((2 : Int) ^ n).natAbs < 2 ^ m := by
    rw [pow_abs]
    exact Nat.pow_lt_pow_right (by decide) h
  exact ⟨wide_div (two_pos n) h1 (by omega) hm, fun i => wide_div (two_pos n) h1 (by omega) hm⟩
theorem div_div {a : Int} (x b : Int) (ha : 0 < a) : x / (a * b) = x / a / b := by
  rw [Int.ediv_ediv, if_neg (fun z => by omega), Int.sub_zero]
theorem mod_mul_div (x a b : Int) (ha : 0 < a) (hb : 0 < b) : x % (a * b) / a = x / a % b := by
  rw [Int.emod_def, Int.emod_def, Int.sub_eq_add_neg, Int.mul_assoc, ← Int.mul_neg, Int.add_mul_ediv_left _ _ (by omega), div_div _ _ ha]
  rw [Int.sub_eq_add_neg]
theorem mod_step (x : Int) (i : Nat) : x % 2 ^ (i + 1) = x % 2 ^ i + x / 2 ^ i % 2 * 2 ^ i := by
  have hp := two_pos i
  have h1 : x % (2 ^ i * 2) / 2 ^ i = x / 2 ^ i % 2 := mod_mul_div x (2 ^ i) 2 hp (by decide)
  have h2 : x % (2 ^ i * 2) % 2 ^ i = x % 2 ^ i := Int.emod_emod_of_dvd x ⟨2, rfl⟩
  rw [Int.pow_succ, ← h1, ← h2]
  generalize x % (2 ^ i * 2) = y
  rw [Int.emod_def, Int.mul_comm (2 ^ i)]
  omega
theorem div_pow (x : Int) (i j : Nat) : x / 2 ^ (i + j) = x / 2 ^ i / 2 ^ j := by
  rw [Int.pow_add, div_div _ _ (two_pos i)]
theorem iteDF {c A B : Prop} [Decidable c] (hc : ¬ c) (h : B) : if decide c = true then A else B := by
  rw [decide_eq_false hc]
  exact iteF h
theorem iteDT {c A B : Prop} [Decidable c] (hc : c) (h : A) : if decide c = true then A else B := by
  rw [decide_eq_true hc]
  exact iteT h
theorem dp_ints {K : PySem.W.Frag} {H : Hp} : ∀ ns : List Int, DpAll K H (ns.map V.int) (ns.map PyData.int)
  | [] => .nil
  | n :: r => .cons (.int n) (dp_ints r)
theorem eqvAll_ints : ∀ xs ys : List Int, PyData.eqvAll (xs.map PyData.int) (ys.map PyData.int) = decide (xs = ys)
  | [], [] => by
    rw [List.map_nil, PyData.eqvAll, decide_eq_true rfl]
  | [], _ :: _ => by
    rw [List.map_nil, List.map_cons, PyData.eqvAll, decide_eq_false (fun e => nomatch e)]
  | _ :: _, [] => by
    rw [List.map_nil, List.map_cons, PyData.eqvAll, decide_eq_false (fun e => nomatch e)]
  | x :: xs, y :: ys => by
    rw [List.map_cons, List.map_cons, PyData.eqvAll, PyData.eqv, eqvAll_ints xs ys]
    by_cases h1 : x = y
    · by_cases h2 : xs = ys
      · subst h1 h2
        simp
      · simp [h1, h2]
    · simp [h1]
theorem eqv_ints (xs ys : List Int) : PyData.eqv (.list (xs.map PyData.int)) (.list (ys.map PyData.int)) = decide (xs = ys) := by
  rw [PyData.eqv, eqvAll_ints]
theorem lay_ints : ∀ xs : List Int, PyData.canLayAll0 (xs.map PyData.int) = true
  | [] => by rw [List.map_nil, PyData.canLayAll0]
  | x :: xs => by rw [List.map_cons, PyData.canLayAll0, PyData.canLay0, lay_ints xs]; rfl
theorem depth_ints : ∀ xs : List Int, PyData.depthAll (xs.map PyData.int) = 0
  | [] => by rw [List.map_nil, PyData.depthAll]
  | x :: xs => by rw [List.map_cons, PyData.depthAll, PyData.depth, depth_ints xs]; rfl
theorem shaped_ints (xs : List Int) : SeqAt.shaped (.list (xs.map PyData.int)) = true := by
  unfold SeqAt.shaped
  rw [PyData.canLay0, lay_ints, PyData.depth, depth_ints]
  rfl
theorem cut_all (xs : List V) : cutV xs none none = xs := by
  unfold cutV
  rw [HT.sIx_none, HT.sIx_none, List.drop_zero, Nat.sub_zero, List.take_length]
/-- Horner's rule, the first byte the most significant -/
def hor (bs : List Int) : Int := bs.foldl (fun c b => c * 256 + b) 0
theorem hor_take {bs : List Int} {i : Nat} {b : Int} (h : bs[i]? = some b) : hor (bs.take (i + 1)) = hor (bs.take i) * 256 + b := by
  unfold hor
  rw [List.take_add_one, h, List.foldl_append]
  rfl
/-- the bytes of a code, the least significant first -/
def byts (c : Int) (n : Nat) : List Int := (List.range n).map fun i => c / 2 ^ (8 * i) % 2 ^ 8
theorem byts_len (c : Int) (n : Nat) : (byts c n).length = n := by
  unfold byts
  rw [List.length_map, List.length_range]
theorem byts_next (c : Int) (n : Nat) : byts c (n + 1) = byts c n ++ [c / 2 ^ (8 * n) % 2 ^ 8] := by
  unfold byts
  rw [List.range_succ, List.map_append]
  rfl
theorem byts_are {c : Int} {n : Nat} : ∀ b ∈ byts c n, 0 ≤ b ∧ b < 256 := by
  intro b hb
  unfold byts at hb
  obtain ⟨i, _, rfl⟩ := List.mem_map.mp hb
  exact ⟨Int.emod_nonneg _ (by decide), Int.emod_lt_of_pos _ (by decide)⟩
/-- the terms that bytes add to a code, the least significant first -/
def terms : Nat → List Int → List Int
  | _, [] => []
  | k, b :: r => b * 2 ^ (8 * k) :: terms (k + 1) r
theorem terms_at : ∀ (k i : Nat) (xs : List Int) (b : Int), xs[i]? = some b → (terms k xs)[i]? = some (b * 2 ^ (8 * (k + i)))
  | k, 0, b :: r, x, h => by
    have e : b = x := Option.some.inj h
    subst e
    rfl
  | k, i + 1, b :: r, x, h => by
    have e : r[i]? = some x := h
    have q := terms_at (k + 1) i r x e
    rw [show k + (i + 1) = k + 1 + i by omega]
    exact q
  | _, 0, [], _, h => by cases h
  | _, i + 1, [], _, h => by cases h
theorem terms_len : ∀ (k : Nat) (xs : List Int), (terms k xs).length = xs.length
  | _, [] => rfl
  | k, b :: r => by
    show (terms (k + 1) r).length + 1 = r.length + 1
    rw [terms_len]
theorem take_next {α : Type} {xs : List α} {i : Nat} {x : α} (h : xs[i]? = some x) : xs.take (i + 1) = xs.take i ++ [x] := by
  rw [List.take_add_one, h]
  rfl

theorem Same.kept {t : Addr} {H H' : Hp} (s : Same H H') : Kept t H H' := fun b o _ e => s b o e
/-! an error being made -/
theorem Err.same {H H' : Hp} {a C : Addr} {fs : List (Str × V)} (s : Same H H') (e : Err H a C fs) : Err H' a C fs := by
  rcases e with ⟨z, e⟩ | ⟨dx, e, ed⟩
  · exact .inl ⟨z, s _ _ e⟩
  · exact .inr ⟨dx, s _ _ e, s _ _ ed⟩
/-- from H, where at a the error stands without attributes, to H', where it has these -/
def Made (H : Hp) (a C : Addr) (fs : List (Str × V)) (H' : Hp) : Prop := Kept a H H' ∧ ((fs = [] ∧ H' a = some (exo a C none)) ∨ ∃ dx, H dx = none ∧ dx ≠ a ∧ H' a = some (exo a C (some dx)) ∧ H' dx = some (exd dx fs))
theorem Made.start {H : Hp} {a C : Addr} (h : H a = some (exo a C none)) : Made H a C [] H := ⟨Kept.rfl, .inl ⟨rfl, h⟩⟩
theorem Made.err {H H' : Hp} {a C : Addr} {fs : List (Str × V)} (m : Made H a C fs H') : Err H' a C fs := by
  rcases m.2 with z | ⟨dx, _, _, e⟩
  · exact .inl z
  · exact .inr ⟨dx, e⟩
/-- a new error: all that was there stays -/
theorem Made.same {H H' : Hp} {a C : Addr} {o : HO} {fs : List (Str × V)} (n : H a = none) (m : Made (upd H a o) a C fs H') : Same H H' := Kept.same n (same_upd n) m.1
theorem Made.put {K : PySem.W.Frag} {H H1 : Hp} {a C : Addr} {f : Str} {v : V} {fs : List (Str × V)} {D : Ends} {σ : L2.St} (ec : EC K C) (hf : f ∈ errAttrs) (hl : fs.length ≤ 9) (m : Made H a C fs H1) (k : ∀ H2, Made H a C ((f, v) :: fs) H2 → D.nx σ H2) :
    ∃ a' C' : Addr, V.ref a = .ref a' ∧ OexC K C' ∧ PySem.W.findIn K (.ref C') f = some none ∧
      ((H1 a' = some (exo a' C' none) ∧ ∀ dx, H1 dx = none → dx ≠ a' → D.nx σ (upd (upd H1 dx (exd dx [(f, v)])) a' (exo a' C' (some dx)))) ∨
        ∃ (dx : Addr) (gs : List (Str × V)), H1 a' = some (exo a' C' (some dx)) ∧ H1 dx = some (exd dx gs) ∧ gs.length ≤ 900 ∧ D.nx σ (upd H1 dx (exd dx ((f, v) :: gs)))) := by
  obtain ⟨kp, m⟩ := m
  refine ⟨a, C, rfl, ec.ox, ec.no f hf, ?_⟩
  rcases m with ⟨z, e⟩ | ⟨dx, n, ne, e, ed⟩
  · subst z
    refine .inl ⟨e, fun dx hn hne => k _ ⟨fun b o hb q => ?_, .inr ⟨dx, ?_, hne, upd_same, by rw [upd_ne hne, upd_same]⟩⟩⟩
    · rw [upd_ne hb, upd_ne (ne_of_none (kp b o hb q) hn)]
      exact kp b o hb q
    · cases q : H dx with
      | none => rfl
      | some o =>
        have z := kp dx o hne q
        rw [hn] at z
        cases z
  · skip
    refine .inr ⟨dx, fs, e, ed, by omega, k _ ⟨fun b o hb q => ?_, .inr ⟨dx, n, ne, ?_, upd_same⟩⟩⟩
    · rw [upd_ne (ne_of_none q n)]
      exact kp b o hb q
    · rw [upd_ne ne.symm]
      exact e
/-- {x} in a text, x small -/
theorem pe_fmtS {X : Cx} {e : Expr} {te : TE} {pos : Pos} (he : PE X e te) : PE X (.FormattedValue e (-1) none pos) (fun σ H Q => te σ H fun x H1 => Sml x ∧ ∀ y : Str, y.length ≤ 100 → Q (.str y) H1) := by
  refine ⟨fun pins s σ H Q I h => wpAny_FormattedValue_plain (thn (he.run pins s σ H _ I h) fun v s1 hv => ?_)⟩
  obtain ⟨x, H1, I1, r1, sm, q⟩ := hv
  rcases sm with ⟨i, rfl, hi⟩ | ⟨z, rfl, hz, _⟩
  · obtain ⟨t, rfl⟩ := r1
    refine wpAny_formatField_int (log2_small hi) ⟨.str (toString i), H1, I1.tok _, ⟨_, rfl⟩, q _ ?_⟩
    have e := int_text_length_le10 (k := 9) (by decide) hi
    show (Str.ofString (toString i)).length ≤ _
    rw [PySem.ofString_length]
    omega
  · obtain ⟨t, rfl⟩ := r1
    exact wpAny_formatField_str ⟨.str z, H1, I1, ⟨t, rfl⟩, q z hz⟩ ⟨.str z, H1, I1.tok _, ⟨_, rfl⟩, q z hz⟩ (by rw [sizeLine_eq]; omega)
theorem ite_f {c : Bool} {A B : Prop} (hc : c = false) (h : B) : if c = true then A else B := by
  rw [hc, if_neg Bool.false_ne_true]
  exact h
theorem ite_t {c : Bool} {A B : Prop} (hc : c = true) (h : A) : if c = true then A else B := by
  rw [if_pos hc]
  exact h
/-- the attributes of the k-th error, the last one first -/
def errFs (w a l h : V) : Nat → List (Str × V)
  | 0 | 3 | 8 | 9 => []
  | 1 | 6 | 7 | 10 => [("path", w)]
  | 4 | 5 => [("name", w)]
  | 11 => [("place", a), ("part", w)]
  | 12 => [("size", a)]
  | 28 => [("greatest", h), ("least", l), ("place", a)]
  | 29 => [("bits", l), ("place", a)]
  | 30 => [("symbol", w), ("place", a)]
  | _ => [("place", a)]
/-- what the k-th error is due to tell -/
def errDue (w a l h : V) : Nat → List V
  | 0 | 3 | 8 | 9 => []
  | 1 | 4 | 5 | 6 | 7 | 10 => [w]
  | 11 => [w, a]
  | 28 => [a, l, h]
  | 29 => [a, l]
  | 30 => [a, w]
  | _ => [a]
/-- errors one behind the other, from the n-th one on -/
inductive ErrL (cs : List Addr) (H : Hp) (w a l h : V) : Nat → List V → Prop where
  | nil {n : Nat} : ErrL cs H w a l h n []
  | cons {n : Nat} {c e : Addr} {ys : List V} (hc : cs[n]? = some c) (er : Err H e c (errFs w a l h n)) (t : ErrL cs H w a l h (n + 1) ys) : ErrL cs H w a l h n (.ref e :: ys)
theorem ErrL.same {cs : List Addr} {H H' : Hp} {w a l h : V} (s : Same H H') : ∀ {n : Nat} {ys : List V}, ErrL cs H w a l h n ys → ErrL cs H' w a l h n ys
  | _, _, .nil => .nil
  | _, _, .cons hc er t => .cons hc (er.same s) (t.same s)
theorem ErrL.app {cs : List Addr} {H : Hp} {w a l h : V} : ∀ {n m : Nat} {xs ys : List V}, ErrL cs H w a l h n xs → m = n + xs.length → ErrL cs H w a l h m ys → ErrL cs H w a l h n (xs ++ ys)
  | n, m, [], ys, .nil, e, t => by
    have z : m = n := e
    subst z
    exact t
  | n, m, _ :: xs, ys, .cons hc er r, e, t => .cons hc er (r.app (by rw [e, List.length_cons]; omega) t)
theorem ErrL.at {cs : List Addr} {H : Hp} {w a l h : V} : ∀ {n k : Nat} {xs : List V} {x : V}, ErrL cs H w a l h n xs → xs[k]? = some x → ∃ e c, x = .ref e ∧ cs[n + k]? = some c ∧ Err H e c (errFs w a l h (n + k))
  | n, 0, _, x, .cons (c := c) (e := e) hc er r, q => ⟨e, c, (Option.some.inj q).symm, hc, er⟩
  | n, k + 1, _ :: xs, x, .cons hc er r, q => by
    have z := ErrL.at (k := k) r (show xs[k]? = some x by simpa using q)
    rw [show n + 1 + k = n + (k + 1) by omega] at z
    exact z
/-- what the errors are due to tell, from the n-th one on -/
inductive DueL (H : Hp) (w a l h : V) : Nat → List V → Prop where
  | nil {n : Nat} : DueL H w a l h n []
  | cons {n : Nat} {q : Addr} {ys : List V} (hq : H q = some (.tup (errDue w a l h n))) (t : DueL H w a l h (n + 1) ys) : DueL H w a l h n (.ref q :: ys)
theorem DueL.same {H H' : Hp} {w a l h : V} (s : Same H H') : ∀ {n : Nat} {ys : List V}, DueL H w a l h n ys → DueL H' w a l h n ys
  | _, _, .nil => .nil
  | _, _, .cons hq t => .cons (s _ _ hq) (t.same s)
theorem DueL.put {H : Hp} {w a l h : V} {D : Addr} {acc : List V} {o : HO} (hD : H D = some (.lst acc)) : ∀ {n : Nat} {ys : List V}, DueL H w a l h n ys → DueL (upd H D o) w a l h n ys
  | _, _, .nil => .nil
  | _, _, .cons (q := q) hq t => .cons (by
      rw [upd_ne (fun z => by rw [z, hD] at hq; cases hq)]
      exact hq) (t.put hD)
theorem DueL.app {H : Hp} {w a l h : V} : ∀ {n m : Nat} {xs ys : List V}, DueL H w a l h n xs → m = n + xs.length → DueL H w a l h m ys → DueL H w a l h n (xs ++ ys)
  | n, m, [], ys, .nil, e, t => by
    have z : m = n := e
    subst z
    exact t
  | n, m, _ :: xs, ys, .cons hq r, e, t => .cons hq (r.app (by rw [e, List.length_cons]; omega) t)
theorem DueL.at {H : Hp} {w a l h : V} : ∀ {n k : Nat} {xs : List V} {x : V}, DueL H w a l h n xs → xs[k]? = some x → ∃ q, x = .ref q ∧ H q = some (.tup (errDue w a l h (n + k)))
  | n, 0, _, x, .cons (q := q) hq r, e => ⟨q, (Option.some.inj e).symm, hq⟩
  | n, k + 1, _ :: xs, x, .cons hq r, e => by
    have z := DueL.at (k := k) r (show xs[k]? = some x by simpa using e)
    rw [show n + 1 + k = n + (k + 1) by omega] at z
    exact z
theorem due_mid {w a l h : V} {i : Nat} (hi : i < 16) : errDue w a l h (12 + i) = [a] := by
  rcases (show i = 0 ∨ i = 1 ∨ i = 2 ∨ i = 3 ∨ i = 4 ∨ i = 5 ∨ i = 6 ∨ i = 7 ∨ i = 8 ∨ i = 9 ∨ i = 10 ∨ i = 11 ∨ i = 12 ∨ i = 13 ∨ i = 14 ∨ i = 15 by omega) with rfl | rfl | rfl | rfl | rfl | rfl | rfl | rfl | rfl | rfl | rfl | rfl | rfl | rfl | rfl | rfl <;> rfl
theorem row_bls (k n : Nat) : rowTo k n = ((List.range n).map (isB k)).map V.bl := by
  unfold rowTo
  rw [List.map_map]
  rfl
theorem dp_bls {K : PySem.W.Frag} {H : Hp} : ∀ bs : List Bool, DpAll K H (bs.map V.bl) (bs.map PyData.bool)
  | [] => .nil
  | b :: r => .cons (.bl b) (dp_bls r)
theorem eqvAll_bls : ∀ bs : List Bool, PyData.eqvAll (bs.map PyData.bool) (bs.map PyData.bool) = true
  | [] => by rw [List.map_nil, PyData.eqvAll]
  | b :: r => by
    rw [List.map_cons, PyData.eqvAll, eqvAll_bls r]
    cases b <;> rfl
theorem eqv_bls (bs : List Bool) : PyData.eqv (.list (bs.map PyData.bool)) (.list (bs.map PyData.bool)) = true := by
  rw [PyData.eqv, eqvAll_bls]
theorem lay_bls : ∀ bs : List Bool, PyData.canLayAll0 (bs.map PyData.bool) = true
  | [] => by rw [List.map_nil, PyData.canLayAll0]
  | b :: r => by rw [List.map_cons, PyData.canLayAll0, PyData.canLay0, lay_bls r]; rfl
theorem depth_bls : ∀ bs : List Bool, PyData.depthAll (bs.map PyData.bool) = 0
  | [] => by rw [List.map_nil, PyData.depthAll]
  | b :: r => by rw [List.map_cons, PyData.depthAll, PyData.depth, depth_bls r]; rfl
theorem shaped_bls (bs : List Bool) : SeqAt.shaped (.list (bs.map PyData.bool)) = true := by
  unfold SeqAt.shaped
  rw [PyData.canLay0, lay_bls, PyData.depth, depth_bls]
  rfl
theorem due_small {w a l h : V} (sw : Sml w) (sa : Sml a) (sl : Sml l) (sh : Sml h) (k : Nat) : (∀ y ∈ errDue w a l h k, Sml y) ∧ (errDue w a l h k).length ≤ 3 := by
  unfold errDue
  split <;> refine ⟨fun y hy => ?_, by first | exact Nat.zero_le _ | (show 1 ≤ 3; decide) | (show 2 ≤ 3; decide) | (show 3 ≤ 3; decide)⟩
  all_goals first
    | exact absurd hy List.not_mem_nil
    | (simp only [List.mem_cons, List.not_mem_nil, or_false] at hy; subst hy; assumption)
    | (simp only [List.mem_cons, List.not_mem_nil, or_false] at hy; rcases hy with rfl | rfl <;> assumption)
    | (simp only [List.mem_cons, List.not_mem_nil, or_false] at hy; rcases hy with rfl | rfl | rfl <;> assumption)
theorem ec_at {K : PySem.W.Frag} {w : World} {mg : Str → Option Value} {A : Ad} (T : Txt K w mg A) {k : Nat} {c : Addr} (h : (errCls K)[k]? = some c) : EC K c := by
  rw [T.cl] at h
  have m := List.mem_of_getElem? h
  clear h
  simp only [List.mem_cons, List.not_mem_nil, or_false] at m
  rcases m with rfl | rfl | rfl | rfl | rfl | rfl | rfl | rfl | rfl | rfl | rfl | rfl | rfl | rfl | rfl | rfl | rfl | rfl | rfl | rfl | rfl | rfl | rfl | rfl | rfl | rfl | rfl | rfl | rfl | rfl | rfl
  · exact T.e_BridgeError
  · exact T.e_InvalidMember
  · exact T.e_UnexpectedByte
  · exact T.e_UnexpectedEnd
  · exact T.e_UnknownMember
  · exact T.e_AlreadySet
  · exact T.e_KindsDiffer
  · exact T.e_MissingDefault
  · exact T.e_NothingConvertible
  · exact T.e_NotConvertible
  · exact T.e_UnknownField
  · exact T.e_BadPlan
  · exact T.e_MessageTooLong
  · exact T.e_TextError
  · exact T.e_WordTooLong
  · exact T.e_InvalidNumber
  · exact T.e_UnexpectedCharacter
  · exact T.e_ItemExpected
  · exact T.e_NameExpected
  · exact T.e_DuplicateName
  · exact T.e_WordExpected
  · exact T.e_CountExpected
  · exact T.e_DuplicateNumber
  · exact T.e_RangesNotAllowed
  · exact T.e_DefaultNotAllowed
  · exact T.e_NestedTooDeeply
  · exact T.e_EmptyElements
  · exact T.e_CheckExpected
  · exact T.e_NumberExpected
  · exact T.e_BitsLeft
  · exact T.e_SymbolExpected
theorem kt_at {K : PySem.W.Frag} {w : World} {mg : Str → Option Value} {A : Ad} (T : Txt K w mg A) {k : Nat} {c : Addr} (hk : k < 31) (h : (errCls K)[k]? = some c) : PySem.W.kitOne K (.ref c) (.type "ValueError") = some true := by
  rw [T.cl] at h
  exact kit_ve T.kt hk h

section
variable {P : Program} {w : World} {K : PySem.W.Frag} {mg : Str → Option Value} {base : Heap} {A : Ad}
/-! def _law_tape -/
def sp_l_tape (K : PySem.W.Frag) : Sp := fun vs H Q _ => ∃ (a : Addr) (ns : List Int), vs = [.ref a] ∧ SqL K H a (ns.map V.int) ∧ ∀ (H' : Hp) (t tq : Addr), Same H H' → H t = none → H tq = none → Tape H' t tq → Q (.ref t) H'
theorem ok_l_tape (T : Txt K w mg A) : FnOk P w K mg base CX0 1 A.l_tape.f A.l_tape.fd ["script"] (sp_l_tape K) := by
  refine T.F_l_tape.ok sc_l_tape (fun vs H Q E h => ?_) (fun cdv Ar outer s H vs Q E hr h => ?_)
  · obtain ⟨a, ns, rfl, _⟩ := h; rfl
  · obtain ⟨a, ns, rfl, hS, k⟩ := h
    refine ⟨_, (pss_cons (ps_set (i := 1) sc_l_tape.nd rfl (.inl rfl) pe_int)
        (pss_cons (ps_for PassesOwn.never rfl (pi_list (pv 0)) (pg_name (i := 2) sc_l_tape.nd rfl (Or.inl rfl)) (pss_one (ps_set (i := 1) sc_l_tape.nd rfl (.inl rfl) (pe_op op_mod (pe_callTy call_int1 (by rfl) T.n_int (by decide +kernel) (pa_cons (pe_op op_add (pe_op op_mul (pv 1) pe_int) (pe_callB call_abs (by rfl) T.n_abs (by decide +kernel) (pa_cons (pe_callTy call_int1 (by rfl) T.n_int (by decide +kernel) (pa_cons (pv 2) pa_nil)) pa_nil))) pa_nil)) pe_int))))
        (pss_one (ps_ret (pe_lst (pa_cons (pe_callTy call_list_of (by rfl) T.n_list (by decide +kernel) (pa_cons (pv 0) pa_nil)) (pa_cons pe_int (pa_cons pe_int (pa_cons (pv 1) pa_nil))))))))), ?_⟩
    refine ⟨_, rfl, a, rfl, ⟨_, hS⟩, for_list (K := K) (a := a) (xs := ns.map V.int) (fun i σ H2 => ∃ (z : Int) (v : Option V), σ = [some (.ref a), some (.int z), v] ∧ H2 = H) ⟨_, _, rfl, rfl⟩ (fun i σ H2 _ ⟨_, _, _, e⟩ => by rw [e]; exact hS) ?_ ?_⟩
    · rintro i y σ H2 hi ⟨z, v, rfl, rfl⟩
      obtain ⟨n, rfl, _⟩ := map_int_at hi
      refine ⟨_, rfl, _, _, rfl, rfl, .inr ⟨by decide, by decide⟩, _, rfl, .inl ⟨_, rfl, _, rfl, _, _, rfl, rfl, .inl ⟨_, rfl, _, _, rfl, rfl, (by show (0 : Int) < _; decide), ?_⟩⟩⟩
      exact ⟨_, _, rfl, rfl⟩
    · rintro σ H2 ⟨z, v, rfl, rfl⟩
      refine ⟨_, rfl, a, _, rfl, .inl hS, fun q hq => ?_⟩
      refine ⟨_, rfl, (by show 4 ≤ sizeLine; decide), fun t ht => ?_⟩
      have s1 : Same H2 (upd H2 q (.lst (ns.map V.int))) := same_upd hq
      have nqt : q ≠ t := fun e => by
        rw [← e, upd_same] at ht
        cases ht
      refine k _ t q (s1.trans (same_upd ht)) (s1.free ht) hq ⟨ns, 0, 0, z, upd_same, ?_, by decide, by decide⟩
      rw [upd_ne nqt, upd_same]

/-! def _law_draw -/
def sp_l_draw (K : PySem.W.Frag) : Sp := fun vs H Q _ => ∃ (t : Addr) (m : Int) (q : Addr), vs = [.ref t, .int m] ∧ Tape H t q ∧ 1 ≤ m ∧ m < 1073741824 ∧ ∀ (H' : Hp) (v : Int), 0 ≤ v → v < m → Tape H' t q → Kept t H H' → Q (.int v) H'
theorem ok_l_draw (T : Txt K w mg A) : FnOk P w K mg base CX0 1 A.l_draw.f A.l_draw.fd ["tape", "many"] (sp_l_draw K) := by
  refine T.F_l_draw.ok sc_l_draw (fun vs H Q E h => ?_) (fun cdv Ar outer s H vs Q E hr h => ?_)
  · obtain ⟨t, m, q, rfl, _⟩ := h; rfl
  · obtain ⟨t, m, q, rfl, ⟨ns, p, h, s0, hT, hq, hp, hh⟩, hm1, hm2, k⟩ := h
    refine ⟨_, (C8.pss_cut (ps_if (pt_cmpR op_eq (pe_ix ix_list (pv 0) pe_int (fun _ _ => rfl)) pe_int (nomark _)) (pss_cons (ps_set (i := 2) sc_l_draw.nd rfl (.inl rfl) (pe_ix ix_list (pv 0) pe_int (fun _ _ => rfl)))
        (pss_cons (ps_set (i := 3) sc_l_draw.nd rfl (.inl rfl) pe_int)
        (C8.pss_cut (ps_if (pt_cmpR op_lt (pv 2) (pe_callB call_len_seq (by rfl) T.n_len (by decide +kernel) (pa_cons (pe_ix ix_list (pv 0) pe_int (fun _ _ => rfl)) pa_nil)) (nomark _)) (pss_one (ps_set (i := 3) sc_l_draw.nd rfl (.inl rfl) (pe_callB call_abs (by rfl) T.n_abs (by decide +kernel) (pa_cons (pe_callTy call_int1 (by rfl) T.n_int (by decide +kernel) (pa_cons (pe_ix ix_list (pe_ix ix_list (pv 0) pe_int (fun _ _ => rfl)) (pv 2) (fun _ _ => rfl)) pa_nil)) pa_nil)))) (pss_cons (ps_asg (pe_op op_mod (pe_callTy call_int1 (by rfl) T.n_int (by decide +kernel) (pa_cons (pe_op op_add (pe_op op_add (pe_op op_mul (pe_ix ix_list (pv 0) pe_int (fun _ _ => rfl)) pe_int) (pv 2)) pe_int) pa_nil)) pe_int) (pg_sub (pv 0) pe_int set_list))
        (pss_one (ps_set (i := 3) sc_l_draw.nd rfl (.inl rfl) (pe_ix ix_list (pv 0) pe_int (fun _ _ => rfl))))))
        (pss_cons (ps_asg (pe_op op_add (pv 2) pe_int) (pg_sub (pv 0) pe_int set_list))
        (pss_cons (ps_if (pt_cmpR op_lt (pv 3) (pe_op op_pow pe_int pe_int) (nomark _)) (pss_cons (ps_set (i := 3) sc_l_draw.nd rfl (.inl rfl) (pe_op op_mod (pe_callTy call_int1 (by rfl) T.n_int (by decide +kernel) (pa_cons (pe_op op_add (pe_op op_add (pe_op op_mul (pv 3) pe_int) (pe_op op_mul (pv 2) pe_int)) pe_int) pa_nil)) pe_int))
        (pss_cons (ps_set (i := 3) sc_l_draw.nd rfl (.inl rfl) (pe_op op_mod (pe_callTy call_int1 (by rfl) T.n_int (by decide +kernel) (pa_cons (pe_op op_mul (pv 3) pe_int) pa_nil)) pe_int))
        (pss_one (ps_ret (pe_op op_mod (pe_callTy call_int1 (by rfl) T.n_int (by decide +kernel) (pa_cons (pv 3) pa_nil)) (pe_callB (call_max2 rfl) (by rfl) T.n_max (by decide +kernel) (pa_cons (pv 1) (pa_cons pe_int pa_nil)))))))) pss_nil)
        (pss_one (ps_asg (pv 3) (pg_sub (pv 0) pe_int set_list)))))))) pss_nil)
        (pss_cons (ps_set (i := 3) sc_l_draw.nd rfl (.inl rfl) (pe_ix ix_list (pv 0) pe_int (fun _ _ => rfl)))
        (pss_cons (ps_asg (pe_op op_fdiv (pv 3) (pe_callB (call_max2 rfl) (by rfl) T.n_max (by decide +kernel) (pa_cons (pv 1) (pa_cons pe_int pa_nil)))) (pg_sub (pv 0) pe_int set_list))
        (pss_one (ps_ret (pe_op op_mod (pe_callTy call_int1 (by rfl) T.n_int (by decide +kernel) (pa_cons (pv 3) pa_nil)) (pe_callB (call_max2 rfl) (by rfl) T.n_max (by decide +kernel) (pa_cons (pv 1) (pa_cons pe_int pa_nil))))))))), ?_⟩
    have nqt : q ≠ t := tape_ne hT hq
    have e1 : (if (1 : Int) > m then (1 : Int) else m) = m := if_neg (by omega)
    have fin : ∀ (n : Int) (H' : Hp), Tape H' t q → Kept t H H' → Q (.int (n % (if (1 : Int) > m then (1 : Int) else m))) H' := fun n H' hT' hK' => by
      rw [e1]
      exact k H' _ (Int.emod_nonneg _ (by omega)) (Int.emod_lt_of_pos _ (by omega)) hT' hK'
    refine ⟨fun σ' H' => ∃ (x y : Option V), σ' = [some (.ref t), some (.int m), x, y] ∧ Tape H' t q ∧ Kept t H H', ?_, ?_⟩
    · refine ⟨_, rfl, t, _, _, _, rfl, rfl, SqL.of hT, rfl, rfl, _, rfl, ite2 (fun e => ?_) (fun e => ?_)⟩
      · have eh : h = 0 := dec_eq_int e
        refine ⟨_, rfl, t, _, _, _, rfl, rfl, SqL.of hT, rfl, ?_⟩
        refine ⟨fun σ' H' => ∃ (n s' : Int), 0 ≤ n ∧ σ' = [some (.ref t), some (.int m), some (.int p), some (.int n)] ∧ H' t = some (.lst [.ref q, .int p, .int h, .int s']) ∧ Kept t H H', ?_, ?_⟩
        · refine ⟨_, rfl, _, rfl, t, _, _, _, rfl, rfl, SqL.of hT, rfl, q, _, rfl, .inl (SqL.of hq), _, _, rfl, rfl, _, rfl, ite2 (fun e => ?_) (fun e => ?_)⟩
          · have hlt : p < (ns.map V.int).length := of_decide_eq_true e
            rw [List.length_map] at hlt
            have hj : p.toNat < ns.length := by omega
            have ha : atI (ns.map V.int) p = some (V.int ns[p.toNat]) := at_of (j := p.toNat) (by omega) (by rw [List.getElem?_map, List.getElem?_eq_getElem hj]; rfl)
            refine ⟨_, rfl, t, _, _, _, rfl, rfl, SqL.of hT, rfl, _, rfl, q, _, _, _, rfl, rfl, SqL.of hq, ha, .inl ⟨_, rfl, _, rfl, ?_⟩⟩
            exact ⟨_, s0, (by split <;> omega), rfl, hT, Kept.rfl⟩
          · refine ⟨_, rfl, t, _, _, _, rfl, rfl, SqL.of hT, rfl, _, _, rfl, rfl, .inr ⟨by decide, by decide⟩, _, rfl, _, _, rfl, rfl, _, _, rfl, rfl, .inl ⟨_, rfl, _, _, rfl, rfl, (by show (0 : Int) < _; decide), _, rfl, t, _, _, 3, rfl, rfl, hT, rfl, ?_⟩⟩
            refine ⟨_, rfl, t, _, _, _, rfl, rfl, SqL.of upd_same, rfl, ?_⟩
            exact ⟨_, _, Int.emod_nonneg _ (by decide), rfl, upd_same, Kept.rfl.put⟩
        · rintro σ' H' ⟨n, s', hn, rfl, hT', hK'⟩
          have hq' := hK' q _ nqt hq
          refine ⟨_, rfl, _, _, rfl, rfl, _, rfl, t, _, _, 1, rfl, rfl, hT', rfl, ?_⟩
          have hT2 : Tape (upd H' t (.lst [.ref q, .int (p + 1), .int h, .int s'])) t q := ⟨ns, p + 1, h, s', upd_same, by rw [upd_ne nqt]; exact hq', by omega, hh⟩
          refine ⟨_, rfl, _, _, rfl, rfl, ⟨by decide, by decide, by decide⟩, _, _, rfl, rfl, _, rfl, ite2 (fun e => ?_) (fun e => ?_)⟩
          · refine ⟨_, rfl, _, _, rfl, rfl, .inr ⟨by decide, by decide⟩, _, rfl, _, _, rfl, rfl, .inr ⟨by decide, by decide⟩, _, _, rfl, rfl, _, _, rfl, rfl, .inl ⟨_, rfl, _, _, rfl, rfl, (by show (0 : Int) < _; decide), ?_⟩⟩
            refine ⟨_, rfl, _, _, rfl, rfl, .inr ⟨by decide, by decide⟩, .inl ⟨_, rfl, _, _, rfl, rfl, (by show (0 : Int) < _; decide), ?_⟩⟩
            refine ⟨_, rfl, .inl ⟨_, rfl, _, rfl, _, _, rfl, _, _, rfl, rfl, (by rw [e1]; omega), ?_⟩⟩
            exact fin _ _ hT2 hK'.put
          · refine ⟨_, rfl, _, rfl, t, _, _, 2, rfl, rfl, upd_same, rfl, ?_⟩
            refine ⟨_, _, rfl, ⟨ns, p + 1, n, s', upd_same, ?_, by omega, hn⟩, hK'.put.put⟩
            rw [upd_ne nqt, upd_ne nqt]
            exact hq'
      · exact ⟨_, _, rfl, ⟨ns, p, h, s0, hT, hq, hp, hh⟩, Kept.rfl⟩
    · rintro σ' H' ⟨x, y, rfl, ⟨ns', p', h', s', hT', hq', hp', hh'⟩, hK'⟩
      have nqt' : q ≠ t := nqt
      have e2 : (0 : Int) < (if (2 : Int) > m then (2 : Int) else m) := by split <;> omega
      refine ⟨_, rfl, t, _, _, _, rfl, rfl, SqL.of hT', rfl, ?_⟩
      refine ⟨_, rfl, _, rfl, _, _, rfl, _, _, rfl, rfl, ⟨e2, by split <;> omega⟩, _, rfl, t, _, _, 2, rfl, rfl, hT', rfl, ?_⟩
      refine ⟨_, rfl, .inl ⟨_, rfl, _, rfl, _, _, rfl, _, _, rfl, rfl, (by rw [e1]; omega), ?_⟩⟩
      refine fin _ _ ⟨ns', p', _, s', upd_same, ?_, hp', Int.ediv_nonneg hh' (by omega)⟩ hK'.put
      rw [upd_ne nqt']
      exact hq'

/-! def _law_name -/
def nameSigns : Str := "abcdefghijklmnopqrstuvwxyzABCDEFGHIJKLMNOPQRSTUVWXYZ0123456789_"
def nameWords : Str := "signed case u8 in list default bits choice record literal reserved check marked sum xor i8 length value"
/-- ordinary signs -/
def Asc (z : Str) : Prop := ∀ c ∈ z.cps.toList, c < 16 ^ 8
theorem asc_of {z : Str} (h : z.cps.toList.all (fun c => decide (c < 128)) = true) : Asc z := fun c hc => Nat.lt_of_lt_of_le (of_decide_eq_true (List.all_eq_true.mp h c hc)) (by decide)
theorem asc_app {y z : Str} (a : Asc y) (b : Asc z) : Asc (y ++ z) := fun c hc => by
  have e : (y ++ z).cps = y.cps ++ z.cps := rfl
  rw [e, Array.toList_append] at hc
  rcases List.mem_append.mp hc with q | q
  · exact a c q
  · exact b c q
theorem asc_one {c : Nat} (h : c < 128) : Asc ⟨#[c]⟩ := asc_of (by simpa using h)
theorem nameSigns_at {v : Int} (h0 : 0 ≤ v) (h1 : v < 63) : ∃ c, atI nameSigns.cps.toList v = some c ∧ c < 128 := by
  have hl : nameSigns.cps.toList.length = 63 := by decide +kernel
  obtain ⟨j, rfl⟩ : ∃ j : Nat, v = (j : Int) := ⟨v.toNat, by omega⟩
  have ha : ∀ c ∈ nameSigns.cps.toList, c < 128 := by decide +kernel
  have hj : j < nameSigns.cps.toList.length := by omega
  exact ⟨_, atI_nat (List.getElem?_eq_getElem hj), ha _ (List.getElem_mem hj)⟩
theorem nameWords_at {v : Int} (h0 : 0 ≤ v) (h1 : v < 18) : ∃ z : Str, atI ((Txt.split nameWords " ").map V.str) v = some (.str z) ∧ z.length ≤ 20 ∧ Asc z := by
  have hl : (Txt.split nameWords " ").length = 18 := by decide +kernel
  have ha : ∀ z ∈ Txt.split nameWords " ", z.length ≤ 20 ∧ z.cps.toList.all (fun c => decide (c < 128)) = true := by decide +kernel
  obtain ⟨j, rfl⟩ : ∃ j : Nat, v = (j : Int) := ⟨v.toNat, by omega⟩
  have hj : j < (Txt.split nameWords " ").length := by omega
  exact ⟨(Txt.split nameWords " ")[j], atI_nat (by rw [List.getElem?_map, List.getElem?_eq_getElem hj]; rfl), (ha _ (List.getElem_mem hj)).1, asc_of (ha _ (List.getElem_mem hj)).2⟩
theorem sign1 (c : Nat) : Str.length ⟨#[c]⟩ = 1 := rfl
theorem all_flat : ∀ us : List Str, (us.map V.str).all flatV = true
  | [] => rfl
  | _ :: r => all_flat r
def sp_l_name (K : PySem.W.Frag) : Sp := fun vs H Q _ => ∃ (t u tq : Addr), vs = [.ref t, .ref u] ∧ Tape H t tq ∧ u ≠ t ∧ u ≠ tq ∧ H u = some (.lst []) ∧ ∀ (H' : Hp) (z : Str), z.length ≤ 40 → Asc z → Tape H' t tq → Kept t H H' → Q (.str z) H'
theorem ok_l_name (T : Txt K w mg A) : FnOk P w K mg base CX0 2 A.l_name.f A.l_name.fd ["tape", "used"] (sp_l_name K) := by
  have G_l_draw : FnOk P w K mg base CX0 1 A.l_draw.f A.l_draw.fd ["tape", "many"] (sp_l_draw K) := ok_l_draw T
  refine T.F_l_name.ok sc_l_name (fun vs H Q E h => ?_) (fun cdv Ar outer s H vs Q E hr h => ?_)
  · obtain ⟨t, u, tq, rfl, _⟩ := h; rfl
  · obtain ⟨t, u, tq, rfl, hT, nut, nuq, hu, k⟩ := h
    refine ⟨_, (pss_cons (ps_set (i := 2) sc_l_name.nd rfl (.inl rfl) pe_str)
        (pss_cons (ps_set (i := 3) sc_l_name.nd rfl (.inl rfl) pe_str)
        (pss_cons (ps_set (i := 4) sc_l_name.nd rfl (.inl rfl) (pe_ix ix_list (pe_lst (pa_cons pe_str (pa_cons pe_str (pa_cons pe_str (pa_cons pe_str (pa_cons pe_str (pa_cons pe_str pa_nil))))))) (pe_call G_l_draw (hr.mono (by decide)) (by rfl) T.g_l_draw T.F_l_draw.kp T.b_l_draw .nil pass0 (pa_cons (pv 0) (pa_cons pe_int pa_nil))) (fun _ _ => rfl)))
        (C8.pss_cut (ps_if (pt_cmpR op_eq (pv 4) pe_str (nomark _)) (pss_one (ps_set (i := 4) sc_l_name.nd rfl (.inl rfl) (pe_ix ix_list (pe_split (pv 3) pe_str) (pe_call G_l_draw (hr.mono (by decide)) (by rfl) T.g_l_draw T.F_l_draw.kp T.b_l_draw .nil pass0 (pa_cons (pv 0) (pa_cons pe_int pa_nil))) (fun _ _ => rfl)))) pss_nil)
        (C8.pss_cut (ps_if (pt_cmpR op_eq (pv 4) pe_str (nomark _)) (pss_one (ps_set (i := 4) sc_l_name.nd rfl (.inl rfl) (pe_ix ix_str (pv 2) (pe_call G_l_draw (hr.mono (by decide)) (by rfl) T.g_l_draw T.F_l_draw.kp T.b_l_draw .nil pass0 (pa_cons (pv 0) (pa_cons pe_int pa_nil))) (fun _ _ => rfl)))) pss_nil)
        (pss_cons (ps_for PassesOwn.never rfl (pi_range1 rfl T.n_range (pa_cons (pe_ix ix_list (pe_lst (pa_cons pe_int (pa_cons pe_int (pa_cons pe_int (pa_cons pe_int pa_nil))))) (pe_call G_l_draw (hr.mono (by decide)) (by rfl) T.g_l_draw T.F_l_draw.kp T.b_l_draw .nil pass0 (pa_cons (pv 0) (pa_cons pe_int pa_nil))) (fun _ _ => rfl)) pa_nil)) (pg_name (i := 5) sc_l_name.nd rfl (Or.inl rfl)) (pss_one (ps_set (i := 4) sc_l_name.nd rfl (.inl rfl) (pe_op op_add_str (pv 4) (pe_ix ix_str (pv 2) (pe_call G_l_draw (hr.mono (by decide)) (by rfl) T.g_l_draw T.F_l_draw.kp T.b_l_draw .nil pass0 (pa_cons (pv 0) (pa_cons pe_int pa_nil))) (fun _ _ => rfl))))))
        (pss_cons (ps_set (i := 6) sc_l_name.nd rfl (.inl rfl) (pv 4))
        (pss_cons (ps_for PassesOwn.never rfl (pi_range1 rfl T.n_range (pa_cons (pe_callB call_len_seq (by rfl) T.n_len (by decide +kernel) (pa_cons (pv 1) pa_nil)) pa_nil)) (pg_name (i := 5) sc_l_name.nd rfl (Or.inl rfl)) (pss_one (ps_if (pt_cmpR op_in_seq (pv 6) (pv 1) rfl) (pss_one (ps_set (i := 6) sc_l_name.nd rfl (.inl rfl) (pe_op op_add_str (pv 4) (pe_callTy call_str_int (by rfl) T.n_str (by decide +kernel) (pa_cons (pv 5) pa_nil))))) pss_nil)))
        (pss_one (ps_ret (pv 6))))))))))), ?_⟩
    refine ⟨(by show 6 ≤ sizeLine; decide), fun l hl1 => ⟨_, rfl, t, 6, tq, rfl, hT.new hl1, by decide, by decide, fun H1 v hv0 hv1 hT1 hK1 => ?_⟩⟩
    have hz : ∃ z : Str, atI [V.str "", V.str "", V.str "", V.str "reading_of_stat", V.str "word", V.str "word"] v = some (.str z) ∧ z.length ≤ 15 ∧ Asc z := by
      rcases (show v = 0 ∨ v = 1 ∨ v = 2 ∨ v = 3 ∨ v = 4 ∨ v = 5 by omega) with rfl | rfl | rfl | rfl | rfl | rfl <;> exact ⟨_, rfl, by decide +kernel, asc_of (by decide +kernel)⟩
    obtain ⟨z0, hz0, hz1, za⟩ := hz
    have e1 := hK1 l _ (hT.off hl1).1 upd_same
    have hK : Kept t H H1 := (Same.kept (same_upd hl1)).trans hK1
    clear hK1
    refine ⟨l, _, _, _, rfl, rfl, SqL.of e1, hz0, ?_⟩
    refine ⟨fun σ' H' => ∃ z : Str, σ' = [some (.ref t), some (.ref u), some (.str nameSigns), some (.str nameWords), some (.str z), none, none] ∧ z.length ≤ 20 ∧ Asc z ∧ Tape H' t tq ∧ Kept t H H', ?_, ?_⟩
    · refine ⟨_, rfl, rfl, _, rfl, ite2 (fun e => ?_) (fun e => ?_)⟩
      · refine ⟨_, rfl, ⟨_, rfl⟩, _, _, rfl, rfl, by decide +kernel, by decide +kernel, fun p hp => ⟨_, rfl, t, 18, tq, rfl, hT1.new hp, by decide, by decide, fun H2 x hx0 hx1 hT2 hK2 => ?_⟩⟩
        obtain ⟨z, hz2, hz3, za⟩ := nameWords_at hx0 hx1
        have e2 := hK2 p _ (hT1.off hp).1 upd_same
        exact ⟨p, _, _, _, rfl, rfl, SqL.of e2, hz2, z, rfl, hz3, za, hT2, hK.trans ((Same.kept (same_upd hp)).trans hK2)⟩
      · exact ⟨z0, rfl, by omega, za, hT1, hK⟩
    · rintro σ' H' ⟨z, rfl, hzl, za, hT', hK'⟩
      refine ⟨fun σ' H2 => ∃ z : Str, σ' = [some (.ref t), some (.ref u), some (.str nameSigns), some (.str nameWords), some (.str z), none, none] ∧ z.length ≤ 20 ∧ Asc z ∧ Tape H2 t tq ∧ Kept t H H2, ?_, ?_⟩
      · refine ⟨_, rfl, rfl, _, rfl, ite2 (fun e => ?_) (fun e => ?_)⟩
        · refine ⟨_, rfl, _, rfl, t, 52, tq, rfl, hT', by decide, by decide, fun H2 x hx0 hx1 hT2 hK2 => ?_⟩
          obtain ⟨c, hc, hc2⟩ := nameSigns_at hx0 (by omega)
          exact ⟨_, _, _, rfl, rfl, by decide +kernel, hc, _, rfl, by rw [sign1]; decide, asc_one hc2, hT2, hK'.trans hK2⟩
        · exact ⟨z, rfl, hzl, za, hT', hK'⟩
      · rintro σ' H2 ⟨z, rfl, hzl, za, hT2, hK2⟩
        refine ⟨(by show 4 ≤ sizeLine; decide), fun l2 hl2 => ⟨_, rfl, t, 4, tq, rfl, hT2.new hl2, by decide, by decide, fun H3 y hy0 hy1 hT3 hK3 => ?_⟩⟩
        have hn : ∃ n : Nat, atI [V.int 0, V.int 0, V.int 1, V.int 2] y = some (.int (n : Int)) ∧ n ≤ 2 := by
          rcases (show y = 0 ∨ y = 1 ∨ y = 2 ∨ y = 3 by omega) with rfl | rfl | rfl | rfl
          · exact ⟨0, rfl, by decide⟩
          · exact ⟨0, rfl, by decide⟩
          · exact ⟨1, rfl, by decide⟩
          · exact ⟨2, rfl, by decide⟩
        obtain ⟨n, hn1, hn2⟩ := hn
        have e3 := hK3 l2 _ (hT2.off hl2).1 upd_same
        have hK3' : Kept t H H3 := hK2.trans ((Same.kept (same_upd hl2)).trans hK3)
        refine ⟨l2, _, _, _, rfl, rfl, SqL.of e3, hn1, _, rfl, by omega, by omega, for_range (n := n) (fun i σ H4 => ∃ (z : Str) (v5 : Option V), σ = [some (.ref t), some (.ref u), some (.str nameSigns), some (.str nameWords), some (.str z), v5, none] ∧ z.length ≤ 20 + i ∧ Asc z ∧ Tape H4 t tq ∧ Kept t H H4) ⟨z, none, rfl, by omega, za, hT3, hK3'⟩ ?_ ?_⟩
        · rintro i σ H4 hi ⟨z, v5, rfl, hzl, za, hT4, hK4⟩
          refine ⟨_, rfl, _, rfl, _, rfl, t, 63, tq, rfl, hT4, by decide, by decide, fun H5 x hx0 hx1 hT5 hK5 => ?_⟩
          obtain ⟨c, hc, hc2⟩ := nameSigns_at hx0 (by omega)
          refine ⟨_, _, _, rfl, rfl, by decide +kernel, hc, _, _, rfl, rfl, ?_, ?_⟩
          · rw [sign1]
            exact Nat.le_of_lt (small1000 (by omega))
          · exact ⟨_, _, rfl, by rw [strLen_append, sign1]; omega, asc_app za (asc_one hc2), hT5, hK4.trans hK5⟩
        · rintro σ H4 ⟨z, v5, rfl, hzl, za, hT4, hK4⟩
          have hu4 := hK4 u _ nut hu
          refine ⟨_, rfl, _, rfl, u, _, rfl, .inl (SqL.of hu4), _, rfl, by decide, by decide, for_range (n := 0) (fun i σ H5 => σ = [some (.ref t), some (.ref u), some (.str nameSigns), some (.str nameWords), some (.str z), v5, some (.str z)] ∧ H5 = H4) ⟨rfl, rfl⟩ ?_ ?_⟩
          · intro i σ H5 hi
            exact absurd hi (Nat.not_lt_zero _)
          · rintro σ H5 ⟨rfl, rfl⟩
            exact ⟨_, rfl, k _ _ (by omega) za hT4 hK4⟩

/-! def _law_classes -/
def sp_l_classes (K : PySem.W.Frag) : Sp := fun vs H Q _ => ∃ (k : Nat) (e C : Addr) (fs : List (Str × V)), vs = [.ref e] ∧ k < 31 ∧ (errCls K)[k]? = some C ∧ EC K C ∧ Err H e C fs ∧ ∀ (H' : Hp) (p : Addr), H' p = some (.lst (errRow k)) → Same H H' → Q (.ref p) H'
theorem ok_l_classes (T : Txt K w mg A) : FnOk P w K mg base CX0 1 A.l_classes.f A.l_classes.fd ["e"] (sp_l_classes K) := by
  refine T.F_l_classes.ok sc_l_classes (fun vs H Q E h => ?_) (fun cdv Ar outer s H vs Q E hr h => ?_)
  · obtain ⟨k, e, C, fs, rfl, _⟩ := h; rfl
  · obtain ⟨k, e, C, fs, rfl, hk, hC, ec, er, q⟩ := h
    refine ⟨_, (C8.pss_cut (ps_set (i := 1) sc_l_classes.nd rfl (.inl rfl) (pe_lst (pa_cons (pe_callB call_isErr (by rfl) T.n_isinstance (by decide +kernel) (pa_cons (pv 0) (pa_cons (pe_glob (v := .ref A.k_BridgeError) (gl_of (by kernel_rfl)) T.g_BridgeError rfl) pa_nil))) (pa_cons (pe_callB call_isErr (by rfl) T.n_isinstance (by decide +kernel) (pa_cons (pv 0) (pa_cons (pe_glob (v := .ref A.k_InvalidMember) (gl_of (by kernel_rfl)) T.g_InvalidMember rfl) pa_nil))) (pa_cons (pe_callB call_isErr (by rfl) T.n_isinstance (by decide +kernel) (pa_cons (pv 0) (pa_cons (pe_glob (v := .ref A.k_UnexpectedByte) (gl_of (by kernel_rfl)) T.g_UnexpectedByte rfl) pa_nil))) (pa_cons (pe_callB call_isErr (by rfl) T.n_isinstance (by decide +kernel) (pa_cons (pv 0) (pa_cons (pe_glob (v := .ref A.k_UnexpectedEnd) (gl_of (by kernel_rfl)) T.g_UnexpectedEnd rfl) pa_nil))) pa_nil))))))
        (C8.pss_cut (ps_set (i := 1) sc_l_classes.nd rfl (.inl rfl) (pe_op op_cat (pv 1) (pe_lst (pa_cons (pe_callB call_isErr (by rfl) T.n_isinstance (by decide +kernel) (pa_cons (pv 0) (pa_cons (pe_glob (v := .ref A.k_UnknownMember) (gl_of (by kernel_rfl)) T.g_UnknownMember rfl) pa_nil))) (pa_cons (pe_callB call_isErr (by rfl) T.n_isinstance (by decide +kernel) (pa_cons (pv 0) (pa_cons (pe_glob (v := .ref A.k_AlreadySet) (gl_of (by kernel_rfl)) T.g_AlreadySet rfl) pa_nil))) (pa_cons (pe_callB call_isErr (by rfl) T.n_isinstance (by decide +kernel) (pa_cons (pv 0) (pa_cons (pe_glob (v := .ref A.k_KindsDiffer) (gl_of (by kernel_rfl)) T.g_KindsDiffer rfl) pa_nil))) (pa_cons (pe_callB call_isErr (by rfl) T.n_isinstance (by decide +kernel) (pa_cons (pv 0) (pa_cons (pe_glob (v := .ref A.k_MissingDefault) (gl_of (by kernel_rfl)) T.g_MissingDefault rfl) pa_nil))) pa_nil)))))))
        (C8.pss_cut (ps_set (i := 1) sc_l_classes.nd rfl (.inl rfl) (pe_op op_cat (pv 1) (pe_lst (pa_cons (pe_callB call_isErr (by rfl) T.n_isinstance (by decide +kernel) (pa_cons (pv 0) (pa_cons (pe_glob (v := .ref A.k_NothingConvertible) (gl_of (by kernel_rfl)) T.g_NothingConvertible rfl) pa_nil))) (pa_cons (pe_callB call_isErr (by rfl) T.n_isinstance (by decide +kernel) (pa_cons (pv 0) (pa_cons (pe_glob (v := .ref A.k_NotConvertible) (gl_of (by kernel_rfl)) T.g_NotConvertible rfl) pa_nil))) (pa_cons (pe_callB call_isErr (by rfl) T.n_isinstance (by decide +kernel) (pa_cons (pv 0) (pa_cons (pe_glob (v := .ref A.k_UnknownField) (gl_of (by kernel_rfl)) T.g_UnknownField rfl) pa_nil))) pa_nil))))))
        (C8.pss_cut (ps_set (i := 1) sc_l_classes.nd rfl (.inl rfl) (pe_op op_cat (pv 1) (pe_lst (pa_cons (pe_callB call_isErr (by rfl) T.n_isinstance (by decide +kernel) (pa_cons (pv 0) (pa_cons (pe_glob (v := .ref A.k_BadPlan) (gl_of (by kernel_rfl)) T.g_BadPlan rfl) pa_nil))) (pa_cons (pe_callB call_isErr (by rfl) T.n_isinstance (by decide +kernel) (pa_cons (pv 0) (pa_cons (pe_glob (v := .ref A.k_MessageTooLong) (gl_of (by kernel_rfl)) T.g_MessageTooLong rfl) pa_nil))) (pa_cons (pe_callB call_isErr (by rfl) T.n_isinstance (by decide +kernel) (pa_cons (pv 0) (pa_cons (pe_glob (v := .ref A.k_TextError) (gl_of (by kernel_rfl)) T.g_TextError rfl) pa_nil))) (pa_cons (pe_callB call_isErr (by rfl) T.n_isinstance (by decide +kernel) (pa_cons (pv 0) (pa_cons (pe_glob (v := .ref A.k_WordTooLong) (gl_of (by kernel_rfl)) T.g_WordTooLong rfl) pa_nil))) pa_nil)))))))
        (C8.pss_cut (ps_set (i := 1) sc_l_classes.nd rfl (.inl rfl) (pe_op op_cat (pv 1) (pe_lst (pa_cons (pe_callB call_isErr (by rfl) T.n_isinstance (by decide +kernel) (pa_cons (pv 0) (pa_cons (pe_glob (v := .ref A.k_InvalidNumber) (gl_of (by kernel_rfl)) T.g_InvalidNumber rfl) pa_nil))) (pa_cons (pe_callB call_isErr (by rfl) T.n_isinstance (by decide +kernel) (pa_cons (pv 0) (pa_cons (pe_glob (v := .ref A.k_UnexpectedCharacter) (gl_of (by kernel_rfl)) T.g_UnexpectedCharacter rfl) pa_nil))) (pa_cons (pe_callB call_isErr (by rfl) T.n_isinstance (by decide +kernel) (pa_cons (pv 0) (pa_cons (pe_glob (v := .ref A.k_ItemExpected) (gl_of (by kernel_rfl)) T.g_ItemExpected rfl) pa_nil))) pa_nil))))))
        (C8.pss_cut (ps_set (i := 1) sc_l_classes.nd rfl (.inl rfl) (pe_op op_cat (pv 1) (pe_lst (pa_cons (pe_callB call_isErr (by rfl) T.n_isinstance (by decide +kernel) (pa_cons (pv 0) (pa_cons (pe_glob (v := .ref A.k_NameExpected) (gl_of (by kernel_rfl)) T.g_NameExpected rfl) pa_nil))) (pa_cons (pe_callB call_isErr (by rfl) T.n_isinstance (by decide +kernel) (pa_cons (pv 0) (pa_cons (pe_glob (v := .ref A.k_DuplicateName) (gl_of (by kernel_rfl)) T.g_DuplicateName rfl) pa_nil))) (pa_cons (pe_callB call_isErr (by rfl) T.n_isinstance (by decide +kernel) (pa_cons (pv 0) (pa_cons (pe_glob (v := .ref A.k_WordExpected) (gl_of (by kernel_rfl)) T.g_WordExpected rfl) pa_nil))) pa_nil))))))
        (C8.pss_cut (ps_set (i := 1) sc_l_classes.nd rfl (.inl rfl) (pe_op op_cat (pv 1) (pe_lst (pa_cons (pe_callB call_isErr (by rfl) T.n_isinstance (by decide +kernel) (pa_cons (pv 0) (pa_cons (pe_glob (v := .ref A.k_CountExpected) (gl_of (by kernel_rfl)) T.g_CountExpected rfl) pa_nil))) (pa_cons (pe_callB call_isErr (by rfl) T.n_isinstance (by decide +kernel) (pa_cons (pv 0) (pa_cons (pe_glob (v := .ref A.k_DuplicateNumber) (gl_of (by kernel_rfl)) T.g_DuplicateNumber rfl) pa_nil))) (pa_cons (pe_callB call_isErr (by rfl) T.n_isinstance (by decide +kernel) (pa_cons (pv 0) (pa_cons (pe_glob (v := .ref A.k_RangesNotAllowed) (gl_of (by kernel_rfl)) T.g_RangesNotAllowed rfl) pa_nil))) pa_nil))))))
        (C8.pss_cut (ps_set (i := 1) sc_l_classes.nd rfl (.inl rfl) (pe_op op_cat (pv 1) (pe_lst (pa_cons (pe_callB call_isErr (by rfl) T.n_isinstance (by decide +kernel) (pa_cons (pv 0) (pa_cons (pe_glob (v := .ref A.k_DefaultNotAllowed) (gl_of (by kernel_rfl)) T.g_DefaultNotAllowed rfl) pa_nil))) (pa_cons (pe_callB call_isErr (by rfl) T.n_isinstance (by decide +kernel) (pa_cons (pv 0) (pa_cons (pe_glob (v := .ref A.k_NestedTooDeeply) (gl_of (by kernel_rfl)) T.g_NestedTooDeeply rfl) pa_nil))) (pa_cons (pe_callB call_isErr (by rfl) T.n_isinstance (by decide +kernel) (pa_cons (pv 0) (pa_cons (pe_glob (v := .ref A.k_EmptyElements) (gl_of (by kernel_rfl)) T.g_EmptyElements rfl) pa_nil))) pa_nil))))))
        (pss_one (ps_ret (pe_op op_cat (pv 1) (pe_lst (pa_cons (pe_callB call_isErr (by rfl) T.n_isinstance (by decide +kernel) (pa_cons (pv 0) (pa_cons (pe_glob (v := .ref A.k_CheckExpected) (gl_of (by kernel_rfl)) T.g_CheckExpected rfl) pa_nil))) (pa_cons (pe_callB call_isErr (by rfl) T.n_isinstance (by decide +kernel) (pa_cons (pv 0) (pa_cons (pe_glob (v := .ref A.k_NumberExpected) (gl_of (by kernel_rfl)) T.g_NumberExpected rfl) pa_nil))) (pa_cons (pe_callB call_isErr (by rfl) T.n_isinstance (by decide +kernel) (pa_cons (pv 0) (pa_cons (pe_glob (v := .ref A.k_BitsLeft) (gl_of (by kernel_rfl)) T.g_BitsLeft rfl) pa_nil))) (pa_cons (pe_callB call_isErr (by rfl) T.n_isinstance (by decide +kernel) (pa_cons (pv 0) (pa_cons (pe_glob (v := .ref A.k_SymbolExpected) (gl_of (by kernel_rfl)) T.g_SymbolExpected rfl) pa_nil))) pa_nil)))))))))))))))), ?_⟩
    rw [T.cl] at hC
    refine ⟨fun σ' H' => ∃ p : Addr, σ' = [some (.ref e), some (.ref p)] ∧ H' p = some (.lst (rowTo k 4)) ∧ Same H H' ∧ Err H' e C fs, ?_, ?_⟩
    · refine ⟨.ref e, rfl, e, C, fs, .ref A.k_BridgeError, .ref A.k_BridgeError, isB k 0, rfl, ec, er, .own _, kit_at T.kt hk (by decide) hC (by kernel_rfl), .ref e, rfl, e, C, fs, .ref A.k_InvalidMember, .ref A.k_InvalidMember, isB k 1, rfl, ec, er, .own _, kit_at T.kt hk (by decide) hC (by kernel_rfl), .ref e, rfl, e, C, fs, .ref A.k_UnexpectedByte, .ref A.k_UnexpectedByte, isB k 2, rfl, ec, er, .own _, kit_at T.kt hk (by decide) hC (by kernel_rfl), .ref e, rfl, e, C, fs, .ref A.k_UnexpectedEnd, .ref A.k_UnexpectedEnd, isB k 3, rfl, ec, er, .own _, kit_at T.kt hk (by decide) hC (by kernel_rfl), (by show 4 ≤ sizeLine; decide), fun p n0 => ?_⟩
      exact ⟨p, rfl, upd_same, same_upd n0, er.same (same_upd n0)⟩
    rintro σ' H0 ⟨p0, rfl, hp, sm, er⟩
    refine ⟨fun σ' H' => ∃ p : Addr, σ' = [some (.ref e), some (.ref p)] ∧ H' p = some (.lst (rowTo k 8)) ∧ Same H H' ∧ Err H' e C fs, ?_, ?_⟩
    · refine ⟨_, rfl, .ref e, rfl, e, C, fs, .ref A.k_UnknownMember, .ref A.k_UnknownMember, isB k 4, rfl, ec, er, .own _, kit_at T.kt hk (by decide) hC (by kernel_rfl), .ref e, rfl, e, C, fs, .ref A.k_AlreadySet, .ref A.k_AlreadySet, isB k 5, rfl, ec, er, .own _, kit_at T.kt hk (by decide) hC (by kernel_rfl), .ref e, rfl, e, C, fs, .ref A.k_KindsDiffer, .ref A.k_KindsDiffer, isB k 6, rfl, ec, er, .own _, kit_at T.kt hk (by decide) hC (by kernel_rfl), .ref e, rfl, e, C, fs, .ref A.k_MissingDefault, .ref A.k_MissingDefault, isB k 7, rfl, ec, er, .own _, kit_at T.kt hk (by decide) hC (by kernel_rfl), (by show 4 ≤ sizeLine; decide), fun p n1 => ⟨p0, p, _, _, rfl, rfl, same_upd n1 _ _ hp, upd_same, row_len (by show 8 ≤ 1000; decide), fun p2 n2 => ?_⟩⟩
      have st := (same_upd (o := .lst [.bl (isB k 4), .bl (isB k 5), .bl (isB k 6), .bl (isB k 7)]) n1).trans (same_upd (o := .lst ((rowTo k 4) ++ [.bl (isB k 4), .bl (isB k 5), .bl (isB k 6), .bl (isB k 7)])) n2)
      exact ⟨p2, rfl, (by rw [row_app k 4 (m := 8) [.bl (isB k 4), .bl (isB k 5), .bl (isB k 6), .bl (isB k 7)] rfl rfl]; exact upd_same), sm.trans st, er.same st⟩
    clear er hp sm
    rintro σ' H1 ⟨p0, rfl, hp, sm, er⟩
    refine ⟨fun σ' H' => ∃ p : Addr, σ' = [some (.ref e), some (.ref p)] ∧ H' p = some (.lst (rowTo k 11)) ∧ Same H H' ∧ Err H' e C fs, ?_, ?_⟩
    · refine ⟨_, rfl, .ref e, rfl, e, C, fs, .ref A.k_NothingConvertible, .ref A.k_NothingConvertible, isB k 8, rfl, ec, er, .own _, kit_at T.kt hk (by decide) hC (by kernel_rfl), .ref e, rfl, e, C, fs, .ref A.k_NotConvertible, .ref A.k_NotConvertible, isB k 9, rfl, ec, er, .own _, kit_at T.kt hk (by decide) hC (by kernel_rfl), .ref e, rfl, e, C, fs, .ref A.k_UnknownField, .ref A.k_UnknownField, isB k 10, rfl, ec, er, .own _, kit_at T.kt hk (by decide) hC (by kernel_rfl), (by show 3 ≤ sizeLine; decide), fun p n1 => ⟨p0, p, _, _, rfl, rfl, same_upd n1 _ _ hp, upd_same, row_len (by show 11 ≤ 1000; decide), fun p2 n2 => ?_⟩⟩
      have st := (same_upd (o := .lst [.bl (isB k 8), .bl (isB k 9), .bl (isB k 10)]) n1).trans (same_upd (o := .lst ((rowTo k 8) ++ [.bl (isB k 8), .bl (isB k 9), .bl (isB k 10)])) n2)
      exact ⟨p2, rfl, (by rw [row_app k 8 (m := 11) [.bl (isB k 8), .bl (isB k 9), .bl (isB k 10)] rfl rfl]; exact upd_same), sm.trans st, er.same st⟩
    clear er hp sm
    rintro σ' H2 ⟨p0, rfl, hp, sm, er⟩
    refine ⟨fun σ' H' => ∃ p : Addr, σ' = [some (.ref e), some (.ref p)] ∧ H' p = some (.lst (rowTo k 15)) ∧ Same H H' ∧ Err H' e C fs, ?_, ?_⟩
    · refine ⟨_, rfl, .ref e, rfl, e, C, fs, .ref A.k_BadPlan, .ref A.k_BadPlan, isB k 11, rfl, ec, er, .own _, kit_at T.kt hk (by decide) hC (by kernel_rfl), .ref e, rfl, e, C, fs, .ref A.k_MessageTooLong, .ref A.k_MessageTooLong, isB k 12, rfl, ec, er, .own _, kit_at T.kt hk (by decide) hC (by kernel_rfl), .ref e, rfl, e, C, fs, .ref A.k_TextError, .ref A.k_TextError, isB k 13, rfl, ec, er, .own _, kit_at T.kt hk (by decide) hC (by kernel_rfl), .ref e, rfl, e, C, fs, .ref A.k_WordTooLong, .ref A.k_WordTooLong, isB k 14, rfl, ec, er, .own _, kit_at T.kt hk (by decide) hC (by kernel_rfl), (by show 4 ≤ sizeLine; decide), fun p n1 => ⟨p0, p, _, _, rfl, rfl, same_upd n1 _ _ hp, upd_same, row_len (by show 15 ≤ 1000; decide), fun p2 n2 => ?_⟩⟩
      have st := (same_upd (o := .lst [.bl (isB k 11), .bl (isB k 12), .bl (isB k 13), .bl (isB k 14)]) n1).trans (same_upd (o := .lst ((rowTo k 11) ++ [.bl (isB k 11), .bl (isB k 12), .bl (isB k 13), .bl (isB k 14)])) n2)
      exact ⟨p2, rfl, (by rw [row_app k 11 (m := 15) [.bl (isB k 11), .bl (isB k 12), .bl (isB k 13), .bl (isB k 14)] rfl rfl]; exact upd_same), sm.trans st, er.same st⟩
    clear er hp sm
    rintro σ' H3 ⟨p0, rfl, hp, sm, er⟩
    refine ⟨fun σ' H' => ∃ p : Addr, σ' = [some (.ref e), some (.ref p)] ∧ H' p = some (.lst (rowTo k 18)) ∧ Same H H' ∧ Err H' e C fs, ?_, ?_⟩
    · refine ⟨_, rfl, .ref e, rfl, e, C, fs, .ref A.k_InvalidNumber, .ref A.k_InvalidNumber, isB k 15, rfl, ec, er, .own _, kit_at T.kt hk (by decide) hC (by kernel_rfl), .ref e, rfl, e, C, fs, .ref A.k_UnexpectedCharacter, .ref A.k_UnexpectedCharacter, isB k 16, rfl, ec, er, .own _, kit_at T.kt hk (by decide) hC (by kernel_rfl), .ref e, rfl, e, C, fs, .ref A.k_ItemExpected, .ref A.k_ItemExpected, isB k 17, rfl, ec, er, .own _, kit_at T.kt hk (by decide) hC (by kernel_rfl), (by show 3 ≤ sizeLine; decide), fun p n1 => ⟨p0, p, _, _, rfl, rfl, same_upd n1 _ _ hp, upd_same, row_len (by show 18 ≤ 1000; decide), fun p2 n2 => ?_⟩⟩
      have st := (same_upd (o := .lst [.bl (isB k 15), .bl (isB k 16), .bl (isB k 17)]) n1).trans (same_upd (o := .lst ((rowTo k 15) ++ [.bl (isB k 15), .bl (isB k 16), .bl (isB k 17)])) n2)
      exact ⟨p2, rfl, (by rw [row_app k 15 (m := 18) [.bl (isB k 15), .bl (isB k 16), .bl (isB k 17)] rfl rfl]; exact upd_same), sm.trans st, er.same st⟩
    clear er hp sm
    rintro σ' H4 ⟨p0, rfl, hp, sm, er⟩
    refine ⟨fun σ' H' => ∃ p : Addr, σ' = [some (.ref e), some (.ref p)] ∧ H' p = some (.lst (rowTo k 21)) ∧ Same H H' ∧ Err H' e C fs, ?_, ?_⟩
    · refine ⟨_, rfl, .ref e, rfl, e, C, fs, .ref A.k_NameExpected, .ref A.k_NameExpected, isB k 18, rfl, ec, er, .own _, kit_at T.kt hk (by decide) hC (by kernel_rfl), .ref e, rfl, e, C, fs, .ref A.k_DuplicateName, .ref A.k_DuplicateName, isB k 19, rfl, ec, er, .own _, kit_at T.kt hk (by decide) hC (by kernel_rfl), .ref e, rfl, e, C, fs, .ref A.k_WordExpected, .ref A.k_WordExpected, isB k 20, rfl, ec, er, .own _, kit_at T.kt hk (by decide) hC (by kernel_rfl), (by show 3 ≤ sizeLine; decide), fun p n1 => ⟨p0, p, _, _, rfl, rfl, same_upd n1 _ _ hp, upd_same, row_len (by show 21 ≤ 1000; decide), fun p2 n2 => ?_⟩⟩
      have st := (same_upd (o := .lst [.bl (isB k 18), .bl (isB k 19), .bl (isB k 20)]) n1).trans (same_upd (o := .lst ((rowTo k 18) ++ [.bl (isB k 18), .bl (isB k 19), .bl (isB k 20)])) n2)
      exact ⟨p2, rfl, (by rw [row_app k 18 (m := 21) [.bl (isB k 18), .bl (isB k 19), .bl (isB k 20)] rfl rfl]; exact upd_same), sm.trans st, er.same st⟩
    clear er hp sm
    rintro σ' H5 ⟨p0, rfl, hp, sm, er⟩
    refine ⟨fun σ' H' => ∃ p : Addr, σ' = [some (.ref e), some (.ref p)] ∧ H' p = some (.lst (rowTo k 24)) ∧ Same H H' ∧ Err H' e C fs, ?_, ?_⟩
    · refine ⟨_, rfl, .ref e, rfl, e, C, fs, .ref A.k_CountExpected, .ref A.k_CountExpected, isB k 21, rfl, ec, er, .own _, kit_at T.kt hk (by decide) hC (by kernel_rfl), .ref e, rfl, e, C, fs, .ref A.k_DuplicateNumber, .ref A.k_DuplicateNumber, isB k 22, rfl, ec, er, .own _, kit_at T.kt hk (by decide) hC (by kernel_rfl), .ref e, rfl, e, C, fs, .ref A.k_RangesNotAllowed, .ref A.k_RangesNotAllowed, isB k 23, rfl, ec, er, .own _, kit_at T.kt hk (by decide) hC (by kernel_rfl), (by show 3 ≤ sizeLine; decide), fun p n1 => ⟨p0, p, _, _, rfl, rfl, same_upd n1 _ _ hp, upd_same, row_len (by show 24 ≤ 1000; decide), fun p2 n2 => ?_⟩⟩
      have st := (same_upd (o := .lst [.bl (isB k 21), .bl (isB k 22), .bl (isB k 23)]) n1).trans (same_upd (o := .lst ((rowTo k 21) ++ [.bl (isB k 21), .bl (isB k 22), .bl (isB k 23)])) n2)
      exact ⟨p2, rfl, (by rw [row_app k 21 (m := 24) [.bl (isB k 21), .bl (isB k 22), .bl (isB k 23)] rfl rfl]; exact upd_same), sm.trans st, er.same st⟩
    clear er hp sm
    rintro σ' H6 ⟨p0, rfl, hp, sm, er⟩
    refine ⟨fun σ' H' => ∃ p : Addr, σ' = [some (.ref e), some (.ref p)] ∧ H' p = some (.lst (rowTo k 27)) ∧ Same H H' ∧ Err H' e C fs, ?_, ?_⟩
    · refine ⟨_, rfl, .ref e, rfl, e, C, fs, .ref A.k_DefaultNotAllowed, .ref A.k_DefaultNotAllowed, isB k 24, rfl, ec, er, .own _, kit_at T.kt hk (by decide) hC (by kernel_rfl), .ref e, rfl, e, C, fs, .ref A.k_NestedTooDeeply, .ref A.k_NestedTooDeeply, isB k 25, rfl, ec, er, .own _, kit_at T.kt hk (by decide) hC (by kernel_rfl), .ref e, rfl, e, C, fs, .ref A.k_EmptyElements, .ref A.k_EmptyElements, isB k 26, rfl, ec, er, .own _, kit_at T.kt hk (by decide) hC (by kernel_rfl), (by show 3 ≤ sizeLine; decide), fun p n1 => ⟨p0, p, _, _, rfl, rfl, same_upd n1 _ _ hp, upd_same, row_len (by show 27 ≤ 1000; decide), fun p2 n2 => ?_⟩⟩
      have st := (same_upd (o := .lst [.bl (isB k 24), .bl (isB k 25), .bl (isB k 26)]) n1).trans (same_upd (o := .lst ((rowTo k 24) ++ [.bl (isB k 24), .bl (isB k 25), .bl (isB k 26)])) n2)
      exact ⟨p2, rfl, (by rw [row_app k 24 (m := 27) [.bl (isB k 24), .bl (isB k 25), .bl (isB k 26)] rfl rfl]; exact upd_same), sm.trans st, er.same st⟩
    clear er hp sm
    rintro σ' H7 ⟨p0, rfl, hp, sm, er⟩
    refine ⟨_, rfl, .ref e, rfl, e, C, fs, .ref A.k_CheckExpected, .ref A.k_CheckExpected, isB k 27, rfl, ec, er, .own _, kit_at T.kt hk (by decide) hC (by kernel_rfl), .ref e, rfl, e, C, fs, .ref A.k_NumberExpected, .ref A.k_NumberExpected, isB k 28, rfl, ec, er, .own _, kit_at T.kt hk (by decide) hC (by kernel_rfl), .ref e, rfl, e, C, fs, .ref A.k_BitsLeft, .ref A.k_BitsLeft, isB k 29, rfl, ec, er, .own _, kit_at T.kt hk (by decide) hC (by kernel_rfl), .ref e, rfl, e, C, fs, .ref A.k_SymbolExpected, .ref A.k_SymbolExpected, isB k 30, rfl, ec, er, .own _, kit_at T.kt hk (by decide) hC (by kernel_rfl), (by show 4 ≤ sizeLine; decide), fun p n1 => ⟨p0, p, _, _, rfl, rfl, same_upd n1 _ _ hp, upd_same, row_len (by show 31 ≤ 1000; decide), fun p2 n2 => ?_⟩⟩
    exact q _ p2 (by rw [show errRow k = rowTo k 31 from rfl, row_app k 27 (m := 31) [.bl (isB k 27), .bl (isB k 28), .bl (isB k 29), .bl (isB k 30)] rfl rfl]; exact upd_same) (sm.trans ((same_upd n1).trans (same_upd n2)))

/-! def AlreadySet.__init__ -/
def sp_i_AlreadySet (K : PySem.W.Frag) : Sp := fun vs H Q _ => ∃ (a C : Addr) (v_name : V), vs = [.ref a, v_name] ∧ EC K C ∧ H a = some (exo a C none) ∧ Sml v_name ∧ ∀ H', Made H a C [("name", v_name)] H' → Q .non H'
theorem ok_i_AlreadySet (T : Txt K w mg A) : FnOk P w K mg base CX0 1 A.i_AlreadySet.f A.i_AlreadySet.fd ["self", "name"] (sp_i_AlreadySet K) := by
  refine T.F_i_AlreadySet.ok sc_i_AlreadySet (fun vs H Q E h => ?_) (fun cdv Ar outer s H vs Q E hr h => ?_)
  · obtain ⟨a, C, v_name, rfl, _⟩ := h; rfl
  · obtain ⟨a, C, v_name, rfl, ec, ha, s_name, k⟩ := h
    refine ⟨_, (pss_cons (ps_expr (pe_binit (by rfl) T.g_BridgeError T.r_BridgeError T.v_BridgeError (pa_cons (pv 0) (pa_cons (pe_joined (.cons pe_str (.cons (pe_fmtS (pv 1)) (.cons pe_str .nil)))) pa_nil))))
        (pss_one (ps_ost (pv 0) (pv 1)))), ?_⟩
    refine ⟨_, rfl, ?_⟩
    refine ⟨_, rfl, (by rw [strLen_append]; (have q0 : Str.length "the member " ≤ 100 := by decide +kernel); (have q0z : Str.length Str.empty = 0 := rfl); rw [sizeLine_eq]; omega), ?_⟩
    refine ⟨v_name, rfl, s_name, fun y0 hy0 => ⟨_, rfl, (by rw [strLen_append, strLen_append]; (have q0 : Str.length "the member " ≤ 100 := by decide +kernel); (have q0z : Str.length Str.empty = 0 := rfl); rw [sizeLine_eq]; omega), ?_⟩⟩
    refine ⟨_, rfl, (by rw [strLen_append, strLen_append, strLen_append]; (have q0 : Str.length "the member " ≤ 100 := by decide +kernel); (have q2 : Str.length " has been set before" ≤ 100 := by decide +kernel); (have q0z : Str.length Str.empty = 0 := rfl); rw [sizeLine_eq]; omega), ?_⟩
    refine ⟨a, C, _, rfl, (by show 1 ≤ 1000; decide), ec.ox, ha, ?_⟩
    have m0 := Made.start ha
    refine ⟨_, rfl, _, rfl, m0.put ec (by decide +kernel) (by show 0 ≤ 9; decide) fun H1 m1 => ?_⟩
    exact k _ m1

/-! def BadPlan.__init__ -/
def sp_i_BadPlan (K : PySem.W.Frag) : Sp := fun vs H Q _ => ∃ (a C : Addr) (v_part v_place : V), vs = [.ref a, v_part, v_place] ∧ EC K C ∧ H a = some (exo a C none) ∧ Sml v_part ∧ Sml v_place ∧ ∀ H', Made H a C [("place", v_place), ("part", v_part)] H' → Q .non H'
theorem ok_i_BadPlan (T : Txt K w mg A) : FnOk P w K mg base CX0 1 A.i_BadPlan.f A.i_BadPlan.fd ["self", "part", "place"] (sp_i_BadPlan K) := by
  refine T.F_i_BadPlan.ok sc_i_BadPlan (fun vs H Q E h => ?_) (fun cdv Ar outer s H vs Q E hr h => ?_)
  · obtain ⟨a, C, v_part, v_place, rfl, _⟩ := h; rfl
  · obtain ⟨a, C, v_part, v_place, rfl, ec, ha, s_part, s_place, k⟩ := h
    refine ⟨_, (pss_cons (ps_expr (pe_binit (by rfl) T.g_BridgeError T.r_BridgeError T.v_BridgeError (pa_cons (pv 0) (pa_cons (pe_joined (.cons pe_str (.cons (pe_fmtS (pv 2)) (.cons pe_str (.cons (pe_fmtS (pv 1)) (.cons pe_str .nil)))))) pa_nil))))
        (pss_cons (ps_ost (pv 0) (pv 1))
        (pss_one (ps_ost (pv 0) (pv 2))))), ?_⟩
    refine ⟨_, rfl, ?_⟩
    refine ⟨_, rfl, (by rw [strLen_append]; (have q0 : Str.length "the step " ≤ 100 := by decide +kernel); (have q0z : Str.length Str.empty = 0 := rfl); rw [sizeLine_eq]; omega), ?_⟩
    refine ⟨v_place, rfl, s_place, fun y0 hy0 => ⟨_, rfl, (by rw [strLen_append, strLen_append]; (have q0 : Str.length "the step " ≤ 100 := by decide +kernel); (have q0z : Str.length Str.empty = 0 := rfl); rw [sizeLine_eq]; omega), ?_⟩⟩
    refine ⟨_, rfl, (by rw [strLen_append, strLen_append, strLen_append]; (have q0 : Str.length "the step " ≤ 100 := by decide +kernel); (have q2 : Str.length " of " ≤ 100 := by decide +kernel); (have q0z : Str.length Str.empty = 0 := rfl); rw [sizeLine_eq]; omega), ?_⟩
    refine ⟨v_part, rfl, s_part, fun y1 hy1 => ⟨_, rfl, (by rw [strLen_append, strLen_append, strLen_append, strLen_append]; (have q0 : Str.length "the step " ≤ 100 := by decide +kernel); (have q2 : Str.length " of " ≤ 100 := by decide +kernel); (have q0z : Str.length Str.empty = 0 := rfl); rw [sizeLine_eq]; omega), ?_⟩⟩
    refine ⟨_, rfl, (by rw [strLen_append, strLen_append, strLen_append, strLen_append, strLen_append]; (have q0 : Str.length "the step " ≤ 100 := by decide +kernel); (have q2 : Str.length " of " ≤ 100 := by decide +kernel); (have q4 : Str.length " is bad" ≤ 100 := by decide +kernel); (have q0z : Str.length Str.empty = 0 := rfl); rw [sizeLine_eq]; omega), ?_⟩
    refine ⟨a, C, _, rfl, (by show 1 ≤ 1000; decide), ec.ox, ha, ?_⟩
    have m0 := Made.start ha
    refine ⟨_, rfl, _, rfl, m0.put ec (by decide +kernel) (by show 0 ≤ 9; decide) fun H1 m1 => ?_⟩
    refine ⟨_, rfl, _, rfl, m1.put ec (by decide +kernel) (by show 1 ≤ 9; decide) fun H2 m2 => ?_⟩
    exact k _ m2

/-! def TextError.__init__ -/
def sp_i_TextError (K : PySem.W.Frag) : Sp := fun vs H Q _ => ∃ (a C : Addr) (v_place : V), vs = [.ref a, v_place] ∧ EC K C ∧ H a = some (exo a C none) ∧ Sml v_place ∧ ∀ H', Made H a C [("place", v_place)] H' → Q .non H'
theorem ok_i_TextError (T : Txt K w mg A) : FnOk P w K mg base CX0 1 A.i_TextError.f A.i_TextError.fd ["self", "place"] (sp_i_TextError K) := by
  refine T.F_i_TextError.ok sc_i_TextError (fun vs H Q E h => ?_) (fun cdv Ar outer s H vs Q E hr h => ?_)
  · obtain ⟨a, C, v_place, rfl, _⟩ := h; rfl
  · obtain ⟨a, C, v_place, rfl, ec, ha, s_place, k⟩ := h
    refine ⟨_, (pss_cons (ps_expr (pe_binit (by rfl) T.g_BridgeError T.r_BridgeError T.v_BridgeError (pa_cons (pv 0) (pa_cons (pe_joined (.cons pe_str (.cons (pe_fmtS (pv 1)) (.cons pe_str .nil)))) pa_nil))))
        (pss_one (ps_ost (pv 0) (pv 1)))), ?_⟩
    refine ⟨_, rfl, ?_⟩
    refine ⟨_, rfl, (by rw [strLen_append]; (have q0 : Str.length "at offset " ≤ 100 := by decide +kernel); (have q0z : Str.length Str.empty = 0 := rfl); rw [sizeLine_eq]; omega), ?_⟩
    refine ⟨v_place, rfl, s_place, fun y0 hy0 => ⟨_, rfl, (by rw [strLen_append, strLen_append]; (have q0 : Str.length "at offset " ≤ 100 := by decide +kernel); (have q0z : Str.length Str.empty = 0 := rfl); rw [sizeLine_eq]; omega), ?_⟩⟩
    refine ⟨_, rfl, (by rw [strLen_append, strLen_append, strLen_append]; (have q0 : Str.length "at offset " ≤ 100 := by decide +kernel); (have q2 : Str.length " of the text" ≤ 100 := by decide +kernel); (have q0z : Str.length Str.empty = 0 := rfl); rw [sizeLine_eq]; omega), ?_⟩
    refine ⟨a, C, _, rfl, (by show 1 ≤ 1000; decide), ec.ox, ha, ?_⟩
    have m0 := Made.start ha
    refine ⟨_, rfl, _, rfl, m0.put ec (by decide +kernel) (by show 0 ≤ 9; decide) fun H1 m1 => ?_⟩
    exact k _ m1

/-! def BitsLeft.__init__ -/
def sp_i_BitsLeft (K : PySem.W.Frag) : Sp := fun vs H Q _ => ∃ (a C : Addr) (v_place v_bits : V), vs = [.ref a, v_place, v_bits] ∧ EC K C ∧ H a = some (exo a C none) ∧ Sml v_place ∧ Sml v_bits ∧ ∀ H', Made H a C [("bits", v_bits), ("place", v_place)] H' → Q .non H'
theorem ok_i_BitsLeft (T : Txt K w mg A) : FnOk P w K mg base CX0 2 A.i_BitsLeft.f A.i_BitsLeft.fd ["self", "place", "bits"] (sp_i_BitsLeft K) := by
  have G_i_TextError : FnOk P w K mg base CX0 1 A.i_TextError.f A.i_TextError.fd ["self", "place"] (sp_i_TextError K) := ok_i_TextError T
  refine T.F_i_BitsLeft.ok sc_i_BitsLeft (fun vs H Q E h => ?_) (fun cdv Ar outer s H vs Q E hr h => ?_)
  · obtain ⟨a, C, v_place, v_bits, rfl, _⟩ := h; rfl
  · obtain ⟨a, C, v_place, v_bits, rfl, ec, ha, s_place, s_bits, k⟩ := h
    refine ⟨_, (pss_cons (ps_expr (pe_tinit (by rfl) T.g_TextError T.r_TextError T.v_TextError T.F_i_TextError.kp G_i_TextError (hr.mono (by decide)) T.b_i_TextError (pa_cons (pv 0) (pa_cons (pv 1) pa_nil))))
        (pss_one (ps_ost (pv 0) (pv 2)))), ?_⟩
    refine ⟨_, rfl, _, rfl, a, C, _, rfl, ec, ha, s_place, fun H0 m0 => ?_⟩
    refine ⟨_, rfl, _, rfl, m0.put ec (by decide +kernel) (by show 1 ≤ 9; decide) fun H1 m1 => ?_⟩
    exact k _ m1

/-! def InvalidMember.__init__ -/
def sp_i_InvalidMember (K : PySem.W.Frag) : Sp := fun vs H Q _ => ∃ (a C : Addr) (v_path : V), vs = [.ref a, v_path] ∧ EC K C ∧ H a = some (exo a C none) ∧ Sml v_path ∧ ∀ H', Made H a C [("path", v_path)] H' → Q .non H'
theorem ok_i_InvalidMember (T : Txt K w mg A) : FnOk P w K mg base CX0 1 A.i_InvalidMember.f A.i_InvalidMember.fd ["self", "path"] (sp_i_InvalidMember K) := by
  refine T.F_i_InvalidMember.ok sc_i_InvalidMember (fun vs H Q E h => ?_) (fun cdv Ar outer s H vs Q E hr h => ?_)
  · obtain ⟨a, C, v_path, rfl, _⟩ := h; rfl
  · obtain ⟨a, C, v_path, rfl, ec, ha, s_path, k⟩ := h
    refine ⟨_, (pss_cons (ps_expr (pe_binit (by rfl) T.g_BridgeError T.r_BridgeError T.v_BridgeError (pa_cons (pv 0) (pa_cons (pe_joined (.cons pe_str (.cons (pe_fmtS (pv 1)) (.cons pe_str .nil)))) pa_nil))))
        (pss_one (ps_ost (pv 0) (pv 1)))), ?_⟩
    refine ⟨_, rfl, ?_⟩
    refine ⟨_, rfl, (by rw [strLen_append]; (have q0 : Str.length "the value of " ≤ 100 := by decide +kernel); (have q0z : Str.length Str.empty = 0 := rfl); rw [sizeLine_eq]; omega), ?_⟩
    refine ⟨v_path, rfl, s_path, fun y0 hy0 => ⟨_, rfl, (by rw [strLen_append, strLen_append]; (have q0 : Str.length "the value of " ≤ 100 := by decide +kernel); (have q0z : Str.length Str.empty = 0 := rfl); rw [sizeLine_eq]; omega), ?_⟩⟩
    refine ⟨_, rfl, (by rw [strLen_append, strLen_append, strLen_append]; (have q0 : Str.length "the value of " ≤ 100 := by decide +kernel); (have q2 : Str.length " is not allowed" ≤ 100 := by decide +kernel); (have q0z : Str.length Str.empty = 0 := rfl); rw [sizeLine_eq]; omega), ?_⟩
    refine ⟨a, C, _, rfl, (by show 1 ≤ 1000; decide), ec.ox, ha, ?_⟩
    have m0 := Made.start ha
    refine ⟨_, rfl, _, rfl, m0.put ec (by decide +kernel) (by show 0 ≤ 9; decide) fun H1 m1 => ?_⟩
    exact k _ m1

/-! def KindsDiffer.__init__ -/
def sp_i_KindsDiffer (K : PySem.W.Frag) : Sp := fun vs H Q _ => ∃ (a C : Addr) (v_path : V), vs = [.ref a, v_path] ∧ EC K C ∧ H a = some (exo a C none) ∧ Sml v_path ∧ ∀ H', Made H a C [("path", v_path)] H' → Q .non H'
theorem ok_i_KindsDiffer (T : Txt K w mg A) : FnOk P w K mg base CX0 1 A.i_KindsDiffer.f A.i_KindsDiffer.fd ["self", "path"] (sp_i_KindsDiffer K) := by
  refine T.F_i_KindsDiffer.ok sc_i_KindsDiffer (fun vs H Q E h => ?_) (fun cdv Ar outer s H vs Q E hr h => ?_)
  · obtain ⟨a, C, v_path, rfl, _⟩ := h; rfl
  · obtain ⟨a, C, v_path, rfl, ec, ha, s_path, k⟩ := h
    refine ⟨_, (pss_cons (ps_expr (pe_binit (by rfl) T.g_BridgeError T.r_BridgeError T.v_BridgeError (pa_cons (pv 0) (pa_cons (pe_joined (.cons pe_str (.cons (pe_fmtS (pv 1)) (.cons pe_str .nil)))) pa_nil))))
        (pss_one (ps_ost (pv 0) (pv 1)))), ?_⟩
    refine ⟨_, rfl, ?_⟩
    refine ⟨_, rfl, (by rw [strLen_append]; (have q0 : Str.length "the two members " ≤ 100 := by decide +kernel); (have q0z : Str.length Str.empty = 0 := rfl); rw [sizeLine_eq]; omega), ?_⟩
    refine ⟨v_path, rfl, s_path, fun y0 hy0 => ⟨_, rfl, (by rw [strLen_append, strLen_append]; (have q0 : Str.length "the two members " ≤ 100 := by decide +kernel); (have q0z : Str.length Str.empty = 0 := rfl); rw [sizeLine_eq]; omega), ?_⟩⟩
    refine ⟨_, rfl, (by rw [strLen_append, strLen_append, strLen_append]; (have q0 : Str.length "the two members " ≤ 100 := by decide +kernel); (have q2 : Str.length " do not go together" ≤ 100 := by decide +kernel); (have q0z : Str.length Str.empty = 0 := rfl); rw [sizeLine_eq]; omega), ?_⟩
    refine ⟨a, C, _, rfl, (by show 1 ≤ 1000; decide), ec.ox, ha, ?_⟩
    have m0 := Made.start ha
    refine ⟨_, rfl, _, rfl, m0.put ec (by decide +kernel) (by show 0 ≤ 9; decide) fun H1 m1 => ?_⟩
    exact k _ m1

/-! def MessageTooLong.__init__ -/
def sp_i_MessageTooLong (K : PySem.W.Frag) : Sp := fun vs H Q _ => ∃ (a C : Addr) (v_size : V), vs = [.ref a, v_size] ∧ EC K C ∧ H a = some (exo a C none) ∧ Sml v_size ∧ ∀ H', Made H a C [("size", v_size)] H' → Q .non H'
theorem ok_i_MessageTooLong (T : Txt K w mg A) : FnOk P w K mg base CX0 1 A.i_MessageTooLong.f A.i_MessageTooLong.fd ["self", "size"] (sp_i_MessageTooLong K) := by
  refine T.F_i_MessageTooLong.ok sc_i_MessageTooLong (fun vs H Q E h => ?_) (fun cdv Ar outer s H vs Q E hr h => ?_)
  · obtain ⟨a, C, v_size, rfl, _⟩ := h; rfl
  · obtain ⟨a, C, v_size, rfl, ec, ha, s_size, k⟩ := h
    refine ⟨_, (pss_cons (ps_expr (pe_binit (by rfl) T.g_BridgeError T.r_BridgeError T.v_BridgeError (pa_cons (pv 0) (pa_cons (pe_joined (.cons pe_str (.cons (pe_fmtS (pv 1)) (.cons pe_str .nil)))) pa_nil))))
        (pss_one (ps_ost (pv 0) (pv 1)))), ?_⟩
    refine ⟨_, rfl, ?_⟩
    refine ⟨_, rfl, (by rw [strLen_append]; (have q0 : Str.length "the longest message has " ≤ 100 := by decide +kernel); (have q0z : Str.length Str.empty = 0 := rfl); rw [sizeLine_eq]; omega), ?_⟩
    refine ⟨v_size, rfl, s_size, fun y0 hy0 => ⟨_, rfl, (by rw [strLen_append, strLen_append]; (have q0 : Str.length "the longest message has " ≤ 100 := by decide +kernel); (have q0z : Str.length Str.empty = 0 := rfl); rw [sizeLine_eq]; omega), ?_⟩⟩
    refine ⟨_, rfl, (by rw [strLen_append, strLen_append, strLen_append]; (have q0 : Str.length "the longest message has " ≤ 100 := by decide +kernel); (have q2 : Str.length " bytes" ≤ 100 := by decide +kernel); (have q0z : Str.length Str.empty = 0 := rfl); rw [sizeLine_eq]; omega), ?_⟩
    refine ⟨a, C, _, rfl, (by show 1 ≤ 1000; decide), ec.ox, ha, ?_⟩
    have m0 := Made.start ha
    refine ⟨_, rfl, _, rfl, m0.put ec (by decide +kernel) (by show 0 ≤ 9; decide) fun H1 m1 => ?_⟩
    exact k _ m1

/-! def MissingDefault.__init__ -/
def sp_i_MissingDefault (K : PySem.W.Frag) : Sp := fun vs H Q _ => ∃ (a C : Addr) (v_path : V), vs = [.ref a, v_path] ∧ EC K C ∧ H a = some (exo a C none) ∧ Sml v_path ∧ ∀ H', Made H a C [("path", v_path)] H' → Q .non H'
theorem ok_i_MissingDefault (T : Txt K w mg A) : FnOk P w K mg base CX0 1 A.i_MissingDefault.f A.i_MissingDefault.fd ["self", "path"] (sp_i_MissingDefault K) := by
  refine T.F_i_MissingDefault.ok sc_i_MissingDefault (fun vs H Q E h => ?_) (fun cdv Ar outer s H vs Q E hr h => ?_)
  · obtain ⟨a, C, v_path, rfl, _⟩ := h; rfl
  · obtain ⟨a, C, v_path, rfl, ec, ha, s_path, k⟩ := h
    refine ⟨_, (pss_cons (ps_expr (pe_binit (by rfl) T.g_BridgeError T.r_BridgeError T.v_BridgeError (pa_cons (pv 0) (pa_cons (pe_joined (.cons pe_str (.cons (pe_fmtS (pv 1)) (.cons pe_str .nil)))) pa_nil))))
        (pss_one (ps_ost (pv 0) (pv 1)))), ?_⟩
    refine ⟨_, rfl, ?_⟩
    refine ⟨_, rfl, (by rw [strLen_append]; (have q0 : Str.length "the member " ≤ 100 := by decide +kernel); (have q0z : Str.length Str.empty = 0 := rfl); rw [sizeLine_eq]; omega), ?_⟩
    refine ⟨v_path, rfl, s_path, fun y0 hy0 => ⟨_, rfl, (by rw [strLen_append, strLen_append]; (have q0 : Str.length "the member " ≤ 100 := by decide +kernel); (have q0z : Str.length Str.empty = 0 := rfl); rw [sizeLine_eq]; omega), ?_⟩⟩
    refine ⟨_, rfl, (by rw [strLen_append, strLen_append, strLen_append]; (have q0 : Str.length "the member " ≤ 100 := by decide +kernel); (have q2 : Str.length " has no default value" ≤ 100 := by decide +kernel); (have q0z : Str.length Str.empty = 0 := rfl); rw [sizeLine_eq]; omega), ?_⟩
    refine ⟨a, C, _, rfl, (by show 1 ≤ 1000; decide), ec.ox, ha, ?_⟩
    have m0 := Made.start ha
    refine ⟨_, rfl, _, rfl, m0.put ec (by decide +kernel) (by show 0 ≤ 9; decide) fun H1 m1 => ?_⟩
    exact k _ m1

/-! def NotConvertible.__init__ -/
def sp_i_NotConvertible (K : PySem.W.Frag) : Sp := fun vs H Q _ => ∃ (a C : Addr), vs = [.ref a] ∧ EC K C ∧ H a = some (exo a C none) ∧ ∀ H', Made H a C [] H' → Q .non H'
theorem ok_i_NotConvertible (T : Txt K w mg A) : FnOk P w K mg base CX0 1 A.i_NotConvertible.f A.i_NotConvertible.fd ["self"] (sp_i_NotConvertible K) := by
  refine T.F_i_NotConvertible.ok sc_i_NotConvertible (fun vs H Q E h => ?_) (fun cdv Ar outer s H vs Q E hr h => ?_)
  · obtain ⟨a, C, rfl, _⟩ := h; rfl
  · obtain ⟨a, C, rfl, ec, ha, k⟩ := h
    refine ⟨_, (pss_one (ps_expr (pe_binit (by rfl) T.g_BridgeError T.r_BridgeError T.v_BridgeError (pa_cons (pv 0) (pa_cons pe_str pa_nil))))), ?_⟩
    refine ⟨_, rfl, ?_⟩
    refine ⟨a, C, _, rfl, (by show 1 ≤ 1000; decide), ec.ox, ha, ?_⟩
    have m0 := Made.start ha
    exact k _ m0

/-! def NothingConvertible.__init__ -/
def sp_i_NothingConvertible (K : PySem.W.Frag) : Sp := fun vs H Q _ => ∃ (a C : Addr), vs = [.ref a] ∧ EC K C ∧ H a = some (exo a C none) ∧ ∀ H', Made H a C [] H' → Q .non H'
theorem ok_i_NothingConvertible (T : Txt K w mg A) : FnOk P w K mg base CX0 1 A.i_NothingConvertible.f A.i_NothingConvertible.fd ["self"] (sp_i_NothingConvertible K) := by
  refine T.F_i_NothingConvertible.ok sc_i_NothingConvertible (fun vs H Q E h => ?_) (fun cdv Ar outer s H vs Q E hr h => ?_)
  · obtain ⟨a, C, rfl, _⟩ := h; rfl
  · obtain ⟨a, C, rfl, ec, ha, k⟩ := h
    refine ⟨_, (pss_one (ps_expr (pe_binit (by rfl) T.g_BridgeError T.r_BridgeError T.v_BridgeError (pa_cons (pv 0) (pa_cons pe_str pa_nil))))), ?_⟩
    refine ⟨_, rfl, ?_⟩
    refine ⟨a, C, _, rfl, (by show 1 ≤ 1000; decide), ec.ox, ha, ?_⟩
    have m0 := Made.start ha
    exact k _ m0

/-! def NumberExpected.__init__ -/
def sp_i_NumberExpected (K : PySem.W.Frag) : Sp := fun vs H Q _ => ∃ (a C : Addr) (v_place v_least v_greatest : V), vs = [.ref a, v_place, v_least, v_greatest] ∧ EC K C ∧ H a = some (exo a C none) ∧ Sml v_place ∧ Sml v_least ∧ Sml v_greatest ∧ ∀ H', Made H a C [("greatest", v_greatest), ("least", v_least), ("place", v_place)] H' → Q .non H'
theorem ok_i_NumberExpected (T : Txt K w mg A) : FnOk P w K mg base CX0 2 A.i_NumberExpected.f A.i_NumberExpected.fd ["self", "place", "least", "greatest"] (sp_i_NumberExpected K) := by
  have G_i_TextError : FnOk P w K mg base CX0 1 A.i_TextError.f A.i_TextError.fd ["self", "place"] (sp_i_TextError K) := ok_i_TextError T
  refine T.F_i_NumberExpected.ok sc_i_NumberExpected (fun vs H Q E h => ?_) (fun cdv Ar outer s H vs Q E hr h => ?_)
  · obtain ⟨a, C, v_place, v_least, v_greatest, rfl, _⟩ := h; rfl
  · obtain ⟨a, C, v_place, v_least, v_greatest, rfl, ec, ha, s_place, s_least, s_greatest, k⟩ := h
    refine ⟨_, (pss_cons (ps_expr (pe_tinit (by rfl) T.g_TextError T.r_TextError T.v_TextError T.F_i_TextError.kp G_i_TextError (hr.mono (by decide)) T.b_i_TextError (pa_cons (pv 0) (pa_cons (pv 1) pa_nil))))
        (pss_cons (ps_ost (pv 0) (pv 2))
        (pss_one (ps_ost (pv 0) (pv 3))))), ?_⟩
    refine ⟨_, rfl, _, rfl, a, C, _, rfl, ec, ha, s_place, fun H0 m0 => ?_⟩
    refine ⟨_, rfl, _, rfl, m0.put ec (by decide +kernel) (by show 1 ≤ 9; decide) fun H1 m1 => ?_⟩
    refine ⟨_, rfl, _, rfl, m1.put ec (by decide +kernel) (by show 2 ≤ 9; decide) fun H2 m2 => ?_⟩
    exact k _ m2

/-! def SymbolExpected.__init__ -/
def sp_i_SymbolExpected (K : PySem.W.Frag) : Sp := fun vs H Q _ => ∃ (a C : Addr) (v_place v_symbol : V), vs = [.ref a, v_place, v_symbol] ∧ EC K C ∧ H a = some (exo a C none) ∧ Sml v_place ∧ Sml v_symbol ∧ ∀ H', Made H a C [("symbol", v_symbol), ("place", v_place)] H' → Q .non H'
theorem ok_i_SymbolExpected (T : Txt K w mg A) : FnOk P w K mg base CX0 2 A.i_SymbolExpected.f A.i_SymbolExpected.fd ["self", "place", "symbol"] (sp_i_SymbolExpected K) := by
  have G_i_TextError : FnOk P w K mg base CX0 1 A.i_TextError.f A.i_TextError.fd ["self", "place"] (sp_i_TextError K) := ok_i_TextError T
  refine T.F_i_SymbolExpected.ok sc_i_SymbolExpected (fun vs H Q E h => ?_) (fun cdv Ar outer s H vs Q E hr h => ?_)
  · obtain ⟨a, C, v_place, v_symbol, rfl, _⟩ := h; rfl
  · obtain ⟨a, C, v_place, v_symbol, rfl, ec, ha, s_place, s_symbol, k⟩ := h
    refine ⟨_, (pss_cons (ps_expr (pe_tinit (by rfl) T.g_TextError T.r_TextError T.v_TextError T.F_i_TextError.kp G_i_TextError (hr.mono (by decide)) T.b_i_TextError (pa_cons (pv 0) (pa_cons (pv 1) pa_nil))))
        (pss_one (ps_ost (pv 0) (pv 2)))), ?_⟩
    refine ⟨_, rfl, _, rfl, a, C, _, rfl, ec, ha, s_place, fun H0 m0 => ?_⟩
    refine ⟨_, rfl, _, rfl, m0.put ec (by decide +kernel) (by show 1 ≤ 9; decide) fun H1 m1 => ?_⟩
    exact k _ m1

/-! def UnexpectedByte.__init__ -/
def sp_i_UnexpectedByte (K : PySem.W.Frag) : Sp := fun vs H Q _ => ∃ (a C : Addr) (v_place : V), vs = [.ref a, v_place] ∧ EC K C ∧ H a = some (exo a C none) ∧ Sml v_place ∧ ∀ H', Made H a C [("place", v_place)] H' → Q .non H'
theorem ok_i_UnexpectedByte (T : Txt K w mg A) : FnOk P w K mg base CX0 1 A.i_UnexpectedByte.f A.i_UnexpectedByte.fd ["self", "place"] (sp_i_UnexpectedByte K) := by
  refine T.F_i_UnexpectedByte.ok sc_i_UnexpectedByte (fun vs H Q E h => ?_) (fun cdv Ar outer s H vs Q E hr h => ?_)
  · obtain ⟨a, C, v_place, rfl, _⟩ := h; rfl
  · obtain ⟨a, C, v_place, rfl, ec, ha, s_place, k⟩ := h
    refine ⟨_, (pss_cons (ps_expr (pe_binit (by rfl) T.g_BridgeError T.r_BridgeError T.v_BridgeError (pa_cons (pv 0) (pa_cons (pe_joined (.cons pe_str (.cons (pe_fmtS (pv 1)) (.cons pe_str .nil)))) pa_nil))))
        (pss_one (ps_ost (pv 0) (pv 1)))), ?_⟩
    refine ⟨_, rfl, ?_⟩
    refine ⟨_, rfl, (by rw [strLen_append]; (have q0 : Str.length "the byte at offset " ≤ 100 := by decide +kernel); (have q0z : Str.length Str.empty = 0 := rfl); rw [sizeLine_eq]; omega), ?_⟩
    refine ⟨v_place, rfl, s_place, fun y0 hy0 => ⟨_, rfl, (by rw [strLen_append, strLen_append]; (have q0 : Str.length "the byte at offset " ≤ 100 := by decide +kernel); (have q0z : Str.length Str.empty = 0 := rfl); rw [sizeLine_eq]; omega), ?_⟩⟩
    refine ⟨_, rfl, (by rw [strLen_append, strLen_append, strLen_append]; (have q0 : Str.length "the byte at offset " ≤ 100 := by decide +kernel); (have q2 : Str.length " is unexpected" ≤ 100 := by decide +kernel); (have q0z : Str.length Str.empty = 0 := rfl); rw [sizeLine_eq]; omega), ?_⟩
    refine ⟨a, C, _, rfl, (by show 1 ≤ 1000; decide), ec.ox, ha, ?_⟩
    have m0 := Made.start ha
    refine ⟨_, rfl, _, rfl, m0.put ec (by decide +kernel) (by show 0 ≤ 9; decide) fun H1 m1 => ?_⟩
    exact k _ m1

/-! def UnexpectedEnd.__init__ -/
def sp_i_UnexpectedEnd (K : PySem.W.Frag) : Sp := fun vs H Q _ => ∃ (a C : Addr), vs = [.ref a] ∧ EC K C ∧ H a = some (exo a C none) ∧ ∀ H', Made H a C [] H' → Q .non H'
theorem ok_i_UnexpectedEnd (T : Txt K w mg A) : FnOk P w K mg base CX0 1 A.i_UnexpectedEnd.f A.i_UnexpectedEnd.fd ["self"] (sp_i_UnexpectedEnd K) := by
  refine T.F_i_UnexpectedEnd.ok sc_i_UnexpectedEnd (fun vs H Q E h => ?_) (fun cdv Ar outer s H vs Q E hr h => ?_)
  · obtain ⟨a, C, rfl, _⟩ := h; rfl
  · obtain ⟨a, C, rfl, ec, ha, k⟩ := h
    refine ⟨_, (pss_one (ps_expr (pe_binit (by rfl) T.g_BridgeError T.r_BridgeError T.v_BridgeError (pa_cons (pv 0) (pa_cons pe_str pa_nil))))), ?_⟩
    refine ⟨_, rfl, ?_⟩
    refine ⟨a, C, _, rfl, (by show 1 ≤ 1000; decide), ec.ox, ha, ?_⟩
    have m0 := Made.start ha
    exact k _ m0

/-! def UnknownField.__init__ -/
def sp_i_UnknownField (K : PySem.W.Frag) : Sp := fun vs H Q _ => ∃ (a C : Addr) (v_path : V), vs = [.ref a, v_path] ∧ EC K C ∧ H a = some (exo a C none) ∧ Sml v_path ∧ ∀ H', Made H a C [("path", v_path)] H' → Q .non H'
theorem ok_i_UnknownField (T : Txt K w mg A) : FnOk P w K mg base CX0 1 A.i_UnknownField.f A.i_UnknownField.fd ["self", "path"] (sp_i_UnknownField K) := by
  refine T.F_i_UnknownField.ok sc_i_UnknownField (fun vs H Q E h => ?_) (fun cdv Ar outer s H vs Q E hr h => ?_)
  · obtain ⟨a, C, v_path, rfl, _⟩ := h; rfl
  · obtain ⟨a, C, v_path, rfl, ec, ha, s_path, k⟩ := h
    refine ⟨_, (pss_cons (ps_expr (pe_binit (by rfl) T.g_BridgeError T.r_BridgeError T.v_BridgeError (pa_cons (pv 0) (pa_cons (pe_joined (.cons pe_str (.cons (pe_fmtS (pv 1)) .nil))) pa_nil))))
        (pss_one (ps_ost (pv 0) (pv 1)))), ?_⟩
    refine ⟨_, rfl, ?_⟩
    refine ⟨_, rfl, (by rw [strLen_append]; (have q0 : Str.length "the view has no field " ≤ 100 := by decide +kernel); (have q0z : Str.length Str.empty = 0 := rfl); rw [sizeLine_eq]; omega), ?_⟩
    refine ⟨v_path, rfl, s_path, fun y0 hy0 => ⟨_, rfl, (by rw [strLen_append, strLen_append]; (have q0 : Str.length "the view has no field " ≤ 100 := by decide +kernel); (have q0z : Str.length Str.empty = 0 := rfl); rw [sizeLine_eq]; omega), ?_⟩⟩
    refine ⟨a, C, _, rfl, (by show 1 ≤ 1000; decide), ec.ox, ha, ?_⟩
    have m0 := Made.start ha
    refine ⟨_, rfl, _, rfl, m0.put ec (by decide +kernel) (by show 0 ≤ 9; decide) fun H1 m1 => ?_⟩
    exact k _ m1

/-! def UnknownMember.__init__ -/
def sp_i_UnknownMember (K : PySem.W.Frag) : Sp := fun vs H Q _ => ∃ (a C : Addr) (v_name : V), vs = [.ref a, v_name] ∧ EC K C ∧ H a = some (exo a C none) ∧ Sml v_name ∧ ∀ H', Made H a C [("name", v_name)] H' → Q .non H'
theorem ok_i_UnknownMember (T : Txt K w mg A) : FnOk P w K mg base CX0 1 A.i_UnknownMember.f A.i_UnknownMember.fd ["self", "name"] (sp_i_UnknownMember K) := by
  refine T.F_i_UnknownMember.ok sc_i_UnknownMember (fun vs H Q E h => ?_) (fun cdv Ar outer s H vs Q E hr h => ?_)
  · obtain ⟨a, C, v_name, rfl, _⟩ := h; rfl
  · obtain ⟨a, C, v_name, rfl, ec, ha, s_name, k⟩ := h
    refine ⟨_, (pss_cons (ps_expr (pe_binit (by rfl) T.g_BridgeError T.r_BridgeError T.v_BridgeError (pa_cons (pv 0) (pa_cons (pe_joined (.cons pe_str (.cons (pe_fmtS (pv 1)) .nil))) pa_nil))))
        (pss_one (ps_ost (pv 0) (pv 1)))), ?_⟩
    refine ⟨_, rfl, ?_⟩
    refine ⟨_, rfl, (by rw [strLen_append]; (have q0 : Str.length "the layout has no member " ≤ 100 := by decide +kernel); (have q0z : Str.length Str.empty = 0 := rfl); rw [sizeLine_eq]; omega), ?_⟩
    refine ⟨v_name, rfl, s_name, fun y0 hy0 => ⟨_, rfl, (by rw [strLen_append, strLen_append]; (have q0 : Str.length "the layout has no member " ≤ 100 := by decide +kernel); (have q0z : Str.length Str.empty = 0 := rfl); rw [sizeLine_eq]; omega), ?_⟩⟩
    refine ⟨a, C, _, rfl, (by show 1 ≤ 1000; decide), ec.ox, ha, ?_⟩
    have m0 := Made.start ha
    refine ⟨_, rfl, _, rfl, m0.put ec (by decide +kernel) (by show 0 ≤ 9; decide) fun H1 m1 => ?_⟩
    exact k _ m1

/-! def _law_made -/
def sp_l_made (K : PySem.W.Frag) : Sp := fun vs H Q _ => ∃ (w a l h : V), vs = [w, a, l, h] ∧ Sml w ∧ Sml a ∧ Sml l ∧ Sml h ∧ ∀ (H' : Hp) (p : Addr) (xs : List V), H' p = some (.lst xs) → xs.length = 31 → ErrL (errCls K) H' w a l h 0 xs → Same H H' → Q (.ref p) H'
theorem ok_l_made (T : Txt K w mg A) : FnOk P w K mg base CX0 4 A.l_made.f A.l_made.fd ["word", "at", "low", "high"] (sp_l_made K) := by
  have G_i_AlreadySet : FnOk P w K mg base CX0 1 A.i_AlreadySet.f A.i_AlreadySet.fd ["self", "name"] (sp_i_AlreadySet K) := ok_i_AlreadySet T
  have G_i_BadPlan : FnOk P w K mg base CX0 1 A.i_BadPlan.f A.i_BadPlan.fd ["self", "part", "place"] (sp_i_BadPlan K) := ok_i_BadPlan T
  have G_i_BitsLeft : FnOk P w K mg base CX0 2 A.i_BitsLeft.f A.i_BitsLeft.fd ["self", "place", "bits"] (sp_i_BitsLeft K) := ok_i_BitsLeft T
  have G_i_InvalidMember : FnOk P w K mg base CX0 1 A.i_InvalidMember.f A.i_InvalidMember.fd ["self", "path"] (sp_i_InvalidMember K) := ok_i_InvalidMember T
  have G_i_KindsDiffer : FnOk P w K mg base CX0 1 A.i_KindsDiffer.f A.i_KindsDiffer.fd ["self", "path"] (sp_i_KindsDiffer K) := ok_i_KindsDiffer T
  have G_i_MessageTooLong : FnOk P w K mg base CX0 1 A.i_MessageTooLong.f A.i_MessageTooLong.fd ["self", "size"] (sp_i_MessageTooLong K) := ok_i_MessageTooLong T
  have G_i_MissingDefault : FnOk P w K mg base CX0 1 A.i_MissingDefault.f A.i_MissingDefault.fd ["self", "path"] (sp_i_MissingDefault K) := ok_i_MissingDefault T
  have G_i_NotConvertible : FnOk P w K mg base CX0 1 A.i_NotConvertible.f A.i_NotConvertible.fd ["self"] (sp_i_NotConvertible K) := ok_i_NotConvertible T
  have G_i_NothingConvertible : FnOk P w K mg base CX0 1 A.i_NothingConvertible.f A.i_NothingConvertible.fd ["self"] (sp_i_NothingConvertible K) := ok_i_NothingConvertible T
  have G_i_NumberExpected : FnOk P w K mg base CX0 2 A.i_NumberExpected.f A.i_NumberExpected.fd ["self", "place", "least", "greatest"] (sp_i_NumberExpected K) := ok_i_NumberExpected T
  have G_i_SymbolExpected : FnOk P w K mg base CX0 2 A.i_SymbolExpected.f A.i_SymbolExpected.fd ["self", "place", "symbol"] (sp_i_SymbolExpected K) := ok_i_SymbolExpected T
  have G_i_TextError : FnOk P w K mg base CX0 1 A.i_TextError.f A.i_TextError.fd ["self", "place"] (sp_i_TextError K) := ok_i_TextError T
  have G_i_UnexpectedByte : FnOk P w K mg base CX0 1 A.i_UnexpectedByte.f A.i_UnexpectedByte.fd ["self", "place"] (sp_i_UnexpectedByte K) := ok_i_UnexpectedByte T
  have G_i_UnexpectedEnd : FnOk P w K mg base CX0 1 A.i_UnexpectedEnd.f A.i_UnexpectedEnd.fd ["self"] (sp_i_UnexpectedEnd K) := ok_i_UnexpectedEnd T
  have G_i_UnknownField : FnOk P w K mg base CX0 1 A.i_UnknownField.f A.i_UnknownField.fd ["self", "path"] (sp_i_UnknownField K) := ok_i_UnknownField T
  have G_i_UnknownMember : FnOk P w K mg base CX0 1 A.i_UnknownMember.f A.i_UnknownMember.fd ["self", "name"] (sp_i_UnknownMember K) := ok_i_UnknownMember T
  refine T.F_l_made.ok sc_l_made (fun vs H Q E h => ?_) (fun cdv Ar outer s H vs Q E hr h => ?_)
  · obtain ⟨w, a, l, h, rfl, _⟩ := h; rfl
  · obtain ⟨w, a, l, h, rfl, sw, sa, sl, sh, q⟩ := h
    refine ⟨_, (C8.pss_cut (ps_set (i := 4) sc_l_made.nd rfl (.inl rfl) (pe_lst (pa_cons (pe_mkB T.x_BridgeError T.e_BridgeError.ox.kC (by rfl) T.g_BridgeError) (pa_cons (pe_mk T.e_InvalidMember.ox T.iC_InvalidMember T.t_i_InvalidMember G_i_InvalidMember (hr.mono (by decide)) T.b_i_InvalidMember (by rfl) T.g_InvalidMember (pa_cons (pv 0) pa_nil)) (pa_cons (pe_mk T.e_UnexpectedByte.ox T.iC_UnexpectedByte T.t_i_UnexpectedByte G_i_UnexpectedByte (hr.mono (by decide)) T.b_i_UnexpectedByte (by rfl) T.g_UnexpectedByte (pa_cons (pv 1) pa_nil)) (pa_cons (pe_mk0 T.e_UnexpectedEnd.ox T.iC_UnexpectedEnd T.t_i_UnexpectedEnd G_i_UnexpectedEnd (hr.mono (by decide)) T.b_i_UnexpectedEnd (by rfl) T.g_UnexpectedEnd) (pa_cons (pe_mk T.e_UnknownMember.ox T.iC_UnknownMember T.t_i_UnknownMember G_i_UnknownMember (hr.mono (by decide)) T.b_i_UnknownMember (by rfl) T.g_UnknownMember (pa_cons (pv 0) pa_nil)) (pa_cons (pe_mk T.e_AlreadySet.ox T.iC_AlreadySet T.t_i_AlreadySet G_i_AlreadySet (hr.mono (by decide)) T.b_i_AlreadySet (by rfl) T.g_AlreadySet (pa_cons (pv 0) pa_nil)) pa_nil))))))))
        (C8.pss_cut (ps_set (i := 4) sc_l_made.nd rfl (.inl rfl) (pe_op op_cat (pv 4) (pe_lst (pa_cons (pe_mk T.e_KindsDiffer.ox T.iC_KindsDiffer T.t_i_KindsDiffer G_i_KindsDiffer (hr.mono (by decide)) T.b_i_KindsDiffer (by rfl) T.g_KindsDiffer (pa_cons (pv 0) pa_nil)) (pa_cons (pe_mk T.e_MissingDefault.ox T.iC_MissingDefault T.t_i_MissingDefault G_i_MissingDefault (hr.mono (by decide)) T.b_i_MissingDefault (by rfl) T.g_MissingDefault (pa_cons (pv 0) pa_nil)) (pa_cons (pe_mk0 T.e_NothingConvertible.ox T.iC_NothingConvertible T.t_i_NothingConvertible G_i_NothingConvertible (hr.mono (by decide)) T.b_i_NothingConvertible (by rfl) T.g_NothingConvertible) (pa_cons (pe_mk0 T.e_NotConvertible.ox T.iC_NotConvertible T.t_i_NotConvertible G_i_NotConvertible (hr.mono (by decide)) T.b_i_NotConvertible (by rfl) T.g_NotConvertible) (pa_cons (pe_mk T.e_UnknownField.ox T.iC_UnknownField T.t_i_UnknownField G_i_UnknownField (hr.mono (by decide)) T.b_i_UnknownField (by rfl) T.g_UnknownField (pa_cons (pv 0) pa_nil)) pa_nil))))))))
        (C8.pss_cut (ps_set (i := 4) sc_l_made.nd rfl (.inl rfl) (pe_op op_cat (pv 4) (pe_lst (pa_cons (pe_mk T.e_BadPlan.ox T.iC_BadPlan T.t_i_BadPlan G_i_BadPlan (hr.mono (by decide)) T.b_i_BadPlan (by rfl) T.g_BadPlan (pa_cons (pv 0) (pa_cons (pv 1) pa_nil))) (pa_cons (pe_mk T.e_MessageTooLong.ox T.iC_MessageTooLong T.t_i_MessageTooLong G_i_MessageTooLong (hr.mono (by decide)) T.b_i_MessageTooLong (by rfl) T.g_MessageTooLong (pa_cons (pv 1) pa_nil)) (pa_cons (pe_mk T.e_TextError.ox T.iC_TextError T.t_i_TextError G_i_TextError (hr.mono (by decide)) T.b_i_TextError (by rfl) T.g_TextError (pa_cons (pv 1) pa_nil)) (pa_cons (pe_mk T.e_WordTooLong.ox T.iC_WordTooLong T.t_i_TextError G_i_TextError (hr.mono (by decide)) T.b_i_TextError (by rfl) T.g_WordTooLong (pa_cons (pv 1) pa_nil)) (pa_cons (pe_mk T.e_InvalidNumber.ox T.iC_InvalidNumber T.t_i_TextError G_i_TextError (hr.mono (by decide)) T.b_i_TextError (by rfl) T.g_InvalidNumber (pa_cons (pv 1) pa_nil)) (pa_cons (pe_mk T.e_UnexpectedCharacter.ox T.iC_UnexpectedCharacter T.t_i_TextError G_i_TextError (hr.mono (by decide)) T.b_i_TextError (by rfl) T.g_UnexpectedCharacter (pa_cons (pv 1) pa_nil)) pa_nil)))))))))
        (C8.pss_cut (ps_set (i := 4) sc_l_made.nd rfl (.inl rfl) (pe_op op_cat (pv 4) (pe_lst (pa_cons (pe_mk T.e_ItemExpected.ox T.iC_ItemExpected T.t_i_TextError G_i_TextError (hr.mono (by decide)) T.b_i_TextError (by rfl) T.g_ItemExpected (pa_cons (pv 1) pa_nil)) (pa_cons (pe_mk T.e_NameExpected.ox T.iC_NameExpected T.t_i_TextError G_i_TextError (hr.mono (by decide)) T.b_i_TextError (by rfl) T.g_NameExpected (pa_cons (pv 1) pa_nil)) (pa_cons (pe_mk T.e_DuplicateName.ox T.iC_DuplicateName T.t_i_TextError G_i_TextError (hr.mono (by decide)) T.b_i_TextError (by rfl) T.g_DuplicateName (pa_cons (pv 1) pa_nil)) (pa_cons (pe_mk T.e_WordExpected.ox T.iC_WordExpected T.t_i_TextError G_i_TextError (hr.mono (by decide)) T.b_i_TextError (by rfl) T.g_WordExpected (pa_cons (pv 1) pa_nil)) (pa_cons (pe_mk T.e_CountExpected.ox T.iC_CountExpected T.t_i_TextError G_i_TextError (hr.mono (by decide)) T.b_i_TextError (by rfl) T.g_CountExpected (pa_cons (pv 1) pa_nil)) (pa_cons (pe_mk T.e_DuplicateNumber.ox T.iC_DuplicateNumber T.t_i_TextError G_i_TextError (hr.mono (by decide)) T.b_i_TextError (by rfl) T.g_DuplicateNumber (pa_cons (pv 1) pa_nil)) pa_nil)))))))))
        (C8.pss_cut (ps_set (i := 4) sc_l_made.nd rfl (.inl rfl) (pe_op op_cat (pv 4) (pe_lst (pa_cons (pe_mk T.e_RangesNotAllowed.ox T.iC_RangesNotAllowed T.t_i_TextError G_i_TextError (hr.mono (by decide)) T.b_i_TextError (by rfl) T.g_RangesNotAllowed (pa_cons (pv 1) pa_nil)) (pa_cons (pe_mk T.e_DefaultNotAllowed.ox T.iC_DefaultNotAllowed T.t_i_TextError G_i_TextError (hr.mono (by decide)) T.b_i_TextError (by rfl) T.g_DefaultNotAllowed (pa_cons (pv 1) pa_nil)) (pa_cons (pe_mk T.e_NestedTooDeeply.ox T.iC_NestedTooDeeply T.t_i_TextError G_i_TextError (hr.mono (by decide)) T.b_i_TextError (by rfl) T.g_NestedTooDeeply (pa_cons (pv 1) pa_nil)) (pa_cons (pe_mk T.e_EmptyElements.ox T.iC_EmptyElements T.t_i_TextError G_i_TextError (hr.mono (by decide)) T.b_i_TextError (by rfl) T.g_EmptyElements (pa_cons (pv 1) pa_nil)) (pa_cons (pe_mk T.e_CheckExpected.ox T.iC_CheckExpected T.t_i_TextError G_i_TextError (hr.mono (by decide)) T.b_i_TextError (by rfl) T.g_CheckExpected (pa_cons (pv 1) pa_nil)) pa_nil))))))))
        (pss_one (ps_ret (pe_op op_cat (pv 4) (pe_lst (pa_cons (pe_mk T.e_NumberExpected.ox T.iC_NumberExpected T.t_i_NumberExpected G_i_NumberExpected (hr.mono (by decide)) T.b_i_NumberExpected (by rfl) T.g_NumberExpected (pa_cons (pv 1) (pa_cons (pv 2) (pa_cons (pv 3) pa_nil)))) (pa_cons (pe_mk T.e_BitsLeft.ox T.iC_BitsLeft T.t_i_BitsLeft G_i_BitsLeft (hr.mono (by decide)) T.b_i_BitsLeft (by rfl) T.g_BitsLeft (pa_cons (pv 1) (pa_cons (pv 2) pa_nil))) (pa_cons (pe_mk T.e_SymbolExpected.ox T.iC_SymbolExpected T.t_i_SymbolExpected G_i_SymbolExpected (hr.mono (by decide)) T.b_i_SymbolExpected (by rfl) T.g_SymbolExpected (pa_cons (pv 1) (pa_cons (pv 0) pa_nil))) pa_nil)))))))))))), ?_⟩
    rw [T.cl] at q
    generalize hcs : [A.k_BridgeError, A.k_InvalidMember, A.k_UnexpectedByte, A.k_UnexpectedEnd, A.k_UnknownMember, A.k_AlreadySet, A.k_KindsDiffer, A.k_MissingDefault, A.k_NothingConvertible, A.k_NotConvertible, A.k_UnknownField, A.k_BadPlan, A.k_MessageTooLong, A.k_TextError, A.k_WordTooLong, A.k_InvalidNumber, A.k_UnexpectedCharacter, A.k_ItemExpected, A.k_NameExpected, A.k_DuplicateName, A.k_WordExpected, A.k_CountExpected, A.k_DuplicateNumber, A.k_RangesNotAllowed, A.k_DefaultNotAllowed, A.k_NestedTooDeeply, A.k_EmptyElements, A.k_CheckExpected, A.k_NumberExpected, A.k_BitsLeft, A.k_SymbolExpected] = cs at q
    refine ⟨fun σ' H' => ∃ (p : Addr) (xs : List V), σ' = [some w, some a, some l, some h, some (.ref p)] ∧ H' p = some (.lst xs) ∧ xs.length = 6 ∧ ErrL cs H' w a l h 0 xs ∧ Same H H', ?_, ?_⟩
    · have sm : Same H H := fun _ _ z => z
      refine fun e0 n0 => ?_
      have s0 := same_upd (o := exo e0 A.k_BridgeError none) n0
      have r0 : Err _ e0 A.k_BridgeError [] := .inl ⟨rfl, upd_same (H := H) (o := exo e0 A.k_BridgeError none)⟩
      replace sm := sm.trans s0
      clear s0
      refine ⟨_, rfl, (by show 1 ≤ 1000; decide), fun e1 n1 => ⟨e1, A.k_InvalidMember, w, rfl, T.e_InvalidMember, upd_same, sw, fun G1 m1 => ⟨rfl, ?_⟩⟩⟩
      have s1 := m1.same n1
      have r1 := m1.err
      replace r0 := r0.same s1
      replace sm := sm.trans s1
      clear s1
      refine ⟨_, rfl, (by show 1 ≤ 1000; decide), fun e2 n2 => ⟨e2, A.k_UnexpectedByte, a, rfl, T.e_UnexpectedByte, upd_same, sa, fun G2 m2 => ⟨rfl, ?_⟩⟩⟩
      have s2 := m2.same n2
      have r2 := m2.err
      replace r0 := r0.same s2
      replace r1 := r1.same s2
      replace sm := sm.trans s2
      clear s2
      refine ⟨(by show 0 ≤ 1000; decide), fun e3 n3 => ⟨e3, A.k_UnexpectedEnd, rfl, T.e_UnexpectedEnd, upd_same, fun G3 m3 => ⟨rfl, ?_⟩⟩⟩
      have s3 := m3.same n3
      have r3 := m3.err
      replace r0 := r0.same s3
      replace r1 := r1.same s3
      replace r2 := r2.same s3
      replace sm := sm.trans s3
      clear s3
      refine ⟨_, rfl, (by show 1 ≤ 1000; decide), fun e4 n4 => ⟨e4, A.k_UnknownMember, w, rfl, T.e_UnknownMember, upd_same, sw, fun G4 m4 => ⟨rfl, ?_⟩⟩⟩
      have s4 := m4.same n4
      have r4 := m4.err
      replace r0 := r0.same s4
      replace r1 := r1.same s4
      replace r2 := r2.same s4
      replace r3 := r3.same s4
      replace sm := sm.trans s4
      clear s4
      refine ⟨_, rfl, (by show 1 ≤ 1000; decide), fun e5 n5 => ⟨e5, A.k_AlreadySet, w, rfl, T.e_AlreadySet, upd_same, sw, fun G5 m5 => ⟨rfl, ?_⟩⟩⟩
      have s5 := m5.same n5
      have r5 := m5.err
      replace r0 := r0.same s5
      replace r1 := r1.same s5
      replace r2 := r2.same s5
      replace r3 := r3.same s5
      replace r4 := r4.same s5
      replace sm := sm.trans s5
      clear s5
      have en : ErrL cs _ w a l h 0 [.ref e0, .ref e1, .ref e2, .ref e3, .ref e4, .ref e5] := .cons (n := 0) (by rw [← hcs]; rfl) r0 (.cons (n := 1) (by rw [← hcs]; rfl) r1 (.cons (n := 2) (by rw [← hcs]; rfl) r2 (.cons (n := 3) (by rw [← hcs]; rfl) r3 (.cons (n := 4) (by rw [← hcs]; rfl) r4 (.cons (n := 5) (by rw [← hcs]; rfl) r5 (.nil))))))
      refine ⟨(by show 6 ≤ sizeLine; decide), fun p np => ?_⟩
      have sp := same_upd (o := .lst [.ref e0, .ref e1, .ref e2, .ref e3, .ref e4, .ref e5]) np
      exact ⟨p, _, rfl, upd_same, rfl, en.same sp, sm.trans sp⟩
    rintro σ' H0 ⟨p0, xs, rfl, hp, xl, el, sm⟩
    refine ⟨fun σ' H' => ∃ (p : Addr) (xs : List V), σ' = [some w, some a, some l, some h, some (.ref p)] ∧ H' p = some (.lst xs) ∧ xs.length = 11 ∧ ErrL cs H' w a l h 0 xs ∧ Same H H', ?_, ?_⟩
    · refine ⟨_, rfl, ?_⟩
      refine ⟨_, rfl, (by show 1 ≤ 1000; decide), fun e0 n0 => ⟨e0, A.k_KindsDiffer, w, rfl, T.e_KindsDiffer, upd_same, sw, fun G0 m0 => ⟨rfl, ?_⟩⟩⟩
      have s0 := m0.same n0
      have r0 := m0.err
      replace sm := sm.trans s0
      replace hp := s0 _ _ hp
      replace el := el.same s0
      clear s0
      refine ⟨_, rfl, (by show 1 ≤ 1000; decide), fun e1 n1 => ⟨e1, A.k_MissingDefault, w, rfl, T.e_MissingDefault, upd_same, sw, fun G1 m1 => ⟨rfl, ?_⟩⟩⟩
      have s1 := m1.same n1
      have r1 := m1.err
      replace r0 := r0.same s1
      replace sm := sm.trans s1
      replace hp := s1 _ _ hp
      replace el := el.same s1
      clear s1
      refine ⟨(by show 0 ≤ 1000; decide), fun e2 n2 => ⟨e2, A.k_NothingConvertible, rfl, T.e_NothingConvertible, upd_same, fun G2 m2 => ⟨rfl, ?_⟩⟩⟩
      have s2 := m2.same n2
      have r2 := m2.err
      replace r0 := r0.same s2
      replace r1 := r1.same s2
      replace sm := sm.trans s2
      replace hp := s2 _ _ hp
      replace el := el.same s2
      clear s2
      refine ⟨(by show 0 ≤ 1000; decide), fun e3 n3 => ⟨e3, A.k_NotConvertible, rfl, T.e_NotConvertible, upd_same, fun G3 m3 => ⟨rfl, ?_⟩⟩⟩
      have s3 := m3.same n3
      have r3 := m3.err
      replace r0 := r0.same s3
      replace r1 := r1.same s3
      replace r2 := r2.same s3
      replace sm := sm.trans s3
      replace hp := s3 _ _ hp
      replace el := el.same s3
      clear s3
      refine ⟨_, rfl, (by show 1 ≤ 1000; decide), fun e4 n4 => ⟨e4, A.k_UnknownField, w, rfl, T.e_UnknownField, upd_same, sw, fun G4 m4 => ⟨rfl, ?_⟩⟩⟩
      have s4 := m4.same n4
      have r4 := m4.err
      replace r0 := r0.same s4
      replace r1 := r1.same s4
      replace r2 := r2.same s4
      replace r3 := r3.same s4
      replace sm := sm.trans s4
      replace hp := s4 _ _ hp
      replace el := el.same s4
      clear s4
      have en : ErrL cs _ w a l h 6 [.ref e0, .ref e1, .ref e2, .ref e3, .ref e4] := .cons (n := 6) (by rw [← hcs]; rfl) r0 (.cons (n := 7) (by rw [← hcs]; rfl) r1 (.cons (n := 8) (by rw [← hcs]; rfl) r2 (.cons (n := 9) (by rw [← hcs]; rfl) r3 (.cons (n := 10) (by rw [← hcs]; rfl) r4 (.nil)))))
      refine ⟨(by show 5 ≤ sizeLine; decide), fun p np => ⟨p0, p, _, _, rfl, rfl, same_upd np _ _ hp, upd_same, Nat.le_of_lt (small1000 (by rw [xl]; show 11 ≤ 1000; decide)), fun p2 n2 => ?_⟩⟩
      have sp := (same_upd (o := .lst [.ref e0, .ref e1, .ref e2, .ref e3, .ref e4]) np).trans (same_upd (o := .lst (xs ++ [.ref e0, .ref e1, .ref e2, .ref e3, .ref e4])) n2)
      exact ⟨p2, _, rfl, upd_same, (by rw [List.length_append, xl]; rfl), (el.same sp).app (by rw [xl]) (en.same sp), sm.trans sp⟩
    rintro σ' H1 ⟨p0, xs, rfl, hp, xl, el, sm⟩
    refine ⟨fun σ' H' => ∃ (p : Addr) (xs : List V), σ' = [some w, some a, some l, some h, some (.ref p)] ∧ H' p = some (.lst xs) ∧ xs.length = 17 ∧ ErrL cs H' w a l h 0 xs ∧ Same H H', ?_, ?_⟩
    · refine ⟨_, rfl, ?_⟩
      refine ⟨_, rfl, _, rfl, (by show 2 ≤ 1000; decide), fun e0 n0 => ⟨e0, A.k_BadPlan, w, a, rfl, T.e_BadPlan, upd_same, sw, sa, fun G0 m0 => ⟨rfl, ?_⟩⟩⟩
      have s0 := m0.same n0
      have r0 := m0.err
      replace sm := sm.trans s0
      replace hp := s0 _ _ hp
      replace el := el.same s0
      clear s0
      refine ⟨_, rfl, (by show 1 ≤ 1000; decide), fun e1 n1 => ⟨e1, A.k_MessageTooLong, a, rfl, T.e_MessageTooLong, upd_same, sa, fun G1 m1 => ⟨rfl, ?_⟩⟩⟩
      have s1 := m1.same n1
      have r1 := m1.err
      replace r0 := r0.same s1
      replace sm := sm.trans s1
      replace hp := s1 _ _ hp
      replace el := el.same s1
      clear s1
      refine ⟨_, rfl, (by show 1 ≤ 1000; decide), fun e2 n2 => ⟨e2, A.k_TextError, a, rfl, T.e_TextError, upd_same, sa, fun G2 m2 => ⟨rfl, ?_⟩⟩⟩
      have s2 := m2.same n2
      have r2 := m2.err
      replace r0 := r0.same s2
      replace r1 := r1.same s2
      replace sm := sm.trans s2
      replace hp := s2 _ _ hp
      replace el := el.same s2
      clear s2
      refine ⟨_, rfl, (by show 1 ≤ 1000; decide), fun e3 n3 => ⟨e3, A.k_WordTooLong, a, rfl, T.e_WordTooLong, upd_same, sa, fun G3 m3 => ⟨rfl, ?_⟩⟩⟩
      have s3 := m3.same n3
      have r3 := m3.err
      replace r0 := r0.same s3
      replace r1 := r1.same s3
      replace r2 := r2.same s3
      replace sm := sm.trans s3
      replace hp := s3 _ _ hp
      replace el := el.same s3
      clear s3
      refine ⟨_, rfl, (by show 1 ≤ 1000; decide), fun e4 n4 => ⟨e4, A.k_InvalidNumber, a, rfl, T.e_InvalidNumber, upd_same, sa, fun G4 m4 => ⟨rfl, ?_⟩⟩⟩
      have s4 := m4.same n4
      have r4 := m4.err
      replace r0 := r0.same s4
      replace r1 := r1.same s4
      replace r2 := r2.same s4
      replace r3 := r3.same s4
      replace sm := sm.trans s4
      replace hp := s4 _ _ hp
      replace el := el.same s4
      clear s4
      refine ⟨_, rfl, (by show 1 ≤ 1000; decide), fun e5 n5 => ⟨e5, A.k_UnexpectedCharacter, a, rfl, T.e_UnexpectedCharacter, upd_same, sa, fun G5 m5 => ⟨rfl, ?_⟩⟩⟩
      have s5 := m5.same n5
      have r5 := m5.err
      replace r0 := r0.same s5
      replace r1 := r1.same s5
      replace r2 := r2.same s5
      replace r3 := r3.same s5
      replace r4 := r4.same s5
      replace sm := sm.trans s5
      replace hp := s5 _ _ hp
      replace el := el.same s5
      clear s5
      have en : ErrL cs _ w a l h 11 [.ref e0, .ref e1, .ref e2, .ref e3, .ref e4, .ref e5] := .cons (n := 11) (by rw [← hcs]; rfl) r0 (.cons (n := 12) (by rw [← hcs]; rfl) r1 (.cons (n := 13) (by rw [← hcs]; rfl) r2 (.cons (n := 14) (by rw [← hcs]; rfl) r3 (.cons (n := 15) (by rw [← hcs]; rfl) r4 (.cons (n := 16) (by rw [← hcs]; rfl) r5 (.nil))))))
      refine ⟨(by show 6 ≤ sizeLine; decide), fun p np => ⟨p0, p, _, _, rfl, rfl, same_upd np _ _ hp, upd_same, Nat.le_of_lt (small1000 (by rw [xl]; show 17 ≤ 1000; decide)), fun p2 n2 => ?_⟩⟩
      have sp := (same_upd (o := .lst [.ref e0, .ref e1, .ref e2, .ref e3, .ref e4, .ref e5]) np).trans (same_upd (o := .lst (xs ++ [.ref e0, .ref e1, .ref e2, .ref e3, .ref e4, .ref e5])) n2)
      exact ⟨p2, _, rfl, upd_same, (by rw [List.length_append, xl]; rfl), (el.same sp).app (by rw [xl]) (en.same sp), sm.trans sp⟩
    rintro σ' H2 ⟨p0, xs, rfl, hp, xl, el, sm⟩
    refine ⟨fun σ' H' => ∃ (p : Addr) (xs : List V), σ' = [some w, some a, some l, some h, some (.ref p)] ∧ H' p = some (.lst xs) ∧ xs.length = 23 ∧ ErrL cs H' w a l h 0 xs ∧ Same H H', ?_, ?_⟩
    · refine ⟨_, rfl, ?_⟩
      refine ⟨_, rfl, (by show 1 ≤ 1000; decide), fun e0 n0 => ⟨e0, A.k_ItemExpected, a, rfl, T.e_ItemExpected, upd_same, sa, fun G0 m0 => ⟨rfl, ?_⟩⟩⟩
      have s0 := m0.same n0
      have r0 := m0.err
      replace sm := sm.trans s0
      replace hp := s0 _ _ hp
      replace el := el.same s0
      clear s0
      refine ⟨_, rfl, (by show 1 ≤ 1000; decide), fun e1 n1 => ⟨e1, A.k_NameExpected, a, rfl, T.e_NameExpected, upd_same, sa, fun G1 m1 => ⟨rfl, ?_⟩⟩⟩
      have s1 := m1.same n1
      have r1 := m1.err
      replace r0 := r0.same s1
      replace sm := sm.trans s1
      replace hp := s1 _ _ hp
      replace el := el.same s1
      clear s1
      refine ⟨_, rfl, (by show 1 ≤ 1000; decide), fun e2 n2 => ⟨e2, A.k_DuplicateName, a, rfl, T.e_DuplicateName, upd_same, sa, fun G2 m2 => ⟨rfl, ?_⟩⟩⟩
      have s2 := m2.same n2
      have r2 := m2.err
      replace r0 := r0.same s2
      replace r1 := r1.same s2
      replace sm := sm.trans s2
      replace hp := s2 _ _ hp
      replace el := el.same s2
      clear s2
      refine ⟨_, rfl, (by show 1 ≤ 1000; decide), fun e3 n3 => ⟨e3, A.k_WordExpected, a, rfl, T.e_WordExpected, upd_same, sa, fun G3 m3 => ⟨rfl, ?_⟩⟩⟩
      have s3 := m3.same n3
      have r3 := m3.err
      replace r0 := r0.same s3
      replace r1 := r1.same s3
      replace r2 := r2.same s3
      replace sm := sm.trans s3
      replace hp := s3 _ _ hp
      replace el := el.same s3
      clear s3
      refine ⟨_, rfl, (by show 1 ≤ 1000; decide), fun e4 n4 => ⟨e4, A.k_CountExpected, a, rfl, T.e_CountExpected, upd_same, sa, fun G4 m4 => ⟨rfl, ?_⟩⟩⟩
      have s4 := m4.same n4
      have r4 := m4.err
      replace r0 := r0.same s4
      replace r1 := r1.same s4
      replace r2 := r2.same s4
      replace r3 := r3.same s4
      replace sm := sm.trans s4
      replace hp := s4 _ _ hp
      replace el := el.same s4
      clear s4
      refine ⟨_, rfl, (by show 1 ≤ 1000; decide), fun e5 n5 => ⟨e5, A.k_DuplicateNumber, a, rfl, T.e_DuplicateNumber, upd_same, sa, fun G5 m5 => ⟨rfl, ?_⟩⟩⟩
      have s5 := m5.same n5
      have r5 := m5.err
      replace r0 := r0.same s5
      replace r1 := r1.same s5
      replace r2 := r2.same s5
      replace r3 := r3.same s5
      replace r4 := r4.same s5
      replace sm := sm.trans s5
      replace hp := s5 _ _ hp
      replace el := el.same s5
      clear s5
      have en : ErrL cs _ w a l h 17 [.ref e0, .ref e1, .ref e2, .ref e3, .ref e4, .ref e5] := .cons (n := 17) (by rw [← hcs]; rfl) r0 (.cons (n := 18) (by rw [← hcs]; rfl) r1 (.cons (n := 19) (by rw [← hcs]; rfl) r2 (.cons (n := 20) (by rw [← hcs]; rfl) r3 (.cons (n := 21) (by rw [← hcs]; rfl) r4 (.cons (n := 22) (by rw [← hcs]; rfl) r5 (.nil))))))
      refine ⟨(by show 6 ≤ sizeLine; decide), fun p np => ⟨p0, p, _, _, rfl, rfl, same_upd np _ _ hp, upd_same, Nat.le_of_lt (small1000 (by rw [xl]; show 23 ≤ 1000; decide)), fun p2 n2 => ?_⟩⟩
      have sp := (same_upd (o := .lst [.ref e0, .ref e1, .ref e2, .ref e3, .ref e4, .ref e5]) np).trans (same_upd (o := .lst (xs ++ [.ref e0, .ref e1, .ref e2, .ref e3, .ref e4, .ref e5])) n2)
      exact ⟨p2, _, rfl, upd_same, (by rw [List.length_append, xl]; rfl), (el.same sp).app (by rw [xl]) (en.same sp), sm.trans sp⟩
    rintro σ' H3 ⟨p0, xs, rfl, hp, xl, el, sm⟩
    refine ⟨fun σ' H' => ∃ (p : Addr) (xs : List V), σ' = [some w, some a, some l, some h, some (.ref p)] ∧ H' p = some (.lst xs) ∧ xs.length = 28 ∧ ErrL cs H' w a l h 0 xs ∧ Same H H', ?_, ?_⟩
    · refine ⟨_, rfl, ?_⟩
      refine ⟨_, rfl, (by show 1 ≤ 1000; decide), fun e0 n0 => ⟨e0, A.k_RangesNotAllowed, a, rfl, T.e_RangesNotAllowed, upd_same, sa, fun G0 m0 => ⟨rfl, ?_⟩⟩⟩
      have s0 := m0.same n0
      have r0 := m0.err
      replace sm := sm.trans s0
      replace hp := s0 _ _ hp
      replace el := el.same s0
      clear s0
      refine ⟨_, rfl, (by show 1 ≤ 1000; decide), fun e1 n1 => ⟨e1, A.k_DefaultNotAllowed, a, rfl, T.e_DefaultNotAllowed, upd_same, sa, fun G1 m1 => ⟨rfl, ?_⟩⟩⟩
      have s1 := m1.same n1
      have r1 := m1.err
      replace r0 := r0.same s1
      replace sm := sm.trans s1
      replace hp := s1 _ _ hp
      replace el := el.same s1
      clear s1
      refine ⟨_, rfl, (by show 1 ≤ 1000; decide), fun e2 n2 => ⟨e2, A.k_NestedTooDeeply, a, rfl, T.e_NestedTooDeeply, upd_same, sa, fun G2 m2 => ⟨rfl, ?_⟩⟩⟩
      have s2 := m2.same n2
      have r2 := m2.err
      replace r0 := r0.same s2
      replace r1 := r1.same s2
      replace sm := sm.trans s2
      replace hp := s2 _ _ hp
      replace el := el.same s2
      clear s2
      refine ⟨_, rfl, (by show 1 ≤ 1000; decide), fun e3 n3 => ⟨e3, A.k_EmptyElements, a, rfl, T.e_EmptyElements, upd_same, sa, fun G3 m3 => ⟨rfl, ?_⟩⟩⟩
      have s3 := m3.same n3
      have r3 := m3.err
      replace r0 := r0.same s3
      replace r1 := r1.same s3
      replace r2 := r2.same s3
      replace sm := sm.trans s3
      replace hp := s3 _ _ hp
      replace el := el.same s3
      clear s3
      refine ⟨_, rfl, (by show 1 ≤ 1000; decide), fun e4 n4 => ⟨e4, A.k_CheckExpected, a, rfl, T.e_CheckExpected, upd_same, sa, fun G4 m4 => ⟨rfl, ?_⟩⟩⟩
      have s4 := m4.same n4
      have r4 := m4.err
      replace r0 := r0.same s4
      replace r1 := r1.same s4
      replace r2 := r2.same s4
      replace r3 := r3.same s4
      replace sm := sm.trans s4
      replace hp := s4 _ _ hp
      replace el := el.same s4
      clear s4
      have en : ErrL cs _ w a l h 23 [.ref e0, .ref e1, .ref e2, .ref e3, .ref e4] := .cons (n := 23) (by rw [← hcs]; rfl) r0 (.cons (n := 24) (by rw [← hcs]; rfl) r1 (.cons (n := 25) (by rw [← hcs]; rfl) r2 (.cons (n := 26) (by rw [← hcs]; rfl) r3 (.cons (n := 27) (by rw [← hcs]; rfl) r4 (.nil)))))
      refine ⟨(by show 5 ≤ sizeLine; decide), fun p np => ⟨p0, p, _, _, rfl, rfl, same_upd np _ _ hp, upd_same, Nat.le_of_lt (small1000 (by rw [xl]; show 28 ≤ 1000; decide)), fun p2 n2 => ?_⟩⟩
      have sp := (same_upd (o := .lst [.ref e0, .ref e1, .ref e2, .ref e3, .ref e4]) np).trans (same_upd (o := .lst (xs ++ [.ref e0, .ref e1, .ref e2, .ref e3, .ref e4])) n2)
      exact ⟨p2, _, rfl, upd_same, (by rw [List.length_append, xl]; rfl), (el.same sp).app (by rw [xl]) (en.same sp), sm.trans sp⟩
    rintro σ' H4 ⟨p0, xs, rfl, hp, xl, el, sm⟩
    refine ⟨_, rfl, ?_⟩
    refine ⟨_, rfl, _, rfl, _, rfl, (by show 3 ≤ 1000; decide), fun e0 n0 => ⟨e0, A.k_NumberExpected, a, l, h, rfl, T.e_NumberExpected, upd_same, sa, sl, sh, fun G0 m0 => ⟨rfl, ?_⟩⟩⟩
    have s0 := m0.same n0
    have r0 := m0.err
    replace sm := sm.trans s0
    replace hp := s0 _ _ hp
    replace el := el.same s0
    clear s0
    refine ⟨_, rfl, _, rfl, (by show 2 ≤ 1000; decide), fun e1 n1 => ⟨e1, A.k_BitsLeft, a, l, rfl, T.e_BitsLeft, upd_same, sa, sl, fun G1 m1 => ⟨rfl, ?_⟩⟩⟩
    have s1 := m1.same n1
    have r1 := m1.err
    replace r0 := r0.same s1
    replace sm := sm.trans s1
    replace hp := s1 _ _ hp
    replace el := el.same s1
    clear s1
    refine ⟨_, rfl, _, rfl, (by show 2 ≤ 1000; decide), fun e2 n2 => ⟨e2, A.k_SymbolExpected, a, w, rfl, T.e_SymbolExpected, upd_same, sa, sw, fun G2 m2 => ⟨rfl, ?_⟩⟩⟩
    have s2 := m2.same n2
    have r2 := m2.err
    replace r0 := r0.same s2
    replace r1 := r1.same s2
    replace sm := sm.trans s2
    replace hp := s2 _ _ hp
    replace el := el.same s2
    clear s2
    have en : ErrL cs _ w a l h 28 [.ref e0, .ref e1, .ref e2] := .cons (n := 28) (by rw [← hcs]; rfl) r0 (.cons (n := 29) (by rw [← hcs]; rfl) r1 (.cons (n := 30) (by rw [← hcs]; rfl) r2 (.nil)))
    refine ⟨(by show 3 ≤ sizeLine; decide), fun p np => ⟨p0, p, _, _, rfl, rfl, same_upd np _ _ hp, upd_same, Nat.le_of_lt (small1000 (by rw [xl]; show 31 ≤ 1000; decide)), fun p2 n2 => ?_⟩⟩
    have sp := (same_upd (o := .lst [.ref e0, .ref e1, .ref e2]) np).trans (same_upd (o := .lst (xs ++ [.ref e0, .ref e1, .ref e2])) n2)
    refine q _ p2 (xs ++ [.ref e0, .ref e1, .ref e2]) upd_same (by rw [List.length_append, xl]; rfl) ?_ (sm.trans sp)
    exact (el.same sp).app (by rw [xl]) (en.same sp)

/-! def _law_attributes -/
def sp_l_attributes (K : PySem.W.Frag) : Sp := fun vs H Q _ => ∃ (k : Nat) (e C : Addr) (w a l h : V), vs = [.int (k : Int), .ref e] ∧ k < 31 ∧ EC K C ∧ Err H e C (errFs w a l h k) ∧ ∀ (H' : Hp) (p : Addr), H' p = some (.tup (errDue w a l h k)) → Same H H' → Q (.ref p) H'
theorem ok_l_attributes (T : Txt K w mg A) : FnOk P w K mg base CX0 1 A.l_attributes.f A.l_attributes.fd ["k", "e"] (sp_l_attributes K) := by
  refine T.F_l_attributes.ok sc_l_attributes (fun vs H Q E h => ?_) (fun cdv Ar outer s H vs Q E hr h => ?_)
  · obtain ⟨k, e, C, w, a, l, h, rfl, _⟩ := h; rfl
  · obtain ⟨k, e, C, w, a, l, h, rfl, hk, ec, er, q⟩ := h
    refine ⟨_, (pss_cons (ps_if (pt_cmpR op_in_seq (pv 0) (pe_tup (pa_cons pe_int (pa_cons pe_int (pa_cons pe_int (pa_cons pe_int pa_nil))))) rfl) (pss_one (ps_ret (pe_tup pa_nil))) pss_nil)
        (pss_cons (ps_if (pt_cmpR op_in_seq (pv 0) (pe_tup (pa_cons pe_int (pa_cons pe_int (pa_cons pe_int (pa_cons pe_int pa_nil))))) rfl) (pss_one (ps_ret (pe_tup (pa_cons (pe_xat (pv 1)) pa_nil)))) pss_nil)
        (pss_cons (ps_if (pt_cmpR op_in_seq (pv 0) (pe_tup (pa_cons pe_int (pa_cons pe_int pa_nil))) rfl) (pss_one (ps_ret (pe_tup (pa_cons (pe_xat (pv 1)) pa_nil)))) pss_nil)
        (pss_cons (ps_if (pt_cmpR op_eq (pv 0) pe_int (nomark _)) (pss_one (ps_ret (pe_tup (pa_cons (pe_xat (pv 1)) pa_nil)))) pss_nil)
        (pss_cons (ps_if (pt_cmpR op_eq (pv 0) pe_int (nomark _)) (pss_one (ps_ret (pe_tup (pa_cons (pe_xat (pv 1)) (pa_cons (pe_xat (pv 1)) pa_nil))))) pss_nil)
        (pss_cons (ps_if (pt_cmpR op_eq (pv 0) pe_int (nomark _)) (pss_one (ps_ret (pe_tup (pa_cons (pe_xat (pv 1)) (pa_cons (pe_xat (pv 1)) (pa_cons (pe_xat (pv 1)) pa_nil)))))) pss_nil)
        (pss_cons (ps_if (pt_cmpR op_eq (pv 0) pe_int (nomark _)) (pss_one (ps_ret (pe_tup (pa_cons (pe_xat (pv 1)) (pa_cons (pe_xat (pv 1)) pa_nil))))) pss_nil)
        (pss_one (ps_ret (pe_ifExp (pt_cmpR op_eq (pv 0) pe_int (nomark _)) (pe_tup (pa_cons (pe_xat (pv 1)) (pa_cons (pe_xat (pv 1)) pa_nil))) (pe_tup (pa_cons (pe_xat (pv 1)) pa_nil)))))))))))), ?_⟩
    obtain hk : k = 0 ∨ k = 1 ∨ k = 2 ∨ k = 3 ∨ k = 4 ∨ k = 5 ∨ k = 6 ∨ k = 7 ∨ k = 8 ∨ k = 9 ∨ k = 10 ∨ k = 11 ∨ k = 12 ∨ k = 13 ∨ k = 14 ∨ k = 15 ∨ k = 16 ∨ k = 17 ∨ k = 18 ∨ k = 19 ∨ k = 20 ∨ k = 21 ∨ k = 22 ∨ k = 23 ∨ k = 24 ∨ k = 25 ∨ k = 26 ∨ k = 27 ∨ k = 28 ∨ k = 29 ∨ k = 30 := by omega
    rcases hk with rfl | rfl | rfl | rfl | rfl | rfl | rfl | rfl | rfl | rfl | rfl | rfl | rfl | rfl | rfl | rfl | rfl | rfl | rfl | rfl | rfl | rfl | rfl | rfl | rfl | rfl | rfl | rfl | rfl | rfl | rfl
    · have sm : Same H H := fun _ _ z => z
      refine ⟨_, rfl, (by show 4 ≤ sizeLine; decide), fun q0 n0 => ⟨q0, _, rfl, .inr (SqT.of upd_same), rfl, rfl, _, rfl, ite_t (by decide +kernel) ?_⟩⟩
      replace sm := sm.trans (same_upd (o := .tup [.int 0, .int 3, .int 8, .int 9]) n0)
      replace er := er.same (same_upd (o := .tup [.int 0, .int 3, .int 8, .int 9]) n0)
      refine ⟨(by show 0 ≤ sizeLine; decide), fun p np => ?_⟩
      exact q _ p upd_same (sm.trans (same_upd np))
    · have sm : Same H H := fun _ _ z => z
      refine ⟨_, rfl, (by show 4 ≤ sizeLine; decide), fun q0 n0 => ⟨q0, _, rfl, .inr (SqT.of upd_same), rfl, rfl, _, rfl, ite_f (by decide +kernel) ?_⟩⟩
      replace sm := sm.trans (same_upd (o := .tup [.int 0, .int 3, .int 8, .int 9]) n0)
      replace er := er.same (same_upd (o := .tup [.int 0, .int 3, .int 8, .int 9]) n0)
      refine ⟨_, rfl, (by show 4 ≤ sizeLine; decide), fun q1 n1 => ⟨q1, _, rfl, .inr (SqT.of upd_same), rfl, rfl, _, rfl, ite_t (by decide +kernel) ?_⟩⟩
      replace sm := sm.trans (same_upd (o := .tup [.int 1, .int 6, .int 7, .int 10]) n1)
      replace er := er.same (same_upd (o := .tup [.int 1, .int 6, .int 7, .int 10]) n1)
      refine ⟨_, rfl, e, C, _, _, rfl, ec, by decide +kernel, er, rfl, (by show 1 ≤ sizeLine; decide), fun p np => ?_⟩
      exact q _ p upd_same (sm.trans (same_upd np))
    · have sm : Same H H := fun _ _ z => z
      refine ⟨_, rfl, (by show 4 ≤ sizeLine; decide), fun q0 n0 => ⟨q0, _, rfl, .inr (SqT.of upd_same), rfl, rfl, _, rfl, ite_f (by decide +kernel) ?_⟩⟩
      replace sm := sm.trans (same_upd (o := .tup [.int 0, .int 3, .int 8, .int 9]) n0)
      replace er := er.same (same_upd (o := .tup [.int 0, .int 3, .int 8, .int 9]) n0)
      refine ⟨_, rfl, (by show 4 ≤ sizeLine; decide), fun q1 n1 => ⟨q1, _, rfl, .inr (SqT.of upd_same), rfl, rfl, _, rfl, ite_f (by decide +kernel) ?_⟩⟩
      replace sm := sm.trans (same_upd (o := .tup [.int 1, .int 6, .int 7, .int 10]) n1)
      replace er := er.same (same_upd (o := .tup [.int 1, .int 6, .int 7, .int 10]) n1)
      refine ⟨_, rfl, (by show 2 ≤ sizeLine; decide), fun q2 n2 => ⟨q2, _, rfl, .inr (SqT.of upd_same), rfl, rfl, _, rfl, ite_f (by decide +kernel) ?_⟩⟩
      replace sm := sm.trans (same_upd (o := .tup [.int 4, .int 5]) n2)
      replace er := er.same (same_upd (o := .tup [.int 4, .int 5]) n2)
      refine ⟨_, rfl, rfl, _, rfl, ite_f (by decide +kernel) ?_⟩
      refine ⟨_, rfl, rfl, _, rfl, ite_f (by decide +kernel) ?_⟩
      refine ⟨_, rfl, rfl, _, rfl, ite_f (by decide +kernel) ?_⟩
      refine ⟨_, rfl, rfl, _, rfl, ite_f (by decide +kernel) ?_⟩
      refine ⟨_, rfl, rfl, _, rfl, ite_f (by decide +kernel) ?_⟩
      refine ⟨_, rfl, e, C, _, _, rfl, ec, by decide +kernel, er, rfl, (by show 1 ≤ sizeLine; decide), fun p np => ?_⟩
      exact q _ p upd_same (sm.trans (same_upd np))
    · have sm : Same H H := fun _ _ z => z
      refine ⟨_, rfl, (by show 4 ≤ sizeLine; decide), fun q0 n0 => ⟨q0, _, rfl, .inr (SqT.of upd_same), rfl, rfl, _, rfl, ite_t (by decide +kernel) ?_⟩⟩
      replace sm := sm.trans (same_upd (o := .tup [.int 0, .int 3, .int 8, .int 9]) n0)
      replace er := er.same (same_upd (o := .tup [.int 0, .int 3, .int 8, .int 9]) n0)
      refine ⟨(by show 0 ≤ sizeLine; decide), fun p np => ?_⟩
      exact q _ p upd_same (sm.trans (same_upd np))
    · have sm : Same H H := fun _ _ z => z
      refine ⟨_, rfl, (by show 4 ≤ sizeLine; decide), fun q0 n0 => ⟨q0, _, rfl, .inr (SqT.of upd_same), rfl, rfl, _, rfl, ite_f (by decide +kernel) ?_⟩⟩
      replace sm := sm.trans (same_upd (o := .tup [.int 0, .int 3, .int 8, .int 9]) n0)
      replace er := er.same (same_upd (o := .tup [.int 0, .int 3, .int 8, .int 9]) n0)
      refine ⟨_, rfl, (by show 4 ≤ sizeLine; decide), fun q1 n1 => ⟨q1, _, rfl, .inr (SqT.of upd_same), rfl, rfl, _, rfl, ite_f (by decide +kernel) ?_⟩⟩
      replace sm := sm.trans (same_upd (o := .tup [.int 1, .int 6, .int 7, .int 10]) n1)
      replace er := er.same (same_upd (o := .tup [.int 1, .int 6, .int 7, .int 10]) n1)
      refine ⟨_, rfl, (by show 2 ≤ sizeLine; decide), fun q2 n2 => ⟨q2, _, rfl, .inr (SqT.of upd_same), rfl, rfl, _, rfl, ite_t (by decide +kernel) ?_⟩⟩
      replace sm := sm.trans (same_upd (o := .tup [.int 4, .int 5]) n2)
      replace er := er.same (same_upd (o := .tup [.int 4, .int 5]) n2)
      refine ⟨_, rfl, e, C, _, _, rfl, ec, by decide +kernel, er, rfl, (by show 1 ≤ sizeLine; decide), fun p np => ?_⟩
      exact q _ p upd_same (sm.trans (same_upd np))
    · have sm : Same H H := fun _ _ z => z
      refine ⟨_, rfl, (by show 4 ≤ sizeLine; decide), fun q0 n0 => ⟨q0, _, rfl, .inr (SqT.of upd_same), rfl, rfl, _, rfl, ite_f (by decide +kernel) ?_⟩⟩
      replace sm := sm.trans (same_upd (o := .tup [.int 0, .int 3, .int 8, .int 9]) n0)
      replace er := er.same (same_upd (o := .tup [.int 0, .int 3, .int 8, .int 9]) n0)
      refine ⟨_, rfl, (by show 4 ≤ sizeLine; decide), fun q1 n1 => ⟨q1, _, rfl, .inr (SqT.of upd_same), rfl, rfl, _, rfl, ite_f (by decide +kernel) ?_⟩⟩
      replace sm := sm.trans (same_upd (o := .tup [.int 1, .int 6, .int 7, .int 10]) n1)
      replace er := er.same (same_upd (o := .tup [.int 1, .int 6, .int 7, .int 10]) n1)
      refine ⟨_, rfl, (by show 2 ≤ sizeLine; decide), fun q2 n2 => ⟨q2, _, rfl, .inr (SqT.of upd_same), rfl, rfl, _, rfl, ite_t (by decide +kernel) ?_⟩⟩
      replace sm := sm.trans (same_upd (o := .tup [.int 4, .int 5]) n2)
      replace er := er.same (same_upd (o := .tup [.int 4, .int 5]) n2)
      refine ⟨_, rfl, e, C, _, _, rfl, ec, by decide +kernel, er, rfl, (by show 1 ≤ sizeLine; decide), fun p np => ?_⟩
      exact q _ p upd_same (sm.trans (same_upd np))
    · have sm : Same H H := fun _ _ z => z
      refine ⟨_, rfl, (by show 4 ≤ sizeLine; decide), fun q0 n0 => ⟨q0, _, rfl, .inr (SqT.of upd_same), rfl, rfl, _, rfl, ite_f (by decide +kernel) ?_⟩⟩
      replace sm := sm.trans (same_upd (o := .tup [.int 0, .int 3, .int 8, .int 9]) n0)
      replace er := er.same (same_upd (o := .tup [.int 0, .int 3, .int 8, .int 9]) n0)
      refine ⟨_, rfl, (by show 4 ≤ sizeLine; decide), fun q1 n1 => ⟨q1, _, rfl, .inr (SqT.of upd_same), rfl, rfl, _, rfl, ite_t (by decide +kernel) ?_⟩⟩
      replace sm := sm.trans (same_upd (o := .tup [.int 1, .int 6, .int 7, .int 10]) n1)
      replace er := er.same (same_upd (o := .tup [.int 1, .int 6, .int 7, .int 10]) n1)
      refine ⟨_, rfl, e, C, _, _, rfl, ec, by decide +kernel, er, rfl, (by show 1 ≤ sizeLine; decide), fun p np => ?_⟩
      exact q _ p upd_same (sm.trans (same_upd np))
    · have sm : Same H H := fun _ _ z => z
      refine ⟨_, rfl, (by show 4 ≤ sizeLine; decide), fun q0 n0 => ⟨q0, _, rfl, .inr (SqT.of upd_same), rfl, rfl, _, rfl, ite_f (by decide +kernel) ?_⟩⟩
      replace sm := sm.trans (same_upd (o := .tup [.int 0, .int 3, .int 8, .int 9]) n0)
      replace er := er.same (same_upd (o := .tup [.int 0, .int 3, .int 8, .int 9]) n0)
      refine ⟨_, rfl, (by show 4 ≤ sizeLine; decide), fun q1 n1 => ⟨q1, _, rfl, .inr (SqT.of upd_same), rfl, rfl, _, rfl, ite_t (by decide +kernel) ?_⟩⟩
      replace sm := sm.trans (same_upd (o := .tup [.int 1, .int 6, .int 7, .int 10]) n1)
      replace er := er.same (same_upd (o := .tup [.int 1, .int 6, .int 7, .int 10]) n1)
      refine ⟨_, rfl, e, C, _, _, rfl, ec, by decide +kernel, er, rfl, (by show 1 ≤ sizeLine; decide), fun p np => ?_⟩
      exact q _ p upd_same (sm.trans (same_upd np))
    · have sm : Same H H := fun _ _ z => z
      refine ⟨_, rfl, (by show 4 ≤ sizeLine; decide), fun q0 n0 => ⟨q0, _, rfl, .inr (SqT.of upd_same), rfl, rfl, _, rfl, ite_t (by decide +kernel) ?_⟩⟩
      replace sm := sm.trans (same_upd (o := .tup [.int 0, .int 3, .int 8, .int 9]) n0)
      replace er := er.same (same_upd (o := .tup [.int 0, .int 3, .int 8, .int 9]) n0)
      refine ⟨(by show 0 ≤ sizeLine; decide), fun p np => ?_⟩
      exact q _ p upd_same (sm.trans (same_upd np))
    · have sm : Same H H := fun _ _ z => z
      refine ⟨_, rfl, (by show 4 ≤ sizeLine; decide), fun q0 n0 => ⟨q0, _, rfl, .inr (SqT.of upd_same), rfl, rfl, _, rfl, ite_t (by decide +kernel) ?_⟩⟩
      replace sm := sm.trans (same_upd (o := .tup [.int 0, .int 3, .int 8, .int 9]) n0)
      replace er := er.same (same_upd (o := .tup [.int 0, .int 3, .int 8, .int 9]) n0)
      refine ⟨(by show 0 ≤ sizeLine; decide), fun p np => ?_⟩
      exact q _ p upd_same (sm.trans (same_upd np))
    · have sm : Same H H := fun _ _ z => z
      refine ⟨_, rfl, (by show 4 ≤ sizeLine; decide), fun q0 n0 => ⟨q0, _, rfl, .inr (SqT.of upd_same), rfl, rfl, _, rfl, ite_f (by decide +kernel) ?_⟩⟩
      replace sm := sm.trans (same_upd (o := .tup [.int 0, .int 3, .int 8, .int 9]) n0)
      replace er := er.same (same_upd (o := .tup [.int 0, .int 3, .int 8, .int 9]) n0)
      refine ⟨_, rfl, (by show 4 ≤ sizeLine; decide), fun q1 n1 => ⟨q1, _, rfl, .inr (SqT.of upd_same), rfl, rfl, _, rfl, ite_t (by decide +kernel) ?_⟩⟩
      replace sm := sm.trans (same_upd (o := .tup [.int 1, .int 6, .int 7, .int 10]) n1)
      replace er := er.same (same_upd (o := .tup [.int 1, .int 6, .int 7, .int 10]) n1)
      refine ⟨_, rfl, e, C, _, _, rfl, ec, by decide +kernel, er, rfl, (by show 1 ≤ sizeLine; decide), fun p np => ?_⟩
      exact q _ p upd_same (sm.trans (same_upd np))
    · have sm : Same H H := fun _ _ z => z
      refine ⟨_, rfl, (by show 4 ≤ sizeLine; decide), fun q0 n0 => ⟨q0, _, rfl, .inr (SqT.of upd_same), rfl, rfl, _, rfl, ite_f (by decide +kernel) ?_⟩⟩
      replace sm := sm.trans (same_upd (o := .tup [.int 0, .int 3, .int 8, .int 9]) n0)
      replace er := er.same (same_upd (o := .tup [.int 0, .int 3, .int 8, .int 9]) n0)
      refine ⟨_, rfl, (by show 4 ≤ sizeLine; decide), fun q1 n1 => ⟨q1, _, rfl, .inr (SqT.of upd_same), rfl, rfl, _, rfl, ite_f (by decide +kernel) ?_⟩⟩
      replace sm := sm.trans (same_upd (o := .tup [.int 1, .int 6, .int 7, .int 10]) n1)
      replace er := er.same (same_upd (o := .tup [.int 1, .int 6, .int 7, .int 10]) n1)
      refine ⟨_, rfl, (by show 2 ≤ sizeLine; decide), fun q2 n2 => ⟨q2, _, rfl, .inr (SqT.of upd_same), rfl, rfl, _, rfl, ite_f (by decide +kernel) ?_⟩⟩
      replace sm := sm.trans (same_upd (o := .tup [.int 4, .int 5]) n2)
      replace er := er.same (same_upd (o := .tup [.int 4, .int 5]) n2)
      refine ⟨_, rfl, rfl, _, rfl, ite_f (by decide +kernel) ?_⟩
      refine ⟨_, rfl, rfl, _, rfl, ite_t (by decide +kernel) ?_⟩
      refine ⟨_, rfl, e, C, _, _, rfl, ec, by decide +kernel, er, rfl, _, rfl, e, C, _, _, rfl, ec, by decide +kernel, er, rfl, (by show 2 ≤ sizeLine; decide), fun p np => ?_⟩
      exact q _ p upd_same (sm.trans (same_upd np))
    · have sm : Same H H := fun _ _ z => z
      refine ⟨_, rfl, (by show 4 ≤ sizeLine; decide), fun q0 n0 => ⟨q0, _, rfl, .inr (SqT.of upd_same), rfl, rfl, _, rfl, ite_f (by decide +kernel) ?_⟩⟩
      replace sm := sm.trans (same_upd (o := .tup [.int 0, .int 3, .int 8, .int 9]) n0)
      replace er := er.same (same_upd (o := .tup [.int 0, .int 3, .int 8, .int 9]) n0)
      refine ⟨_, rfl, (by show 4 ≤ sizeLine; decide), fun q1 n1 => ⟨q1, _, rfl, .inr (SqT.of upd_same), rfl, rfl, _, rfl, ite_f (by decide +kernel) ?_⟩⟩
      replace sm := sm.trans (same_upd (o := .tup [.int 1, .int 6, .int 7, .int 10]) n1)
      replace er := er.same (same_upd (o := .tup [.int 1, .int 6, .int 7, .int 10]) n1)
      refine ⟨_, rfl, (by show 2 ≤ sizeLine; decide), fun q2 n2 => ⟨q2, _, rfl, .inr (SqT.of upd_same), rfl, rfl, _, rfl, ite_f (by decide +kernel) ?_⟩⟩
      replace sm := sm.trans (same_upd (o := .tup [.int 4, .int 5]) n2)
      replace er := er.same (same_upd (o := .tup [.int 4, .int 5]) n2)
      refine ⟨_, rfl, rfl, _, rfl, ite_t (by decide +kernel) ?_⟩
      refine ⟨_, rfl, e, C, _, _, rfl, ec, by decide +kernel, er, rfl, (by show 1 ≤ sizeLine; decide), fun p np => ?_⟩
      exact q _ p upd_same (sm.trans (same_upd np))
    · have sm : Same H H := fun _ _ z => z
      refine ⟨_, rfl, (by show 4 ≤ sizeLine; decide), fun q0 n0 => ⟨q0, _, rfl, .inr (SqT.of upd_same), rfl, rfl, _, rfl, ite_f (by decide +kernel) ?_⟩⟩
      replace sm := sm.trans (same_upd (o := .tup [.int 0, .int 3, .int 8, .int 9]) n0)
      replace er := er.same (same_upd (o := .tup [.int 0, .int 3, .int 8, .int 9]) n0)
      refine ⟨_, rfl, (by show 4 ≤ sizeLine; decide), fun q1 n1 => ⟨q1, _, rfl, .inr (SqT.of upd_same), rfl, rfl, _, rfl, ite_f (by decide +kernel) ?_⟩⟩
      replace sm := sm.trans (same_upd (o := .tup [.int 1, .int 6, .int 7, .int 10]) n1)
      replace er := er.same (same_upd (o := .tup [.int 1, .int 6, .int 7, .int 10]) n1)
      refine ⟨_, rfl, (by show 2 ≤ sizeLine; decide), fun q2 n2 => ⟨q2, _, rfl, .inr (SqT.of upd_same), rfl, rfl, _, rfl, ite_f (by decide +kernel) ?_⟩⟩
      replace sm := sm.trans (same_upd (o := .tup [.int 4, .int 5]) n2)
      replace er := er.same (same_upd (o := .tup [.int 4, .int 5]) n2)
      refine ⟨_, rfl, rfl, _, rfl, ite_f (by decide +kernel) ?_⟩
      refine ⟨_, rfl, rfl, _, rfl, ite_f (by decide +kernel) ?_⟩
      refine ⟨_, rfl, rfl, _, rfl, ite_f (by decide +kernel) ?_⟩
      refine ⟨_, rfl, rfl, _, rfl, ite_f (by decide +kernel) ?_⟩
      refine ⟨_, rfl, rfl, _, rfl, ite_f (by decide +kernel) ?_⟩
      refine ⟨_, rfl, e, C, _, _, rfl, ec, by decide +kernel, er, rfl, (by show 1 ≤ sizeLine; decide), fun p np => ?_⟩
      exact q _ p upd_same (sm.trans (same_upd np))
    · have sm : Same H H := fun _ _ z => z
      refine ⟨_, rfl, (by show 4 ≤ sizeLine; decide), fun q0 n0 => ⟨q0, _, rfl, .inr (SqT.of upd_same), rfl, rfl, _, rfl, ite_f (by decide +kernel) ?_⟩⟩
      replace sm := sm.trans (same_upd (o := .tup [.int 0, .int 3, .int 8, .int 9]) n0)
      replace er := er.same (same_upd (o := .tup [.int 0, .int 3, .int 8, .int 9]) n0)
      refine ⟨_, rfl, (by show 4 ≤ sizeLine; decide), fun q1 n1 => ⟨q1, _, rfl, .inr (SqT.of upd_same), rfl, rfl, _, rfl, ite_f (by decide +kernel) ?_⟩⟩
      replace sm := sm.trans (same_upd (o := .tup [.int 1, .int 6, .int 7, .int 10]) n1)
      replace er := er.same (same_upd (o := .tup [.int 1, .int 6, .int 7, .int 10]) n1)
      refine ⟨_, rfl, (by show 2 ≤ sizeLine; decide), fun q2 n2 => ⟨q2, _, rfl, .inr (SqT.of upd_same), rfl, rfl, _, rfl, ite_f (by decide +kernel) ?_⟩⟩
      replace sm := sm.trans (same_upd (o := .tup [.int 4, .int 5]) n2)
      replace er := er.same (same_upd (o := .tup [.int 4, .int 5]) n2)
      refine ⟨_, rfl, rfl, _, rfl, ite_f (by decide +kernel) ?_⟩
      refine ⟨_, rfl, rfl, _, rfl, ite_f (by decide +kernel) ?_⟩
      refine ⟨_, rfl, rfl, _, rfl, ite_f (by decide +kernel) ?_⟩
      refine ⟨_, rfl, rfl, _, rfl, ite_f (by decide +kernel) ?_⟩
      refine ⟨_, rfl, rfl, _, rfl, ite_f (by decide +kernel) ?_⟩
      refine ⟨_, rfl, e, C, _, _, rfl, ec, by decide +kernel, er, rfl, (by show 1 ≤ sizeLine; decide), fun p np => ?_⟩
      exact q _ p upd_same (sm.trans (same_upd np))
    · have sm : Same H H := fun _ _ z => z
      refine ⟨_, rfl, (by show 4 ≤ sizeLine; decide), fun q0 n0 => ⟨q0, _, rfl, .inr (SqT.of upd_same), rfl, rfl, _, rfl, ite_f (by decide +kernel) ?_⟩⟩
      replace sm := sm.trans (same_upd (o := .tup [.int 0, .int 3, .int 8, .int 9]) n0)
      replace er := er.same (same_upd (o := .tup [.int 0, .int 3, .int 8, .int 9]) n0)
      refine ⟨_, rfl, (by show 4 ≤ sizeLine; decide), fun q1 n1 => ⟨q1, _, rfl, .inr (SqT.of upd_same), rfl, rfl, _, rfl, ite_f (by decide +kernel) ?_⟩⟩
      replace sm := sm.trans (same_upd (o := .tup [.int 1, .int 6, .int 7, .int 10]) n1)
      replace er := er.same (same_upd (o := .tup [.int 1, .int 6, .int 7, .int 10]) n1)
      refine ⟨_, rfl, (by show 2 ≤ sizeLine; decide), fun q2 n2 => ⟨q2, _, rfl, .inr (SqT.of upd_same), rfl, rfl, _, rfl, ite_f (by decide +kernel) ?_⟩⟩
      replace sm := sm.trans (same_upd (o := .tup [.int 4, .int 5]) n2)
      replace er := er.same (same_upd (o := .tup [.int 4, .int 5]) n2)
      refine ⟨_, rfl, rfl, _, rfl, ite_f (by decide +kernel) ?_⟩
      refine ⟨_, rfl, rfl, _, rfl, ite_f (by decide +kernel) ?_⟩
      refine ⟨_, rfl, rfl, _, rfl, ite_f (by decide +kernel) ?_⟩
      refine ⟨_, rfl, rfl, _, rfl, ite_f (by decide +kernel) ?_⟩
      refine ⟨_, rfl, rfl, _, rfl, ite_f (by decide +kernel) ?_⟩
      refine ⟨_, rfl, e, C, _, _, rfl, ec, by decide +kernel, er, rfl, (by show 1 ≤ sizeLine; decide), fun p np => ?_⟩
      exact q _ p upd_same (sm.trans (same_upd np))
    · have sm : Same H H := fun _ _ z => z
      refine ⟨_, rfl, (by show 4 ≤ sizeLine; decide), fun q0 n0 => ⟨q0, _, rfl, .inr (SqT.of upd_same), rfl, rfl, _, rfl, ite_f (by decide +kernel) ?_⟩⟩
      replace sm := sm.trans (same_upd (o := .tup [.int 0, .int 3, .int 8, .int 9]) n0)
      replace er := er.same (same_upd (o := .tup [.int 0, .int 3, .int 8, .int 9]) n0)
      refine ⟨_, rfl, (by show 4 ≤ sizeLine; decide), fun q1 n1 => ⟨q1, _, rfl, .inr (SqT.of upd_same), rfl, rfl, _, rfl, ite_f (by decide +kernel) ?_⟩⟩
      replace sm := sm.trans (same_upd (o := .tup [.int 1, .int 6, .int 7, .int 10]) n1)
      replace er := er.same (same_upd (o := .tup [.int 1, .int 6, .int 7, .int 10]) n1)
      refine ⟨_, rfl, (by show 2 ≤ sizeLine; decide), fun q2 n2 => ⟨q2, _, rfl, .inr (SqT.of upd_same), rfl, rfl, _, rfl, ite_f (by decide +kernel) ?_⟩⟩
      replace sm := sm.trans (same_upd (o := .tup [.int 4, .int 5]) n2)
      replace er := er.same (same_upd (o := .tup [.int 4, .int 5]) n2)
      refine ⟨_, rfl, rfl, _, rfl, ite_f (by decide +kernel) ?_⟩
      refine ⟨_, rfl, rfl, _, rfl, ite_f (by decide +kernel) ?_⟩
      refine ⟨_, rfl, rfl, _, rfl, ite_f (by decide +kernel) ?_⟩
      refine ⟨_, rfl, rfl, _, rfl, ite_f (by decide +kernel) ?_⟩
      refine ⟨_, rfl, rfl, _, rfl, ite_f (by decide +kernel) ?_⟩
      refine ⟨_, rfl, e, C, _, _, rfl, ec, by decide +kernel, er, rfl, (by show 1 ≤ sizeLine; decide), fun p np => ?_⟩
      exact q _ p upd_same (sm.trans (same_upd np))
    · have sm : Same H H := fun _ _ z => z
      refine ⟨_, rfl, (by show 4 ≤ sizeLine; decide), fun q0 n0 => ⟨q0, _, rfl, .inr (SqT.of upd_same), rfl, rfl, _, rfl, ite_f (by decide +kernel) ?_⟩⟩
      replace sm := sm.trans (same_upd (o := .tup [.int 0, .int 3, .int 8, .int 9]) n0)
      replace er := er.same (same_upd (o := .tup [.int 0, .int 3, .int 8, .int 9]) n0)
      refine ⟨_, rfl, (by show 4 ≤ sizeLine; decide), fun q1 n1 => ⟨q1, _, rfl, .inr (SqT.of upd_same), rfl, rfl, _, rfl, ite_f (by decide +kernel) ?_⟩⟩
      replace sm := sm.trans (same_upd (o := .tup [.int 1, .int 6, .int 7, .int 10]) n1)
      replace er := er.same (same_upd (o := .tup [.int 1, .int 6, .int 7, .int 10]) n1)
      refine ⟨_, rfl, (by show 2 ≤ sizeLine; decide), fun q2 n2 => ⟨q2, _, rfl, .inr (SqT.of upd_same), rfl, rfl, _, rfl, ite_f (by decide +kernel) ?_⟩⟩
      replace sm := sm.trans (same_upd (o := .tup [.int 4, .int 5]) n2)
      replace er := er.same (same_upd (o := .tup [.int 4, .int 5]) n2)
      refine ⟨_, rfl, rfl, _, rfl, ite_f (by decide +kernel) ?_⟩
      refine ⟨_, rfl, rfl, _, rfl, ite_f (by decide +kernel) ?_⟩
      refine ⟨_, rfl, rfl, _, rfl, ite_f (by decide +kernel) ?_⟩
      refine ⟨_, rfl, rfl, _, rfl, ite_f (by decide +kernel) ?_⟩
      refine ⟨_, rfl, rfl, _, rfl, ite_f (by decide +kernel) ?_⟩
      refine ⟨_, rfl, e, C, _, _, rfl, ec, by decide +kernel, er, rfl, (by show 1 ≤ sizeLine; decide), fun p np => ?_⟩
      exact q _ p upd_same (sm.trans (same_upd np))
    · have sm : Same H H := fun _ _ z => z
      refine ⟨_, rfl, (by show 4 ≤ sizeLine; decide), fun q0 n0 => ⟨q0, _, rfl, .inr (SqT.of upd_same), rfl, rfl, _, rfl, ite_f (by decide +kernel) ?_⟩⟩
      replace sm := sm.trans (same_upd (o := .tup [.int 0, .int 3, .int 8, .int 9]) n0)
      replace er := er.same (same_upd (o := .tup [.int 0, .int 3, .int 8, .int 9]) n0)
      refine ⟨_, rfl, (by show 4 ≤ sizeLine; decide), fun q1 n1 => ⟨q1, _, rfl, .inr (SqT.of upd_same), rfl, rfl, _, rfl, ite_f (by decide +kernel) ?_⟩⟩
      replace sm := sm.trans (same_upd (o := .tup [.int 1, .int 6, .int 7, .int 10]) n1)
      replace er := er.same (same_upd (o := .tup [.int 1, .int 6, .int 7, .int 10]) n1)
      refine ⟨_, rfl, (by show 2 ≤ sizeLine; decide), fun q2 n2 => ⟨q2, _, rfl, .inr (SqT.of upd_same), rfl, rfl, _, rfl, ite_f (by decide +kernel) ?_⟩⟩
      replace sm := sm.trans (same_upd (o := .tup [.int 4, .int 5]) n2)
      replace er := er.same (same_upd (o := .tup [.int 4, .int 5]) n2)
      refine ⟨_, rfl, rfl, _, rfl, ite_f (by decide +kernel) ?_⟩
      refine ⟨_, rfl, rfl, _, rfl, ite_f (by decide +kernel) ?_⟩
      refine ⟨_, rfl, rfl, _, rfl, ite_f (by decide +kernel) ?_⟩
      refine ⟨_, rfl, rfl, _, rfl, ite_f (by decide +kernel) ?_⟩
      refine ⟨_, rfl, rfl, _, rfl, ite_f (by decide +kernel) ?_⟩
      refine ⟨_, rfl, e, C, _, _, rfl, ec, by decide +kernel, er, rfl, (by show 1 ≤ sizeLine; decide), fun p np => ?_⟩
      exact q _ p upd_same (sm.trans (same_upd np))
    · have sm : Same H H := fun _ _ z => z
      refine ⟨_, rfl, (by show 4 ≤ sizeLine; decide), fun q0 n0 => ⟨q0, _, rfl, .inr (SqT.of upd_same), rfl, rfl, _, rfl, ite_f (by decide +kernel) ?_⟩⟩
      replace sm := sm.trans (same_upd (o := .tup [.int 0, .int 3, .int 8, .int 9]) n0)
      replace er := er.same (same_upd (o := .tup [.int 0, .int 3, .int 8, .int 9]) n0)
      refine ⟨_, rfl, (by show 4 ≤ sizeLine; decide), fun q1 n1 => ⟨q1, _, rfl, .inr (SqT.of upd_same), rfl, rfl, _, rfl, ite_f (by decide +kernel) ?_⟩⟩
      replace sm := sm.trans (same_upd (o := .tup [.int 1, .int 6, .int 7, .int 10]) n1)
      replace er := er.same (same_upd (o := .tup [.int 1, .int 6, .int 7, .int 10]) n1)
      refine ⟨_, rfl, (by show 2 ≤ sizeLine; decide), fun q2 n2 => ⟨q2, _, rfl, .inr (SqT.of upd_same), rfl, rfl, _, rfl, ite_f (by decide +kernel) ?_⟩⟩
      replace sm := sm.trans (same_upd (o := .tup [.int 4, .int 5]) n2)
      replace er := er.same (same_upd (o := .tup [.int 4, .int 5]) n2)
      refine ⟨_, rfl, rfl, _, rfl, ite_f (by decide +kernel) ?_⟩
      refine ⟨_, rfl, rfl, _, rfl, ite_f (by decide +kernel) ?_⟩
      refine ⟨_, rfl, rfl, _, rfl, ite_f (by decide +kernel) ?_⟩
      refine ⟨_, rfl, rfl, _, rfl, ite_f (by decide +kernel) ?_⟩
      refine ⟨_, rfl, rfl, _, rfl, ite_f (by decide +kernel) ?_⟩
      refine ⟨_, rfl, e, C, _, _, rfl, ec, by decide +kernel, er, rfl, (by show 1 ≤ sizeLine; decide), fun p np => ?_⟩
      exact q _ p upd_same (sm.trans (same_upd np))
    · have sm : Same H H := fun _ _ z => z
      refine ⟨_, rfl, (by show 4 ≤ sizeLine; decide), fun q0 n0 => ⟨q0, _, rfl, .inr (SqT.of upd_same), rfl, rfl, _, rfl, ite_f (by decide +kernel) ?_⟩⟩
      replace sm := sm.trans (same_upd (o := .tup [.int 0, .int 3, .int 8, .int 9]) n0)
      replace er := er.same (same_upd (o := .tup [.int 0, .int 3, .int 8, .int 9]) n0)
      refine ⟨_, rfl, (by show 4 ≤ sizeLine; decide), fun q1 n1 => ⟨q1, _, rfl, .inr (SqT.of upd_same), rfl, rfl, _, rfl, ite_f (by decide +kernel) ?_⟩⟩
      replace sm := sm.trans (same_upd (o := .tup [.int 1, .int 6, .int 7, .int 10]) n1)
      replace er := er.same (same_upd (o := .tup [.int 1, .int 6, .int 7, .int 10]) n1)
      refine ⟨_, rfl, (by show 2 ≤ sizeLine; decide), fun q2 n2 => ⟨q2, _, rfl, .inr (SqT.of upd_same), rfl, rfl, _, rfl, ite_f (by decide +kernel) ?_⟩⟩
      replace sm := sm.trans (same_upd (o := .tup [.int 4, .int 5]) n2)
      replace er := er.same (same_upd (o := .tup [.int 4, .int 5]) n2)
      refine ⟨_, rfl, rfl, _, rfl, ite_f (by decide +kernel) ?_⟩
      refine ⟨_, rfl, rfl, _, rfl, ite_f (by decide +kernel) ?_⟩
      refine ⟨_, rfl, rfl, _, rfl, ite_f (by decide +kernel) ?_⟩
      refine ⟨_, rfl, rfl, _, rfl, ite_f (by decide +kernel) ?_⟩
      refine ⟨_, rfl, rfl, _, rfl, ite_f (by decide +kernel) ?_⟩
      refine ⟨_, rfl, e, C, _, _, rfl, ec, by decide +kernel, er, rfl, (by show 1 ≤ sizeLine; decide), fun p np => ?_⟩
      exact q _ p upd_same (sm.trans (same_upd np))
    · have sm : Same H H := fun _ _ z => z
      refine ⟨_, rfl, (by show 4 ≤ sizeLine; decide), fun q0 n0 => ⟨q0, _, rfl, .inr (SqT.of upd_same), rfl, rfl, _, rfl, ite_f (by decide +kernel) ?_⟩⟩
      replace sm := sm.trans (same_upd (o := .tup [.int 0, .int 3, .int 8, .int 9]) n0)
      replace er := er.same (same_upd (o := .tup [.int 0, .int 3, .int 8, .int 9]) n0)
      refine ⟨_, rfl, (by show 4 ≤ sizeLine; decide), fun q1 n1 => ⟨q1, _, rfl, .inr (SqT.of upd_same), rfl, rfl, _, rfl, ite_f (by decide +kernel) ?_⟩⟩
      replace sm := sm.trans (same_upd (o := .tup [.int 1, .int 6, .int 7, .int 10]) n1)
      replace er := er.same (same_upd (o := .tup [.int 1, .int 6, .int 7, .int 10]) n1)
      refine ⟨_, rfl, (by show 2 ≤ sizeLine; decide), fun q2 n2 => ⟨q2, _, rfl, .inr (SqT.of upd_same), rfl, rfl, _, rfl, ite_f (by decide +kernel) ?_⟩⟩
      replace sm := sm.trans (same_upd (o := .tup [.int 4, .int 5]) n2)
      replace er := er.same (same_upd (o := .tup [.int 4, .int 5]) n2)
      refine ⟨_, rfl, rfl, _, rfl, ite_f (by decide +kernel) ?_⟩
      refine ⟨_, rfl, rfl, _, rfl, ite_f (by decide +kernel) ?_⟩
      refine ⟨_, rfl, rfl, _, rfl, ite_f (by decide +kernel) ?_⟩
      refine ⟨_, rfl, rfl, _, rfl, ite_f (by decide +kernel) ?_⟩
      refine ⟨_, rfl, rfl, _, rfl, ite_f (by decide +kernel) ?_⟩
      refine ⟨_, rfl, e, C, _, _, rfl, ec, by decide +kernel, er, rfl, (by show 1 ≤ sizeLine; decide), fun p np => ?_⟩
      exact q _ p upd_same (sm.trans (same_upd np))
    · have sm : Same H H := fun _ _ z => z
      refine ⟨_, rfl, (by show 4 ≤ sizeLine; decide), fun q0 n0 => ⟨q0, _, rfl, .inr (SqT.of upd_same), rfl, rfl, _, rfl, ite_f (by decide +kernel) ?_⟩⟩
      replace sm := sm.trans (same_upd (o := .tup [.int 0, .int 3, .int 8, .int 9]) n0)
      replace er := er.same (same_upd (o := .tup [.int 0, .int 3, .int 8, .int 9]) n0)
      refine ⟨_, rfl, (by show 4 ≤ sizeLine; decide), fun q1 n1 => ⟨q1, _, rfl, .inr (SqT.of upd_same), rfl, rfl, _, rfl, ite_f (by decide +kernel) ?_⟩⟩
      replace sm := sm.trans (same_upd (o := .tup [.int 1, .int 6, .int 7, .int 10]) n1)
      replace er := er.same (same_upd (o := .tup [.int 1, .int 6, .int 7, .int 10]) n1)
      refine ⟨_, rfl, (by show 2 ≤ sizeLine; decide), fun q2 n2 => ⟨q2, _, rfl, .inr (SqT.of upd_same), rfl, rfl, _, rfl, ite_f (by decide +kernel) ?_⟩⟩
      replace sm := sm.trans (same_upd (o := .tup [.int 4, .int 5]) n2)
      replace er := er.same (same_upd (o := .tup [.int 4, .int 5]) n2)
      refine ⟨_, rfl, rfl, _, rfl, ite_f (by decide +kernel) ?_⟩
      refine ⟨_, rfl, rfl, _, rfl, ite_f (by decide +kernel) ?_⟩
      refine ⟨_, rfl, rfl, _, rfl, ite_f (by decide +kernel) ?_⟩
      refine ⟨_, rfl, rfl, _, rfl, ite_f (by decide +kernel) ?_⟩
      refine ⟨_, rfl, rfl, _, rfl, ite_f (by decide +kernel) ?_⟩
      refine ⟨_, rfl, e, C, _, _, rfl, ec, by decide +kernel, er, rfl, (by show 1 ≤ sizeLine; decide), fun p np => ?_⟩
      exact q _ p upd_same (sm.trans (same_upd np))
    · have sm : Same H H := fun _ _ z => z
      refine ⟨_, rfl, (by show 4 ≤ sizeLine; decide), fun q0 n0 => ⟨q0, _, rfl, .inr (SqT.of upd_same), rfl, rfl, _, rfl, ite_f (by decide +kernel) ?_⟩⟩
      replace sm := sm.trans (same_upd (o := .tup [.int 0, .int 3, .int 8, .int 9]) n0)
      replace er := er.same (same_upd (o := .tup [.int 0, .int 3, .int 8, .int 9]) n0)
      refine ⟨_, rfl, (by show 4 ≤ sizeLine; decide), fun q1 n1 => ⟨q1, _, rfl, .inr (SqT.of upd_same), rfl, rfl, _, rfl, ite_f (by decide +kernel) ?_⟩⟩
      replace sm := sm.trans (same_upd (o := .tup [.int 1, .int 6, .int 7, .int 10]) n1)
      replace er := er.same (same_upd (o := .tup [.int 1, .int 6, .int 7, .int 10]) n1)
      refine ⟨_, rfl, (by show 2 ≤ sizeLine; decide), fun q2 n2 => ⟨q2, _, rfl, .inr (SqT.of upd_same), rfl, rfl, _, rfl, ite_f (by decide +kernel) ?_⟩⟩
      replace sm := sm.trans (same_upd (o := .tup [.int 4, .int 5]) n2)
      replace er := er.same (same_upd (o := .tup [.int 4, .int 5]) n2)
      refine ⟨_, rfl, rfl, _, rfl, ite_f (by decide +kernel) ?_⟩
      refine ⟨_, rfl, rfl, _, rfl, ite_f (by decide +kernel) ?_⟩
      refine ⟨_, rfl, rfl, _, rfl, ite_f (by decide +kernel) ?_⟩
      refine ⟨_, rfl, rfl, _, rfl, ite_f (by decide +kernel) ?_⟩
      refine ⟨_, rfl, rfl, _, rfl, ite_f (by decide +kernel) ?_⟩
      refine ⟨_, rfl, e, C, _, _, rfl, ec, by decide +kernel, er, rfl, (by show 1 ≤ sizeLine; decide), fun p np => ?_⟩
      exact q _ p upd_same (sm.trans (same_upd np))
    · have sm : Same H H := fun _ _ z => z
      refine ⟨_, rfl, (by show 4 ≤ sizeLine; decide), fun q0 n0 => ⟨q0, _, rfl, .inr (SqT.of upd_same), rfl, rfl, _, rfl, ite_f (by decide +kernel) ?_⟩⟩
      replace sm := sm.trans (same_upd (o := .tup [.int 0, .int 3, .int 8, .int 9]) n0)
      replace er := er.same (same_upd (o := .tup [.int 0, .int 3, .int 8, .int 9]) n0)
      refine ⟨_, rfl, (by show 4 ≤ sizeLine; decide), fun q1 n1 => ⟨q1, _, rfl, .inr (SqT.of upd_same), rfl, rfl, _, rfl, ite_f (by decide +kernel) ?_⟩⟩
      replace sm := sm.trans (same_upd (o := .tup [.int 1, .int 6, .int 7, .int 10]) n1)
      replace er := er.same (same_upd (o := .tup [.int 1, .int 6, .int 7, .int 10]) n1)
      refine ⟨_, rfl, (by show 2 ≤ sizeLine; decide), fun q2 n2 => ⟨q2, _, rfl, .inr (SqT.of upd_same), rfl, rfl, _, rfl, ite_f (by decide +kernel) ?_⟩⟩
      replace sm := sm.trans (same_upd (o := .tup [.int 4, .int 5]) n2)
      replace er := er.same (same_upd (o := .tup [.int 4, .int 5]) n2)
      refine ⟨_, rfl, rfl, _, rfl, ite_f (by decide +kernel) ?_⟩
      refine ⟨_, rfl, rfl, _, rfl, ite_f (by decide +kernel) ?_⟩
      refine ⟨_, rfl, rfl, _, rfl, ite_f (by decide +kernel) ?_⟩
      refine ⟨_, rfl, rfl, _, rfl, ite_f (by decide +kernel) ?_⟩
      refine ⟨_, rfl, rfl, _, rfl, ite_f (by decide +kernel) ?_⟩
      refine ⟨_, rfl, e, C, _, _, rfl, ec, by decide +kernel, er, rfl, (by show 1 ≤ sizeLine; decide), fun p np => ?_⟩
      exact q _ p upd_same (sm.trans (same_upd np))
    · have sm : Same H H := fun _ _ z => z
      refine ⟨_, rfl, (by show 4 ≤ sizeLine; decide), fun q0 n0 => ⟨q0, _, rfl, .inr (SqT.of upd_same), rfl, rfl, _, rfl, ite_f (by decide +kernel) ?_⟩⟩
      replace sm := sm.trans (same_upd (o := .tup [.int 0, .int 3, .int 8, .int 9]) n0)
      replace er := er.same (same_upd (o := .tup [.int 0, .int 3, .int 8, .int 9]) n0)
      refine ⟨_, rfl, (by show 4 ≤ sizeLine; decide), fun q1 n1 => ⟨q1, _, rfl, .inr (SqT.of upd_same), rfl, rfl, _, rfl, ite_f (by decide +kernel) ?_⟩⟩
      replace sm := sm.trans (same_upd (o := .tup [.int 1, .int 6, .int 7, .int 10]) n1)
      replace er := er.same (same_upd (o := .tup [.int 1, .int 6, .int 7, .int 10]) n1)
      refine ⟨_, rfl, (by show 2 ≤ sizeLine; decide), fun q2 n2 => ⟨q2, _, rfl, .inr (SqT.of upd_same), rfl, rfl, _, rfl, ite_f (by decide +kernel) ?_⟩⟩
      replace sm := sm.trans (same_upd (o := .tup [.int 4, .int 5]) n2)
      replace er := er.same (same_upd (o := .tup [.int 4, .int 5]) n2)
      refine ⟨_, rfl, rfl, _, rfl, ite_f (by decide +kernel) ?_⟩
      refine ⟨_, rfl, rfl, _, rfl, ite_f (by decide +kernel) ?_⟩
      refine ⟨_, rfl, rfl, _, rfl, ite_f (by decide +kernel) ?_⟩
      refine ⟨_, rfl, rfl, _, rfl, ite_f (by decide +kernel) ?_⟩
      refine ⟨_, rfl, rfl, _, rfl, ite_f (by decide +kernel) ?_⟩
      refine ⟨_, rfl, e, C, _, _, rfl, ec, by decide +kernel, er, rfl, (by show 1 ≤ sizeLine; decide), fun p np => ?_⟩
      exact q _ p upd_same (sm.trans (same_upd np))
    · have sm : Same H H := fun _ _ z => z
      refine ⟨_, rfl, (by show 4 ≤ sizeLine; decide), fun q0 n0 => ⟨q0, _, rfl, .inr (SqT.of upd_same), rfl, rfl, _, rfl, ite_f (by decide +kernel) ?_⟩⟩
      replace sm := sm.trans (same_upd (o := .tup [.int 0, .int 3, .int 8, .int 9]) n0)
      replace er := er.same (same_upd (o := .tup [.int 0, .int 3, .int 8, .int 9]) n0)
      refine ⟨_, rfl, (by show 4 ≤ sizeLine; decide), fun q1 n1 => ⟨q1, _, rfl, .inr (SqT.of upd_same), rfl, rfl, _, rfl, ite_f (by decide +kernel) ?_⟩⟩
      replace sm := sm.trans (same_upd (o := .tup [.int 1, .int 6, .int 7, .int 10]) n1)
      replace er := er.same (same_upd (o := .tup [.int 1, .int 6, .int 7, .int 10]) n1)
      refine ⟨_, rfl, (by show 2 ≤ sizeLine; decide), fun q2 n2 => ⟨q2, _, rfl, .inr (SqT.of upd_same), rfl, rfl, _, rfl, ite_f (by decide +kernel) ?_⟩⟩
      replace sm := sm.trans (same_upd (o := .tup [.int 4, .int 5]) n2)
      replace er := er.same (same_upd (o := .tup [.int 4, .int 5]) n2)
      refine ⟨_, rfl, rfl, _, rfl, ite_f (by decide +kernel) ?_⟩
      refine ⟨_, rfl, rfl, _, rfl, ite_f (by decide +kernel) ?_⟩
      refine ⟨_, rfl, rfl, _, rfl, ite_f (by decide +kernel) ?_⟩
      refine ⟨_, rfl, rfl, _, rfl, ite_f (by decide +kernel) ?_⟩
      refine ⟨_, rfl, rfl, _, rfl, ite_f (by decide +kernel) ?_⟩
      refine ⟨_, rfl, e, C, _, _, rfl, ec, by decide +kernel, er, rfl, (by show 1 ≤ sizeLine; decide), fun p np => ?_⟩
      exact q _ p upd_same (sm.trans (same_upd np))
    · have sm : Same H H := fun _ _ z => z
      refine ⟨_, rfl, (by show 4 ≤ sizeLine; decide), fun q0 n0 => ⟨q0, _, rfl, .inr (SqT.of upd_same), rfl, rfl, _, rfl, ite_f (by decide +kernel) ?_⟩⟩
      replace sm := sm.trans (same_upd (o := .tup [.int 0, .int 3, .int 8, .int 9]) n0)
      replace er := er.same (same_upd (o := .tup [.int 0, .int 3, .int 8, .int 9]) n0)
      refine ⟨_, rfl, (by show 4 ≤ sizeLine; decide), fun q1 n1 => ⟨q1, _, rfl, .inr (SqT.of upd_same), rfl, rfl, _, rfl, ite_f (by decide +kernel) ?_⟩⟩
      replace sm := sm.trans (same_upd (o := .tup [.int 1, .int 6, .int 7, .int 10]) n1)
      replace er := er.same (same_upd (o := .tup [.int 1, .int 6, .int 7, .int 10]) n1)
      refine ⟨_, rfl, (by show 2 ≤ sizeLine; decide), fun q2 n2 => ⟨q2, _, rfl, .inr (SqT.of upd_same), rfl, rfl, _, rfl, ite_f (by decide +kernel) ?_⟩⟩
      replace sm := sm.trans (same_upd (o := .tup [.int 4, .int 5]) n2)
      replace er := er.same (same_upd (o := .tup [.int 4, .int 5]) n2)
      refine ⟨_, rfl, rfl, _, rfl, ite_f (by decide +kernel) ?_⟩
      refine ⟨_, rfl, rfl, _, rfl, ite_f (by decide +kernel) ?_⟩
      refine ⟨_, rfl, rfl, _, rfl, ite_f (by decide +kernel) ?_⟩
      refine ⟨_, rfl, rfl, _, rfl, ite_f (by decide +kernel) ?_⟩
      refine ⟨_, rfl, rfl, _, rfl, ite_f (by decide +kernel) ?_⟩
      refine ⟨_, rfl, e, C, _, _, rfl, ec, by decide +kernel, er, rfl, (by show 1 ≤ sizeLine; decide), fun p np => ?_⟩
      exact q _ p upd_same (sm.trans (same_upd np))
    · have sm : Same H H := fun _ _ z => z
      refine ⟨_, rfl, (by show 4 ≤ sizeLine; decide), fun q0 n0 => ⟨q0, _, rfl, .inr (SqT.of upd_same), rfl, rfl, _, rfl, ite_f (by decide +kernel) ?_⟩⟩
      replace sm := sm.trans (same_upd (o := .tup [.int 0, .int 3, .int 8, .int 9]) n0)
      replace er := er.same (same_upd (o := .tup [.int 0, .int 3, .int 8, .int 9]) n0)
      refine ⟨_, rfl, (by show 4 ≤ sizeLine; decide), fun q1 n1 => ⟨q1, _, rfl, .inr (SqT.of upd_same), rfl, rfl, _, rfl, ite_f (by decide +kernel) ?_⟩⟩
      replace sm := sm.trans (same_upd (o := .tup [.int 1, .int 6, .int 7, .int 10]) n1)
      replace er := er.same (same_upd (o := .tup [.int 1, .int 6, .int 7, .int 10]) n1)
      refine ⟨_, rfl, (by show 2 ≤ sizeLine; decide), fun q2 n2 => ⟨q2, _, rfl, .inr (SqT.of upd_same), rfl, rfl, _, rfl, ite_f (by decide +kernel) ?_⟩⟩
      replace sm := sm.trans (same_upd (o := .tup [.int 4, .int 5]) n2)
      replace er := er.same (same_upd (o := .tup [.int 4, .int 5]) n2)
      refine ⟨_, rfl, rfl, _, rfl, ite_f (by decide +kernel) ?_⟩
      refine ⟨_, rfl, rfl, _, rfl, ite_f (by decide +kernel) ?_⟩
      refine ⟨_, rfl, rfl, _, rfl, ite_t (by decide +kernel) ?_⟩
      refine ⟨_, rfl, e, C, _, _, rfl, ec, by decide +kernel, er, rfl, _, rfl, e, C, _, _, rfl, ec, by decide +kernel, er, rfl, _, rfl, e, C, _, _, rfl, ec, by decide +kernel, er, rfl, (by show 3 ≤ sizeLine; decide), fun p np => ?_⟩
      exact q _ p upd_same (sm.trans (same_upd np))
    · have sm : Same H H := fun _ _ z => z
      refine ⟨_, rfl, (by show 4 ≤ sizeLine; decide), fun q0 n0 => ⟨q0, _, rfl, .inr (SqT.of upd_same), rfl, rfl, _, rfl, ite_f (by decide +kernel) ?_⟩⟩
      replace sm := sm.trans (same_upd (o := .tup [.int 0, .int 3, .int 8, .int 9]) n0)
      replace er := er.same (same_upd (o := .tup [.int 0, .int 3, .int 8, .int 9]) n0)
      refine ⟨_, rfl, (by show 4 ≤ sizeLine; decide), fun q1 n1 => ⟨q1, _, rfl, .inr (SqT.of upd_same), rfl, rfl, _, rfl, ite_f (by decide +kernel) ?_⟩⟩
      replace sm := sm.trans (same_upd (o := .tup [.int 1, .int 6, .int 7, .int 10]) n1)
      replace er := er.same (same_upd (o := .tup [.int 1, .int 6, .int 7, .int 10]) n1)
      refine ⟨_, rfl, (by show 2 ≤ sizeLine; decide), fun q2 n2 => ⟨q2, _, rfl, .inr (SqT.of upd_same), rfl, rfl, _, rfl, ite_f (by decide +kernel) ?_⟩⟩
      replace sm := sm.trans (same_upd (o := .tup [.int 4, .int 5]) n2)
      replace er := er.same (same_upd (o := .tup [.int 4, .int 5]) n2)
      refine ⟨_, rfl, rfl, _, rfl, ite_f (by decide +kernel) ?_⟩
      refine ⟨_, rfl, rfl, _, rfl, ite_f (by decide +kernel) ?_⟩
      refine ⟨_, rfl, rfl, _, rfl, ite_f (by decide +kernel) ?_⟩
      refine ⟨_, rfl, rfl, _, rfl, ite_t (by decide +kernel) ?_⟩
      refine ⟨_, rfl, e, C, _, _, rfl, ec, by decide +kernel, er, rfl, _, rfl, e, C, _, _, rfl, ec, by decide +kernel, er, rfl, (by show 2 ≤ sizeLine; decide), fun p np => ?_⟩
      exact q _ p upd_same (sm.trans (same_upd np))
    · have sm : Same H H := fun _ _ z => z
      refine ⟨_, rfl, (by show 4 ≤ sizeLine; decide), fun q0 n0 => ⟨q0, _, rfl, .inr (SqT.of upd_same), rfl, rfl, _, rfl, ite_f (by decide +kernel) ?_⟩⟩
      replace sm := sm.trans (same_upd (o := .tup [.int 0, .int 3, .int 8, .int 9]) n0)
      replace er := er.same (same_upd (o := .tup [.int 0, .int 3, .int 8, .int 9]) n0)
      refine ⟨_, rfl, (by show 4 ≤ sizeLine; decide), fun q1 n1 => ⟨q1, _, rfl, .inr (SqT.of upd_same), rfl, rfl, _, rfl, ite_f (by decide +kernel) ?_⟩⟩
      replace sm := sm.trans (same_upd (o := .tup [.int 1, .int 6, .int 7, .int 10]) n1)
      replace er := er.same (same_upd (o := .tup [.int 1, .int 6, .int 7, .int 10]) n1)
      refine ⟨_, rfl, (by show 2 ≤ sizeLine; decide), fun q2 n2 => ⟨q2, _, rfl, .inr (SqT.of upd_same), rfl, rfl, _, rfl, ite_f (by decide +kernel) ?_⟩⟩
      replace sm := sm.trans (same_upd (o := .tup [.int 4, .int 5]) n2)
      replace er := er.same (same_upd (o := .tup [.int 4, .int 5]) n2)
      refine ⟨_, rfl, rfl, _, rfl, ite_f (by decide +kernel) ?_⟩
      refine ⟨_, rfl, rfl, _, rfl, ite_f (by decide +kernel) ?_⟩
      refine ⟨_, rfl, rfl, _, rfl, ite_f (by decide +kernel) ?_⟩
      refine ⟨_, rfl, rfl, _, rfl, ite_f (by decide +kernel) ?_⟩
      refine ⟨_, rfl, rfl, _, rfl, ite_t (by decide +kernel) ?_⟩
      refine ⟨_, rfl, e, C, _, _, rfl, ec, by decide +kernel, er, rfl, _, rfl, e, C, _, _, rfl, ec, by decide +kernel, er, rfl, (by show 2 ≤ sizeLine; decide), fun p np => ?_⟩
      exact q _ p upd_same (sm.trans (same_upd np))

/-! def law -/
def sp_law (K : PySem.W.Frag) : Sp := fun vs H Q _ => ∃ (a : Addr) (ns : List Int), vs = [.ref a] ∧ SqL K H a (ns.map V.int) ∧ ns.length ≤ 63 ∧ ∀ H', Q (.bl true) H'
theorem ok_law (T : Txt K w mg A) : TopFn P w K mg base 5 A.law.f (sp_law K) := by
  have G_l_attributes : FnOk P w K mg base CX0 1 A.l_attributes.f A.l_attributes.fd ["k", "e"] (sp_l_attributes K) := ok_l_attributes T
  have G_l_classes : FnOk P w K mg base CX0 1 A.l_classes.f A.l_classes.fd ["e"] (sp_l_classes K) := ok_l_classes T
  have G_l_draw : FnOk P w K mg base CX0 1 A.l_draw.f A.l_draw.fd ["tape", "many"] (sp_l_draw K) := ok_l_draw T
  have G_l_made : FnOk P w K mg base CX0 4 A.l_made.f A.l_made.fd ["word", "at", "low", "high"] (sp_l_made K) := ok_l_made T
  have G_l_name : FnOk P w K mg base CX0 2 A.l_name.f A.l_name.fd ["tape", "used"] (sp_l_name K) := ok_l_name T
  have G_l_tape : FnOk P w K mg base CX0 1 A.l_tape.f A.l_tape.fd ["script"] (sp_l_tape K) := ok_l_tape T
  refine top_fn T.F_law sc_law T.b_law (fun vs H Q h => ?_) (fun cdv s H vs Q hr h => ?_)
  · obtain ⟨a, ns, rfl, _⟩ := h; rfl
  · obtain ⟨a, ns, rfl, hS, hlen, k⟩ := h
    refine ⟨_, (pss_cons (ps_set (i := 1) sc_law.nd rfl (.inl rfl) (pe_call G_l_tape (hr.mono (by decide)) (by rfl) T.g_l_tape T.F_l_tape.kp T.b_l_tape .nil pass0 (pa_cons (pv 0) pa_nil)))
        (pss_cons (ps_set (i := 2) sc_law.nd rfl (.inl rfl) (pe_ix ix_list (pe_lst (pa_cons pe_str (pa_cons pe_str (pa_cons pe_str (pa_cons pe_str (pa_cons pe_str (pa_cons (pe_call G_l_name (hr.mono (by decide)) (by rfl) T.g_l_name T.F_l_name.kp T.b_l_name .nil pass0 (pa_cons (pv 1) (pa_cons (pe_lst pa_nil) pa_nil))) pa_nil))))))) (pe_call G_l_draw (hr.mono (by decide)) (by rfl) T.g_l_draw T.F_l_draw.kp T.b_l_draw .nil pass0 (pa_cons (pv 1) (pa_cons pe_int pa_nil))) (fun _ _ => rfl)))
        (pss_cons (ps_set (i := 3) sc_law.nd rfl (.inr rfl) (pe_call G_l_draw (hr.mono (by decide)) (by rfl) T.g_l_draw T.F_l_draw.kp T.b_l_draw .nil pass0 (pa_cons (pv 1) (pa_cons pe_int pa_nil))))
        (pss_cons (ps_set (i := 4) sc_law.nd rfl (.inl rfl) (pe_op op_sub (pe_call G_l_draw (hr.mono (by decide)) (by rfl) T.g_l_draw T.F_l_draw.kp T.b_l_draw .nil pass0 (pa_cons (pv 1) (pa_cons pe_int pa_nil))) pe_int))
        (pss_cons (ps_set (i := 5) sc_law.nd rfl (.inl rfl) (pe_op op_add (pv 4) (pe_call G_l_draw (hr.mono (by decide)) (by rfl) T.g_l_draw T.F_l_draw.kp T.b_l_draw .nil pass0 (pa_cons (pv 1) (pa_cons pe_int pa_nil)))))
        (pss_cons (ps_set (i := 6) sc_law.nd rfl (.inl rfl) (pe_call G_l_made (hr.mono (by decide)) (by rfl) T.g_l_made T.F_l_made.kp T.b_l_made .nil pass0 (pa_cons (pv 2) (pa_cons (pv 3) (pa_cons (pv 4) (pa_cons (pv 5) pa_nil))))))
        (C8.pss_cut (ps_set (i := 7) sc_law.nd rfl (.inl rfl) (pe_op op_cat (pe_lst (pa_cons (pe_tup pa_nil) (pa_cons (pe_tup (pa_cons (pv 2) pa_nil)) (pa_cons (pe_tup (pa_cons (pv 3) pa_nil)) (pa_cons (pe_tup pa_nil) (pa_cons (pe_tup (pa_cons (pv 2) pa_nil)) (pa_cons (pe_tup (pa_cons (pv 2) pa_nil)) (pa_cons (pe_tup (pa_cons (pv 2) pa_nil)) (pa_cons (pe_tup (pa_cons (pv 2) pa_nil)) (pa_cons (pe_tup pa_nil) (pa_cons (pe_tup pa_nil) (pa_cons (pe_tup (pa_cons (pv 2) pa_nil)) (pa_cons (pe_tup (pa_cons (pv 2) (pa_cons (pv 3) pa_nil))) pa_nil))))))))))))) (pe_lc (own := [("k", 8)]) (g := (gName 8)) (tt := tYes) (by rfl) sc_law.nd (pi_range1 rfl T.n_range (pa_cons pe_int pa_nil)) (blkOk_by (own := [("k", 8)]) (N := ["script", "tape", "word", "at", "low", "high", "made", "due", "k", "j"]) (sc := defScope s_law) (by decide +kernel)) (fun _ _ _ _ _ => pg_name (i := 8) sc_law.nd rfl (Or.inl rfl)) (fun _ _ _ _ _ => pts_nil) (fun _ _ _ _ _ => (pe_tup (pa_cons (pv 3) pa_nil))))))
        (C8.pss_cut (ps_set (i := 7) sc_law.nd rfl (.inl rfl) (pe_op op_cat (pv 7) (pe_lst (pa_cons (pe_tup (pa_cons (pv 3) (pa_cons (pv 4) (pa_cons (pv 5) pa_nil)))) (pa_cons (pe_tup (pa_cons (pv 3) (pa_cons (pv 4) pa_nil))) (pa_cons (pe_tup (pa_cons (pv 3) (pa_cons (pv 2) pa_nil))) pa_nil))))))
        (pss_cons (ps_for PassesOwn.never rfl (pi_range1 rfl T.n_range (pa_cons (pe_callB call_len_seq (by rfl) T.n_len (by decide +kernel) (pa_cons (pv 6) pa_nil)) pa_nil)) (pg_name (i := 8) sc_law.nd rfl (Or.inr rfl)) (pss_cons (ps_if (PW.pt (pw_or (pt_cmpR op_ne (pe_callB (call_repr rfl hr) (by rfl) T.n_repr (by decide +kernel) (pa_cons (pe_call G_l_attributes (hr.mono (by decide)) (by rfl) T.g_l_attributes T.F_l_attributes.kp T.b_l_attributes .nil pass0 (pa_cons (pv 8) (pa_cons (pe_ix ix_list (pv 6) (pv 8) (fun _ _ => rfl)) pa_nil))) pa_nil)) (pe_callB (call_repr rfl hr) (by rfl) T.n_repr (by decide +kernel) (pa_cons (pe_ix ix_list (pv 7) (pv 8) (fun _ _ => rfl)) pa_nil)) (nomark _)) (pw_or1 (pt_not (pt_val (pe_callB call_isErr (by rfl) T.n_isinstance (by decide +kernel) (pa_cons (pe_ix ix_list (pv 6) (pv 8) (fun _ _ => rfl)) (pa_cons (pe_bltn (v := .ty "ValueError") (by rfl) T.n_ValueError boot_ValueError rfl) pa_nil)))))))) (pss_one (ps_ret pe_bl)) pss_nil)
        (pss_one (ps_if (pt_cmpR (op_neD hr.units) (pe_call G_l_classes (hr.mono (by decide)) (by rfl) T.g_l_classes T.F_l_classes.kp T.b_l_classes .nil pass0 (pa_cons (pe_ix ix_list (pv 6) (pv 8) (fun _ _ => rfl)) pa_nil)) (pe_lc (own := [("j", 9)]) (g := (gName 9)) (tt := tYes) (by rfl) sc_law.nd (pi_range1 rfl T.n_range (pa_cons (pe_callB call_len_seq (by rfl) T.n_len (by decide +kernel) (pa_cons (pv 6) pa_nil)) pa_nil)) (blkOk_by (own := [("j", 9)]) (N := ["script", "tape", "word", "at", "low", "high", "made", "due", "k", "j"]) (sc := defScope s_law) (by decide +kernel)) (fun _ _ _ _ _ => pg_name (i := 9) sc_law.nd rfl (Or.inl rfl)) (fun _ _ _ _ _ => pts_nil) (fun _ _ _ _ _ => (pe_or (pe_cmpR op_eq (pv 9) (pv 8) (nomark _)) (pe_or (pe_cmpR op_eq (pv 9) pe_int (nomark _)) (pe_one (pe_and (pe_cmpR op_eq (pv 9) pe_int (nomark _)) (pe_one (pe_cmpR op_gt (pv 8) pe_int (nomark _))))))))) (nomark _)) (pss_one (ps_ret pe_bl)) pss_nil))))
        (pss_one (ps_ret pe_bl))))))))))), ?_⟩
    refine ⟨_, rfl, a, ns, rfl, hS, fun H1 t tq s1 ht htq hT => ?_⟩
    refine ⟨_, rfl, (by show 0 ≤ sizeLine; decide), fun u hu => ⟨t, u, tq, rfl, hT.new hu, (hT.off hu).1, (hT.off hu).2, upd_same, fun H2 z hz za hT2 hK2 => ?_⟩⟩
    refine ⟨(by show 6 ≤ sizeLine; decide), fun l hl => ⟨_, rfl, t, 6, tq, rfl, hT2.new hl, by decide, by decide, fun H3 v hv0 hv1 hT3 hK3 => ?_⟩⟩
    have hw : ∃ x : Str, atI [V.str "", V.str "a", V.str "t[3].x", V.str "reading", V.str ";", V.str z] v = some (.str x) ∧ x.length ≤ 100 ∧ Asc x := by
      rcases (show v = 0 ∨ v = 1 ∨ v = 2 ∨ v = 3 ∨ v = 4 ∨ v = 5 by omega) with rfl | rfl | rfl | rfl | rfl | rfl
      · exact ⟨_, rfl, by decide +kernel, asc_of (by decide +kernel)⟩
      · exact ⟨_, rfl, by decide +kernel, asc_of (by decide +kernel)⟩
      · exact ⟨_, rfl, by decide +kernel, asc_of (by decide +kernel)⟩
      · exact ⟨_, rfl, by decide +kernel, asc_of (by decide +kernel)⟩
      · exact ⟨_, rfl, by decide +kernel, asc_of (by decide +kernel)⟩
      · exact ⟨_, rfl, by omega, za⟩
    obtain ⟨x, hx, hxl, xa⟩ := hw
    have e3 := hK3 l _ (hT2.off hl).1 upd_same
    refine ⟨l, _, _, _, rfl, rfl, SqL.of e3, hx, ?_⟩
    have sw : Sml (.str x) := .inr ⟨x, rfl, hxl, xa⟩
    clear hx e3 hv0 hv1
    refine ⟨_, rfl, t, 3000, tq, rfl, hT3, by decide, by decide, fun H4 at_ ha0 ha1 hT4 hK4 => ?_⟩
    have sa : Sml (.int at_) := .inl ⟨at_, rfl, by omega⟩
    refine ⟨_, rfl, t, 70, tq, rfl, hT4, by decide, by decide, fun H5 lo0 hl0 hl1 hT5 hK5 => ⟨_, _, rfl, rfl, ?_⟩⟩
    have sl : Sml (.int (lo0 - 30)) := .inl ⟨_, rfl, by omega⟩
    refine ⟨_, rfl, _, rfl, t, 400, tq, rfl, hT5, by decide, by decide, fun H6 hi0 hh0 hh1 hT6 hK6 => ⟨_, _, rfl, rfl, ?_⟩⟩
    have sh : Sml (.int (lo0 - 30 + hi0)) := .inl ⟨_, rfl, by omega⟩
    dsimp only
    refine ⟨_, rfl, _, rfl, _, rfl, _, rfl, .str x, .int at_, .int (lo0 - 30), .int (lo0 - 30 + hi0), rfl, sw, sa, sl, sh, fun H7 p xs hp xl el sm => ?_⟩
    generalize V.int (lo0 - 30 + hi0) = vh at sh el ⊢
    generalize V.int (lo0 - 30) = vl at sl el ⊢
    generalize V.int at_ = va at sa el ⊢
    generalize V.str x = vw at sw el ⊢
    clear sm hT6 hK6 hT5 hK5 hT4 hK4 hT3 hK3 hT2 hK2 hT
    -- due
    refine ⟨fun σ' H' => ∃ (p2 : Addr) (ys : List V), σ' = [some (.ref a), some (.ref t), some vw, some va, some vl, some vh, some (.ref p), some (.ref p2), none, none] ∧ H' p2 = some (.lst ys) ∧ ys.length = 28 ∧ DueL H' vw va vl vh 0 ys ∧ Same H7 H', ?_, ?_⟩
    · have sm : Same H7 H7 := fun _ _ z => z
      refine ⟨(by show 0 ≤ sizeLine; decide), fun q0 n0 => ?_⟩
      have d0 : (upd H7 q0 (.tup [])) q0 = some (.tup []) := upd_same
      have s0 : Same H7 (upd H7 q0 (.tup [])) := same_upd n0
      clear n0
      generalize upd H7 q0 (.tup []) = G0 at d0 s0 ⊢
      replace sm := sm.trans s0
      refine ⟨_, rfl, (by show 1 ≤ sizeLine; decide), fun q1 n1 => ?_⟩
      have d1 : (upd G0 q1 (.tup [vw])) q1 = some (.tup [vw]) := upd_same
      have s1 : Same G0 (upd G0 q1 (.tup [vw])) := same_upd n1
      clear n1
      generalize upd G0 q1 (.tup [vw]) = G1 at d1 s1 ⊢
      replace d0 := s1 _ _ d0
      replace sm := sm.trans s1
      refine ⟨_, rfl, (by show 1 ≤ sizeLine; decide), fun q2 n2 => ?_⟩
      have d2 : (upd G1 q2 (.tup [va])) q2 = some (.tup [va]) := upd_same
      have s2 : Same G1 (upd G1 q2 (.tup [va])) := same_upd n2
      clear n2
      generalize upd G1 q2 (.tup [va]) = G2 at d2 s2 ⊢
      replace d0 := s2 _ _ d0
      replace d1 := s2 _ _ d1
      replace sm := sm.trans s2
      refine ⟨(by show 0 ≤ sizeLine; decide), fun q3 n3 => ?_⟩
      have d3 : (upd G2 q3 (.tup [])) q3 = some (.tup []) := upd_same
      have s3 : Same G2 (upd G2 q3 (.tup [])) := same_upd n3
      clear n3
      generalize upd G2 q3 (.tup []) = G3 at d3 s3 ⊢
      replace d0 := s3 _ _ d0
      replace d1 := s3 _ _ d1
      replace d2 := s3 _ _ d2
      replace sm := sm.trans s3
      refine ⟨_, rfl, (by show 1 ≤ sizeLine; decide), fun q4 n4 => ?_⟩
      have d4 : (upd G3 q4 (.tup [vw])) q4 = some (.tup [vw]) := upd_same
      have s4 : Same G3 (upd G3 q4 (.tup [vw])) := same_upd n4
      clear n4
      generalize upd G3 q4 (.tup [vw]) = G4 at d4 s4 ⊢
      replace d0 := s4 _ _ d0
      replace d1 := s4 _ _ d1
      replace d2 := s4 _ _ d2
      replace d3 := s4 _ _ d3
      replace sm := sm.trans s4
      refine ⟨_, rfl, (by show 1 ≤ sizeLine; decide), fun q5 n5 => ?_⟩
      have d5 : (upd G4 q5 (.tup [vw])) q5 = some (.tup [vw]) := upd_same
      have s5 : Same G4 (upd G4 q5 (.tup [vw])) := same_upd n5
      clear n5
      generalize upd G4 q5 (.tup [vw]) = G5 at d5 s5 ⊢
      replace d0 := s5 _ _ d0
      replace d1 := s5 _ _ d1
      replace d2 := s5 _ _ d2
      replace d3 := s5 _ _ d3
      replace d4 := s5 _ _ d4
      replace sm := sm.trans s5
      refine ⟨_, rfl, (by show 1 ≤ sizeLine; decide), fun q6 n6 => ?_⟩
      have d6 : (upd G5 q6 (.tup [vw])) q6 = some (.tup [vw]) := upd_same
      have s6 : Same G5 (upd G5 q6 (.tup [vw])) := same_upd n6
      clear n6
      generalize upd G5 q6 (.tup [vw]) = G6 at d6 s6 ⊢
      replace d0 := s6 _ _ d0
      replace d1 := s6 _ _ d1
      replace d2 := s6 _ _ d2
      replace d3 := s6 _ _ d3
      replace d4 := s6 _ _ d4
      replace d5 := s6 _ _ d5
      replace sm := sm.trans s6
      refine ⟨_, rfl, (by show 1 ≤ sizeLine; decide), fun q7 n7 => ?_⟩
      have d7 : (upd G6 q7 (.tup [vw])) q7 = some (.tup [vw]) := upd_same
      have s7 : Same G6 (upd G6 q7 (.tup [vw])) := same_upd n7
      clear n7
      generalize upd G6 q7 (.tup [vw]) = G7 at d7 s7 ⊢
      replace d0 := s7 _ _ d0
      replace d1 := s7 _ _ d1
      replace d2 := s7 _ _ d2
      replace d3 := s7 _ _ d3
      replace d4 := s7 _ _ d4
      replace d5 := s7 _ _ d5
      replace d6 := s7 _ _ d6
      replace sm := sm.trans s7
      refine ⟨(by show 0 ≤ sizeLine; decide), fun q8 n8 => ?_⟩
      have d8 : (upd G7 q8 (.tup [])) q8 = some (.tup []) := upd_same
      have s8 : Same G7 (upd G7 q8 (.tup [])) := same_upd n8
      clear n8
      generalize upd G7 q8 (.tup []) = G8 at d8 s8 ⊢
      replace d0 := s8 _ _ d0
      replace d1 := s8 _ _ d1
      replace d2 := s8 _ _ d2
      replace d3 := s8 _ _ d3
      replace d4 := s8 _ _ d4
      replace d5 := s8 _ _ d5
      replace d6 := s8 _ _ d6
      replace d7 := s8 _ _ d7
      replace sm := sm.trans s8
      refine ⟨(by show 0 ≤ sizeLine; decide), fun q9 n9 => ?_⟩
      have d9 : (upd G8 q9 (.tup [])) q9 = some (.tup []) := upd_same
      have s9 : Same G8 (upd G8 q9 (.tup [])) := same_upd n9
      clear n9
      generalize upd G8 q9 (.tup []) = G9 at d9 s9 ⊢
      replace d0 := s9 _ _ d0
      replace d1 := s9 _ _ d1
      replace d2 := s9 _ _ d2
      replace d3 := s9 _ _ d3
      replace d4 := s9 _ _ d4
      replace d5 := s9 _ _ d5
      replace d6 := s9 _ _ d6
      replace d7 := s9 _ _ d7
      replace d8 := s9 _ _ d8
      replace sm := sm.trans s9
      refine ⟨_, rfl, (by show 1 ≤ sizeLine; decide), fun q10 n10 => ?_⟩
      have d10 : (upd G9 q10 (.tup [vw])) q10 = some (.tup [vw]) := upd_same
      have s10 : Same G9 (upd G9 q10 (.tup [vw])) := same_upd n10
      clear n10
      generalize upd G9 q10 (.tup [vw]) = G10 at d10 s10 ⊢
      replace d0 := s10 _ _ d0
      replace d1 := s10 _ _ d1
      replace d2 := s10 _ _ d2
      replace d3 := s10 _ _ d3
      replace d4 := s10 _ _ d4
      replace d5 := s10 _ _ d5
      replace d6 := s10 _ _ d6
      replace d7 := s10 _ _ d7
      replace d8 := s10 _ _ d8
      replace d9 := s10 _ _ d9
      replace sm := sm.trans s10
      refine ⟨_, rfl, _, rfl, (by show 2 ≤ sizeLine; decide), fun q11 n11 => ?_⟩
      have d11 : (upd G10 q11 (.tup [vw, va])) q11 = some (.tup [vw, va]) := upd_same
      have s11 : Same G10 (upd G10 q11 (.tup [vw, va])) := same_upd n11
      clear n11
      generalize upd G10 q11 (.tup [vw, va]) = G11 at d11 s11 ⊢
      replace d0 := s11 _ _ d0
      replace d1 := s11 _ _ d1
      replace d2 := s11 _ _ d2
      replace d3 := s11 _ _ d3
      replace d4 := s11 _ _ d4
      replace d5 := s11 _ _ d5
      replace d6 := s11 _ _ d6
      replace d7 := s11 _ _ d7
      replace d8 := s11 _ _ d8
      replace d9 := s11 _ _ d9
      replace d10 := s11 _ _ d10
      replace sm := sm.trans s11
      have dl : DueL G11 vw va vl vh 0 [.ref q0, .ref q1, .ref q2, .ref q3, .ref q4, .ref q5, .ref q6, .ref q7, .ref q8, .ref q9, .ref q10, .ref q11] := .cons (n := 0) d0 (.cons (n := 1) d1 (.cons (n := 2) d2 (.cons (n := 3) d3 (.cons (n := 4) d4 (.cons (n := 5) d5 (.cons (n := 6) d6 (.cons (n := 7) d7 (.cons (n := 8) d8 (.cons (n := 9) d9 (.cons (n := 10) d10 (.cons (n := 11) d11 (.nil))))))))))))
      clear d0 d1 d2 d3 d4 d5 d6 d7 d8 d9 d10 d11
      refine ⟨(by show 12 ≤ sizeLine; decide), fun l0 nl => ?_⟩
      replace sm := sm.trans (same_upd (o := .lst [.ref q0, .ref q1, .ref q2, .ref q3, .ref q4, .ref q5, .ref q6, .ref q7, .ref q8, .ref q9, .ref q10, .ref q11]) nl)
      replace dl := dl.same (same_upd (o := .lst [.ref q0, .ref q1, .ref q2, .ref q3, .ref q4, .ref q5, .ref q6, .ref q7, .ref q8, .ref q9, .ref q10, .ref q11]) nl)
      have hl0 : (upd G11 l0 (.lst [.ref q0, .ref q1, .ref q2, .ref q3, .ref q4, .ref q5, .ref q6, .ref q7, .ref q8, .ref q9, .ref q10, .ref q11])) l0 = some (.lst [.ref q0, .ref q1, .ref q2, .ref q3, .ref q4, .ref q5, .ref q6, .ref q7, .ref q8, .ref q9, .ref q10, .ref q11]) := upd_same
      generalize upd G11 l0 (.lst [.ref q0, .ref q1, .ref q2, .ref q3, .ref q4, .ref q5, .ref q6, .ref q7, .ref q8, .ref q9, .ref q10, .ref q11]) = GL at sm dl hl0 ⊢
      refine ⟨_, rfl, by decide, by decide, fun D hD => lc_range (lo := 0) (n := 16) (fun i H8 => Same GL H8 ∧ ∃ acc : List V, acc.length = i ∧ H8 D = some (.lst acc) ∧ DueL H8 vw va vl vh 12 acc) ⟨same_upd hD, [], rfl, upd_same, .nil⟩ ?_ ?_⟩
      · rintro i H8 hi ⟨s8, acc, al, h8, d8⟩
        refine ⟨rfl, _, rfl, (by show 1 ≤ sizeLine; decide), fun q nq => ?_⟩
        have h9 : (upd H8 q (.tup [va])) D = some (.lst acc) := same_upd nq _ _ h8
        refine ⟨acc, h9, small1000 (by omega), fun b o eb => ?_, acc ++ [.ref q], by rw [List.length_append, al]; rfl, upd_same, ?_⟩
        · rw [upd_ne (ne_of_none eb hD)]
          exact same_upd nq _ _ (s8 b o eb)
        · refine DueL.put h9 ((d8.same (same_upd nq)).app (m := 12 + i) (by rw [al]) (.cons ?_ .nil))
          rw [due_mid hi]
          exact upd_same
      · rintro H8 ⟨s8, acc, al, h8, d8⟩
        refine ⟨l0, D, _, _, rfl, rfl, s8 _ _ hl0, h8, Nat.le_of_lt (small1000 (by rw [al]; show 28 ≤ 1000; decide)), fun p2 n2 => ?_⟩
        have s9 := same_upd (o := .lst ([.ref q0, .ref q1, .ref q2, .ref q3, .ref q4, .ref q5, .ref q6, .ref q7, .ref q8, .ref q9, .ref q10, .ref q11] ++ acc)) n2
        exact ⟨p2, _, rfl, upd_same, by rw [List.length_append, al]; rfl, ((dl.same s8).app rfl d8).same s9, (sm.trans s8).trans s9⟩
    rintro σ' H8 ⟨p2, ys, rfl, hp2, yl, dl, s8⟩
    refine ⟨fun σ' H' => ∃ (p2 : Addr) (ys : List V), σ' = [some (.ref a), some (.ref t), some vw, some va, some vl, some vh, some (.ref p), some (.ref p2), none, none] ∧ H' p2 = some (.lst ys) ∧ ys.length = 31 ∧ DueL H' vw va vl vh 0 ys ∧ Same H7 H', ?_, ?_⟩
    · refine ⟨_, rfl, ?_⟩
      have sm : Same H8 H8 := fun _ _ z => z
      refine ⟨_, rfl, _, rfl, _, rfl, (by show 3 ≤ sizeLine; decide), fun q0 n0 => ?_⟩
      have d0 : (upd H8 q0 (.tup [va, vl, vh])) q0 = some (.tup [va, vl, vh]) := upd_same
      have s0 : Same H8 (upd H8 q0 (.tup [va, vl, vh])) := same_upd n0
      clear n0
      generalize upd H8 q0 (.tup [va, vl, vh]) = G0 at d0 s0 ⊢
      replace sm := sm.trans s0
      refine ⟨_, rfl, _, rfl, (by show 2 ≤ sizeLine; decide), fun q1 n1 => ?_⟩
      have d1 : (upd G0 q1 (.tup [va, vl])) q1 = some (.tup [va, vl]) := upd_same
      have s1 : Same G0 (upd G0 q1 (.tup [va, vl])) := same_upd n1
      clear n1
      generalize upd G0 q1 (.tup [va, vl]) = G1 at d1 s1 ⊢
      replace d0 := s1 _ _ d0
      replace sm := sm.trans s1
      refine ⟨_, rfl, _, rfl, (by show 2 ≤ sizeLine; decide), fun q2 n2 => ?_⟩
      have d2 : (upd G1 q2 (.tup [va, vw])) q2 = some (.tup [va, vw]) := upd_same
      have s2 : Same G1 (upd G1 q2 (.tup [va, vw])) := same_upd n2
      clear n2
      generalize upd G1 q2 (.tup [va, vw]) = G2 at d2 s2 ⊢
      replace d0 := s2 _ _ d0
      replace d1 := s2 _ _ d1
      replace sm := sm.trans s2
      have d3 : DueL G2 vw va vl vh 28 [.ref q0, .ref q1, .ref q2] := .cons (n := 28) d0 (.cons (n := 29) d1 (.cons (n := 30) d2 (.nil)))
      refine ⟨(by show 3 ≤ sizeLine; decide), fun p4 n4 => ⟨p2, p4, _, _, rfl, rfl, same_upd n4 _ _ (sm _ _ hp2), upd_same, Nat.le_of_lt (small1000 (by rw [yl]; show 31 ≤ 1000; decide)), fun p5 n5 => ?_⟩⟩
      have sp := (same_upd (o := .lst [.ref q0, .ref q1, .ref q2]) n4).trans (same_upd (o := .lst (ys ++ [.ref q0, .ref q1, .ref q2])) n5)
      exact ⟨p5, _, rfl, upd_same, by rw [List.length_append, yl]; rfl, (dl.same (sm.trans sp)).app (by rw [yl]) (d3.same sp), s8.trans (sm.trans sp)⟩
    clear hp2 yl dl s8
    rintro σ' H9 ⟨p2, ys, rfl, hp2, yl, dl, s9⟩
    replace el := el.same s9
    replace hp := s9 _ _ hp
    clear s9
    refine ⟨_, rfl, p, _, rfl, .inl (SqL.of hp), _, rfl, by omega, by omega, for_range (n := xs.length) (fun i σ H' => ∃ v8 : Option V, σ = [some (.ref a), some (.ref t), some vw, some va, some vl, some vh, some (.ref p), some (.ref p2), v8, none] ∧ Same H9 H') ⟨_, rfl, fun _ _ z => z⟩ ?_ ?_⟩
    · rintro i σ H10 hi ⟨v8, rfl, s10⟩
      rw [xl] at hi
      have e0 : (0 : Int) + (i : Int) = (i : Int) := Int.zero_add _
      rw [e0]
      have hxi : xs[i]? = some xs[i] := List.getElem?_eq_getElem (by omega)
      have hyi : ys[i]? = some ys[i] := List.getElem?_eq_getElem (by omega)
      obtain ⟨e, c, ex, hc, er⟩ := el.at hxi
      obtain ⟨q, ey, hq⟩ := dl.at hyi
      rw [Nat.zero_add] at hc er hq
      rw [ex] at hxi
      rw [ey] at hyi
      clear ex ey
      have ec := ec_at T hc
      obtain ⟨d1, d2⟩ := due_small sw sa sl sh i
      have hp10 := s10 _ _ hp
      have hp20 := s10 _ _ hp2
      replace er := er.same s10
      replace hq := s10 _ _ hq
      refine ⟨_, rfl, _, rfl, _, rfl, p, _, _, _, rfl, rfl, SqL.of hp10, atI_nat hxi, i, e, c, vw, va, vl, vh, rfl, hi, ec, er, fun H11 r hr11 s11 => ⟨r, _, rfl, SqT.of hr11, d1, d2, ?_⟩⟩
      have hp11 := s11 _ _ hp10
      have hp21 := s11 _ _ hp20
      have er11 := er.same s11
      have hq11 := s11 _ _ hq
      refine ⟨_, rfl, _, rfl, p2, _, _, _, rfl, rfl, SqL.of hp21, atI_nat hyi, q, _, rfl, SqT.of hq11, d1, d2, rfl, _, rfl, ite_f (by rw [decide_eq_true rfl]; rfl) ?_⟩
      refine ⟨_, rfl, _, rfl, p, _, _, _, rfl, rfl, SqL.of hp11, atI_nat hxi, e, c, _, _, _, true, rfl, ec, er11, .ty _, kt_at T hi hc, _, rfl, ite_f rfl ?_⟩
      refine ⟨_, rfl, _, rfl, p, _, _, _, rfl, rfl, SqL.of hp11, atI_nat hxi, i, e, c, _, rfl, hi, hc, ec, er11, fun H12 L hL s12 => ?_⟩
      have hp12 := s12 _ _ hp11
      refine ⟨_, rfl, p, _, rfl, .inl (SqL.of hp12), _, rfl, by omega, by omega, fun D hD => lc_range (lo := 0) (n := xs.length) (fun j H' => Same H12 H' ∧ H' D = some (.lst (rowTo i j))) ⟨same_upd hD, upd_same⟩ ?_ ?_⟩
      · rintro j H13 hj ⟨s13, h13⟩
        rw [xl] at hj
        have e1 : (0 : Int) + (j : Int) = (j : Int) := Int.zero_add _
        rw [e1]
        have fin : ∀ b : Bool, b = isB i j → ∃ acc, H13 D = some (.lst acc) ∧ acc.length < sizeLine ∧ Same H12 (upd H13 D (.lst (acc ++ [.bl b]))) ∧ (upd H13 D (.lst (acc ++ [.bl b]))) D = some (.lst (rowTo i (j + 1))) := fun b hb => by
          refine ⟨rowTo i j, h13, small1000 (by rw [rowTo_len]; omega), fun b2 o eb => ?_, ?_⟩
          · rw [upd_ne (ne_of_none eb hD)]
            exact s13 b2 o eb
          · rw [hb, row_app i j (m := j + 1) [.bl (isB i j)] rfl rfl]
            exact upd_same
        refine ⟨rfl, _, rfl, _, rfl, rfl, _, rfl, ite2 (fun c1 => fin true ?_) (fun c1 => ?_)⟩
        · have z : (j : Int) = (i : Int) := dec_eq_int c1
          have z2 : j = i := by omega
          unfold isB
          simp [z2]
        have z1 : ¬ j = i := fun z => dec_ne_int c1 (by omega)
        refine ⟨_, rfl, rfl, _, rfl, ite2 (fun c2 => fin true ?_) (fun c2 => ?_)⟩
        · have z : (j : Int) = 0 := dec_eq_int c2
          have z2 : j = 0 := by omega
          unfold isB
          simp [z2]
        have z2 : ¬ j = 0 := fun z => dec_ne_int c2 (by omega)
        refine ⟨_, rfl, rfl, _, rfl, ite2 (fun c3 => ⟨_, rfl, _, _, rfl, rfl, fin _ ?_⟩) (fun c3 => fin false ?_)⟩
        · have z : (j : Int) = 13 := dec_eq_int c3
          have z3 : j = 13 := by omega
          have z4 : decide ((13 : Int) < (i : Int)) = decide (13 < i) := decide_eq_decide.mpr (by omega)
          unfold isB
          rw [z4]
          simp [z1, z3]
          intro z5
          omega
        · have z3 : ¬ j = 13 := fun z => dec_ne_int c3 (by omega)
          unfold isB
          simp [z1, z2, z3]
      · rintro H13 ⟨s13, h13⟩
        rw [xl, row_bls] at h13
        have hL13 : H13 L = some (.lst (((List.range 31).map (isB i)).map V.bl)) := by
          rw [← row_bls]
          exact s13 _ _ hL
        refine ⟨_, _, .lst (SqL.of hL13) (dp_bls _), .lst (SqL.of h13) (dp_bls _), shaped_bls _, shaped_bls _, _, rfl, ite_f (by rw [eqv_bls]; rfl) ?_⟩
        exact ⟨_, rfl, s10.trans (s11.trans (s12.trans s13))⟩
    · rintro σ H10 ⟨v8, rfl, s10⟩
      exact k _
end
theorem all_mk {l : PySem.W.OpenLaw} {w : World} {K : PySem.W.Frag} {h : Heap} {mg : Str → Option Value} {fa : Addr} (X : K.In h) (G : h.Ns mainGlobals mg) (hfa : mg "law" = some (.ref fa))
    {k_BridgeError : Addr} (z_BridgeError : PySem.W.nsIn K mainGlobals "BridgeError" = some (some (.ref k_BridgeError)))
    {k_InvalidMember : Addr} (z_InvalidMember : PySem.W.nsIn K mainGlobals "InvalidMember" = some (some (.ref k_InvalidMember)))
    {k_UnexpectedByte : Addr} (z_UnexpectedByte : PySem.W.nsIn K mainGlobals "UnexpectedByte" = some (some (.ref k_UnexpectedByte)))
    {k_UnexpectedEnd : Addr} (z_UnexpectedEnd : PySem.W.nsIn K mainGlobals "UnexpectedEnd" = some (some (.ref k_UnexpectedEnd)))
    {k_UnknownMember : Addr} (z_UnknownMember : PySem.W.nsIn K mainGlobals "UnknownMember" = some (some (.ref k_UnknownMember)))
    {k_AlreadySet : Addr} (z_AlreadySet : PySem.W.nsIn K mainGlobals "AlreadySet" = some (some (.ref k_AlreadySet)))
    {k_KindsDiffer : Addr} (z_KindsDiffer : PySem.W.nsIn K mainGlobals "KindsDiffer" = some (some (.ref k_KindsDiffer)))
    {k_MissingDefault : Addr} (z_MissingDefault : PySem.W.nsIn K mainGlobals "MissingDefault" = some (some (.ref k_MissingDefault)))
    {k_NothingConvertible : Addr} (z_NothingConvertible : PySem.W.nsIn K mainGlobals "NothingConvertible" = some (some (.ref k_NothingConvertible)))
    {k_NotConvertible : Addr} (z_NotConvertible : PySem.W.nsIn K mainGlobals "NotConvertible" = some (some (.ref k_NotConvertible)))
    {k_UnknownField : Addr} (z_UnknownField : PySem.W.nsIn K mainGlobals "UnknownField" = some (some (.ref k_UnknownField)))
    {k_BadPlan : Addr} (z_BadPlan : PySem.W.nsIn K mainGlobals "BadPlan" = some (some (.ref k_BadPlan)))
    {k_TextError : Addr} (z_TextError : PySem.W.nsIn K mainGlobals "TextError" = some (some (.ref k_TextError)))
    {k_WordTooLong : Addr} (z_WordTooLong : PySem.W.nsIn K mainGlobals "WordTooLong" = some (some (.ref k_WordTooLong)))
    {k_InvalidNumber : Addr} (z_InvalidNumber : PySem.W.nsIn K mainGlobals "InvalidNumber" = some (some (.ref k_InvalidNumber)))
    {k_UnexpectedCharacter : Addr} (z_UnexpectedCharacter : PySem.W.nsIn K mainGlobals "UnexpectedCharacter" = some (some (.ref k_UnexpectedCharacter)))
    {k_ItemExpected : Addr} (z_ItemExpected : PySem.W.nsIn K mainGlobals "ItemExpected" = some (some (.ref k_ItemExpected)))
    {k_NameExpected : Addr} (z_NameExpected : PySem.W.nsIn K mainGlobals "NameExpected" = some (some (.ref k_NameExpected)))
    {k_DuplicateName : Addr} (z_DuplicateName : PySem.W.nsIn K mainGlobals "DuplicateName" = some (some (.ref k_DuplicateName)))
    {k_WordExpected : Addr} (z_WordExpected : PySem.W.nsIn K mainGlobals "WordExpected" = some (some (.ref k_WordExpected)))
    {k_CountExpected : Addr} (z_CountExpected : PySem.W.nsIn K mainGlobals "CountExpected" = some (some (.ref k_CountExpected)))
    {k_NumberExpected : Addr} (z_NumberExpected : PySem.W.nsIn K mainGlobals "NumberExpected" = some (some (.ref k_NumberExpected)))
    {k_DuplicateNumber : Addr} (z_DuplicateNumber : PySem.W.nsIn K mainGlobals "DuplicateNumber" = some (some (.ref k_DuplicateNumber)))
    {k_BitsLeft : Addr} (z_BitsLeft : PySem.W.nsIn K mainGlobals "BitsLeft" = some (some (.ref k_BitsLeft)))
    {k_RangesNotAllowed : Addr} (z_RangesNotAllowed : PySem.W.nsIn K mainGlobals "RangesNotAllowed" = some (some (.ref k_RangesNotAllowed)))
    {k_DefaultNotAllowed : Addr} (z_DefaultNotAllowed : PySem.W.nsIn K mainGlobals "DefaultNotAllowed" = some (some (.ref k_DefaultNotAllowed)))
    {k_NestedTooDeeply : Addr} (z_NestedTooDeeply : PySem.W.nsIn K mainGlobals "NestedTooDeeply" = some (some (.ref k_NestedTooDeeply)))
    {k_EmptyElements : Addr} (z_EmptyElements : PySem.W.nsIn K mainGlobals "EmptyElements" = some (some (.ref k_EmptyElements)))
    {k_CheckExpected : Addr} (z_CheckExpected : PySem.W.nsIn K mainGlobals "CheckExpected" = some (some (.ref k_CheckExpected)))
    {k_SymbolExpected : Addr} (z_SymbolExpected : PySem.W.nsIn K mainGlobals "SymbolExpected" = some (some (.ref k_SymbolExpected)))
    {k_MessageTooLong : Addr} (z_MessageTooLong : PySem.W.nsIn K mainGlobals "MessageTooLong" = some (some (.ref k_MessageTooLong)))
    {f0 : Addr} {od0 an0 : Option Addr} {sl0 : Array (Option Value)} {oc0 kV0 dc0 pm0 cd0 ct0 : Value}
    (a0 : PySem.W.nsIn K mainGlobals "_law_tape" = some (some (.ref f0))) (l0 : K.lookup f0 = some ⟨oc0, od0, .func (PySem.W.fnOf "_law_tape" "_law_tape" (defArgs s_l_tape) (defBody s_l_tape) (defScope s_l_tape) .none kV0 dc0 pm0 an0 cd0 ct0), sl0⟩) (c0 : PySem.W.codeIn K cd0 "_law_tape" = true) (k0 : PySem.W.keepIn K (.ref f0) = true)
    {f1 : Addr} {od1 an1 : Option Addr} {sl1 : Array (Option Value)} {oc1 kV1 dc1 pm1 cd1 ct1 : Value}
    (a1 : PySem.W.nsIn K mainGlobals "_law_draw" = some (some (.ref f1))) (l1 : K.lookup f1 = some ⟨oc1, od1, .func (PySem.W.fnOf "_law_draw" "_law_draw" (defArgs s_l_draw) (defBody s_l_draw) (defScope s_l_draw) .none kV1 dc1 pm1 an1 cd1 ct1), sl1⟩) (c1 : PySem.W.codeIn K cd1 "_law_draw" = true) (k1 : PySem.W.keepIn K (.ref f1) = true)
    {f2 : Addr} {od2 an2 : Option Addr} {sl2 : Array (Option Value)} {oc2 kV2 dc2 pm2 cd2 ct2 : Value}
    (a2 : PySem.W.nsIn K mainGlobals "_law_name" = some (some (.ref f2))) (l2 : K.lookup f2 = some ⟨oc2, od2, .func (PySem.W.fnOf "_law_name" "_law_name" (defArgs s_l_name) (defBody s_l_name) (defScope s_l_name) .none kV2 dc2 pm2 an2 cd2 ct2), sl2⟩) (c2 : PySem.W.codeIn K cd2 "_law_name" = true) (k2 : PySem.W.keepIn K (.ref f2) = true)
    {f3 : Addr} {od3 an3 : Option Addr} {sl3 : Array (Option Value)} {oc3 kV3 dc3 pm3 cd3 ct3 : Value}
    (a3 : PySem.W.nsIn K mainGlobals "_law_classes" = some (some (.ref f3))) (l3 : K.lookup f3 = some ⟨oc3, od3, .func (PySem.W.fnOf "_law_classes" "_law_classes" (defArgs s_l_classes) (defBody s_l_classes) (defScope s_l_classes) .none kV3 dc3 pm3 an3 cd3 ct3), sl3⟩) (c3 : PySem.W.codeIn K cd3 "_law_classes" = true) (k3 : PySem.W.keepIn K (.ref f3) = true)
    {f4 : Addr} {od4 an4 : Option Addr} {sl4 : Array (Option Value)} {oc4 kV4 dc4 pm4 cd4 ct4 : Value}
    (a4 : PySem.W.findIn K (.ref k_AlreadySet) "__init__" = some (some (.ref f4))) (u4 : PySem.W.typeIn K (.ref f4) = some (.type "function")) (l4 : K.lookup f4 = some ⟨oc4, od4, .func (PySem.W.fnOf "__init__" "AlreadySet.__init__" (defArgs s_i_AlreadySet) (defBody s_i_AlreadySet) (defScope s_i_AlreadySet) .none kV4 dc4 pm4 an4 cd4 ct4), sl4⟩) (c4 : PySem.W.codeIn K cd4 "AlreadySet.__init__" = true) (k4 : PySem.W.keepIn K (.ref f4) = true)
    {f5 : Addr} {od5 an5 : Option Addr} {sl5 : Array (Option Value)} {oc5 kV5 dc5 pm5 cd5 ct5 : Value}
    (a5 : PySem.W.findIn K (.ref k_BadPlan) "__init__" = some (some (.ref f5))) (u5 : PySem.W.typeIn K (.ref f5) = some (.type "function")) (l5 : K.lookup f5 = some ⟨oc5, od5, .func (PySem.W.fnOf "__init__" "BadPlan.__init__" (defArgs s_i_BadPlan) (defBody s_i_BadPlan) (defScope s_i_BadPlan) .none kV5 dc5 pm5 an5 cd5 ct5), sl5⟩) (c5 : PySem.W.codeIn K cd5 "BadPlan.__init__" = true) (k5 : PySem.W.keepIn K (.ref f5) = true)
    {f6 : Addr} {od6 an6 : Option Addr} {sl6 : Array (Option Value)} {oc6 kV6 dc6 pm6 cd6 ct6 : Value}
    (a6 : PySem.W.findIn K (.ref k_TextError) "__init__" = some (some (.ref f6))) (u6 : PySem.W.typeIn K (.ref f6) = some (.type "function")) (l6 : K.lookup f6 = some ⟨oc6, od6, .func (PySem.W.fnOf "__init__" "TextError.__init__" (defArgs s_i_TextError) (defBody s_i_TextError) (defScope s_i_TextError) .none kV6 dc6 pm6 an6 cd6 ct6), sl6⟩) (c6 : PySem.W.codeIn K cd6 "TextError.__init__" = true) (k6 : PySem.W.keepIn K (.ref f6) = true)
    {f7 : Addr} {od7 an7 : Option Addr} {sl7 : Array (Option Value)} {oc7 kV7 dc7 pm7 cd7 ct7 : Value}
    (a7 : PySem.W.findIn K (.ref k_BitsLeft) "__init__" = some (some (.ref f7))) (u7 : PySem.W.typeIn K (.ref f7) = some (.type "function")) (l7 : K.lookup f7 = some ⟨oc7, od7, .func (PySem.W.fnOf "__init__" "BitsLeft.__init__" (defArgs s_i_BitsLeft) (defBody s_i_BitsLeft) (defScope s_i_BitsLeft) .none kV7 dc7 pm7 an7 cd7 ct7), sl7⟩) (c7 : PySem.W.codeIn K cd7 "BitsLeft.__init__" = true) (k7 : PySem.W.keepIn K (.ref f7) = true)
    {f8 : Addr} {od8 an8 : Option Addr} {sl8 : Array (Option Value)} {oc8 kV8 dc8 pm8 cd8 ct8 : Value}
    (a8 : PySem.W.findIn K (.ref k_InvalidMember) "__init__" = some (some (.ref f8))) (u8 : PySem.W.typeIn K (.ref f8) = some (.type "function")) (l8 : K.lookup f8 = some ⟨oc8, od8, .func (PySem.W.fnOf "__init__" "InvalidMember.__init__" (defArgs s_i_InvalidMember) (defBody s_i_InvalidMember) (defScope s_i_InvalidMember) .none kV8 dc8 pm8 an8 cd8 ct8), sl8⟩) (c8 : PySem.W.codeIn K cd8 "InvalidMember.__init__" = true) (k8 : PySem.W.keepIn K (.ref f8) = true)
    {f9 : Addr} {od9 an9 : Option Addr} {sl9 : Array (Option Value)} {oc9 kV9 dc9 pm9 cd9 ct9 : Value}
    (a9 : PySem.W.findIn K (.ref k_KindsDiffer) "__init__" = some (some (.ref f9))) (u9 : PySem.W.typeIn K (.ref f9) = some (.type "function")) (l9 : K.lookup f9 = some ⟨oc9, od9, .func (PySem.W.fnOf "__init__" "KindsDiffer.__init__" (defArgs s_i_KindsDiffer) (defBody s_i_KindsDiffer) (defScope s_i_KindsDiffer) .none kV9 dc9 pm9 an9 cd9 ct9), sl9⟩) (c9 : PySem.W.codeIn K cd9 "KindsDiffer.__init__" = true) (k9 : PySem.W.keepIn K (.ref f9) = true)
    {f10 : Addr} {od10 an10 : Option Addr} {sl10 : Array (Option Value)} {oc10 kV10 dc10 pm10 cd10 ct10 : Value}
    (a10 : PySem.W.findIn K (.ref k_MessageTooLong) "__init__" = some (some (.ref f10))) (u10 : PySem.W.typeIn K (.ref f10) = some (.type "function")) (l10 : K.lookup f10 = some ⟨oc10, od10, .func (PySem.W.fnOf "__init__" "MessageTooLong.__init__" (defArgs s_i_MessageTooLong) (defBody s_i_MessageTooLong) (defScope s_i_MessageTooLong) .none kV10 dc10 pm10 an10 cd10 ct10), sl10⟩) (c10 : PySem.W.codeIn K cd10 "MessageTooLong.__init__" = true) (k10 : PySem.W.keepIn K (.ref f10) = true)
    {f11 : Addr} {od11 an11 : Option Addr} {sl11 : Array (Option Value)} {oc11 kV11 dc11 pm11 cd11 ct11 : Value}
    (a11 : PySem.W.findIn K (.ref k_MissingDefault) "__init__" = some (some (.ref f11))) (u11 : PySem.W.typeIn K (.ref f11) = some (.type "function")) (l11 : K.lookup f11 = some ⟨oc11, od11, .func (PySem.W.fnOf "__init__" "MissingDefault.__init__" (defArgs s_i_MissingDefault) (defBody s_i_MissingDefault) (defScope s_i_MissingDefault) .none kV11 dc11 pm11 an11 cd11 ct11), sl11⟩) (c11 : PySem.W.codeIn K cd11 "MissingDefault.__init__" = true) (k11 : PySem.W.keepIn K (.ref f11) = true)
    {f12 : Addr} {od12 an12 : Option Addr} {sl12 : Array (Option Value)} {oc12 kV12 dc12 pm12 cd12 ct12 : Value}
    (a12 : PySem.W.findIn K (.ref k_NotConvertible) "__init__" = some (some (.ref f12))) (u12 : PySem.W.typeIn K (.ref f12) = some (.type "function")) (l12 : K.lookup f12 = some ⟨oc12, od12, .func (PySem.W.fnOf "__init__" "NotConvertible.__init__" (defArgs s_i_NotConvertible) (defBody s_i_NotConvertible) (defScope s_i_NotConvertible) .none kV12 dc12 pm12 an12 cd12 ct12), sl12⟩) (c12 : PySem.W.codeIn K cd12 "NotConvertible.__init__" = true) (k12 : PySem.W.keepIn K (.ref f12) = true)
    {f13 : Addr} {od13 an13 : Option Addr} {sl13 : Array (Option Value)} {oc13 kV13 dc13 pm13 cd13 ct13 : Value}
    (a13 : PySem.W.findIn K (.ref k_NothingConvertible) "__init__" = some (some (.ref f13))) (u13 : PySem.W.typeIn K (.ref f13) = some (.type "function")) (l13 : K.lookup f13 = some ⟨oc13, od13, .func (PySem.W.fnOf "__init__" "NothingConvertible.__init__" (defArgs s_i_NothingConvertible) (defBody s_i_NothingConvertible) (defScope s_i_NothingConvertible) .none kV13 dc13 pm13 an13 cd13 ct13), sl13⟩) (c13 : PySem.W.codeIn K cd13 "NothingConvertible.__init__" = true) (k13 : PySem.W.keepIn K (.ref f13) = true)
    {f14 : Addr} {od14 an14 : Option Addr} {sl14 : Array (Option Value)} {oc14 kV14 dc14 pm14 cd14 ct14 : Value}
    (a14 : PySem.W.findIn K (.ref k_NumberExpected) "__init__" = some (some (.ref f14))) (u14 : PySem.W.typeIn K (.ref f14) = some (.type "function")) (l14 : K.lookup f14 = some ⟨oc14, od14, .func (PySem.W.fnOf "__init__" "NumberExpected.__init__" (defArgs s_i_NumberExpected) (defBody s_i_NumberExpected) (defScope s_i_NumberExpected) .none kV14 dc14 pm14 an14 cd14 ct14), sl14⟩) (c14 : PySem.W.codeIn K cd14 "NumberExpected.__init__" = true) (k14 : PySem.W.keepIn K (.ref f14) = true)
    {f15 : Addr} {od15 an15 : Option Addr} {sl15 : Array (Option Value)} {oc15 kV15 dc15 pm15 cd15 ct15 : Value}
    (a15 : PySem.W.findIn K (.ref k_SymbolExpected) "__init__" = some (some (.ref f15))) (u15 : PySem.W.typeIn K (.ref f15) = some (.type "function")) (l15 : K.lookup f15 = some ⟨oc15, od15, .func (PySem.W.fnOf "__init__" "SymbolExpected.__init__" (defArgs s_i_SymbolExpected) (defBody s_i_SymbolExpected) (defScope s_i_SymbolExpected) .none kV15 dc15 pm15 an15 cd15 ct15), sl15⟩) (c15 : PySem.W.codeIn K cd15 "SymbolExpected.__init__" = true) (k15 : PySem.W.keepIn K (.ref f15) = true)
    {f16 : Addr} {od16 an16 : Option Addr} {sl16 : Array (Option Value)} {oc16 kV16 dc16 pm16 cd16 ct16 : Value}
    (a16 : PySem.W.findIn K (.ref k_UnexpectedByte) "__init__" = some (some (.ref f16))) (u16 : PySem.W.typeIn K (.ref f16) = some (.type "function")) (l16 : K.lookup f16 = some ⟨oc16, od16, .func (PySem.W.fnOf "__init__" "UnexpectedByte.__init__" (defArgs s_i_UnexpectedByte) (defBody s_i_UnexpectedByte) (defScope s_i_UnexpectedByte) .none kV16 dc16 pm16 an16 cd16 ct16), sl16⟩) (c16 : PySem.W.codeIn K cd16 "UnexpectedByte.__init__" = true) (k16 : PySem.W.keepIn K (.ref f16) = true)
    {f17 : Addr} {od17 an17 : Option Addr} {sl17 : Array (Option Value)} {oc17 kV17 dc17 pm17 cd17 ct17 : Value}
    (a17 : PySem.W.findIn K (.ref k_UnexpectedEnd) "__init__" = some (some (.ref f17))) (u17 : PySem.W.typeIn K (.ref f17) = some (.type "function")) (l17 : K.lookup f17 = some ⟨oc17, od17, .func (PySem.W.fnOf "__init__" "UnexpectedEnd.__init__" (defArgs s_i_UnexpectedEnd) (defBody s_i_UnexpectedEnd) (defScope s_i_UnexpectedEnd) .none kV17 dc17 pm17 an17 cd17 ct17), sl17⟩) (c17 : PySem.W.codeIn K cd17 "UnexpectedEnd.__init__" = true) (k17 : PySem.W.keepIn K (.ref f17) = true)
    {f18 : Addr} {od18 an18 : Option Addr} {sl18 : Array (Option Value)} {oc18 kV18 dc18 pm18 cd18 ct18 : Value}
    (a18 : PySem.W.findIn K (.ref k_UnknownField) "__init__" = some (some (.ref f18))) (u18 : PySem.W.typeIn K (.ref f18) = some (.type "function")) (l18 : K.lookup f18 = some ⟨oc18, od18, .func (PySem.W.fnOf "__init__" "UnknownField.__init__" (defArgs s_i_UnknownField) (defBody s_i_UnknownField) (defScope s_i_UnknownField) .none kV18 dc18 pm18 an18 cd18 ct18), sl18⟩) (c18 : PySem.W.codeIn K cd18 "UnknownField.__init__" = true) (k18 : PySem.W.keepIn K (.ref f18) = true)
    {f19 : Addr} {od19 an19 : Option Addr} {sl19 : Array (Option Value)} {oc19 kV19 dc19 pm19 cd19 ct19 : Value}
    (a19 : PySem.W.findIn K (.ref k_UnknownMember) "__init__" = some (some (.ref f19))) (u19 : PySem.W.typeIn K (.ref f19) = some (.type "function")) (l19 : K.lookup f19 = some ⟨oc19, od19, .func (PySem.W.fnOf "__init__" "UnknownMember.__init__" (defArgs s_i_UnknownMember) (defBody s_i_UnknownMember) (defScope s_i_UnknownMember) .none kV19 dc19 pm19 an19 cd19 ct19), sl19⟩) (c19 : PySem.W.codeIn K cd19 "UnknownMember.__init__" = true) (k19 : PySem.W.keepIn K (.ref f19) = true)
    {f20 : Addr} {od20 an20 : Option Addr} {sl20 : Array (Option Value)} {oc20 kV20 dc20 pm20 cd20 ct20 : Value}
    (a20 : PySem.W.nsIn K mainGlobals "_law_made" = some (some (.ref f20))) (l20 : K.lookup f20 = some ⟨oc20, od20, .func (PySem.W.fnOf "_law_made" "_law_made" (defArgs s_l_made) (defBody s_l_made) (defScope s_l_made) .none kV20 dc20 pm20 an20 cd20 ct20), sl20⟩) (c20 : PySem.W.codeIn K cd20 "_law_made" = true) (k20 : PySem.W.keepIn K (.ref f20) = true)
    {f21 : Addr} {od21 an21 : Option Addr} {sl21 : Array (Option Value)} {oc21 kV21 dc21 pm21 cd21 ct21 : Value}
    (a21 : PySem.W.nsIn K mainGlobals "_law_attributes" = some (some (.ref f21))) (l21 : K.lookup f21 = some ⟨oc21, od21, .func (PySem.W.fnOf "_law_attributes" "_law_attributes" (defArgs s_l_attributes) (defBody s_l_attributes) (defScope s_l_attributes) .none kV21 dc21 pm21 an21 cd21 ct21), sl21⟩) (c21 : PySem.W.codeIn K cd21 "_law_attributes" = true) (k21 : PySem.W.keepIn K (.ref f21) = true)
    {f22 : Addr} {od22 an22 : Option Addr} {sl22 : Array (Option Value)} {oc22 kV22 dc22 pm22 cd22 ct22 : Value}
    (a22 : PySem.W.nsIn K mainGlobals "law" = some (some (.ref f22))) (l22 : K.lookup f22 = some ⟨oc22, od22, .func (PySem.W.fnOf "law" "law" (defArgs s_law) (defBody s_law) (defScope s_law) .none kV22 dc22 pm22 an22 cd22 ct22), sl22⟩) (c22 : PySem.W.codeIn K cd22 "law" = true) (k22 : PySem.W.keepIn K (.ref f22) = true)
    (z_ValueError : PySem.W.nsIn K mainGlobals "ValueError" = some none)
    (z_abs : PySem.W.nsIn K mainGlobals "abs" = some none)
    (z_int : PySem.W.nsIn K mainGlobals "int" = some none)
    (z_isinstance : PySem.W.nsIn K mainGlobals "isinstance" = some none)
    (z_len : PySem.W.nsIn K mainGlobals "len" = some none)
    (z_list : PySem.W.nsIn K mainGlobals "list" = some none)
    (z_max : PySem.W.nsIn K mainGlobals "max" = some none)
    (z_range : PySem.W.nsIn K mainGlobals "range" = some none)
    (z_repr : PySem.W.nsIn K mainGlobals "repr" = some none)
    (z_str : PySem.W.nsIn K mainGlobals "str" = some none)
    (q_e_BridgeError : EC K k_BridgeError)
    (q_x_BridgeError : PySem.W.excIn K k_BridgeError [.type "ValueError", .type "Exception", .type "BaseException", .type "object"] "ValueError.__new__" = true)
    (q_r_BridgeError : ClX.CRead K k_BridgeError (.type "type"))
    (q_v_BridgeError : PySem.W.findCls K (.ref k_BridgeError) (.type "type") "__init__" = some (.val (.builtin "ValueError.__init__")))
    (q_e_InvalidMember : EC K k_InvalidMember)
    (q_iC_InvalidMember : PySem.W.findIn K (.ref k_InvalidMember) "__init__" = some (some (.ref f8)))
    (q_e_UnexpectedByte : EC K k_UnexpectedByte)
    (q_iC_UnexpectedByte : PySem.W.findIn K (.ref k_UnexpectedByte) "__init__" = some (some (.ref f16)))
    (q_e_UnexpectedEnd : EC K k_UnexpectedEnd)
    (q_iC_UnexpectedEnd : PySem.W.findIn K (.ref k_UnexpectedEnd) "__init__" = some (some (.ref f17)))
    (q_e_UnknownMember : EC K k_UnknownMember)
    (q_iC_UnknownMember : PySem.W.findIn K (.ref k_UnknownMember) "__init__" = some (some (.ref f19)))
    (q_e_AlreadySet : EC K k_AlreadySet)
    (q_iC_AlreadySet : PySem.W.findIn K (.ref k_AlreadySet) "__init__" = some (some (.ref f4)))
    (q_e_KindsDiffer : EC K k_KindsDiffer)
    (q_iC_KindsDiffer : PySem.W.findIn K (.ref k_KindsDiffer) "__init__" = some (some (.ref f9)))
    (q_e_MissingDefault : EC K k_MissingDefault)
    (q_iC_MissingDefault : PySem.W.findIn K (.ref k_MissingDefault) "__init__" = some (some (.ref f11)))
    (q_e_NothingConvertible : EC K k_NothingConvertible)
    (q_iC_NothingConvertible : PySem.W.findIn K (.ref k_NothingConvertible) "__init__" = some (some (.ref f13)))
    (q_e_NotConvertible : EC K k_NotConvertible)
    (q_iC_NotConvertible : PySem.W.findIn K (.ref k_NotConvertible) "__init__" = some (some (.ref f12)))
    (q_e_UnknownField : EC K k_UnknownField)
    (q_iC_UnknownField : PySem.W.findIn K (.ref k_UnknownField) "__init__" = some (some (.ref f18)))
    (q_e_BadPlan : EC K k_BadPlan)
    (q_iC_BadPlan : PySem.W.findIn K (.ref k_BadPlan) "__init__" = some (some (.ref f5)))
    (q_e_TextError : EC K k_TextError)
    (q_iC_TextError : PySem.W.findIn K (.ref k_TextError) "__init__" = some (some (.ref f6)))
    (q_r_TextError : ClX.CRead K k_TextError (.type "type"))
    (q_v_TextError : PySem.W.findCls K (.ref k_TextError) (.type "type") "__init__" = some (.val (.ref f6)))
    (q_e_WordTooLong : EC K k_WordTooLong)
    (q_iC_WordTooLong : PySem.W.findIn K (.ref k_WordTooLong) "__init__" = some (some (.ref f6)))
    (q_e_InvalidNumber : EC K k_InvalidNumber)
    (q_iC_InvalidNumber : PySem.W.findIn K (.ref k_InvalidNumber) "__init__" = some (some (.ref f6)))
    (q_e_UnexpectedCharacter : EC K k_UnexpectedCharacter)
    (q_iC_UnexpectedCharacter : PySem.W.findIn K (.ref k_UnexpectedCharacter) "__init__" = some (some (.ref f6)))
    (q_e_ItemExpected : EC K k_ItemExpected)
    (q_iC_ItemExpected : PySem.W.findIn K (.ref k_ItemExpected) "__init__" = some (some (.ref f6)))
    (q_e_NameExpected : EC K k_NameExpected)
    (q_iC_NameExpected : PySem.W.findIn K (.ref k_NameExpected) "__init__" = some (some (.ref f6)))
    (q_e_DuplicateName : EC K k_DuplicateName)
    (q_iC_DuplicateName : PySem.W.findIn K (.ref k_DuplicateName) "__init__" = some (some (.ref f6)))
    (q_e_WordExpected : EC K k_WordExpected)
    (q_iC_WordExpected : PySem.W.findIn K (.ref k_WordExpected) "__init__" = some (some (.ref f6)))
    (q_e_CountExpected : EC K k_CountExpected)
    (q_iC_CountExpected : PySem.W.findIn K (.ref k_CountExpected) "__init__" = some (some (.ref f6)))
    (q_e_NumberExpected : EC K k_NumberExpected)
    (q_iC_NumberExpected : PySem.W.findIn K (.ref k_NumberExpected) "__init__" = some (some (.ref f14)))
    (q_e_DuplicateNumber : EC K k_DuplicateNumber)
    (q_iC_DuplicateNumber : PySem.W.findIn K (.ref k_DuplicateNumber) "__init__" = some (some (.ref f6)))
    (q_e_BitsLeft : EC K k_BitsLeft)
    (q_iC_BitsLeft : PySem.W.findIn K (.ref k_BitsLeft) "__init__" = some (some (.ref f7)))
    (q_e_RangesNotAllowed : EC K k_RangesNotAllowed)
    (q_iC_RangesNotAllowed : PySem.W.findIn K (.ref k_RangesNotAllowed) "__init__" = some (some (.ref f6)))
    (q_e_DefaultNotAllowed : EC K k_DefaultNotAllowed)
    (q_iC_DefaultNotAllowed : PySem.W.findIn K (.ref k_DefaultNotAllowed) "__init__" = some (some (.ref f6)))
    (q_e_NestedTooDeeply : EC K k_NestedTooDeeply)
    (q_iC_NestedTooDeeply : PySem.W.findIn K (.ref k_NestedTooDeeply) "__init__" = some (some (.ref f6)))
    (q_e_EmptyElements : EC K k_EmptyElements)
    (q_iC_EmptyElements : PySem.W.findIn K (.ref k_EmptyElements) "__init__" = some (some (.ref f6)))
    (q_e_CheckExpected : EC K k_CheckExpected)
    (q_iC_CheckExpected : PySem.W.findIn K (.ref k_CheckExpected) "__init__" = some (some (.ref f6)))
    (q_e_SymbolExpected : EC K k_SymbolExpected)
    (q_iC_SymbolExpected : PySem.W.findIn K (.ref k_SymbolExpected) "__init__" = some (some (.ref f15)))
    (q_e_MessageTooLong : EC K k_MessageTooLong)
    (q_iC_MessageTooLong : PySem.W.findIn K (.ref k_MessageTooLong) "__init__" = some (some (.ref f10)))
    (q_cl : errCls K = [k_BridgeError, k_InvalidMember, k_UnexpectedByte, k_UnexpectedEnd, k_UnknownMember, k_AlreadySet, k_KindsDiffer, k_MissingDefault, k_NothingConvertible, k_NotConvertible, k_UnknownField, k_BadPlan, k_MessageTooLong, k_TextError, k_WordTooLong, k_InvalidNumber, k_UnexpectedCharacter, k_ItemExpected, k_NameExpected, k_DuplicateName, k_WordExpected, k_CountExpected, k_DuplicateNumber, k_RangesNotAllowed, k_DefaultNotAllowed, k_NestedTooDeeply, k_EmptyElements, k_CheckExpected, k_NumberExpected, k_BitsLeft, k_SymbolExpected])
    (q_kt : kitAll K [k_BridgeError, k_InvalidMember, k_UnexpectedByte, k_UnexpectedEnd, k_UnknownMember, k_AlreadySet, k_KindsDiffer, k_MissingDefault, k_NothingConvertible, k_NotConvertible, k_UnknownField, k_BadPlan, k_MessageTooLong, k_TextError, k_WordTooLong, k_InvalidNumber, k_UnexpectedCharacter, k_ItemExpected, k_NameExpected, k_DuplicateName, k_WordExpected, k_CountExpected, k_DuplicateNumber, k_RangesNotAllowed, k_DefaultNotAllowed, k_NestedTooDeeply, k_EmptyElements, k_CheckExpected, k_NumberExpected, k_BitsLeft, k_SymbolExpected] = true)
    : ∀ base : Heap, K.In base → base.Ns mainGlobals mg → TopFn l.prog w K mg base 5 fa (sp_law K) := by
  have e := hfa.symm.trans (PySem.W.mg_of X G a22)
  cases e
  have F0 := fun_mk (x := "_law_tape") (qual := "_law_tape") (st := s_l_tape) l0 c0 k0
  have b0 := F0.binds (ps := ["script"]) fun _ _ _ _ _ _ us hl => match us, hl with | [_], _ => rfl
  have F1 := fun_mk (x := "_law_draw") (qual := "_law_draw") (st := s_l_draw) l1 c1 k1
  have b1 := F1.binds (ps := ["tape", "many"]) fun _ _ _ _ _ _ us hl => match us, hl with | [_, _], _ => rfl
  have F2 := fun_mk (x := "_law_name") (qual := "_law_name") (st := s_l_name) l2 c2 k2
  have b2 := F2.binds (ps := ["tape", "used"]) fun _ _ _ _ _ _ us hl => match us, hl with | [_, _], _ => rfl
  have F3 := fun_mk (x := "_law_classes") (qual := "_law_classes") (st := s_l_classes) l3 c3 k3
  have b3 := F3.binds (ps := ["e"]) fun _ _ _ _ _ _ us hl => match us, hl with | [_], _ => rfl
  have F4 := fun_mk (x := "__init__") (qual := "AlreadySet.__init__") (st := s_i_AlreadySet) l4 c4 k4
  have b4 := F4.binds (ps := ["self", "name"]) fun _ _ _ _ _ _ us hl => match us, hl with | [_, _], _ => rfl
  have F5 := fun_mk (x := "__init__") (qual := "BadPlan.__init__") (st := s_i_BadPlan) l5 c5 k5
  have b5 := F5.binds (ps := ["self", "part", "place"]) fun _ _ _ _ _ _ us hl => match us, hl with | [_, _, _], _ => rfl
  have F6 := fun_mk (x := "__init__") (qual := "TextError.__init__") (st := s_i_TextError) l6 c6 k6
  have b6 := F6.binds (ps := ["self", "place"]) fun _ _ _ _ _ _ us hl => match us, hl with | [_, _], _ => rfl
  have F7 := fun_mk (x := "__init__") (qual := "BitsLeft.__init__") (st := s_i_BitsLeft) l7 c7 k7
  have b7 := F7.binds (ps := ["self", "place", "bits"]) fun _ _ _ _ _ _ us hl => match us, hl with | [_, _, _], _ => rfl
  have F8 := fun_mk (x := "__init__") (qual := "InvalidMember.__init__") (st := s_i_InvalidMember) l8 c8 k8
  have b8 := F8.binds (ps := ["self", "path"]) fun _ _ _ _ _ _ us hl => match us, hl with | [_, _], _ => rfl
  have F9 := fun_mk (x := "__init__") (qual := "KindsDiffer.__init__") (st := s_i_KindsDiffer) l9 c9 k9
  have b9 := F9.binds (ps := ["self", "path"]) fun _ _ _ _ _ _ us hl => match us, hl with | [_, _], _ => rfl
  have F10 := fun_mk (x := "__init__") (qual := "MessageTooLong.__init__") (st := s_i_MessageTooLong) l10 c10 k10
  have b10 := F10.binds (ps := ["self", "size"]) fun _ _ _ _ _ _ us hl => match us, hl with | [_, _], _ => rfl
  have F11 := fun_mk (x := "__init__") (qual := "MissingDefault.__init__") (st := s_i_MissingDefault) l11 c11 k11
  have b11 := F11.binds (ps := ["self", "path"]) fun _ _ _ _ _ _ us hl => match us, hl with | [_, _], _ => rfl
  have F12 := fun_mk (x := "__init__") (qual := "NotConvertible.__init__") (st := s_i_NotConvertible) l12 c12 k12
  have b12 := F12.binds (ps := ["self"]) fun _ _ _ _ _ _ us hl => match us, hl with | [_], _ => rfl
  have F13 := fun_mk (x := "__init__") (qual := "NothingConvertible.__init__") (st := s_i_NothingConvertible) l13 c13 k13
  have b13 := F13.binds (ps := ["self"]) fun _ _ _ _ _ _ us hl => match us, hl with | [_], _ => rfl
  have F14 := fun_mk (x := "__init__") (qual := "NumberExpected.__init__") (st := s_i_NumberExpected) l14 c14 k14
  have b14 := F14.binds (ps := ["self", "place", "least", "greatest"]) fun _ _ _ _ _ _ us hl => match us, hl with | [_, _, _, _], _ => rfl
  have F15 := fun_mk (x := "__init__") (qual := "SymbolExpected.__init__") (st := s_i_SymbolExpected) l15 c15 k15
  have b15 := F15.binds (ps := ["self", "place", "symbol"]) fun _ _ _ _ _ _ us hl => match us, hl with | [_, _, _], _ => rfl
  have F16 := fun_mk (x := "__init__") (qual := "UnexpectedByte.__init__") (st := s_i_UnexpectedByte) l16 c16 k16
  have b16 := F16.binds (ps := ["self", "place"]) fun _ _ _ _ _ _ us hl => match us, hl with | [_, _], _ => rfl
  have F17 := fun_mk (x := "__init__") (qual := "UnexpectedEnd.__init__") (st := s_i_UnexpectedEnd) l17 c17 k17
  have b17 := F17.binds (ps := ["self"]) fun _ _ _ _ _ _ us hl => match us, hl with | [_], _ => rfl
  have F18 := fun_mk (x := "__init__") (qual := "UnknownField.__init__") (st := s_i_UnknownField) l18 c18 k18
  have b18 := F18.binds (ps := ["self", "path"]) fun _ _ _ _ _ _ us hl => match us, hl with | [_, _], _ => rfl
  have F19 := fun_mk (x := "__init__") (qual := "UnknownMember.__init__") (st := s_i_UnknownMember) l19 c19 k19
  have b19 := F19.binds (ps := ["self", "name"]) fun _ _ _ _ _ _ us hl => match us, hl with | [_, _], _ => rfl
  have F20 := fun_mk (x := "_law_made") (qual := "_law_made") (st := s_l_made) l20 c20 k20
  have b20 := F20.binds (ps := ["word", "at", "low", "high"]) fun _ _ _ _ _ _ us hl => match us, hl with | [_, _, _, _], _ => rfl
  have F21 := fun_mk (x := "_law_attributes") (qual := "_law_attributes") (st := s_l_attributes) l21 c21 k21
  have b21 := F21.binds (ps := ["k", "e"]) fun _ _ _ _ _ _ us hl => match us, hl with | [_, _], _ => rfl
  have F22 := fun_mk (x := "law") (qual := "law") (st := s_law) l22 c22 k22
  have b22 := F22.binds (ps := ["script"]) fun _ _ _ _ _ _ us hl => match us, hl with | [_], _ => rfl
  have T : Txt K w mg ⟨⟨f0, _⟩, ⟨f1, _⟩, ⟨f2, _⟩, ⟨f3, _⟩, ⟨f4, _⟩, ⟨f5, _⟩, ⟨f6, _⟩, ⟨f7, _⟩, ⟨f8, _⟩, ⟨f9, _⟩, ⟨f10, _⟩, ⟨f11, _⟩, ⟨f12, _⟩, ⟨f13, _⟩, ⟨f14, _⟩, ⟨f15, _⟩, ⟨f16, _⟩, ⟨f17, _⟩, ⟨f18, _⟩, ⟨f19, _⟩, ⟨f20, _⟩, ⟨f21, _⟩, ⟨fa, _⟩, k_BridgeError, k_InvalidMember, k_UnexpectedByte, k_UnexpectedEnd, k_UnknownMember, k_AlreadySet, k_KindsDiffer, k_MissingDefault, k_NothingConvertible, k_NotConvertible, k_UnknownField, k_BadPlan, k_TextError, k_WordTooLong, k_InvalidNumber, k_UnexpectedCharacter, k_ItemExpected, k_NameExpected, k_DuplicateName, k_WordExpected, k_CountExpected, k_NumberExpected, k_DuplicateNumber, k_BitsLeft, k_RangesNotAllowed, k_DefaultNotAllowed, k_NestedTooDeeply, k_EmptyElements, k_CheckExpected, k_SymbolExpected, k_MessageTooLong⟩ := ⟨F0, PySem.W.mg_of X G a0, b0, F1, PySem.W.mg_of X G a1, b1, F2, PySem.W.mg_of X G a2, b2, F3, PySem.W.mg_of X G a3, b3, F4, b4, u4, F5, b5, u5, F6, b6, u6, F7, b7, u7, F8, b8, u8, F9, b9, u9, F10, b10, u10, F11, b11, u11, F12, b12, u12, F13, b13, u13, F14, b14, u14, F15, b15, u15, F16, b16, u16, F17, b17, u17, F18, b18, u18, F19, b19, u19, F20, PySem.W.mg_of X G a20, b20, F21, PySem.W.mg_of X G a21, b21, F22, PySem.W.mg_of X G a22, b22, PySem.W.mg_none_of X G z_ValueError, PySem.W.mg_none_of X G z_abs, PySem.W.mg_none_of X G z_int, PySem.W.mg_none_of X G z_isinstance, PySem.W.mg_none_of X G z_len, PySem.W.mg_none_of X G z_list, PySem.W.mg_none_of X G z_max, PySem.W.mg_none_of X G z_range, PySem.W.mg_none_of X G z_repr, PySem.W.mg_none_of X G z_str, PySem.W.mg_of X G z_BridgeError, q_e_BridgeError, q_x_BridgeError, q_r_BridgeError, q_v_BridgeError, PySem.W.mg_of X G z_InvalidMember, q_e_InvalidMember, q_iC_InvalidMember, PySem.W.mg_of X G z_UnexpectedByte, q_e_UnexpectedByte, q_iC_UnexpectedByte, PySem.W.mg_of X G z_UnexpectedEnd, q_e_UnexpectedEnd, q_iC_UnexpectedEnd, PySem.W.mg_of X G z_UnknownMember, q_e_UnknownMember, q_iC_UnknownMember, PySem.W.mg_of X G z_AlreadySet, q_e_AlreadySet, q_iC_AlreadySet, PySem.W.mg_of X G z_KindsDiffer, q_e_KindsDiffer, q_iC_KindsDiffer, PySem.W.mg_of X G z_MissingDefault, q_e_MissingDefault, q_iC_MissingDefault, PySem.W.mg_of X G z_NothingConvertible, q_e_NothingConvertible, q_iC_NothingConvertible, PySem.W.mg_of X G z_NotConvertible, q_e_NotConvertible, q_iC_NotConvertible, PySem.W.mg_of X G z_UnknownField, q_e_UnknownField, q_iC_UnknownField, PySem.W.mg_of X G z_BadPlan, q_e_BadPlan, q_iC_BadPlan, PySem.W.mg_of X G z_TextError, q_e_TextError, q_iC_TextError, q_r_TextError, q_v_TextError, PySem.W.mg_of X G z_WordTooLong, q_e_WordTooLong, q_iC_WordTooLong, PySem.W.mg_of X G z_InvalidNumber, q_e_InvalidNumber, q_iC_InvalidNumber, PySem.W.mg_of X G z_UnexpectedCharacter, q_e_UnexpectedCharacter, q_iC_UnexpectedCharacter, PySem.W.mg_of X G z_ItemExpected, q_e_ItemExpected, q_iC_ItemExpected, PySem.W.mg_of X G z_NameExpected, q_e_NameExpected, q_iC_NameExpected, PySem.W.mg_of X G z_DuplicateName, q_e_DuplicateName, q_iC_DuplicateName, PySem.W.mg_of X G z_WordExpected, q_e_WordExpected, q_iC_WordExpected, PySem.W.mg_of X G z_CountExpected, q_e_CountExpected, q_iC_CountExpected, PySem.W.mg_of X G z_NumberExpected, q_e_NumberExpected, q_iC_NumberExpected, PySem.W.mg_of X G z_DuplicateNumber, q_e_DuplicateNumber, q_iC_DuplicateNumber, PySem.W.mg_of X G z_BitsLeft, q_e_BitsLeft, q_iC_BitsLeft, PySem.W.mg_of X G z_RangesNotAllowed, q_e_RangesNotAllowed, q_iC_RangesNotAllowed, PySem.W.mg_of X G z_DefaultNotAllowed, q_e_DefaultNotAllowed, q_iC_DefaultNotAllowed, PySem.W.mg_of X G z_NestedTooDeeply, q_e_NestedTooDeeply, q_iC_NestedTooDeeply, PySem.W.mg_of X G z_EmptyElements, q_e_EmptyElements, q_iC_EmptyElements, PySem.W.mg_of X G z_CheckExpected, q_e_CheckExpected, q_iC_CheckExpected, PySem.W.mg_of X G z_SymbolExpected, q_e_SymbolExpected, q_iC_SymbolExpected, PySem.W.mg_of X G z_MessageTooLong, q_e_MessageTooLong, q_iC_MessageTooLong, q_cl, q_kt⟩
  exact fun base _ _ => ok_law T
end My
open PySem PySem.W PyProof.Rows
set_option maxHeartbeats 0 in
theorem PySem.Challenge.cw_bytebridge_k05_classes_of_errors_holds : PySem.Challenge.rw_bytebridge_k05_classes_of_errors.Holds := by
  w_on; o_law; k_head; (case hw => w_witness2)
  k_fill
  refine My.walk_top (l := PySem.Challenge.rw_bytebridge_k05_classes_of_errors) (n := 63) (k := 5) (sp := My.sp_law) rfl (by decide) rfl ⟨rfl, by decide, by decide⟩ (fun w h Y => PySem.W.kIn_of Y) ?F (fun _ _ a ns hl hS => ⟨a, ns, rfl, hS, hl, fun _ => rfl⟩)
  case F =>
    intro w mg fa h KX G hmg
    refine' My.all_mk KX G hmg ?z_BridgeError ?z_InvalidMember ?z_UnexpectedByte ?z_UnexpectedEnd ?z_UnknownMember ?z_AlreadySet ?z_KindsDiffer ?z_MissingDefault ?z_NothingConvertible ?z_NotConvertible ?z_UnknownField ?z_BadPlan ?z_TextError ?z_WordTooLong ?z_InvalidNumber ?z_UnexpectedCharacter ?z_ItemExpected ?z_NameExpected ?z_DuplicateName ?z_WordExpected ?z_CountExpected ?z_NumberExpected ?z_DuplicateNumber ?z_BitsLeft ?z_RangesNotAllowed ?z_DefaultNotAllowed ?z_NestedTooDeeply ?z_EmptyElements ?z_CheckExpected ?z_SymbolExpected ?z_MessageTooLong ?a0 ?l0 ?c0 ?k0 ?a1 ?l1 ?c1 ?k1 ?a2 ?l2 ?c2 ?k2 ?a3 ?l3 ?c3 ?k3 ?a4 ?u4 ?l4 ?c4 ?k4 ?a5 ?u5 ?l5 ?c5 ?k5 ?a6 ?u6 ?l6 ?c6 ?k6 ?a7 ?u7 ?l7 ?c7 ?k7 ?a8 ?u8 ?l8 ?c8 ?k8 ?a9 ?u9 ?l9 ?c9 ?k9 ?a10 ?u10 ?l10 ?c10 ?k10 ?a11 ?u11 ?l11 ?c11 ?k11 ?a12 ?u12 ?l12 ?c12 ?k12 ?a13 ?u13 ?l13 ?c13 ?k13 ?a14 ?u14 ?l14 ?c14 ?k14 ?a15 ?u15 ?l15 ?c15 ?k15 ?a16 ?u16 ?l16 ?c16 ?k16 ?a17 ?u17 ?l17 ?c17 ?k17 ?a18 ?u18 ?l18 ?c18 ?k18 ?a19 ?u19 ?l19 ?c19 ?k19 ?a20 ?l20 ?c20 ?k20 ?a21 ?l21 ?c21 ?k21 ?a22 ?l22 ?c22 ?k22 ?z_ValueError ?z_abs ?z_int ?z_isinstance ?z_len ?z_list ?z_max ?z_range ?z_repr ?z_str ?q_e_BridgeError ?q_x_BridgeError ?q_r_BridgeError ?q_v_BridgeError ?q_e_InvalidMember ?q_iC_InvalidMember ?q_e_UnexpectedByte ?q_iC_UnexpectedByte ?q_e_UnexpectedEnd ?q_iC_UnexpectedEnd ?q_e_UnknownMember ?q_iC_UnknownMember ?q_e_AlreadySet ?q_iC_AlreadySet ?q_e_KindsDiffer ?q_iC_KindsDiffer ?q_e_MissingDefault ?q_iC_MissingDefault ?q_e_NothingConvertible ?q_iC_NothingConvertible ?q_e_NotConvertible ?q_iC_NotConvertible ?q_e_UnknownField ?q_iC_UnknownField ?q_e_BadPlan ?q_iC_BadPlan ?q_e_TextError ?q_iC_TextError ?q_r_TextError ?q_v_TextError ?q_e_WordTooLong ?q_iC_WordTooLong ?q_e_InvalidNumber ?q_iC_InvalidNumber ?q_e_UnexpectedCharacter ?q_iC_UnexpectedCharacter ?q_e_ItemExpected ?q_iC_ItemExpected ?q_e_NameExpected ?q_iC_NameExpected ?q_e_DuplicateName ?q_iC_DuplicateName ?q_e_WordExpected ?q_iC_WordExpected ?q_e_CountExpected ?q_iC_CountExpected ?q_e_NumberExpected ?q_iC_NumberExpected ?q_e_DuplicateNumber ?q_iC_DuplicateNumber ?q_e_BitsLeft ?q_iC_BitsLeft ?q_e_RangesNotAllowed ?q_iC_RangesNotAllowed ?q_e_DefaultNotAllowed ?q_iC_DefaultNotAllowed ?q_e_NestedTooDeeply ?q_iC_NestedTooDeeply ?q_e_EmptyElements ?q_iC_EmptyElements ?q_e_CheckExpected ?q_iC_CheckExpected ?q_e_SymbolExpected ?q_iC_SymbolExpected ?q_e_MessageTooLong ?q_iC_MessageTooLong ?q_cl ?q_kt
    (case z_BridgeError => k_is)
    (case z_InvalidMember => k_is)
    (case z_UnexpectedByte => k_is)
    (case z_UnexpectedEnd => k_is)
    (case z_UnknownMember => k_is)
    (case z_AlreadySet => k_is)
    (case z_KindsDiffer => k_is)
    (case z_MissingDefault => k_is)
    (case z_NothingConvertible => k_is)
    (case z_NotConvertible => k_is)
    (case z_UnknownField => k_is)
    (case z_BadPlan => k_is)
    (case z_TextError => k_is)
    (case z_WordTooLong => k_is)
    (case z_InvalidNumber => k_is)
    (case z_UnexpectedCharacter => k_is)
    (case z_ItemExpected => k_is)
    (case z_NameExpected => k_is)
    (case z_DuplicateName => k_is)
    (case z_WordExpected => k_is)
    (case z_CountExpected => k_is)
    (case z_NumberExpected => k_is)
    (case z_DuplicateNumber => k_is)
    (case z_BitsLeft => k_is)
    (case z_RangesNotAllowed => k_is)
    (case z_DefaultNotAllowed => k_is)
    (case z_NestedTooDeeply => k_is)
    (case z_EmptyElements => k_is)
    (case z_CheckExpected => k_is)
    (case z_SymbolExpected => k_is)
    (case z_MessageTooLong => k_is)
    (case a0 => k_is)
    (case l0 => k_is)
    (case c0 => k_is)
    (case k0 => k_is)
    (case a1 => k_is)
    (case l1 => k_is)
    (case c1 => k_is)
    (case k1 => k_is)
    (case a2 => k_is)
    (case l2 => k_is)
    (case c2 => k_is)
    (case k2 => k_is)
    (case a3 => k_is)
    (case l3 => k_is)
    (case c3 => k_is)
    (case k3 => k_is)
    (case a4 => k_is)
    (case u4 => k_is)
    (case l4 => k_is)
    (case c4 => k_is)
    (case k4 => k_is)
    (case a5 => k_is)
    (case u5 => k_is)
    (case l5 => k_is)
    (case c5 => k_is)
    (case k5 => k_is)
    (case a6 => k_is)
    (case u6 => k_is)
    (case l6 => k_is)
    (case c6 => k_is)
    (case k6 => k_is)
    (case a7 => k_is)
    (case u7 => k_is)
    (case l7 => k_is)
    (case c7 => k_is)
    (case k7 => k_is)
    (case a8 => k_is)
    (case u8 => k_is)
    (case l8 => k_is)
    (case c8 => k_is)
    (case k8 => k_is)
    (case a9 => k_is)
    (case u9 => k_is)
    (case l9 => k_is)
    (case c9 => k_is)
    (case k9 => k_is)
    (case a10 => k_is)
    (case u10 => k_is)
    (case l10 => k_is)
    (case c10 => k_is)
    (case k10 => k_is)
    (case a11 => k_is)
    (case u11 => k_is)
    (case l11 => k_is)
    (case c11 => k_is)
    (case k11 => k_is)
    (case a12 => k_is)
    (case u12 => k_is)
    (case l12 => k_is)
    (case c12 => k_is)
    (case k12 => k_is)
    (case a13 => k_is)
    (case u13 => k_is)
    (case l13 => k_is)
    (case c13 => k_is)
    (case k13 => k_is)
    (case a14 => k_is)
    (case u14 => k_is)
    (case l14 => k_is)
    (case c14 => k_is)
    (case k14 => k_is)
    (case a15 => k_is)
    (case u15 => k_is)
    (case l15 => k_is)
    (case c15 => k_is)
    (case k15 => k_is)
    (case a16 => k_is)
    (case u16 => k_is)
    (case l16 => k_is)
    (case c16 => k_is)
    (case k16 => k_is)
    (case a17 => k_is)
    (case u17 => k_is)
    (case l17 => k_is)
    (case c17 => k_is)
    (case k17 => k_is)
    (case a18 => k_is)
    (case u18 => k_is)
    (case l18 => k_is)
    (case c18 => k_is)
    (case k18 => k_is)
    (case a19 => k_is)
    (case u19 => k_is)
    (case l19 => k_is)
    (case c19 => k_is)
    (case k19 => k_is)
    (case a20 => k_is)
    (case l20 => k_is)
    (case c20 => k_is)
    (case k20 => k_is)
    (case a21 => k_is)
    (case l21 => k_is)
    (case c21 => k_is)
    (case k21 => k_is)
    (case a22 => k_is)
    (case l22 => k_is)
    (case c22 => k_is)
    (case k22 => k_is)
    (case z_ValueError => k_is)
    (case z_abs => k_is)
    (case z_int => k_is)
    (case z_isinstance => k_is)
    (case z_len => k_is)
    (case z_list => k_is)
    (case z_max => k_is)
    (case z_range => k_is)
    (case z_repr => k_is)
    (case z_str => k_is)
    (case q_e_BridgeError => (refine' My.ec_mk ?c ?b ?s1 ?s2 ?s3 ?s4 ?d1 ?d2 ?d3 ?d4 ?d5 ?d6 ?d7 ?d8 ?na1 ?na2 ?na3 ?na4 ?na5 ?na6 ?na7 ?na8 ?na9; (case c => k_is); (case b => decide +kernel); (case s1 => k_is); (case s2 => k_is); (case s3 => k_is); (case s4 => k_is); (case d1 => k_is); (case d2 => k_is); (case d3 => k_is); (case d4 => k_is); (case d5 => k_is); (case d6 => k_is); (case d7 => k_is); (case d8 => k_is); (case na1 => k_is); (case na2 => k_is); (case na3 => k_is); (case na4 => k_is); (case na5 => k_is); (case na6 => k_is); (case na7 => k_is); (case na8 => k_is); (case na9 => k_is)))
    (case q_x_BridgeError => kernel_rfl)
    (case q_r_BridgeError => (refine' My.cr_mk ?r1 ?r2; (case r1 => k_is); (case r2 => k_is)))
    (case q_v_BridgeError => k_is)
    (case q_e_InvalidMember => (refine' My.ec_mk ?c ?b ?s1 ?s2 ?s3 ?s4 ?d1 ?d2 ?d3 ?d4 ?d5 ?d6 ?d7 ?d8 ?na1 ?na2 ?na3 ?na4 ?na5 ?na6 ?na7 ?na8 ?na9; (case c => k_is); (case b => decide +kernel); (case s1 => k_is); (case s2 => k_is); (case s3 => k_is); (case s4 => k_is); (case d1 => k_is); (case d2 => k_is); (case d3 => k_is); (case d4 => k_is); (case d5 => k_is); (case d6 => k_is); (case d7 => k_is); (case d8 => k_is); (case na1 => k_is); (case na2 => k_is); (case na3 => k_is); (case na4 => k_is); (case na5 => k_is); (case na6 => k_is); (case na7 => k_is); (case na8 => k_is); (case na9 => k_is)))
    (case q_iC_InvalidMember => k_is)
    (case q_e_UnexpectedByte => (refine' My.ec_mk ?c ?b ?s1 ?s2 ?s3 ?s4 ?d1 ?d2 ?d3 ?d4 ?d5 ?d6 ?d7 ?d8 ?na1 ?na2 ?na3 ?na4 ?na5 ?na6 ?na7 ?na8 ?na9; (case c => k_is); (case b => decide +kernel); (case s1 => k_is); (case s2 => k_is); (case s3 => k_is); (case s4 => k_is); (case d1 => k_is); (case d2 => k_is); (case d3 => k_is); (case d4 => k_is); (case d5 => k_is); (case d6 => k_is); (case d7 => k_is); (case d8 => k_is); (case na1 => k_is); (case na2 => k_is); (case na3 => k_is); (case na4 => k_is); (case na5 => k_is); (case na6 => k_is); (case na7 => k_is); (case na8 => k_is); (case na9 => k_is)))
    (case q_iC_UnexpectedByte => k_is)
    (case q_e_UnexpectedEnd => (refine' My.ec_mk ?c ?b ?s1 ?s2 ?s3 ?s4 ?d1 ?d2 ?d3 ?d4 ?d5 ?d6 ?d7 ?d8 ?na1 ?na2 ?na3 ?na4 ?na5 ?na6 ?na7 ?na8 ?na9; (case c => k_is); (case b => decide +kernel); (case s1 => k_is); (case s2 => k_is); (case s3 => k_is); (case s4 => k_is); (case d1 => k_is); (case d2 => k_is); (case d3 => k_is); (case d4 => k_is); (case d5 => k_is); (case d6 => k_is); (case d7 => k_is); (case d8 => k_is); (case na1 => k_is); (case na2 => k_is); (case na3 => k_is); (case na4 => k_is); (case na5 => k_is); (case na6 => k_is); (case na7 => k_is); (case na8 => k_is); (case na9 => k_is)))
    (case q_iC_UnexpectedEnd => k_is)
    (case q_e_UnknownMember => (refine' My.ec_mk ?c ?b ?s1 ?s2 ?s3 ?s4 ?d1 ?d2 ?d3 ?d4 ?d5 ?d6 ?d7 ?d8 ?na1 ?na2 ?na3 ?na4 ?na5 ?na6 ?na7 ?na8 ?na9; (case c => k_is); (case b => decide +kernel); (case s1 => k_is); (case s2 => k_is); (case s3 => k_is); (case s4 => k_is); (case d1 => k_is); (case d2 => k_is); (case d3 => k_is); (case d4 => k_is); (case d5 => k_is); (case d6 => k_is); (case d7 => k_is); (case d8 => k_is); (case na1 => k_is); (case na2 => k_is); (case na3 => k_is); (case na4 => k_is); (case na5 => k_is); (case na6 => k_is); (case na7 => k_is); (case na8 => k_is); (case na9 => k_is)))
    (case q_iC_UnknownMember => k_is)
    (case q_e_AlreadySet => (refine' My.ec_mk ?c ?b ?s1 ?s2 ?s3 ?s4 ?d1 ?d2 ?d3 ?d4 ?d5 ?d6 ?d7 ?d8 ?na1 ?na2 ?na3 ?na4 ?na5 ?na6 ?na7 ?na8 ?na9; (case c => k_is); (case b => decide +kernel); (case s1 => k_is); (case s2 => k_is); (case s3 => k_is); (case s4 => k_is); (case d1 => k_is); (case d2 => k_is); (case d3 => k_is); (case d4 => k_is); (case d5 => k_is); (case d6 => k_is); (case d7 => k_is); (case d8 => k_is); (case na1 => k_is); (case na2 => k_is); (case na3 => k_is); (case na4 => k_is); (case na5 => k_is); (case na6 => k_is); (case na7 => k_is); (case na8 => k_is); (case na9 => k_is)))
    (case q_iC_AlreadySet => k_is)
    (case q_e_KindsDiffer => (refine' My.ec_mk ?c ?b ?s1 ?s2 ?s3 ?s4 ?d1 ?d2 ?d3 ?d4 ?d5 ?d6 ?d7 ?d8 ?na1 ?na2 ?na3 ?na4 ?na5 ?na6 ?na7 ?na8 ?na9; (case c => k_is); (case b => decide +kernel); (case s1 => k_is); (case s2 => k_is); (case s3 => k_is); (case s4 => k_is); (case d1 => k_is); (case d2 => k_is); (case d3 => k_is); (case d4 => k_is); (case d5 => k_is); (case d6 => k_is); (case d7 => k_is); (case d8 => k_is); (case na1 => k_is); (case na2 => k_is); (case na3 => k_is); (case na4 => k_is); (case na5 => k_is); (case na6 => k_is); (case na7 => k_is); (case na8 => k_is); (case na9 => k_is)))
    (case q_iC_KindsDiffer => k_is)
    (case q_e_MissingDefault => (refine' My.ec_mk ?c ?b ?s1 ?s2 ?s3 ?s4 ?d1 ?d2 ?d3 ?d4 ?d5 ?d6 ?d7 ?d8 ?na1 ?na2 ?na3 ?na4 ?na5 ?na6 ?na7 ?na8 ?na9; (case c => k_is); (case b => decide +kernel); (case s1 => k_is); (case s2 => k_is); (case s3 => k_is); (case s4 => k_is); (case d1 => k_is); (case d2 => k_is); (case d3 => k_is); (case d4 => k_is); (case d5 => k_is); (case d6 => k_is); (case d7 => k_is); (case d8 => k_is); (case na1 => k_is); (case na2 => k_is); (case na3 => k_is); (case na4 => k_is); (case na5 => k_is); (case na6 => k_is); (case na7 => k_is); (case na8 => k_is); (case na9 => k_is)))
    (case q_iC_MissingDefault => k_is)
    (case q_e_NothingConvertible => (refine' My.ec_mk ?c ?b ?s1 ?s2 ?s3 ?s4 ?d1 ?d2 ?d3 ?d4 ?d5 ?d6 ?d7 ?d8 ?na1 ?na2 ?na3 ?na4 ?na5 ?na6 ?na7 ?na8 ?na9; (case c => k_is); (case b => decide +kernel); (case s1 => k_is); (case s2 => k_is); (case s3 => k_is); (case s4 => k_is); (case d1 => k_is); (case d2 => k_is); (case d3 => k_is); (case d4 => k_is); (case d5 => k_is); (case d6 => k_is); (case d7 => k_is); (case d8 => k_is); (case na1 => k_is); (case na2 => k_is); (case na3 => k_is); (case na4 => k_is); (case na5 => k_is); (case na6 => k_is); (case na7 => k_is); (case na8 => k_is); (case na9 => k_is)))
    (case q_iC_NothingConvertible => k_is)
    (case q_e_NotConvertible => (refine' My.ec_mk ?c ?b ?s1 ?s2 ?s3 ?s4 ?d1 ?d2 ?d3 ?d4 ?d5 ?d6 ?d7 ?d8 ?na1 ?na2 ?na3 ?na4 ?na5 ?na6 ?na7 ?na8 ?na9; (case c => k_is); (case b => decide +kernel); (case s1 => k_is); (case s2 => k_is); (case s3 => k_is); (case s4 => k_is); (case d1 => k_is); (case d2 => k_is); (case d3 => k_is); (case d4 => k_is); (case d5 => k_is); (case d6 => k_is); (case d7 => k_is); (case d8 => k_is); (case na1 => k_is); (case na2 => k_is); (case na3 => k_is); (case na4 => k_is); (case na5 => k_is); (case na6 => k_is); (case na7 => k_is); (case na8 => k_is); (case na9 => k_is)))
    (case q_iC_NotConvertible => k_is)
    (case q_e_UnknownField => (refine' My.ec_mk ?c ?b ?s1 ?s2 ?s3 ?s4 ?d1 ?d2 ?d3 ?d4 ?d5 ?d6 ?d7 ?d8 ?na1 ?na2 ?na3 ?na4 ?na5 ?na6 ?na7 ?na8 ?na9; (case c => k_is); (case b => decide +kernel); (case s1 => k_is); (case s2 => k_is); (case s3 => k_is); (case s4 => k_is); (case d1 => k_is); (case d2 => k_is); (case d3 => k_is); (case d4 => k_is); (case d5 => k_is); (case d6 => k_is); (case d7 => k_is); (case d8 => k_is); (case na1 => k_is); (case na2 => k_is); (case na3 => k_is); (case na4 => k_is); (case na5 => k_is); (case na6 => k_is); (case na7 => k_is); (case na8 => k_is); (case na9 => k_is)))
    (case q_iC_UnknownField => k_is)
    (case q_e_BadPlan => (refine' My.ec_mk ?c ?b ?s1 ?s2 ?s3 ?s4 ?d1 ?d2 ?d3 ?d4 ?d5 ?d6 ?d7 ?d8 ?na1 ?na2 ?na3 ?na4 ?na5 ?na6 ?na7 ?na8 ?na9; (case c => k_is); (case b => decide +kernel); (case s1 => k_is); (case s2 => k_is); (case s3 => k_is); (case s4 => k_is); (case d1 => k_is); (case d2 => k_is); (case d3 => k_is); (case d4 => k_is); (case d5 => k_is); (case d6 => k_is); (case d7 => k_is); (case d8 => k_is); (case na1 => k_is); (case na2 => k_is); (case na3 => k_is); (case na4 => k_is); (case na5 => k_is); (case na6 => k_is); (case na7 => k_is); (case na8 => k_is); (case na9 => k_is)))
    (case q_iC_BadPlan => k_is)
    (case q_e_TextError => (refine' My.ec_mk ?c ?b ?s1 ?s2 ?s3 ?s4 ?d1 ?d2 ?d3 ?d4 ?d5 ?d6 ?d7 ?d8 ?na1 ?na2 ?na3 ?na4 ?na5 ?na6 ?na7 ?na8 ?na9; (case c => k_is); (case b => decide +kernel); (case s1 => k_is); (case s2 => k_is); (case s3 => k_is); (case s4 => k_is); (case d1 => k_is); (case d2 => k_is); (case d3 => k_is); (case d4 => k_is); (case d5 => k_is); (case d6 => k_is); (case d7 => k_is); (case d8 => k_is); (case na1 => k_is); (case na2 => k_is); (case na3 => k_is); (case na4 => k_is); (case na5 => k_is); (case na6 => k_is); (case na7 => k_is); (case na8 => k_is); (case na9 => k_is)))
    (case q_iC_TextError => k_is)
    (case q_r_TextError => (refine' My.cr_mk ?r1 ?r2; (case r1 => k_is); (case r2 => k_is)))
    (case q_v_TextError => k_is)
    (case q_e_WordTooLong => (refine' My.ec_mk ?c ?b ?s1 ?s2 ?s3 ?s4 ?d1 ?d2 ?d3 ?d4 ?d5 ?d6 ?d7 ?d8 ?na1 ?na2 ?na3 ?na4 ?na5 ?na6 ?na7 ?na8 ?na9; (case c => k_is); (case b => decide +kernel); (case s1 => k_is); (case s2 => k_is); (case s3 => k_is); (case s4 => k_is); (case d1 => k_is); (case d2 => k_is); (case d3 => k_is); (case d4 => k_is); (case d5 => k_is); (case d6 => k_is); (case d7 => k_is); (case d8 => k_is); (case na1 => k_is); (case na2 => k_is); (case na3 => k_is); (case na4 => k_is); (case na5 => k_is); (case na6 => k_is); (case na7 => k_is); (case na8 => k_is); (case na9 => k_is)))
    (case q_iC_WordTooLong => k_is)
    (case q_e_InvalidNumber => (refine' My.ec_mk ?c ?b ?s1 ?s2 ?s3 ?s4 ?d1 ?d2 ?d3 ?d4 ?d5 ?d6 ?d7 ?d8 ?na1 ?na2 ?na3 ?na4 ?na5 ?na6 ?na7 ?na8 ?na9; (case c => k_is); (case b => decide +kernel); (case s1 => k_is); (case s2 => k_is); (case s3 => k_is); (case s4 => k_is); (case d1 => k_is); (case d2 => k_is); (case d3 => k_is); (case d4 => k_is); (case d5 => k_is); (case d6 => k_is); (case d7 => k_is); (case d8 => k_is); (case na1 => k_is); (case na2 => k_is); (case na3 => k_is); (case na4 => k_is); (case na5 => k_is); (case na6 => k_is); (case na7 => k_is); (case na8 => k_is); (case na9 => k_is)))
    (case q_iC_InvalidNumber => k_is)
    (case q_e_UnexpectedCharacter => (refine' My.ec_mk ?c ?b ?s1 ?s2 ?s3 ?s4 ?d1 ?d2 ?d3 ?d4 ?d5 ?d6 ?d7 ?d8 ?na1 ?na2 ?na3 ?na4 ?na5 ?na6 ?na7 ?na8 ?na9; (case c => k_is); (case b => decide +kernel); (case s1 => k_is); (case s2 => k_is); (case s3 => k_is); (case s4 => k_is); (case d1 => k_is); (case d2 => k_is); (case d3 => k_is); (case d4 => k_is); (case d5 => k_is); (case d6 => k_is); (case d7 => k_is); (case d8 => k_is); (case na1 => k_is); (case na2 => k_is); (case na3 => k_is); (case na4 => k_is); (case na5 => k_is); (case na6 => k_is); (case na7 => k_is); (case na8 => k_is); (case na9 => k_is)))
    (case q_iC_UnexpectedCharacter => k_is)
    (case q_e_ItemExpected => (refine' My.ec_mk ?c ?b ?s1 ?s2 ?s3 ?s4 ?d1 ?d2 ?d3 ?d4 ?d5 ?d6 ?d7 ?d8 ?na1 ?na2 ?na3 ?na4 ?na5 ?na6 ?na7 ?na8 ?na9; (case c => k_is); (case b => decide +kernel); (case s1 => k_is); (case s2 => k_is); (case s3 => k_is); (case s4 => k_is); (case d1 => k_is); (case d2 => k_is); (case d3 => k_is); (case d4 => k_is); (case d5 => k_is); (case d6 => k_is); (case d7 => k_is); (case d8 => k_is); (case na1 => k_is); (case na2 => k_is); (case na3 => k_is); (case na4 => k_is); (case na5 => k_is); (case na6 => k_is); (case na7 => k_is); (case na8 => k_is); (case na9 => k_is)))
    (case q_iC_ItemExpected => k_is)
    (case q_e_NameExpected => (refine' My.ec_mk ?c ?b ?s1 ?s2 ?s3 ?s4 ?d1 ?d2 ?d3 ?d4 ?d5 ?d6 ?d7 ?d8 ?na1 ?na2 ?na3 ?na4 ?na5 ?na6 ?na7 ?na8 ?na9; (case c => k_is); (case b => decide +kernel); (case s1 => k_is); (case s2 => k_is); (case s3 => k_is); (case s4 => k_is); (case d1 => k_is); (case d2 => k_is); (case d3 => k_is); (case d4 => k_is); (case d5 => k_is); (case d6 => k_is); (case d7 => k_is); (case d8 => k_is); (case na1 => k_is); (case na2 => k_is); (case na3 => k_is); (case na4 => k_is); (case na5 => k_is); (case na6 => k_is); (case na7 => k_is); (case na8 => k_is); (case na9 => k_is)))
    (case q_iC_NameExpected => k_is)
    (case q_e_DuplicateName => (refine' My.ec_mk ?c ?b ?s1 ?s2 ?s3 ?s4 ?d1 ?d2 ?d3 ?d4 ?d5 ?d6 ?d7 ?d8 ?na1 ?na2 ?na3 ?na4 ?na5 ?na6 ?na7 ?na8 ?na9; (case c => k_is); (case b => decide +kernel); (case s1 => k_is); (case s2 => k_is); (case s3 => k_is); (case s4 => k_is); (case d1 => k_is); (case d2 => k_is); (case d3 => k_is); (case d4 => k_is); (case d5 => k_is); (case d6 => k_is); (case d7 => k_is); (case d8 => k_is); (case na1 => k_is); (case na2 => k_is); (case na3 => k_is); (case na4 => k_is); (case na5 => k_is); (case na6 => k_is); (case na7 => k_is); (case na8 => k_is); (case na9 => k_is)))
    (case q_iC_DuplicateName => k_is)
    (case q_e_WordExpected => (refine' My.ec_mk ?c ?b ?s1 ?s2 ?s3 ?s4 ?d1 ?d2 ?d3 ?d4 ?d5 ?d6 ?d7 ?d8 ?na1 ?na2 ?na3 ?na4 ?na5 ?na6 ?na7 ?na8 ?na9; (case c => k_is); (case b => decide +kernel); (case s1 => k_is); (case s2 => k_is); (case s3 => k_is); (case s4 => k_is); (case d1 => k_is); (case d2 => k_is); (case d3 => k_is); (case d4 => k_is); (case d5 => k_is); (case d6 => k_is); (case d7 => k_is); (case d8 => k_is); (case na1 => k_is); (case na2 => k_is); (case na3 => k_is); (case na4 => k_is); (case na5 => k_is); (case na6 => k_is); (case na7 => k_is); (case na8 => k_is); (case na9 => k_is)))
    (case q_iC_WordExpected => k_is)
    (case q_e_CountExpected => (refine' My.ec_mk ?c ?b ?s1 ?s2 ?s3 ?s4 ?d1 ?d2 ?d3 ?d4 ?d5 ?d6 ?d7 ?d8 ?na1 ?na2 ?na3 ?na4 ?na5 ?na6 ?na7 ?na8 ?na9; (case c => k_is); (case b => decide +kernel); (case s1 => k_is); (case s2 => k_is); (case s3 => k_is); (case s4 => k_is); (case d1 => k_is); (case d2 => k_is); (case d3 => k_is); (case d4 => k_is); (case d5 => k_is); (case d6 => k_is); (case d7 => k_is); (case d8 => k_is); (case na1 => k_is); (case na2 => k_is); (case na3 => k_is); (case na4 => k_is); (case na5 => k_is); (case na6 => k_is); (case na7 => k_is); (case na8 => k_is); (case na9 => k_is)))
    (case q_iC_CountExpected => k_is)
    (case q_e_NumberExpected => (refine' My.ec_mk ?c ?b ?s1 ?s2 ?s3 ?s4 ?d1 ?d2 ?d3 ?d4 ?d5 ?d6 ?d7 ?d8 ?na1 ?na2 ?na3 ?na4 ?na5 ?na6 ?na7 ?na8 ?na9; (case c => k_is); (case b => decide +kernel); (case s1 => k_is); (case s2 => k_is); (case s3 => k_is); (case s4 => k_is); (case d1 => k_is); (case d2 => k_is); (case d3 => k_is); (case d4 => k_is); (case d5 => k_is); (case d6 => k_is); (case d7 => k_is); (case d8 => k_is); (case na1 => k_is); (case na2 => k_is); (case na3 => k_is); (case na4 => k_is); (case na5 => k_is); (case na6 => k_is); (case na7 => k_is); (case na8 => k_is); (case na9 => k_is)))
    (case q_iC_NumberExpected => k_is)
    (case q_e_DuplicateNumber => (refine' My.ec_mk ?c ?b ?s1 ?s2 ?s3 ?s4 ?d1 ?d2 ?d3 ?d4 ?d5 ?d6 ?d7 ?d8 ?na1 ?na2 ?na3 ?na4 ?na5 ?na6 ?na7 ?na8 ?na9; (case c => k_is); (case b => decide +kernel); (case s1 => k_is); (case s2 => k_is); (case s3 => k_is); (case s4 => k_is); (case d1 => k_is); (case d2 => k_is); (case d3 => k_is); (case d4 => k_is); (case d5 => k_is); (case d6 => k_is); (case d7 => k_is); (case d8 => k_is); (case na1 => k_is); (case na2 => k_is); (case na3 => k_is); (case na4 => k_is); (case na5 => k_is); (case na6 => k_is); (case na7 => k_is); (case na8 => k_is); (case na9 => k_is)))
    (case q_iC_DuplicateNumber => k_is)
    (case q_e_BitsLeft => (refine' My.ec_mk ?c ?b ?s1 ?s2 ?s3 ?s4 ?d1 ?d2 ?d3 ?d4 ?d5 ?d6 ?d7 ?d8 ?na1 ?na2 ?na3 ?na4 ?na5 ?na6 ?na7 ?na8 ?na9; (case c => k_is); (case b => decide +kernel); (case s1 => k_is); (case s2 => k_is); (case s3 => k_is); (case s4 => k_is); (case d1 => k_is); (case d2 => k_is); (case d3 => k_is); (case d4 => k_is); (case d5 => k_is); (case d6 => k_is); (case d7 => k_is); (case d8 => k_is); (case na1 => k_is); (case na2 => k_is); (case na3 => k_is); (case na4 => k_is); (case na5 => k_is); (case na6 => k_is); (case na7 => k_is); (case na8 => k_is); (case na9 => k_is)))
    (case q_iC_BitsLeft => k_is)
    (case q_e_RangesNotAllowed => (refine' My.ec_mk ?c ?b ?s1 ?s2 ?s3 ?s4 ?d1 ?d2 ?d3 ?d4 ?d5 ?d6 ?d7 ?d8 ?na1 ?na2 ?na3 ?na4 ?na5 ?na6 ?na7 ?na8 ?na9; (case c => k_is); (case b => decide +kernel); (case s1 => k_is); (case s2 => k_is); (case s3 => k_is); (case s4 => k_is); (case d1 => k_is); (case d2 => k_is); (case d3 => k_is); (case d4 => k_is); (case d5 => k_is); (case d6 => k_is); (case d7 => k_is); (case d8 => k_is); (case na1 => k_is); (case na2 => k_is); (case na3 => k_is); (case na4 => k_is); (case na5 => k_is); (case na6 => k_is); (case na7 => k_is); (case na8 => k_is); (case na9 => k_is)))
    (case q_iC_RangesNotAllowed => k_is)
    (case q_e_DefaultNotAllowed => (refine' My.ec_mk ?c ?b ?s1 ?s2 ?s3 ?s4 ?d1 ?d2 ?d3 ?d4 ?d5 ?d6 ?d7 ?d8 ?na1 ?na2 ?na3 ?na4 ?na5 ?na6 ?na7 ?na8 ?na9; (case c => k_is); (case b => decide +kernel); (case s1 => k_is); (case s2 => k_is); (case s3 => k_is); (case s4 => k_is); (case d1 => k_is); (case d2 => k_is); (case d3 => k_is); (case d4 => k_is); (case d5 => k_is); (case d6 => k_is); (case d7 => k_is); (case d8 => k_is); (case na1 => k_is); (case na2 => k_is); (case na3 => k_is); (case na4 => k_is); (case na5 => k_is); (case na6 => k_is); (case na7 => k_is); (case na8 => k_is); (case na9 => k_is)))
    (case q_iC_DefaultNotAllowed => k_is)
    (case q_e_NestedTooDeeply => (refine' My.ec_mk ?c ?b ?s1 ?s2 ?s3 ?s4 ?d1 ?d2 ?d3 ?d4 ?d5 ?d6 ?d7 ?d8 ?na1 ?na2 ?na3 ?na4 ?na5 ?na6 ?na7 ?na8 ?na9; (case c => k_is); (case b => decide +kernel); (case s1 => k_is); (case s2 => k_is); (case s3 => k_is); (case s4 => k_is); (case d1 => k_is); (case d2 => k_is); (case d3 => k_is); (case d4 => k_is); (case d5 => k_is); (case d6 => k_is); (case d7 => k_is); (case d8 => k_is); (case na1 => k_is); (case na2 => k_is); (case na3 => k_is); (case na4 => k_is); (case na5 => k_is); (case na6 => k_is); (case na7 => k_is); (case na8 => k_is); (case na9 => k_is)))
    (case q_iC_NestedTooDeeply => k_is)
    (case q_e_EmptyElements => (refine' My.ec_mk ?c ?b ?s1 ?s2 ?s3 ?s4 ?d1 ?d2 ?d3 ?d4 ?d5 ?d6 ?d7 ?d8 ?na1 ?na2 ?na3 ?na4 ?na5 ?na6 ?na7 ?na8 ?na9; (case c => k_is); (case b => decide +kernel); (case s1 => k_is); (case s2 => k_is); (case s3 => k_is); (case s4 => k_is); (case d1 => k_is); (case d2 => k_is); (case d3 => k_is); (case d4 => k_is); (case d5 => k_is); (case d6 => k_is); (case d7 => k_is); (case d8 => k_is); (case na1 => k_is); (case na2 => k_is); (case na3 => k_is); (case na4 => k_is); (case na5 => k_is); (case na6 => k_is); (case na7 => k_is); (case na8 => k_is); (case na9 => k_is)))
    (case q_iC_EmptyElements => k_is)
    (case q_e_CheckExpected => (refine' My.ec_mk ?c ?b ?s1 ?s2 ?s3 ?s4 ?d1 ?d2 ?d3 ?d4 ?d5 ?d6 ?d7 ?d8 ?na1 ?na2 ?na3 ?na4 ?na5 ?na6 ?na7 ?na8 ?na9; (case c => k_is); (case b => decide +kernel); (case s1 => k_is); (case s2 => k_is); (case s3 => k_is); (case s4 => k_is); (case d1 => k_is); (case d2 => k_is); (case d3 => k_is); (case d4 => k_is); (case d5 => k_is); (case d6 => k_is); (case d7 => k_is); (case d8 => k_is); (case na1 => k_is); (case na2 => k_is); (case na3 => k_is); (case na4 => k_is); (case na5 => k_is); (case na6 => k_is); (case na7 => k_is); (case na8 => k_is); (case na9 => k_is)))
    (case q_iC_CheckExpected => k_is)
    (case q_e_SymbolExpected => (refine' My.ec_mk ?c ?b ?s1 ?s2 ?s3 ?s4 ?d1 ?d2 ?d3 ?d4 ?d5 ?d6 ?d7 ?d8 ?na1 ?na2 ?na3 ?na4 ?na5 ?na6 ?na7 ?na8 ?na9; (case c => k_is); (case b => decide +kernel); (case s1 => k_is); (case s2 => k_is); (case s3 => k_is); (case s4 => k_is); (case d1 => k_is); (case d2 => k_is); (case d3 => k_is); (case d4 => k_is); (case d5 => k_is); (case d6 => k_is); (case d7 => k_is); (case d8 => k_is); (case na1 => k_is); (case na2 => k_is); (case na3 => k_is); (case na4 => k_is); (case na5 => k_is); (case na6 => k_is); (case na7 => k_is); (case na8 => k_is); (case na9 => k_is)))
    (case q_iC_SymbolExpected => k_is)
    (case q_e_MessageTooLong => (refine' My.ec_mk ?c ?b ?s1 ?s2 ?s3 ?s4 ?d1 ?d2 ?d3 ?d4 ?d5 ?d6 ?d7 ?d8 ?na1 ?na2 ?na3 ?na4 ?na5 ?na6 ?na7 ?na8 ?na9; (case c => k_is); (case b => decide +kernel); (case s1 => k_is); (case s2 => k_is); (case s3 => k_is); (case s4 => k_is); (case d1 => k_is); (case d2 => k_is); (case d3 => k_is); (case d4 => k_is); (case d5 => k_is); (case d6 => k_is); (case d7 => k_is); (case d8 => k_is); (case na1 => k_is); (case na2 => k_is); (case na3 => k_is); (case na4 => k_is); (case na5 => k_is); (case na6 => k_is); (case na7 => k_is); (case na8 => k_is); (case na9 => k_is)))
    (case q_iC_MessageTooLong => k_is)
    (case q_cl => kernel_rfl)
    (case q_kt => kernel_rfl)
