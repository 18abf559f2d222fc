import PyProof.Rows.All
import Wide.All
import OpenK.AllK
import Wide.FinOn
import HandS.ForMost
import HandS.IsInst
import HandS.Wide
import HandS.Style
import HandS.Codes
import HandS.WideBits
import HandS.More
import HandS.Walk
import PySem.Challenge.RW_bytebridge_k03_word_of_bytes
set_option Elab.async false
set_option linter.all false
set_option maxRecDepth 100000
set_option maxHeartbeats 4000000
namespace My
open PySem PySem.Spec PyProof.Rows L2
def topS (i : Nat) : Stmt := PySem.Challenge.pw_bytebridge_k03_word_of_bytes.main.body.getD i (.Pass ⟨0, 0, 0, 0⟩)
abbrev s_word_size : Stmt := topS 2
theorem sc_word_size : FnScope ["word"] ["word"] (defScope s_word_size) := ⟨rfl, rfl, rfl, by decide +kernel, rfl, by decide +kernel, by decide +kernel⟩
abbrev s_bits_at : Stmt := topS 6
theorem sc_bits_at : FnScope ["code", "low", "width"] ["code", "low", "width"] (defScope s_bits_at) := ⟨rfl, rfl, rfl, by decide +kernel, rfl, by decide +kernel, by decide +kernel⟩
abbrev s_in_word_order : Stmt := topS 5
theorem sc_in_word_order : FnScope ["word", "data"] ["word", "data"] (defScope s_in_word_order) := ⟨rfl, rfl, rfl, by decide +kernel, rfl, by decide +kernel, by decide +kernel⟩
abbrev s_store : Stmt := topS 3
theorem sc_store : FnScope ["word", "code", "rising", "index"] ["word", "code"] (defScope s_store) := ⟨rfl, rfl, rfl, by decide +kernel, rfl, by decide +kernel, by decide +kernel⟩
abbrev s_fetch : Stmt := topS 4
theorem sc_fetch : FnScope ["word", "data", "rising", "index", "byte"] ["word", "data"] (defScope s_fetch) := ⟨rfl, rfl, rfl, by decide +kernel, rfl, by decide +kernel, by decide +kernel⟩
abbrev s_l_tape : Stmt := topS 8
theorem sc_l_tape : FnScope ["script", "total", "cell"] ["script"] (defScope s_l_tape) := ⟨rfl, rfl, rfl, by decide +kernel, rfl, by decide +kernel, by decide +kernel⟩
abbrev s_l_draw : Stmt := topS 9
theorem sc_l_draw : FnScope ["tape", "many", "place", "number"] ["tape", "many"] (defScope s_l_draw) := ⟨rfl, rfl, rfl, by decide +kernel, rfl, by decide +kernel, by decide +kernel⟩
abbrev s_l_is_integer : Stmt := topS 10
theorem sc_l_is_integer : FnScope ["told", "due"] ["told", "due"] (defScope s_l_is_integer) := ⟨rfl, rfl, rfl, by decide +kernel, rfl, by decide +kernel, by decide +kernel⟩
abbrev s_l_horner : Stmt := topS 11
theorem sc_l_horner : FnScope ["data", "least_first", "code", "k", "byte"] ["data", "least_first"] (defScope s_l_horner) := ⟨rfl, rfl, rfl, by decide +kernel, rfl, by decide +kernel, by decide +kernel⟩
abbrev s_law : Stmt := topS 12
theorem sc_law : FnScope ["script", "tape", "kind", "word", "other", "size", "share", "data", "k", "code", "passed"] ["script"] (defScope s_law) := ⟨rfl, rfl, rfl, by decide +kernel, rfl, by decide +kernel, by decide +kernel⟩
structure Fx where
  f : Addr
  fd : FuncData
structure Ad where
  word_size : Fx
  bits_at : Fx
  in_word_order : Fx
  store : Fx
  fetch : Fx
  l_tape : Fx
  l_draw : Fx
  l_is_integer : Fx
  l_horner : Fx
  law : Fx
  c_WORD_SIZES : Addr
structure Txt (K : PySem.W.Frag) (w : World) (mg : Str → Option Value) (A : Ad) : Prop where
  F_word_size : Fun K "word_size" "word_size" s_word_size A.word_size.f A.word_size.fd
  g_word_size : mg "word_size" = some (.ref A.word_size.f)
  b_word_size : Binds K A.word_size.fd ["word"] []
  F_bits_at : Fun K "bits_at" "bits_at" s_bits_at A.bits_at.f A.bits_at.fd
  g_bits_at : mg "bits_at" = some (.ref A.bits_at.f)
  b_bits_at : Binds K A.bits_at.fd ["code", "low", "width"] []
  F_in_word_order : Fun K "in_word_order" "in_word_order" s_in_word_order A.in_word_order.f A.in_word_order.fd
  g_in_word_order : mg "in_word_order" = some (.ref A.in_word_order.f)
  b_in_word_order : Binds K A.in_word_order.fd ["word", "data"] []
  F_store : Fun K "store" "store" s_store A.store.f A.store.fd
  g_store : mg "store" = some (.ref A.store.f)
  b_store : Binds K A.store.fd ["word", "code"] []
  F_fetch : Fun K "fetch" "fetch" s_fetch A.fetch.f A.fetch.fd
  g_fetch : mg "fetch" = some (.ref A.fetch.f)
  b_fetch : Binds K A.fetch.fd ["word", "data"] []
  F_l_tape : Fun K "_law_tape" "_law_tape" s_l_tape A.l_tape.f A.l_tape.fd
  g_l_tape : mg "_law_tape" = some (.ref A.l_tape.f)
  b_l_tape : Binds K A.l_tape.fd ["script"] []
  F_l_draw : Fun K "_law_draw" "_law_draw" s_l_draw A.l_draw.f A.l_draw.fd
  g_l_draw : mg "_law_draw" = some (.ref A.l_draw.f)
  b_l_draw : Binds K A.l_draw.fd ["tape", "many"] []
  F_l_is_integer : Fun K "_law_is_integer" "_law_is_integer" s_l_is_integer A.l_is_integer.f A.l_is_integer.fd
  g_l_is_integer : mg "_law_is_integer" = some (.ref A.l_is_integer.f)
  b_l_is_integer : Binds K A.l_is_integer.fd ["told", "due"] []
  F_l_horner : Fun K "_law_horner" "_law_horner" s_l_horner A.l_horner.f A.l_horner.fd
  g_l_horner : mg "_law_horner" = some (.ref A.l_horner.f)
  b_l_horner : Binds K A.l_horner.fd ["data", "least_first"] []
  F_law : Fun K "law" "law" s_law A.law.f A.law.fd
  g_law : mg "law" = some (.ref A.law.f)
  b_law : Binds K A.law.fd ["script"] []
  n_abs : mg "abs" = none
  n_bool : mg "bool" = none
  n_enumerate : mg "enumerate" = none
  n_int : mg "int" = none
  n_isinstance : mg "isinstance" = none
  n_len : mg "len" = none
  n_list : mg "list" = none
  n_max : mg "max" = none
  n_range : mg "range" = none
  n_sum : mg "sum" = none
  g_WORD_SIZES : mg "WORD_SIZES" = some (.ref A.c_WORD_SIZES)
  d_WORD_SIZES_0 : KDct K w A.c_WORD_SIZES "u8" (.int 1)
  d_WORD_SIZES_1 : KDct K w A.c_WORD_SIZES "u16be" (.int 2)
  d_WORD_SIZES_2 : KDct K w A.c_WORD_SIZES "u16le" (.int 2)
  d_WORD_SIZES_3 : KDct K w A.c_WORD_SIZES "u32be" (.int 4)
  d_WORD_SIZES_4 : KDct K w A.c_WORD_SIZES "u32le" (.int 4)
theorem same_upd {H : Hp} {p : Addr} {o : HO} (h : H p = none) : Same H (upd H p o) := fun b x e => by
  rw [upd_ne (ne_of_none e h)]
  exact e
/-- a tape stands at t -/
def Tape (H : Hp) (t q : Addr) : Prop := ∃ (ns : List Int) (p h s : Int), H t = some (.lst [.ref q, .int p, .int h, .int s]) ∧ H q = some (.lst (ns.map V.int)) ∧ 0 ≤ p ∧ 0 ≤ h
/-- all objects but the one at t stay -/
def Kept (t : Addr) (H H' : Hp) : Prop := ∀ b o, b ≠ t → H b = some o → H' b = some o
theorem Kept.rfl {t : Addr} {H : Hp} : Kept t H H := fun _ _ _ e => e
theorem Kept.trans {t : Addr} {H H1 H2 : Hp} (a : Kept t H H1) (b : Kept t H1 H2) : Kept t H H2 := fun c o n e => b c o n (a c o n e)
theorem Kept.put {t : Addr} {H H1 : Hp} {o : HO} (a : Kept t H H1) : Kept t H (upd H1 t o) := fun c x n e => by
  rw [upd_ne n]
  exact a c x n e
theorem Kept.same {t : Addr} {H0 H H1 : Hp} (h0 : H0 t = none) (s : Same H0 H) (a : Kept t H H1) : Same H0 H1 := fun b o e => a b o (ne_of_none e h0) (s b o e)
theorem tape_ne {H : Hp} {t q : Addr} {ns : List Int} {p h s : Int} (h1 : H t = some (.lst [.ref q, .int p, .int h, .int s])) (h2 : H q = some (.lst (ns.map V.int))) : q ≠ t := fun e => by
  subst e
  rw [h1] at h2
  cases ns with
  | nil => cases h2
  | cons x r => cases h2
theorem map_int_at {ns : List Int} {i : Nat} {y : V} (h : (ns.map V.int)[i]? = some y) : ∃ z, y = V.int z ∧ ns[i]? = some z := by
  rw [List.getElem?_map] at h
  cases e : ns[i]? with
  | none => rw [e] at h; cases h
  | some z => rw [e] at h; exact ⟨z, (Option.some.inj h).symm, _root_.rfl⟩
theorem dec_eq_int {a b : Int} (e : decide (V.int a = V.int b) = true) : a = b := V.int.inj (of_decide_eq_true e)
theorem dec_ne_int {a b : Int} (e : ¬ decide (V.int a = V.int b) = true) : a ≠ b := fun z => e (decide_eq_true (congrArg V.int z))
theorem Tape.new {H : Hp} {t tq l : Addr} {o : HO} (h : Tape H t tq) (hl : H l = none) : Tape (upd H l o) t tq := by
  obtain ⟨ns, p, z, s, h1, h2, h3, h4⟩ := h
  exact ⟨ns, p, z, s, by rw [upd_ne (ne_of_none h1 hl)]; exact h1, by rw [upd_ne (ne_of_none h2 hl)]; exact h2, h3, h4⟩
/-- a store at another place -/
theorem Tape.put {H : Hp} {t tq l : Addr} {o : HO} (h : Tape H t tq) (n1 : l ≠ t) (n2 : l ≠ tq) : Tape (upd H l o) t tq := by
  obtain ⟨ns, p, z, s, h1, h2, h3, h4⟩ := h
  exact ⟨ns, p, z, s, by rw [upd_ne n1.symm]; exact h1, by rw [upd_ne n2.symm]; exact h2, h3, h4⟩
/-- what is new is not the tape's -/
theorem Tape.off {H : Hp} {t tq l : Addr} (h : Tape H t tq) (hl : H l = none) : l ≠ t ∧ l ≠ tq := by
  obtain ⟨ns, p, z, s, h1, h2, _⟩ := h
  exact ⟨(ne_of_none h1 hl).symm, (ne_of_none h2 hl).symm⟩
theorem Kept.new {t l : Addr} {H H1 : Hp} {o : HO} (a : Kept t H H1) (hl : H1 l = none) : Kept t H (upd H1 l o) := fun c x n e => by
  have e1 := a c x n e
  rw [upd_ne (ne_of_none e1 hl)]
  exact e1
theorem Kept.free {t tq l : Addr} {H H1 : Hp} (a : Kept t H H1) (hT : Tape H1 t tq) (hl : H1 l = none) : H l = none := by
  cases e : H l with
  | none => rfl
  | some o =>
    by_cases n : l = t
    · obtain ⟨ns, p, z, s, h1, _⟩ := hT
      rw [n, h1] at hl
      cases hl
    · rw [a l o n e] at hl
      cases hl
theorem two_pos (n : Nat) : (0 : Int) < 2 ^ n := Int.pow_pos (by decide)
theorem pow_abs (n : Nat) : ((2 : Int) ^ n).natAbs = 2 ^ n := by
  rw [Int.natAbs_pow]
  rfl
theorem pow_div {n m : Nat} (h : n < m) (hm : m ≤ 9000) : CDivW 0 (2 ^ n) ∧ ∀ i, CDivW i (2 ^ n) := by
  have h1 : ((2 : Int) ^ n).natAbs < 2 ^ m := by
    rw [pow_abs]
    exact Nat.pow_lt_pow_right (by decide) h
  exact ⟨wide_div (two_pos n) h1 (by omega) hm, fun i => wide_div (two_pos n) h1 (by omega) hm⟩
theorem div_div {a : Int} (x b : Int) (ha : 0 < a) : x / (a * b) = x / a / b := by
  rw [Int.ediv_ediv, if_neg (fun z => by omega), Int.sub_zero]
theorem mod_mul_div (x a b : Int) (ha : 0 < a) (hb : 0 < b) : x % (a * b) / a = x / a % b := by
  rw [Int.emod_def, Int.emod_def, Int.sub_eq_add_neg, Int.mul_assoc, ← Int.mul_neg, Int.add_mul_ediv_left _ _ (by omega), div_div _ _ ha]
  rw [Int.sub_eq_add_neg]
theorem mod_step (x : Int) (i : Nat) : x % 2 ^ (i + 1) = x % 2 ^ i + x / 2 ^ i % 2 * 2 ^ i := by
  have hp := two_pos i
  have h1 : x % (2 ^ i * 2) / 2 ^ i = x / 2 ^ i % 2 := mod_mul_div x (2 ^ i) 2 hp (by decide)
  have h2 : x % (2 ^ i * 2) % 2 ^ i = x % 2 ^ i := Int.emod_emod_of_dvd x ⟨2, rfl⟩
  rw [Int.pow_succ, ← h1, ← h2]
  generalize x % (2 ^ i * 2) = y
  rw [Int.emod_def, Int.mul_comm (2 ^ i)]
  omega
theorem div_pow (x : Int) (i j : Nat) : x / 2 ^ (i + j) = x / 2 ^ i / 2 ^ j := by
  rw [Int.pow_add, div_div _ _ (two_pos i)]
theorem iteDF {c A B : Prop} [Decidable c] (hc : ¬ c) (h : B) : if decide c = true then A else B := by
  rw [decide_eq_false hc]
  exact iteF h
theorem iteDT {c A B : Prop} [Decidable c] (hc : c) (h : A) : if decide c = true then A else B := by
  rw [decide_eq_true hc]
  exact iteT h
theorem dp_ints {K : PySem.W.Frag} {H : Hp} : ∀ ns : List Int, DpAll K H (ns.map V.int) (ns.map PyData.int)
  | [] => .nil
  | n :: r => .cons (.int n) (dp_ints r)
theorem eqvAll_ints : ∀ xs ys : List Int, PyData.eqvAll (xs.map PyData.int) (ys.map PyData.int) = decide (xs = ys)
  | [], [] => by
    rw [List.map_nil, PyData.eqvAll, decide_eq_true rfl]
  | [], _ :: _ => by
    rw [List.map_nil, List.map_cons, PyData.eqvAll, decide_eq_false (fun e => nomatch e)]
  | _ :: _, [] => by
    rw [List.map_nil, List.map_cons, PyData.eqvAll, decide_eq_false (fun e => nomatch e)]
  | x :: xs, y :: ys => by
    rw [List.map_cons, List.map_cons, PyData.eqvAll, PyData.eqv, eqvAll_ints xs ys]
    by_cases h1 : x = y
    · by_cases h2 : xs = ys
      · subst h1 h2
        simp
      · simp [h1, h2]
    · simp [h1]
theorem eqv_ints (xs ys : List Int) : PyData.eqv (.list (xs.map PyData.int)) (.list (ys.map PyData.int)) = decide (xs = ys) := by
  rw [PyData.eqv, eqvAll_ints]
theorem lay_ints : ∀ xs : List Int, PyData.canLayAll0 (xs.map PyData.int) = true
  | [] => by rw [List.map_nil, PyData.canLayAll0]
  | x :: xs => by rw [List.map_cons, PyData.canLayAll0, PyData.canLay0, lay_ints xs]; rfl
theorem depth_ints : ∀ xs : List Int, PyData.depthAll (xs.map PyData.int) = 0
  | [] => by rw [List.map_nil, PyData.depthAll]
  | x :: xs => by rw [List.map_cons, PyData.depthAll, PyData.depth, depth_ints xs]; rfl
theorem shaped_ints (xs : List Int) : SeqAt.shaped (.list (xs.map PyData.int)) = true := by
  unfold SeqAt.shaped
  rw [PyData.canLay0, lay_ints, PyData.depth, depth_ints]
  rfl
theorem cut_all (xs : List V) : cutV xs none none = xs := by
  unfold cutV
  rw [HT.sIx_none, HT.sIx_none, List.drop_zero, Nat.sub_zero, List.take_length]
/-- Horner's rule, the first byte the most significant -/
def hor (bs : List Int) : Int := bs.foldl (fun c b => c * 256 + b) 0
theorem hor_take {bs : List Int} {i : Nat} {b : Int} (h : bs[i]? = some b) : hor (bs.take (i + 1)) = hor (bs.take i) * 256 + b := by
  unfold hor
  rw [List.take_add_one, h, List.foldl_append]
  rfl
/-- the bytes of a code, the least significant first -/
def byts (c : Int) (n : Nat) : List Int := (List.range n).map fun i => c / 2 ^ (8 * i) % 2 ^ 8
theorem byts_len (c : Int) (n : Nat) : (byts c n).length = n := by
  unfold byts
  rw [List.length_map, List.length_range]
theorem byts_next (c : Int) (n : Nat) : byts c (n + 1) = byts c n ++ [c / 2 ^ (8 * n) % 2 ^ 8] := by
  unfold byts
  rw [List.range_succ, List.map_append]
  rfl
theorem byts_are {c : Int} {n : Nat} : ∀ b ∈ byts c n, 0 ≤ b ∧ b < 256 := by
  intro b hb
  unfold byts at hb
  obtain ⟨i, _, rfl⟩ := List.mem_map.mp hb
  exact ⟨Int.emod_nonneg _ (by decide), Int.emod_lt_of_pos _ (by decide)⟩
/-- the terms that bytes add to a code, the least significant first -/
def terms : Nat → List Int → List Int
  | _, [] => []
  | k, b :: r => b * 2 ^ (8 * k) :: terms (k + 1) r
theorem terms_at : ∀ (k i : Nat) (xs : List Int) (b : Int), xs[i]? = some b → (terms k xs)[i]? = some (b * 2 ^ (8 * (k + i)))
  | k, 0, b :: r, x, h => by
    have e : b = x := Option.some.inj h
    subst e
    rfl
  | k, i + 1, b :: r, x, h => by
    have e : r[i]? = some x := h
    have q := terms_at (k + 1) i r x e
    rw [show k + (i + 1) = k + 1 + i by omega]
    exact q
  | _, 0, [], _, h => by cases h
  | _, i + 1, [], _, h => by cases h
theorem terms_len : ∀ (k : Nat) (xs : List Int), (terms k xs).length = xs.length
  | _, [] => rfl
  | k, b :: r => by
    show (terms (k + 1) r).length + 1 = r.length + 1
    rw [terms_len]
theorem take_next {α : Type} {xs : List α} {i : Nat} {x : α} (h : xs[i]? = some x) : xs.take (i + 1) = xs.take i ++ [x] := by
  rw [List.take_add_one, h]
  rfl

section
variable {P : Program} {w : World} {K : PySem.W.Frag} {mg : Str → Option Value} {base : Heap} {A : Ad}
/-! def word_size -/
/-- the five words and their bytes -/
def WSz (z : Str) (n : Int) : Prop := (z = "u8" ∧ n = 1) ∨ (z = "u16be" ∧ n = 2) ∨ (z = "u16le" ∧ n = 2) ∨ (z = "u32be" ∧ n = 4) ∨ (z = "u32le" ∧ n = 4)
def sp_word_size (K : PySem.W.Frag) : Sp := fun vs H Q _ => ∃ (z : Str) (n : Int), vs = [.str z] ∧ WSz z n ∧ Q (.int n) H
theorem ok_word_size (T : Txt K w mg A) : FnOk P w K mg base CX0 1 A.word_size.f A.word_size.fd ["word"] (sp_word_size K) := by
  refine T.F_word_size.ok sc_word_size (fun vs H Q E h => ?_) (fun cdv Ar outer s H vs Q E hr h => ?_)
  · obtain ⟨z, n, rfl, _⟩ := h; rfl
  · obtain ⟨z, n, rfl, hz, k⟩ := h
    refine ⟨_, (pss_one (ps_ret (pe_ix ix_kdict (pe_glob (v := .ref A.c_WORD_SIZES) rfl T.g_WORD_SIZES rfl) (pv 0) (fun _ _ => rfl)))), ?_⟩
    have hd : KDct K w A.c_WORD_SIZES z (.int n) := by
      rcases hz with ⟨rfl, rfl⟩ | ⟨rfl, rfl⟩ | ⟨rfl, rfl⟩ | ⟨rfl, rfl⟩ | ⟨rfl, rfl⟩
      · exact T.d_WORD_SIZES_0
      · exact T.d_WORD_SIZES_1
      · exact T.d_WORD_SIZES_2
      · exact T.d_WORD_SIZES_3
      · exact T.d_WORD_SIZES_4
    exact ⟨_, rfl, _, _, _, rfl, rfl, hd, k⟩

/-! def bits_at -/
def sp_bits_at (K : PySem.W.Frag) : Sp := fun vs H Q _ => ∃ (c : Int) (l n : Nat), vs = [.int c, .int (l : Int), .int (n : Int)] ∧ n ≤ 10000 ∧ Q (.int (c / 2 ^ l % 2 ^ n)) H
theorem ok_bits_at (T : Txt K w mg A) : FnOk P w K mg base CX0 1 A.bits_at.f A.bits_at.fd ["code", "low", "width"] (sp_bits_at K) := by
  refine T.F_bits_at.ok sc_bits_at (fun vs H Q E h => ?_) (fun cdv Ar outer s H vs Q E hr h => ?_)
  · obtain ⟨c, l, n, rfl, _⟩ := h; rfl
  · obtain ⟨c, l, n, rfl, hn, k⟩ := h
    refine ⟨_, (pss_one (ps_ret (pe_op op_andM (pe_op op_shr (pv 0) (pv 1)) (pe_op op_sub (pe_op op_shl pe_int (pv 2)) pe_int)))), ?_⟩
    refine ⟨_, rfl, _, rfl, _, _, rfl, rfl, (by show (0 : Int) ≤ (l : Int); omega), _, rfl, _, _, rfl, rfl, ⟨by omega, by omega, by decide⟩, _, _, rfl, rfl, _, n, rfl, ?_, ?_⟩
    · rw [Int.toNat_natCast, Int.one_mul]
    · rw [Int.toNat_natCast]
      exact k

/-! def in_word_order -/
def isBE (z : Str) : Bool := Txt.endswith z "be"
def inOrder {α : Type} (z : Str) (xs : List α) : List α := if isBE z = true then xs.reverse else xs
theorem inOrder_map {α β : Type} (f : α → β) (z : Str) (xs : List α) : inOrder z (xs.map f) = (inOrder z xs).map f := by
  unfold inOrder
  split
  · rw [List.map_reverse]
  · rfl
def sp_in_word_order (K : PySem.W.Frag) : Sp := fun vs H Q _ => ∃ (z : Str) (d : Addr) (xs : List V), vs = [.str z, .ref d] ∧ SqL K H d xs ∧ ∀ p, H p = none → Q (.ref p) (upd H p (.lst (inOrder z xs)))
theorem ok_in_word_order (T : Txt K w mg A) : FnOk P w K mg base CX0 1 A.in_word_order.f A.in_word_order.fd ["word", "data"] (sp_in_word_order K) := by
  refine T.F_in_word_order.ok sc_in_word_order (fun vs H Q E h => ?_) (fun cdv Ar outer s H vs Q E hr h => ?_)
  · obtain ⟨z, d, xs, rfl, _⟩ := h; rfl
  · obtain ⟨z, d, xs, rfl, hd, k⟩ := h
    refine ⟨_, (pss_cons (ps_if (pt_val (pe_bm PySem.F.plainAttrs_str PySem.F.slot_str_endswith PySem.F.type_str_endswith mt_endswith (pv 0) (pa_cons pe_str pa_nil))) (pss_one (ps_ret (pe_revL (pv 1)))) pss_nil)
        (pss_one (ps_ret (pe_slice sl_list (pv 1) po_none po_none)))), ?_⟩
    refine ⟨_, rfl, rfl, z, _, rfl, rfl, _, rfl, ite2 (fun e => ?_) (fun e => ?_)⟩
    · refine ⟨_, rfl, d, xs, rfl, hd, fun p hp => ?_⟩
      have q := k p hp
      unfold inOrder isBE at q
      rw [if_pos e] at q
      exact q
    · refine ⟨_, rfl, d, xs, rfl, hd, fun p hp => ?_⟩
      have q := k p hp
      unfold inOrder isBE at q
      rw [if_neg e] at q
      rw [cut_all]
      exact q

/-! def store -/
def stored (z : Str) (c : Int) (n : Nat) : List Int := inOrder z (byts c n)
def sp_store (K : PySem.W.Frag) : Sp := fun vs H Q _ => ∃ (z : Str) (c : Int) (n : Nat), vs = [.str z, .int c] ∧ WSz z (n : Int) ∧ ∀ (H' : Hp) (p : Addr), Same H H' → H p = none → H' p = some (.lst ((stored z c n).map V.int)) → Q (.ref p) H'
theorem WSz.le {z : Str} {n : Int} (h : WSz z n) : 1 ≤ n ∧ n ≤ 4 := by
  rcases h with ⟨_, rfl⟩ | ⟨_, rfl⟩ | ⟨_, rfl⟩ | ⟨_, rfl⟩ | ⟨_, rfl⟩ <;> exact ⟨by decide, by decide⟩
theorem ok_store (T : Txt K w mg A) : FnOk P w K mg base CX0 2 A.store.f A.store.fd ["word", "code"] (sp_store K) := by
  have G_bits_at : FnOk P w K mg base CX0 1 A.bits_at.f A.bits_at.fd ["code", "low", "width"] (sp_bits_at K) := ok_bits_at T
  have G_in_word_order : FnOk P w K mg base CX0 1 A.in_word_order.f A.in_word_order.fd ["word", "data"] (sp_in_word_order K) := ok_in_word_order T
  have G_word_size : FnOk P w K mg base CX0 1 A.word_size.f A.word_size.fd ["word"] (sp_word_size K) := ok_word_size T
  refine T.F_store.ok sc_store (fun vs H Q E h => ?_) (fun cdv Ar outer s H vs Q E hr h => ?_)
  · obtain ⟨z, c, n, rfl, _⟩ := h; rfl
  · obtain ⟨z, c, n, rfl, hz, k⟩ := h
    refine ⟨_, (pss_cons (ps_setLc (i := 2) (own := [("index", 3)]) (g := (gName 3)) (tt := tYes) (by rfl) sc_store.nd rfl rfl (sw_true rfl rfl rfl (by decide +kernel)) (pi_range1 rfl T.n_range (pa_cons (pe_call G_word_size (hr.mono (by decide)) (by rfl) T.g_word_size T.F_word_size.kp T.b_word_size .nil pass0 (pa_cons (pv 0) pa_nil)) pa_nil)) (blkOk_by (own := [("index", 3)]) (N := ["word", "code", "rising", "index"]) (sc := defScope s_store) (by decide +kernel)) (fun _ _ _ _ _ => pg_name (i := 3) sc_store.nd rfl (Or.inl rfl)) (fun _ _ _ _ _ => pts_nil) (fun _ _ _ _ _ => (pe_call G_bits_at (hr.mono (by decide)) (by rfl) T.g_bits_at T.F_bits_at.kp T.b_bits_at .nil pass0 (pa_cons (pv 1) (pa_cons (pe_op op_mul pe_int (pv 3)) (pa_cons pe_int pa_nil))))))
        (pss_one (ps_ret (pe_call G_in_word_order (hr.mono (by decide)) (by rfl) T.g_in_word_order T.F_in_word_order.kp T.b_in_word_order .nil pass0 (pa_cons (pv 0) (pa_cons (pv 2) pa_nil)))))), ?_⟩
    have hn := hz.le
    refine ⟨_, rfl, z, n, rfl, hz, n, rfl, by omega, by omega, fun D hD => lc_range (lo := 0) (n := n) (fun i H2 => Same H H2 ∧ H2 D = some (.lst ((byts c i).map V.int))) ⟨same_upd hD, upd_same⟩ ?_ ?_⟩
    · rintro i H2 hi ⟨s2, h2⟩
      refine ⟨rfl, _, rfl, _, rfl, _, _, rfl, rfl, .inr ⟨by omega, by omega⟩, c, 8 * i, 8, ?_, by decide, _, h2, ?_, ?_⟩
      · show [V.int c, V.int (8 * (0 + (i : Int))), V.int 8] = _
        rw [show (8 * (0 + (i : Int))) = ((8 * i : Nat) : Int) by omega]
        rfl
      · rw [List.length_map, byts_len]
        exact small1000 (by omega)
      · refine ⟨fun b x e => ?_, ?_⟩
        · rw [upd_ne (ne_of_none e hD)]
          exact s2 b x e
        · rw [upd_same, byts_next, List.map_append]
          rfl
    · rintro H2 ⟨s2, h2⟩
      refine ⟨_, rfl, _, rfl, z, D, _, rfl, SqL.of h2, fun p hp => ?_⟩
      refine k _ p (s2.trans (same_upd hp)) (s2.free hp) ?_
      rw [upd_same, inOrder_map]
      rfl

/-! def fetch -/
def sp_fetch (K : PySem.W.Frag) : Sp := fun vs H Q _ => ∃ (z : Str) (d : Addr) (bs : List Int), vs = [.str z, .ref d] ∧ SqL K H d (bs.map V.int) ∧ bs.length ≤ 60 ∧ (∀ b ∈ bs, 0 ≤ b ∧ b < 256) ∧ ∀ H', Same H H' → Q (.int (terms 0 (inOrder z bs)).sum) H'
theorem inOrder_len {α : Type} (z : Str) (xs : List α) : (inOrder z xs).length = xs.length := by
  unfold inOrder
  split
  · rw [List.length_reverse]
  · rfl
theorem inOrder_mem {α : Type} {z : Str} {xs : List α} {x : α} (h : x ∈ inOrder z xs) : x ∈ xs := by
  unfold inOrder at h
  split at h
  · exact List.mem_reverse.mp h
  · exact h
theorem ok_fetch (T : Txt K w mg A) : FnOk P w K mg base CX0 2 A.fetch.f A.fetch.fd ["word", "data"] (sp_fetch K) := by
  have G_in_word_order : FnOk P w K mg base CX0 1 A.in_word_order.f A.in_word_order.fd ["word", "data"] (sp_in_word_order K) := ok_in_word_order T
  refine T.F_fetch.ok sc_fetch (fun vs H Q E h => ?_) (fun cdv Ar outer s H vs Q E hr h => ?_)
  · obtain ⟨z, d, bs, rfl, _⟩ := h; rfl
  · obtain ⟨z, d, bs, rfl, hd, hl, hb, k⟩ := h
    refine ⟨_, (pss_cons (ps_set (i := 2) sc_fetch.nd rfl (.inl rfl) (pe_call G_in_word_order (hr.mono (by decide)) (by rfl) T.g_in_word_order T.F_in_word_order.kp T.b_in_word_order .nil pass0 (pa_cons (pv 0) (pa_cons (pv 1) pa_nil))))
        (pss_one (ps_ret (pe_callB (cr_sum rfl) (by rfl) T.n_sum (by decide +kernel) (pa_cons (pe_lc (own := [("index", 3), ("byte", 4)]) (g := (gTup K 2 (gCons (gName 3) (gCons (gName 4) gNil)))) (tt := tYes) (by rfl) sc_fetch.nd (pi_enum (by rfl) T.n_enumerate (pa_cons (pv 2) pa_nil)) (blkOk_by (own := [("index", 3), ("byte", 4)]) (N := ["word", "data", "rising", "index", "byte"]) (sc := defScope s_fetch) (by decide +kernel)) (fun _ _ _ _ _ => (pg_tup (by rfl) (pgs_cons (pg_name (i := 3) sc_fetch.nd rfl (Or.inl rfl)) (pgs_cons (pg_name (i := 4) sc_fetch.nd rfl (Or.inl rfl)) pgs_nil)))) (fun _ _ _ _ _ => pts_nil) (fun _ _ _ _ _ => (pe_op op_shl (pv 4) (pe_op op_mul pe_int (pv 3))))) pa_nil))))), ?_⟩
    refine ⟨_, rfl, _, rfl, z, d, _, rfl, hd, fun r hr' => ?_⟩
    have s1 : Same H (upd H r (.lst (inOrder z (bs.map V.int)))) := same_upd hr'
    have hr2 : (upd H r (.lst (inOrder z (bs.map V.int)))) r = some (.lst ((inOrder z bs).map V.int)) := by
      rw [upd_same, inOrder_map]
    have hlen : ((inOrder z bs).map V.int).length = bs.length := by rw [List.length_map, inOrder_len]
    generalize upd H r (.lst (inOrder z (bs.map V.int))) = H1 at s1 hr2
    refine ⟨_, rfl, r, _, rfl, SqL.of hr2, fun D hD => lc_it (walk_enum (xs := (inOrder z bs).map V.int)) (fun i H2 => Same H1 H2 ∧ H2 D = some (.lst (((terms 0 (inOrder z bs)).take i).map V.int))) ⟨same_upd hD, upd_same⟩ (fun i H2 _ h2 => SqL.of (h2.1 _ _ hr2)) ?_ ?_⟩
    · rintro i x H2 H3 hi ⟨s2, h2⟩ ⟨Tt, x1, x2, rfl, nT, rfl, e1, e2⟩
      cases e1
      obtain ⟨b, rfl, hbi⟩ := map_int_at e2
      have h01 := hb b (inOrder_mem (List.mem_of_getElem? hbi))
      have nDT : D ≠ Tt := ne_of_none h2 nT
      rw [hlen] at hi
      refine ⟨Tt, _, rfl, .inl (.inl upd_same), rfl, _, _, rfl, _, _, rfl, rfl, rfl, _, rfl, _, rfl, _, _, rfl, rfl, .inl ⟨by decide, by decide⟩, _, _, rfl, rfl, ⟨?_, ?_, ?_⟩, _, by rw [upd_ne nDT]; exact h2, ?_, ?_⟩
      · omega
      · omega
      · omega
      · rw [List.length_map, List.length_take]
        exact Nat.lt_of_le_of_lt (Nat.min_le_left _ _) (small1000 (by omega))
      · refine ⟨fun c o e => ?_, ?_⟩
        · rw [upd_ne (ne_of_none e hD), upd_ne (ne_of_none (s2 c o e) nT)]
          exact s2 c o e
        · rw [upd_same, take_next (terms_at 0 i _ b hbi), List.map_append, Nat.zero_add]
          have e8 : ((8 : Int) * (i : Int)).toNat = 8 * i := by omega
          dsimp only
          rw [e8]
          rfl
    · rintro H2 ⟨s2, h2⟩
      rw [List.take_of_length_le (by rw [terms_len, hlen, inOrder_len]; exact Nat.le_refl _)] at h2
      exact ⟨D, _, rfl, SqL.of h2, k _ (s1.trans s2)⟩

/-! def _law_tape -/
def sp_l_tape (K : PySem.W.Frag) : Sp := fun vs H Q _ => ∃ (a : Addr) (ns : List Int), vs = [.ref a] ∧ SqL K H a (ns.map V.int) ∧ ∀ (H' : Hp) (t tq : Addr), Same H H' → H t = none → H tq = none → Tape H' t tq → Q (.ref t) H'
theorem ok_l_tape (T : Txt K w mg A) : FnOk P w K mg base CX0 1 A.l_tape.f A.l_tape.fd ["script"] (sp_l_tape K) := by
  refine T.F_l_tape.ok sc_l_tape (fun vs H Q E h => ?_) (fun cdv Ar outer s H vs Q E hr h => ?_)
  · obtain ⟨a, ns, rfl, _⟩ := h; rfl
  · obtain ⟨a, ns, rfl, hS, k⟩ := h
    refine ⟨_, (pss_cons (ps_set (i := 1) sc_l_tape.nd rfl (.inl rfl) pe_int)
        (pss_cons (ps_for PassesOwn.never rfl (pi_list (pv 0)) (pg_name (i := 2) sc_l_tape.nd rfl (Or.inl rfl)) (pss_one (ps_set (i := 1) sc_l_tape.nd rfl (.inl rfl) (pe_op op_mod (pe_callTy call_int1 (by rfl) T.n_int (by decide +kernel) (pa_cons (pe_op op_add (pe_op op_mul (pv 1) pe_int) (pe_callB call_abs (by rfl) T.n_abs (by decide +kernel) (pa_cons (pe_callTy call_int1 (by rfl) T.n_int (by decide +kernel) (pa_cons (pv 2) pa_nil)) pa_nil))) pa_nil)) pe_int))))
        (pss_one (ps_ret (pe_lst (pa_cons (pe_callTy call_list_of (by rfl) T.n_list (by decide +kernel) (pa_cons (pv 0) pa_nil)) (pa_cons pe_int (pa_cons pe_int (pa_cons (pv 1) pa_nil))))))))), ?_⟩
    refine ⟨_, rfl, a, rfl, ⟨_, hS⟩, for_list (K := K) (a := a) (xs := ns.map V.int) (fun i σ H2 => ∃ (z : Int) (v : Option V), σ = [some (.ref a), some (.int z), v] ∧ H2 = H) ⟨_, _, rfl, rfl⟩ (fun i σ H2 _ ⟨_, _, _, e⟩ => by rw [e]; exact hS) ?_ ?_⟩
    · rintro i y σ H2 hi ⟨z, v, rfl, rfl⟩
      obtain ⟨n, rfl, _⟩ := map_int_at hi
      refine ⟨_, rfl, _, _, rfl, rfl, .inr ⟨by decide, by decide⟩, _, rfl, .inl ⟨_, rfl, _, rfl, _, _, rfl, rfl, .inl ⟨_, rfl, _, _, rfl, rfl, (by show (0 : Int) < _; decide), ?_⟩⟩⟩
      exact ⟨_, _, rfl, rfl⟩
    · rintro σ H2 ⟨z, v, rfl, rfl⟩
      refine ⟨_, rfl, a, _, rfl, .inl hS, fun q hq => ?_⟩
      refine ⟨_, rfl, (by show 4 ≤ sizeLine; decide), fun t ht => ?_⟩
      have s1 : Same H2 (upd H2 q (.lst (ns.map V.int))) := same_upd hq
      have nqt : q ≠ t := fun e => by
        rw [← e, upd_same] at ht
        cases ht
      refine k _ t q (s1.trans (same_upd ht)) (s1.free ht) hq ⟨ns, 0, 0, z, upd_same, ?_, by decide, by decide⟩
      rw [upd_ne nqt, upd_same]

/-! def _law_draw -/
def sp_l_draw (K : PySem.W.Frag) : Sp := fun vs H Q _ => ∃ (t : Addr) (m : Int) (q : Addr), vs = [.ref t, .int m] ∧ Tape H t q ∧ 1 ≤ m ∧ m < 1073741824 ∧ ∀ (H' : Hp) (v : Int), 0 ≤ v → v < m → Tape H' t q → Kept t H H' → Q (.int v) H'
theorem ok_l_draw (T : Txt K w mg A) : FnOk P w K mg base CX0 1 A.l_draw.f A.l_draw.fd ["tape", "many"] (sp_l_draw K) := by
  refine T.F_l_draw.ok sc_l_draw (fun vs H Q E h => ?_) (fun cdv Ar outer s H vs Q E hr h => ?_)
  · obtain ⟨t, m, q, rfl, _⟩ := h; rfl
  · obtain ⟨t, m, q, rfl, ⟨ns, p, h, s0, hT, hq, hp, hh⟩, hm1, hm2, k⟩ := h
    refine ⟨_, (C8.pss_cut (ps_if (pt_cmpR op_eq (pe_ix ix_list (pv 0) pe_int (fun _ _ => rfl)) pe_int (nomark _)) (pss_cons (ps_set (i := 2) sc_l_draw.nd rfl (.inl rfl) (pe_ix ix_list (pv 0) pe_int (fun _ _ => rfl)))
        (pss_cons (ps_set (i := 3) sc_l_draw.nd rfl (.inl rfl) pe_int)
        (C8.pss_cut (ps_if (pt_cmpR op_lt (pv 2) (pe_callB call_len_seq (by rfl) T.n_len (by decide +kernel) (pa_cons (pe_ix ix_list (pv 0) pe_int (fun _ _ => rfl)) pa_nil)) (nomark _)) (pss_one (ps_set (i := 3) sc_l_draw.nd rfl (.inl rfl) (pe_callB call_abs (by rfl) T.n_abs (by decide +kernel) (pa_cons (pe_callTy call_int1 (by rfl) T.n_int (by decide +kernel) (pa_cons (pe_ix ix_list (pe_ix ix_list (pv 0) pe_int (fun _ _ => rfl)) (pv 2) (fun _ _ => rfl)) pa_nil)) pa_nil)))) (pss_cons (ps_asg (pe_op op_mod (pe_callTy call_int1 (by rfl) T.n_int (by decide +kernel) (pa_cons (pe_op op_add (pe_op op_add (pe_op op_mul (pe_ix ix_list (pv 0) pe_int (fun _ _ => rfl)) pe_int) (pv 2)) pe_int) pa_nil)) pe_int) (pg_sub (pv 0) pe_int set_list))
        (pss_one (ps_set (i := 3) sc_l_draw.nd rfl (.inl rfl) (pe_ix ix_list (pv 0) pe_int (fun _ _ => rfl))))))
        (pss_cons (ps_asg (pe_op op_add (pv 2) pe_int) (pg_sub (pv 0) pe_int set_list))
        (pss_cons (ps_if (pt_cmpR op_lt (pv 3) (pe_op op_pow pe_int pe_int) (nomark _)) (pss_cons (ps_set (i := 3) sc_l_draw.nd rfl (.inl rfl) (pe_op op_mod (pe_callTy call_int1 (by rfl) T.n_int (by decide +kernel) (pa_cons (pe_op op_add (pe_op op_add (pe_op op_mul (pv 3) pe_int) (pe_op op_mul (pv 2) pe_int)) pe_int) pa_nil)) pe_int))
        (pss_cons (ps_set (i := 3) sc_l_draw.nd rfl (.inl rfl) (pe_op op_mod (pe_callTy call_int1 (by rfl) T.n_int (by decide +kernel) (pa_cons (pe_op op_mul (pv 3) pe_int) pa_nil)) pe_int))
        (pss_one (ps_ret (pe_op op_mod (pe_callTy call_int1 (by rfl) T.n_int (by decide +kernel) (pa_cons (pv 3) pa_nil)) (pe_callB (call_max2 rfl) (by rfl) T.n_max (by decide +kernel) (pa_cons (pv 1) (pa_cons pe_int pa_nil)))))))) pss_nil)
        (pss_one (ps_asg (pv 3) (pg_sub (pv 0) pe_int set_list)))))))) pss_nil)
        (pss_cons (ps_set (i := 3) sc_l_draw.nd rfl (.inl rfl) (pe_ix ix_list (pv 0) pe_int (fun _ _ => rfl)))
        (pss_cons (ps_asg (pe_op op_fdiv (pv 3) (pe_callB (call_max2 rfl) (by rfl) T.n_max (by decide +kernel) (pa_cons (pv 1) (pa_cons pe_int pa_nil)))) (pg_sub (pv 0) pe_int set_list))
        (pss_one (ps_ret (pe_op op_mod (pe_callTy call_int1 (by rfl) T.n_int (by decide +kernel) (pa_cons (pv 3) pa_nil)) (pe_callB (call_max2 rfl) (by rfl) T.n_max (by decide +kernel) (pa_cons (pv 1) (pa_cons pe_int pa_nil))))))))), ?_⟩
    have nqt : q ≠ t := tape_ne hT hq
    have e1 : (if (1 : Int) > m then (1 : Int) else m) = m := if_neg (by omega)
    have fin : ∀ (n : Int) (H' : Hp), Tape H' t q → Kept t H H' → Q (.int (n % (if (1 : Int) > m then (1 : Int) else m))) H' := fun n H' hT' hK' => by
      rw [e1]
      exact k H' _ (Int.emod_nonneg _ (by omega)) (Int.emod_lt_of_pos _ (by omega)) hT' hK'
    refine ⟨fun σ' H' => ∃ (x y : Option V), σ' = [some (.ref t), some (.int m), x, y] ∧ Tape H' t q ∧ Kept t H H', ?_, ?_⟩
    · refine ⟨_, rfl, t, _, _, _, rfl, rfl, SqL.of hT, rfl, rfl, _, rfl, ite2 (fun e => ?_) (fun e => ?_)⟩
      · have eh : h = 0 := dec_eq_int e
        refine ⟨_, rfl, t, _, _, _, rfl, rfl, SqL.of hT, rfl, ?_⟩
        refine ⟨fun σ' H' => ∃ (n s' : Int), 0 ≤ n ∧ σ' = [some (.ref t), some (.int m), some (.int p), some (.int n)] ∧ H' t = some (.lst [.ref q, .int p, .int h, .int s']) ∧ Kept t H H', ?_, ?_⟩
        · refine ⟨_, rfl, _, rfl, t, _, _, _, rfl, rfl, SqL.of hT, rfl, q, _, rfl, .inl (SqL.of hq), _, _, rfl, rfl, _, rfl, ite2 (fun e => ?_) (fun e => ?_)⟩
          · have hlt : p < (ns.map V.int).length := of_decide_eq_true e
            rw [List.length_map] at hlt
            have hj : p.toNat < ns.length := by omega
            have ha : atI (ns.map V.int) p = some (V.int ns[p.toNat]) := at_of (j := p.toNat) (by omega) (by rw [List.getElem?_map, List.getElem?_eq_getElem hj]; rfl)
            refine ⟨_, rfl, t, _, _, _, rfl, rfl, SqL.of hT, rfl, _, rfl, q, _, _, _, rfl, rfl, SqL.of hq, ha, .inl ⟨_, rfl, _, rfl, ?_⟩⟩
            exact ⟨_, s0, (by split <;> omega), rfl, hT, Kept.rfl⟩
          · refine ⟨_, rfl, t, _, _, _, rfl, rfl, SqL.of hT, rfl, _, _, rfl, rfl, .inr ⟨by decide, by decide⟩, _, rfl, _, _, rfl, rfl, _, _, rfl, rfl, .inl ⟨_, rfl, _, _, rfl, rfl, (by show (0 : Int) < _; decide), _, rfl, t, _, _, 3, rfl, rfl, hT, rfl, ?_⟩⟩
            refine ⟨_, rfl, t, _, _, _, rfl, rfl, SqL.of upd_same, rfl, ?_⟩
            exact ⟨_, _, Int.emod_nonneg _ (by decide), rfl, upd_same, Kept.rfl.put⟩
        · rintro σ' H' ⟨n, s', hn, rfl, hT', hK'⟩
          have hq' := hK' q _ nqt hq
          refine ⟨_, rfl, _, _, rfl, rfl, _, rfl, t, _, _, 1, rfl, rfl, hT', rfl, ?_⟩
          have hT2 : Tape (upd H' t (.lst [.ref q, .int (p + 1), .int h, .int s'])) t q := ⟨ns, p + 1, h, s', upd_same, by rw [upd_ne nqt]; exact hq', by omega, hh⟩
          refine ⟨_, rfl, _, _, rfl, rfl, ⟨by decide, by decide, by decide⟩, _, _, rfl, rfl, _, rfl, ite2 (fun e => ?_) (fun e => ?_)⟩
          · refine ⟨_, rfl, _, _, rfl, rfl, .inr ⟨by decide, by decide⟩, _, rfl, _, _, rfl, rfl, .inr ⟨by decide, by decide⟩, _, _, rfl, rfl, _, _, rfl, rfl, .inl ⟨_, rfl, _, _, rfl, rfl, (by show (0 : Int) < _; decide), ?_⟩⟩
            refine ⟨_, rfl, _, _, rfl, rfl, .inr ⟨by decide, by decide⟩, .inl ⟨_, rfl, _, _, rfl, rfl, (by show (0 : Int) < _; decide), ?_⟩⟩
            refine ⟨_, rfl, .inl ⟨_, rfl, _, rfl, _, _, rfl, _, _, rfl, rfl, (by rw [e1]; omega), ?_⟩⟩
            exact fin _ _ hT2 hK'.put
          · refine ⟨_, rfl, _, rfl, t, _, _, 2, rfl, rfl, upd_same, rfl, ?_⟩
            refine ⟨_, _, rfl, ⟨ns, p + 1, n, s', upd_same, ?_, by omega, hn⟩, hK'.put.put⟩
            rw [upd_ne nqt, upd_ne nqt]
            exact hq'
      · exact ⟨_, _, rfl, ⟨ns, p, h, s0, hT, hq, hp, hh⟩, Kept.rfl⟩
    · rintro σ' H' ⟨x, y, rfl, ⟨ns', p', h', s', hT', hq', hp', hh'⟩, hK'⟩
      have nqt' : q ≠ t := nqt
      have e2 : (0 : Int) < (if (2 : Int) > m then (2 : Int) else m) := by split <;> omega
      refine ⟨_, rfl, t, _, _, _, rfl, rfl, SqL.of hT', rfl, ?_⟩
      refine ⟨_, rfl, _, rfl, _, _, rfl, _, _, rfl, rfl, ⟨e2, by split <;> omega⟩, _, rfl, t, _, _, 2, rfl, rfl, hT', rfl, ?_⟩
      refine ⟨_, rfl, .inl ⟨_, rfl, _, rfl, _, _, rfl, _, _, rfl, rfl, (by rw [e1]; omega), ?_⟩⟩
      refine fin _ _ ⟨ns', p', _, s', upd_same, ?_, hp', Int.ediv_nonneg hh' (by omega)⟩ hK'.put
      rw [upd_ne nqt']
      exact hq'

/-! def _law_is_integer -/
def sp_l_is_integer (K : PySem.W.Frag) : Sp := fun vs H Q _ => ∃ (x y : Int), vs = [.int x, .int y] ∧ Q (.bl (decide (x = y))) H
theorem ok_l_is_integer (T : Txt K w mg A) : FnOk P w K mg base CX0 1 A.l_is_integer.f A.l_is_integer.fd ["told", "due"] (sp_l_is_integer K) := by
  refine T.F_l_is_integer.ok sc_l_is_integer (fun vs H Q E h => ?_) (fun cdv Ar outer s H vs Q E hr h => ?_)
  · obtain ⟨x, y, rfl, _⟩ := h; rfl
  · obtain ⟨x, y, rfl, k⟩ := h
    refine ⟨_, (pss_one (ps_ret (pe_and (pe_callB call_isi (by rfl) T.n_isinstance (by decide +kernel) (pa_cons (pv 0) (pa_cons (pe_bltn (v := .ty "int") (by rfl) T.n_int boot_int rfl) pa_nil))) (pe_and (pe_not (pe_callB call_isi (by rfl) T.n_isinstance (by decide +kernel) (pa_cons (pv 0) (pa_cons (pe_bltn (v := .ty "bool") (by rfl) T.n_bool boot_bool rfl) pa_nil)))) (pe_one (pe_cmpR op_eq (pv 0) (pv 1) (nomark _))))))), ?_⟩
    refine ⟨_, rfl, _, _, .type "int", .type "int", true, rfl, .ty _, .base (.int _), kit_ty (by decide +kernel), true, rfl, ?_⟩
    rw [if_pos rfl]
    refine ⟨_, rfl, _, _, .type "int", .type "bool", false, rfl, .ty _, .base (.int _), kit_ty (by decide +kernel), false, rfl, true, rfl, ?_⟩
    rw [if_pos rfl]
    refine ⟨_, rfl, _, rfl, rfl, ?_⟩
    have e : decide (V.int x = V.int y) = decide (x = y) := by
      by_cases h : x = y
      · rw [decide_eq_true h, decide_eq_true (congrArg V.int h)]
      · rw [decide_eq_false h, decide_eq_false (fun z => h (V.int.inj z))]
    show Q (.bl (decide (V.int x = V.int y))) H
    rw [e]
    exact k

/-! def _law_horner -/
def sp_l_horner (K : PySem.W.Frag) : Sp := fun vs H Q _ => ∃ (d : Addr) (bs : List Int) (b : Bool), vs = [.ref d, .bl b] ∧ SqL K H d (bs.map V.int) ∧ bs.length ≤ 1000 ∧ Q (.int (hor (if b = true then bs.reverse else bs))) H
theorem ok_l_horner (T : Txt K w mg A) : FnOk P w K mg base CX0 1 A.l_horner.f A.l_horner.fd ["data", "least_first"] (sp_l_horner K) := by
  refine T.F_l_horner.ok sc_l_horner (fun vs H Q E h => ?_) (fun cdv Ar outer s H vs Q E hr h => ?_)
  · obtain ⟨d, bs, b, rfl, _⟩ := h; rfl
  · obtain ⟨d, bs, b, rfl, hd, hl, k⟩ := h
    refine ⟨_, (pss_cons (ps_set (i := 2) sc_l_horner.nd rfl (.inl rfl) pe_int)
        (pss_cons (ps_for PassesOwn.never rfl (pi_range1 rfl T.n_range (pa_cons (pe_callB call_len_seq (by rfl) T.n_len (by decide +kernel) (pa_cons (pv 0) pa_nil)) pa_nil)) (pg_name (i := 3) sc_l_horner.nd rfl (Or.inl rfl)) (pss_cons (ps_set (i := 4) sc_l_horner.nd rfl (.inl rfl) (pe_ix ix_list (pv 0) (pv 3) (fun _ _ => rfl)))
        (C8.pss_cut (ps_if (pt_val (pv 1)) (pss_one (ps_set (i := 4) sc_l_horner.nd rfl (.inl rfl) (pe_ix ix_list (pv 0) (pe_op op_sub (pe_op op_sub (pe_callB call_len_seq (by rfl) T.n_len (by decide +kernel) (pa_cons (pv 0) pa_nil)) pe_int) (pv 3)) (fun _ _ => rfl)))) pss_nil)
        (pss_one (ps_set (i := 2) sc_l_horner.nd rfl (.inl rfl) (pe_op op_add (pe_op op_mul (pv 2) pe_int) (pv 4)))))))
        (pss_one (ps_ret (pv 2))))), ?_⟩
    refine ⟨_, rfl, d, _, rfl, .inl hd, _, rfl, ?_, ?_, for_range (n := (bs.map V.int).length) (fun i σ H2 => ∃ v3 v4, σ = [some (.ref d), some (.bl b), some (.int (hor ((if b = true then bs.reverse else bs).take i))), v3, v4] ∧ H2 = H) ⟨_, _, rfl, rfl⟩ ?_ ?_⟩
    · rw [List.length_map]
      omega
    · rw [List.length_map]
      omega
    · rintro i σ H2 hi ⟨v3, v4, rfl, rfl⟩
      rw [List.length_map] at hi
      have ha : atI (bs.map V.int) (0 + (i : Int)) = some (V.int bs[i]) := at_of (j := i) (by omega) (by rw [List.getElem?_map, List.getElem?_eq_getElem hi]; rfl)
      refine ⟨_, rfl, _, rfl, d, _, _, _, rfl, rfl, hd, ha, ?_⟩
      refine ⟨fun σ' H' => ∃ x : Int, (if b = true then bs.reverse else bs)[i]? = some x ∧ σ' = [some (.ref d), some (.bl b), some (.int (hor ((if b = true then bs.reverse else bs).take i))), some (.int (0 + (i : Int))), some (.int x)] ∧ H' = H2, ?_, ?_⟩
      · refine ⟨_, rfl, _, rfl, ite2 (fun e => ?_) (fun e => ?_)⟩
        · have hj : bs.length - 1 - i < bs.length := by omega
          have hb : atI (bs.map V.int) (((bs.map V.int).length : Int) - 1 - (0 + (i : Int))) = some (V.int bs[bs.length - 1 - i]) := at_of (j := bs.length - 1 - i) (by rw [List.length_map]; omega) (by rw [List.getElem?_map, List.getElem?_eq_getElem hj]; rfl)
          refine ⟨_, rfl, _, rfl, d, _, rfl, .inl hd, _, _, rfl, rfl, _, rfl, _, _, rfl, rfl, d, _, _, _, rfl, rfl, hd, hb, ?_⟩
          refine ⟨_, ?_, rfl, rfl⟩
          rw [if_pos e, List.getElem?_reverse hi, List.getElem?_eq_getElem hj]
        · refine ⟨_, ?_, rfl, rfl⟩
          rw [if_neg e, List.getElem?_eq_getElem hi]
      · rintro σ' H' ⟨x, hx, rfl, rfl⟩
        refine ⟨_, rfl, _, _, rfl, rfl, .inr ⟨by decide, by decide⟩, _, rfl, _, _, rfl, rfl, ?_⟩
        exact ⟨_, _, by rw [hor_take hx]; rfl, rfl⟩
    · rintro σ H2 ⟨v3, v4, rfl, rfl⟩
      refine ⟨_, rfl, ?_⟩
      rw [List.length_map, List.take_of_length_le (by split <;> simp)]
      exact k

/-! def law -/
theorem terms_sum : ∀ (k : Nat) (xs : List Int), (terms k xs).sum = 2 ^ (8 * k) * xs.foldr (fun b c => c * 256 + b) 0
  | _, [] => by
    show (0 : Int) = _ * 0
    rw [Int.mul_zero]
  | k, b :: r => by
    show (b * 2 ^ (8 * k) :: terms (k + 1) r).sum = 2 ^ (8 * k) * (r.foldr (fun b c => c * 256 + b) 0 * 256 + b)
    rw [List.sum_cons, terms_sum (k + 1) r, show 8 * (k + 1) = 8 * k + 8 by omega, Int.pow_add, Int.mul_add, Int.mul_comm b, Int.add_comm, Int.mul_assoc, show ((2 : Int) ^ 8) = 256 from rfl, Int.mul_comm 256]
theorem hor_rev (xs : List Int) : (terms 0 xs).sum = hor xs.reverse := by
  rw [terms_sum, hor, List.foldl_reverse, Nat.mul_zero, Int.pow_zero, Int.one_mul]
theorem byts_hor {n : Nat} (h : n = 1 ∨ n = 2 ∨ n = 4) : ∀ xs : List Int, xs.length = n → (∀ b ∈ xs, 0 ≤ b ∧ b < 256) → byts (hor xs.reverse) n = xs := by
  intro xs hl hb
  rcases h with rfl | rfl | rfl
  · match xs, hl with
    | [a], _ =>
      have h1 := hb a (by simp)
      show [(0 * 256 + a) / 1 % 256] = [a]
      rw [show (0 * 256 + a) / 1 % 256 = a by omega]
  · match xs, hl with
    | [a, b], _ =>
      have h1 := hb a (by simp)
      have h2 := hb b (by simp)
      show [((0 * 256 + b) * 256 + a) / 1 % 256, ((0 * 256 + b) * 256 + a) / 256 % 256] = [a, b]
      rw [show ((0 * 256 + b) * 256 + a) / 1 % 256 = a by omega, show ((0 * 256 + b) * 256 + a) / 256 % 256 = b by omega]
  · match xs, hl with
    | [a, b, c, d], _ =>
      have h1 := hb a (by simp)
      have h2 := hb b (by simp)
      have h3 := hb c (by simp)
      have h4 := hb d (by simp)
      show [((((0 * 256 + d) * 256 + c) * 256 + b) * 256 + a) / 1 % 256, ((((0 * 256 + d) * 256 + c) * 256 + b) * 256 + a) / 256 % 256, ((((0 * 256 + d) * 256 + c) * 256 + b) * 256 + a) / 65536 % 256, ((((0 * 256 + d) * 256 + c) * 256 + b) * 256 + a) / 16777216 % 256] = [a, b, c, d]
      rw [show ((((0 * 256 + d) * 256 + c) * 256 + b) * 256 + a) / 1 % 256 = a by omega, show ((((0 * 256 + d) * 256 + c) * 256 + b) * 256 + a) / 256 % 256 = b by omega, show ((((0 * 256 + d) * 256 + c) * 256 + b) * 256 + a) / 65536 % 256 = c by omega, show ((((0 * 256 + d) * 256 + c) * 256 + b) * 256 + a) / 16777216 % 256 = d by omega]
theorem inOrder_twice {α : Type} (z : Str) (xs : List α) : inOrder z (inOrder z xs) = xs := by
  unfold inOrder
  by_cases e : isBE z = true
  · rw [if_pos e, if_pos e, List.reverse_reverse]
  · rw [if_neg e, if_neg e]
theorem rev1 {α : Type} {xs : List α} (h : xs.length = 1) : xs.reverse = xs := match xs, h with
  | [_], _ => rfl
theorem order_be {α : Type} {z : Str} (h : isBE z = true) (xs : List α) : inOrder z xs = xs.reverse := by
  unfold inOrder
  rw [if_pos h]
theorem order_le {α : Type} {z : Str} (h : ¬ isBE z = true) (xs : List α) : inOrder z xs = xs := by
  unfold inOrder
  rw [if_neg h]
/-- what the law draws of a word: kind, word, the other one, size; the number is read least first if b -/
structure Kind (v : Int) (z z2 : Str) (n : Nat) (b : Bool) : Prop where
  wz : atI [V.str "u8", V.str "u16be", V.str "u16le", V.str "u32be", V.str "u32le"] v = some (.str z)
  oz : atI [V.str "u8", V.str "u16le", V.str "u16be", V.str "u32le", V.str "u32be"] v = some (.str z2)
  nz : atI [V.int 1, V.int 2, V.int 2, V.int 4, V.int 4] v = some (.int (n : Int))
  sz : WSz z (n : Int)
  sz2 : WSz z2 (n : Int)
  lf : b = (decide (V.int v = V.int 2) || decide (V.int v = V.int 4))
  f1 : ∀ bs : List Int, bs.length = n → (if b = true then bs.reverse else bs) = (inOrder z bs).reverse
  f5 : ∀ bs : List Int, bs.length = n → inOrder z2 bs.reverse = inOrder z bs
  n124 : n = 1 ∨ n = 2 ∨ n = 4
theorem be0 : ¬ isBE "u8" = true := by decide +kernel
theorem be1 : isBE "u16be" = true := by decide +kernel
theorem be2 : ¬ isBE "u16le" = true := by decide +kernel
theorem be3 : isBE "u32be" = true := by decide +kernel
theorem be4 : ¬ isBE "u32le" = true := by decide +kernel
theorem kind_of {v : Int} (h0 : 0 ≤ v) (h1 : v < 5) : ∃ z z2 n b, Kind v z z2 n b := by
  rcases (show v = 0 ∨ v = 1 ∨ v = 2 ∨ v = 3 ∨ v = 4 by omega) with rfl | rfl | rfl | rfl | rfl
  · exact ⟨"u8", "u8", 1, false, rfl, rfl, rfl, .inl ⟨rfl, rfl⟩, .inl ⟨rfl, rfl⟩, by decide, fun bs h => by rw [if_neg (by decide), order_le be0, rev1 h], fun bs h => by rw [rev1 h], .inl rfl⟩
  · exact ⟨"u16be", "u16le", 2, false, rfl, rfl, rfl, .inr (.inl ⟨rfl, rfl⟩), .inr (.inr (.inl ⟨rfl, rfl⟩)), by decide, fun bs h => by rw [if_neg (by decide), order_be be1, List.reverse_reverse], fun bs h => by rw [order_le be2, order_be be1], .inr (.inl rfl)⟩
  · exact ⟨"u16le", "u16be", 2, true, rfl, rfl, rfl, .inr (.inr (.inl ⟨rfl, rfl⟩)), .inr (.inl ⟨rfl, rfl⟩), by decide, fun bs h => by rw [if_pos rfl, order_le be2], fun bs h => by rw [order_le be2, order_be be1, List.reverse_reverse], .inr (.inl rfl)⟩
  · exact ⟨"u32be", "u32le", 4, false, rfl, rfl, rfl, .inr (.inr (.inr (.inl ⟨rfl, rfl⟩))), .inr (.inr (.inr (.inr ⟨rfl, rfl⟩))), by decide, fun bs h => by rw [if_neg (by decide), order_be be3, List.reverse_reverse], fun bs h => by rw [order_le be4, order_be be3], .inr (.inr rfl)⟩
  · exact ⟨"u32le", "u32be", 4, true, rfl, rfl, rfl, .inr (.inr (.inr (.inr ⟨rfl, rfl⟩))), .inr (.inr (.inr (.inl ⟨rfl, rfl⟩))), by decide, fun bs h => by rw [if_pos rfl, order_le be4], fun bs h => by rw [order_le be4, order_be be3, List.reverse_reverse], .inr (.inr rfl)⟩
def sp_law (K : PySem.W.Frag) : Sp := fun vs H Q _ => ∃ (a : Addr) (ns : List Int), vs = [.ref a] ∧ SqL K H a (ns.map V.int) ∧ ns.length ≤ 63 ∧ ∀ H', Q (.bl true) H'
theorem ok_law (T : Txt K w mg A) : FnOk P w K mg base CX0 3 A.law.f A.law.fd ["script"] (sp_law K) := by
  have G_l_draw : FnOk P w K mg base CX0 1 A.l_draw.f A.l_draw.fd ["tape", "many"] (sp_l_draw K) := ok_l_draw T
  have G_l_horner : FnOk P w K mg base CX0 1 A.l_horner.f A.l_horner.fd ["data", "least_first"] (sp_l_horner K) := ok_l_horner T
  have G_l_is_integer : FnOk P w K mg base CX0 1 A.l_is_integer.f A.l_is_integer.fd ["told", "due"] (sp_l_is_integer K) := ok_l_is_integer T
  have G_l_tape : FnOk P w K mg base CX0 1 A.l_tape.f A.l_tape.fd ["script"] (sp_l_tape K) := ok_l_tape T
  have G_fetch : FnOk P w K mg base CX0 2 A.fetch.f A.fetch.fd ["word", "data"] (sp_fetch K) := ok_fetch T
  have G_store : FnOk P w K mg base CX0 2 A.store.f A.store.fd ["word", "code"] (sp_store K) := ok_store T
  refine T.F_law.ok sc_law (fun vs H Q E h => ?_) (fun cdv Ar outer s H vs Q E hr h => ?_)
  · obtain ⟨a, ns, rfl, _⟩ := h; rfl
  · obtain ⟨a, ns, rfl, hS, hlen, k⟩ := h
    refine ⟨_, (pss_cons (ps_set (i := 1) sc_law.nd rfl (.inr rfl) (pe_call G_l_tape (hr.mono (by decide)) (by rfl) T.g_l_tape T.F_l_tape.kp T.b_l_tape .nil pass0 (pa_cons (pv 0) pa_nil)))
        (pss_cons (ps_set (i := 2) sc_law.nd rfl (.inl rfl) (pe_call G_l_draw (hr.mono (by decide)) (by rfl) T.g_l_draw T.F_l_draw.kp T.b_l_draw .nil pass0 (pa_cons (pv 1) (pa_cons pe_int pa_nil))))
        (pss_cons (ps_set (i := 3) sc_law.nd rfl (.inl rfl) (pe_ix ix_list (pe_lst (pa_cons pe_str (pa_cons pe_str (pa_cons pe_str (pa_cons pe_str (pa_cons pe_str pa_nil)))))) (pv 2) (fun _ _ => rfl)))
        (pss_cons (ps_set (i := 4) sc_law.nd rfl (.inl rfl) (pe_ix ix_list (pe_lst (pa_cons pe_str (pa_cons pe_str (pa_cons pe_str (pa_cons pe_str (pa_cons pe_str pa_nil)))))) (pv 2) (fun _ _ => rfl)))
        (pss_cons (ps_set (i := 5) sc_law.nd rfl (.inl rfl) (pe_ix ix_list (pe_lst (pa_cons pe_int (pa_cons pe_int (pa_cons pe_int (pa_cons pe_int (pa_cons pe_int pa_nil)))))) (pv 2) (fun _ _ => rfl)))
        (pss_cons (ps_set (i := 6) sc_law.nd rfl (.inr rfl) (pe_call G_l_draw (hr.mono (by decide)) (by rfl) T.g_l_draw T.F_l_draw.kp T.b_l_draw .nil pass0 (pa_cons (pv 1) (pa_cons pe_int pa_nil))))
        (pss_cons (ps_setLc (i := 7) (own := [("k", 8)]) (g := (gName 8)) (tt := tYes) (by rfl) sc_law.nd rfl rfl (sw_true rfl rfl rfl (by decide +kernel)) (pi_range1 rfl T.n_range (pa_cons (pv 5) pa_nil)) (blkOk_by (own := [("k", 8)]) (N := ["script", "tape", "kind", "word", "other", "size", "share", "data", "k", "code", "passed"]) (sc := defScope s_law) (by decide +kernel)) (fun _ _ _ _ _ => pg_name (i := 8) sc_law.nd rfl (Or.inl rfl)) (fun _ _ _ _ _ => pts_nil) (fun _ _ _ _ _ => (pe_call G_l_draw (hr.mono (by decide)) (by rfl) T.g_l_draw T.F_l_draw.kp T.b_l_draw .nil pass0 (pa_cons (pv 1) (pa_cons pe_int pa_nil)))))
        (C8.pss_cut (ps_if (pt_cmpR op_lt (pv 6) pe_int (nomark _)) (pss_one (ps_setLc (i := 7) (own := [("k", 8)]) (g := (gName 8)) (tt := tYes) (by rfl) sc_law.nd rfl rfl (sw_true rfl rfl rfl (by decide +kernel)) (pi_range1 rfl T.n_range (pa_cons (pv 5) pa_nil)) (blkOk_by (own := [("k", 8)]) (N := ["script", "tape", "kind", "word", "other", "size", "share", "data", "k", "code", "passed"]) (sc := defScope s_law) (by decide +kernel)) (fun _ _ _ _ _ => pg_name (i := 8) sc_law.nd rfl (Or.inl rfl)) (fun _ _ _ _ _ => pts_nil) (fun _ _ _ _ _ => (pe_op op_mul pe_int (pv 6))))) pss_nil)
        (C8.pss_cut (ps_set (i := 9) sc_law.nd rfl (.inl rfl) (pe_call G_l_horner (hr.mono (by decide)) (by rfl) T.g_l_horner T.F_l_horner.kp T.b_l_horner .nil pass0 (pa_cons (pv 7) (pa_cons (pe_or (pe_cmpR op_eq (pv 2) pe_int (nomark _)) (pe_one (pe_cmpR op_eq (pv 2) pe_int (nomark _)))) pa_nil))))
        (pss_cons (ps_set (i := 10) sc_law.nd rfl (.inl rfl) (pe_callTy call_list_of (by rfl) T.n_list (by decide +kernel) (pa_cons (pv 7) pa_nil)))
        (pss_cons (ps_if (PW.pt (pw_or (pt_not (pt_val (pe_call G_l_is_integer (hr.mono (by decide)) (by rfl) T.g_l_is_integer T.F_l_is_integer.kp T.b_l_is_integer .nil pass0 (pa_cons (pe_call G_fetch (hr.mono (by decide)) (by rfl) T.g_fetch T.F_fetch.kp T.b_fetch .nil pass0 (pa_cons (pv 3) (pa_cons (pv 10) pa_nil))) (pa_cons (pv 9) pa_nil))))) (pw_or1 (pt_cmpR (op_neD hr.units) (pv 10) (pv 7) (nomark _))))) (pss_one (ps_ret pe_bl)) pss_nil)
        (pss_cons (ps_if (pt_cmpR (op_neD hr.units) (pe_call G_store (hr.mono (by decide)) (by rfl) T.g_store T.F_store.kp T.b_store .nil pass0 (pa_cons (pv 3) (pa_cons (pv 9) pa_nil))) (pv 7) (nomark _)) (pss_one (ps_ret pe_bl)) pss_nil)
        (pss_cons (ps_set (i := 10) sc_law.nd rfl (.inl rfl) (pe_revL (pv 7)))
        (pss_cons (ps_if (PW.pt (pw_or (pt_not (pt_val (pe_call G_l_is_integer (hr.mono (by decide)) (by rfl) T.g_l_is_integer T.F_l_is_integer.kp T.b_l_is_integer .nil pass0 (pa_cons (pe_call G_fetch (hr.mono (by decide)) (by rfl) T.g_fetch T.F_fetch.kp T.b_fetch .nil pass0 (pa_cons (pv 4) (pa_cons (pv 10) pa_nil))) (pa_cons (pv 9) pa_nil))))) (pw_or1 (pt_cmpR (op_neD hr.units) (pv 10) (pe_revL (pv 7)) (nomark _))))) (pss_one (ps_ret pe_bl)) pss_nil)
        (pss_one (ps_ret (pe_cmpR (op_eqD hr.units) (pe_call G_store (hr.mono (by decide)) (by rfl) T.g_store T.F_store.kp T.b_store .nil pass0 (pa_cons (pv 4) (pa_cons (pv 9) pa_nil))) (pe_revL (pv 7)) (nomark _)))))))))))))))))), ?_⟩
    refine ⟨_, rfl, a, ns, rfl, hS, fun H1 t tq s1 ht htq hT => ?_⟩
    refine ⟨_, rfl, t, 5, tq, rfl, hT, by decide, by decide, fun H2 v hv0 hv1 hT2 hK2 => ?_⟩
    obtain ⟨z, z2, n, b, kd⟩ := kind_of hv0 hv1
    have hn := kd.sz.le
    refine ⟨(by show 5 ≤ sizeLine; decide), fun l1 hl1 => ⟨_, rfl, l1, _, _, _, rfl, rfl, SqL.of upd_same, kd.wz, ?_⟩⟩
    have hT3 := hT2.new (o := .lst [V.str "u8", V.str "u16be", V.str "u16le", V.str "u32be", V.str "u32le"]) hl1
    refine ⟨(by show 5 ≤ sizeLine; decide), fun l2 hl2 => ⟨_, rfl, l2, _, _, _, rfl, rfl, SqL.of upd_same, kd.oz, ?_⟩⟩
    have hT4 := hT3.new (o := .lst [V.str "u8", V.str "u16le", V.str "u16be", V.str "u32le", V.str "u32be"]) hl2
    refine ⟨(by show 5 ≤ sizeLine; decide), fun l3 hl3 => ⟨_, rfl, l3, _, _, _, rfl, rfl, SqL.of upd_same, kd.nz, ?_⟩⟩
    have hT5 := hT4.new (o := .lst [V.int 1, V.int 2, V.int 2, V.int 4, V.int 4]) hl3
    refine ⟨_, rfl, t, 8, tq, rfl, hT5, by decide, by decide, fun H6 sh hs0 hs1 hT6 hK6 => ?_⟩
    refine ⟨_, rfl, n, rfl, by omega, by omega, fun D hD => lc_range (lo := 0) (n := n) (fun i H2 => Tape H2 t tq ∧ ∃ bs : List Int, bs.length = i ∧ (∀ x ∈ bs, 0 ≤ x ∧ x < 256) ∧ H2 D = some (.lst (bs.map V.int))) ⟨hT6.new hD, [], rfl, (fun x h => nomatch h), upd_same⟩ ?_ ?_⟩
    · rintro i H7 hi ⟨hT7, bs, hbl, hbb, h7⟩
      obtain ⟨nDt, nDq⟩ := hT6.off hD
      refine ⟨rfl, _, rfl, t, 256, tq, rfl, hT7, by decide, by decide, fun H8 u hu0 hu1 hT8 hK8 => ⟨bs.map V.int, hK8 D _ nDt h7, ?_, hT8.put nDt nDq, bs ++ [u], ?_, ?_, ?_⟩⟩
      · rw [List.length_map]
        exact small1000 (by omega)
      · rw [List.length_append, hbl]
        rfl
      · intro x hx
        rcases List.mem_append.mp hx with hx | hx
        · exact hbb x hx
        · rw [List.mem_singleton.mp hx]
          exact ⟨hu0, hu1⟩
      · rw [upd_same, List.map_append]
        rfl
    · rintro H7 ⟨hT7, bs, hbl, hbb, h7⟩
      refine ⟨fun σ' H' => ∃ (p : Addr) (bs : List Int), bs.length = n ∧ (∀ x ∈ bs, 0 ≤ x ∧ x < 256) ∧ H' p = some (.lst (bs.map V.int)) ∧ σ' = [some (.ref a), some (.ref t), some (.int v), some (.str z), some (.str z2), some (.int (n : Int)), some (.int sh), some (.ref p), none, none, none], ?_, ?_⟩
      · refine ⟨_, rfl, _, _, rfl, rfl, _, rfl, ite2 (fun e => ?_) (fun e => ?_)⟩
        · have e : sh < 2 := of_decide_eq_true e
          refine ⟨_, rfl, n, rfl, by omega, by omega, fun D2 hD2 => lc_range (lo := 0) (n := n) (fun i H2 => ∃ bs : List Int, bs.length = i ∧ (∀ x ∈ bs, 0 ≤ x ∧ x < 256) ∧ H2 D2 = some (.lst (bs.map V.int))) ⟨[], rfl, (fun x h => nomatch h), upd_same⟩ ?_ ?_⟩
          · rintro i H8 hi ⟨bs, hbl, hbb, h8⟩
            refine ⟨rfl, _, rfl, _, _, rfl, rfl, .inl ⟨by decide, by decide⟩, bs.map V.int, h8, ?_, bs ++ [255 * sh], ?_, ?_, ?_⟩
            · rw [List.length_map]
              exact small1000 (by omega)
            · rw [List.length_append, hbl]
              rfl
            · intro x hx
              rcases List.mem_append.mp hx with hx | hx
              · exact hbb x hx
              · rw [List.mem_singleton.mp hx]
                omega
            · rw [upd_same, List.map_append]
              rfl
          · rintro H8 ⟨bs, hbl, hbb, h8⟩
            exact ⟨D2, bs, hbl, hbb, h8, rfl⟩
        · exact ⟨D, bs, hbl, hbb, h7, rfl⟩
      · rintro σ' H' ⟨p, bs, hbl, hbb, hp, rfl⟩
        have hlf := kd.lf
        have hf1 := kd.f1 bs hbl
        refine ⟨fun σ' H2 => σ' = [some (.ref a), some (.ref t), some (.int v), some (.str z), some (.str z2), some (.int (n : Int)), some (.int sh), some (.ref p), none, some (.int (hor (inOrder z bs).reverse)), none] ∧ H2 = H', ?_, ?_⟩
        · refine ⟨_, rfl, _, rfl, rfl, _, rfl, ite2 (fun e => ?_) (fun e => ?_)⟩
          · rw [e, Bool.true_or] at hlf
            subst hlf
            refine ⟨p, bs, _, rfl, SqL.of hp, by omega, ?_⟩
            rw [hf1]
            exact ⟨rfl, rfl⟩
          · rw [Bool.eq_false_iff.mpr e, Bool.false_or] at hlf
            subst hlf
            refine ⟨_, rfl, rfl, p, bs, _, rfl, SqL.of hp, by omega, ?_⟩
            rw [hf1]
            exact ⟨rfl, rfl⟩
        · rintro σ' H2 ⟨rfl, rfl⟩
          generalize hcode : hor (inOrder z bs).reverse = code
          have hW : ∀ x ∈ inOrder z bs, 0 ≤ x ∧ x < 256 := fun x hx => hbb x (inOrder_mem hx)
          have hby : byts code n = inOrder z bs := by
            rw [← hcode]
            exact byts_hor kd.n124 _ (by rw [inOrder_len]; exact hbl) hW
          refine ⟨_, rfl, p, _, rfl, .inl (SqL.of hp), fun q hq => ?_⟩
          have npq : p ≠ q := ne_of_none hp hq
          have hp3 : (upd H2 q (.lst (bs.map V.int))) p = some (.lst (bs.map V.int)) := by
            rw [upd_ne npq]
            exact hp
          have hq3 : (upd H2 q (.lst (bs.map V.int))) q = some (.lst (bs.map V.int)) := upd_same
          generalize upd H2 q (.lst (bs.map V.int)) = H3 at hp3 hq3
          -- fetch(word, passed)
          refine ⟨_, rfl, _, rfl, z, q, bs, rfl, SqL.of hq3, by omega, hbb, fun H4 s4 => ?_⟩
          rw [hor_rev, hcode]
          refine ⟨_, rfl, _, _, rfl, _, rfl, ?_⟩
          rw [decide_eq_true rfl]
          refine iteF ⟨_, rfl, _, rfl, _, _, .lst (SqL.of (s4 _ _ hq3)) (dp_ints _), .lst (SqL.of (s4 _ _ hp3)) (dp_ints _), shaped_ints _, shaped_ints _, _, rfl, ?_⟩
          rw [eqv_ints, decide_eq_true rfl]
          refine iteF ?_
          -- store(word, code)
          refine ⟨_, rfl, _, rfl, z, code, n, rfl, kd.sz, fun H5 r s5 hr4 hr5 => ?_⟩
          have e5 : stored z code n = bs := by
            unfold stored
            rw [hby, inOrder_twice]
          rw [e5] at hr5
          have hp5 := s5 _ _ (s4 _ _ hp3)
          refine ⟨_, rfl, _, _, .lst (SqL.of hr5) (dp_ints _), .lst (SqL.of hp5) (dp_ints _), shaped_ints _, shaped_ints _, _, rfl, ?_⟩
          rw [eqv_ints, decide_eq_true rfl]
          refine iteF ?_
          -- passed = data[::-1]
          refine ⟨_, rfl, p, _, rfl, SqL.of hp5, fun u hu => ?_⟩
          have hu6 : (upd H5 u (.lst (bs.map V.int).reverse)) u = some (.lst (bs.reverse.map V.int)) := by
            rw [upd_same, List.map_reverse]
          have hp6 : (upd H5 u (.lst (bs.map V.int).reverse)) p = some (.lst (bs.map V.int)) := by
            rw [upd_ne (ne_of_none hp5 hu)]
            exact hp5
          generalize upd H5 u (.lst (bs.map V.int).reverse) = H6' at hu6 hp6
          refine ⟨_, rfl, _, rfl, z2, u, bs.reverse, rfl, SqL.of hu6, by rw [List.length_reverse]; omega, fun x hx => hbb x (List.mem_reverse.mp hx), fun H7' s7 => ?_⟩
          rw [hor_rev, kd.f5 bs hbl, hcode]
          refine ⟨_, rfl, _, _, rfl, _, rfl, ?_⟩
          rw [decide_eq_true rfl]
          have hp7 := s7 _ _ hp6
          refine iteF ⟨_, rfl, _, rfl, p, _, rfl, SqL.of hp7, fun y hy => ?_⟩
          have hu8 : (upd H7' y (.lst (bs.map V.int).reverse)) u = some (.lst (bs.reverse.map V.int)) := by
            rw [upd_ne (ne_of_none (s7 _ _ hu6) hy)]
            exact s7 _ _ hu6
          have hy8 : (upd H7' y (.lst (bs.map V.int).reverse)) y = some (.lst (bs.reverse.map V.int)) := by
            rw [upd_same, List.map_reverse]
          have hp8 : (upd H7' y (.lst (bs.map V.int).reverse)) p = some (.lst (bs.map V.int)) := by
            rw [upd_ne (ne_of_none hp7 hy)]
            exact hp7
          generalize upd H7' y (.lst (bs.map V.int).reverse) = H8' at hu8 hy8 hp8
          refine ⟨_, _, .lst (SqL.of hu8) (dp_ints _), .lst (SqL.of hy8) (dp_ints _), shaped_ints _, shaped_ints _, _, rfl, ?_⟩
          rw [eqv_ints, decide_eq_true rfl]
          refine iteF ?_
          refine ⟨_, rfl, _, rfl, z2, code, n, rfl, kd.sz2, fun H9 r2 s9 hr8 hr9 => ?_⟩
          have e9 : stored z2 code n = bs.reverse := by
            unfold stored
            rw [hby, ← kd.f5 bs hbl, inOrder_twice]
          rw [e9] at hr9
          have hp9 := s9 _ _ hp8
          refine ⟨_, rfl, p, _, rfl, SqL.of hp9, fun x hx => ?_⟩
          have hr10 : (upd H9 x (.lst (bs.map V.int).reverse)) r2 = some (.lst (bs.reverse.map V.int)) := by
            rw [upd_ne (ne_of_none hr9 hx)]
            exact hr9
          have hx10 : (upd H9 x (.lst (bs.map V.int).reverse)) x = some (.lst (bs.reverse.map V.int)) := by
            rw [upd_same, List.map_reverse]
          refine ⟨_, _, .lst (SqL.of hr10) (dp_ints _), .lst (SqL.of hx10) (dp_ints _), shaped_ints _, shaped_ints _, ?_⟩
          rw [eqv_ints, decide_eq_true rfl]
          exact k _
end
theorem all_mk {l : PySem.W.OpenLaw} {w : World} {K : PySem.W.Frag} {h : Heap} {mg : Str → Option Value} {fa : Addr} (X : K.In h) (G : h.Ns mainGlobals mg) (hfa : mg "law" = some (.ref fa))
    {f0 : Addr} {od0 an0 : Option Addr} {sl0 : Array (Option Value)} {oc0 kV0 dc0 pm0 cd0 ct0 : Value}
    (a0 : PySem.W.nsIn K mainGlobals "word_size" = some (some (.ref f0))) (l0 : K.lookup f0 = some ⟨oc0, od0, .func (PySem.W.fnOf "word_size" "word_size" (defArgs s_word_size) (defBody s_word_size) (defScope s_word_size) .none kV0 dc0 pm0 an0 cd0 ct0), sl0⟩) (c0 : PySem.W.codeIn K cd0 "word_size" = true) (k0 : PySem.W.keepIn K (.ref f0) = true)
    {f1 : Addr} {od1 an1 : Option Addr} {sl1 : Array (Option Value)} {oc1 kV1 dc1 pm1 cd1 ct1 : Value}
    (a1 : PySem.W.nsIn K mainGlobals "bits_at" = some (some (.ref f1))) (l1 : K.lookup f1 = some ⟨oc1, od1, .func (PySem.W.fnOf "bits_at" "bits_at" (defArgs s_bits_at) (defBody s_bits_at) (defScope s_bits_at) .none kV1 dc1 pm1 an1 cd1 ct1), sl1⟩) (c1 : PySem.W.codeIn K cd1 "bits_at" = true) (k1 : PySem.W.keepIn K (.ref f1) = true)
    {f2 : Addr} {od2 an2 : Option Addr} {sl2 : Array (Option Value)} {oc2 kV2 dc2 pm2 cd2 ct2 : Value}
    (a2 : PySem.W.nsIn K mainGlobals "in_word_order" = some (some (.ref f2))) (l2 : K.lookup f2 = some ⟨oc2, od2, .func (PySem.W.fnOf "in_word_order" "in_word_order" (defArgs s_in_word_order) (defBody s_in_word_order) (defScope s_in_word_order) .none kV2 dc2 pm2 an2 cd2 ct2), sl2⟩) (c2 : PySem.W.codeIn K cd2 "in_word_order" = true) (k2 : PySem.W.keepIn K (.ref f2) = true)
    {f3 : Addr} {od3 an3 : Option Addr} {sl3 : Array (Option Value)} {oc3 kV3 dc3 pm3 cd3 ct3 : Value}
    (a3 : PySem.W.nsIn K mainGlobals "store" = some (some (.ref f3))) (l3 : K.lookup f3 = some ⟨oc3, od3, .func (PySem.W.fnOf "store" "store" (defArgs s_store) (defBody s_store) (defScope s_store) .none kV3 dc3 pm3 an3 cd3 ct3), sl3⟩) (c3 : PySem.W.codeIn K cd3 "store" = true) (k3 : PySem.W.keepIn K (.ref f3) = true)
    {f4 : Addr} {od4 an4 : Option Addr} {sl4 : Array (Option Value)} {oc4 kV4 dc4 pm4 cd4 ct4 : Value}
    (a4 : PySem.W.nsIn K mainGlobals "fetch" = some (some (.ref f4))) (l4 : K.lookup f4 = some ⟨oc4, od4, .func (PySem.W.fnOf "fetch" "fetch" (defArgs s_fetch) (defBody s_fetch) (defScope s_fetch) .none kV4 dc4 pm4 an4 cd4 ct4), sl4⟩) (c4 : PySem.W.codeIn K cd4 "fetch" = true) (k4 : PySem.W.keepIn K (.ref f4) = true)
    {f5 : Addr} {od5 an5 : Option Addr} {sl5 : Array (Option Value)} {oc5 kV5 dc5 pm5 cd5 ct5 : Value}
    (a5 : PySem.W.nsIn K mainGlobals "_law_tape" = some (some (.ref f5))) (l5 : K.lookup f5 = some ⟨oc5, od5, .func (PySem.W.fnOf "_law_tape" "_law_tape" (defArgs s_l_tape) (defBody s_l_tape) (defScope s_l_tape) .none kV5 dc5 pm5 an5 cd5 ct5), sl5⟩) (c5 : PySem.W.codeIn K cd5 "_law_tape" = true) (k5 : PySem.W.keepIn K (.ref f5) = true)
    {f6 : Addr} {od6 an6 : Option Addr} {sl6 : Array (Option Value)} {oc6 kV6 dc6 pm6 cd6 ct6 : Value}
    (a6 : PySem.W.nsIn K mainGlobals "_law_draw" = some (some (.ref f6))) (l6 : K.lookup f6 = some ⟨oc6, od6, .func (PySem.W.fnOf "_law_draw" "_law_draw" (defArgs s_l_draw) (defBody s_l_draw) (defScope s_l_draw) .none kV6 dc6 pm6 an6 cd6 ct6), sl6⟩) (c6 : PySem.W.codeIn K cd6 "_law_draw" = true) (k6 : PySem.W.keepIn K (.ref f6) = true)
    {f7 : Addr} {od7 an7 : Option Addr} {sl7 : Array (Option Value)} {oc7 kV7 dc7 pm7 cd7 ct7 : Value}
    (a7 : PySem.W.nsIn K mainGlobals "_law_is_integer" = some (some (.ref f7))) (l7 : K.lookup f7 = some ⟨oc7, od7, .func (PySem.W.fnOf "_law_is_integer" "_law_is_integer" (defArgs s_l_is_integer) (defBody s_l_is_integer) (defScope s_l_is_integer) .none kV7 dc7 pm7 an7 cd7 ct7), sl7⟩) (c7 : PySem.W.codeIn K cd7 "_law_is_integer" = true) (k7 : PySem.W.keepIn K (.ref f7) = true)
    {f8 : Addr} {od8 an8 : Option Addr} {sl8 : Array (Option Value)} {oc8 kV8 dc8 pm8 cd8 ct8 : Value}
    (a8 : PySem.W.nsIn K mainGlobals "_law_horner" = some (some (.ref f8))) (l8 : K.lookup f8 = some ⟨oc8, od8, .func (PySem.W.fnOf "_law_horner" "_law_horner" (defArgs s_l_horner) (defBody s_l_horner) (defScope s_l_horner) .none kV8 dc8 pm8 an8 cd8 ct8), sl8⟩) (c8 : PySem.W.codeIn K cd8 "_law_horner" = true) (k8 : PySem.W.keepIn K (.ref f8) = true)
    {f9 : Addr} {od9 an9 : Option Addr} {sl9 : Array (Option Value)} {oc9 kV9 dc9 pm9 cd9 ct9 : Value}
    (a9 : PySem.W.nsIn K mainGlobals "law" = some (some (.ref f9))) (l9 : K.lookup f9 = some ⟨oc9, od9, .func (PySem.W.fnOf "law" "law" (defArgs s_law) (defBody s_law) (defScope s_law) .none kV9 dc9 pm9 an9 cd9 ct9), sl9⟩) (c9 : PySem.W.codeIn K cd9 "law" = true) (k9 : PySem.W.keepIn K (.ref f9) = true)
    (z_abs : PySem.W.nsIn K mainGlobals "abs" = some none)
    (z_bool : PySem.W.nsIn K mainGlobals "bool" = some none)
    (z_enumerate : PySem.W.nsIn K mainGlobals "enumerate" = some none)
    (z_int : PySem.W.nsIn K mainGlobals "int" = some none)
    (z_isinstance : PySem.W.nsIn K mainGlobals "isinstance" = some none)
    (z_len : PySem.W.nsIn K mainGlobals "len" = some none)
    (z_list : PySem.W.nsIn K mainGlobals "list" = some none)
    (z_max : PySem.W.nsIn K mainGlobals "max" = some none)
    (z_range : PySem.W.nsIn K mainGlobals "range" = some none)
    (z_sum : PySem.W.nsIn K mainGlobals "sum" = some none)
    {a_WORD_SIZES : Addr} (y_WORD_SIZES : PySem.W.nsIn K mainGlobals "WORD_SIZES" = some (some (.ref a_WORD_SIZES)))
    {es_WORD_SIZES : Array DictEntry} {en_WORD_SIZES : Nat} (m_WORD_SIZES : K.lookup a_WORD_SIZES = some ⟨.type "dict", none, .dict es_WORD_SIZES en_WORD_SIZES, #[]⟩)
    (i_WORD_SIZES : PySem.W.KeysLit w.params es_WORD_SIZES.toList)
    {u_WORD_SIZES_0 : Tok} (v_WORD_SIZES_0 : PySem.W.nsIn K a_WORD_SIZES "u8" = some (some (.int 1 u_WORD_SIZES_0)))
    {u_WORD_SIZES_1 : Tok} (v_WORD_SIZES_1 : PySem.W.nsIn K a_WORD_SIZES "u16be" = some (some (.int 2 u_WORD_SIZES_1)))
    {u_WORD_SIZES_2 : Tok} (v_WORD_SIZES_2 : PySem.W.nsIn K a_WORD_SIZES "u16le" = some (some (.int 2 u_WORD_SIZES_2)))
    {u_WORD_SIZES_3 : Tok} (v_WORD_SIZES_3 : PySem.W.nsIn K a_WORD_SIZES "u32be" = some (some (.int 4 u_WORD_SIZES_3)))
    {u_WORD_SIZES_4 : Tok} (v_WORD_SIZES_4 : PySem.W.nsIn K a_WORD_SIZES "u32le" = some (some (.int 4 u_WORD_SIZES_4)))
    : ∃ fd : FuncData, (∀ (s : Shared) (v : Value), BindsTo s fd ⟨[v], []⟩ [("script", v)]) ∧ ∀ base : Heap, K.In base → base.Ns mainGlobals mg → FnOk l.prog w K mg base CX0 3 fa fd ["script"] (sp_law K) := by
  have e := hfa.symm.trans (PySem.W.mg_of X G a9)
  cases e
  have F0 := fun_mk (st := s_word_size) l0 c0 k0
  have b0 := F0.binds (ps := ["word"]) fun _ _ _ _ _ _ us hl => match us, hl with | [_], _ => rfl
  have F1 := fun_mk (st := s_bits_at) l1 c1 k1
  have b1 := F1.binds (ps := ["code", "low", "width"]) fun _ _ _ _ _ _ us hl => match us, hl with | [_, _, _], _ => rfl
  have F2 := fun_mk (st := s_in_word_order) l2 c2 k2
  have b2 := F2.binds (ps := ["word", "data"]) fun _ _ _ _ _ _ us hl => match us, hl with | [_, _], _ => rfl
  have F3 := fun_mk (st := s_store) l3 c3 k3
  have b3 := F3.binds (ps := ["word", "code"]) fun _ _ _ _ _ _ us hl => match us, hl with | [_, _], _ => rfl
  have F4 := fun_mk (st := s_fetch) l4 c4 k4
  have b4 := F4.binds (ps := ["word", "data"]) fun _ _ _ _ _ _ us hl => match us, hl with | [_, _], _ => rfl
  have F5 := fun_mk (st := s_l_tape) l5 c5 k5
  have b5 := F5.binds (ps := ["script"]) fun _ _ _ _ _ _ us hl => match us, hl with | [_], _ => rfl
  have F6 := fun_mk (st := s_l_draw) l6 c6 k6
  have b6 := F6.binds (ps := ["tape", "many"]) fun _ _ _ _ _ _ us hl => match us, hl with | [_, _], _ => rfl
  have F7 := fun_mk (st := s_l_is_integer) l7 c7 k7
  have b7 := F7.binds (ps := ["told", "due"]) fun _ _ _ _ _ _ us hl => match us, hl with | [_, _], _ => rfl
  have F8 := fun_mk (st := s_l_horner) l8 c8 k8
  have b8 := F8.binds (ps := ["data", "least_first"]) fun _ _ _ _ _ _ us hl => match us, hl with | [_, _], _ => rfl
  have F9 := fun_mk (st := s_law) l9 c9 k9
  have b9 := F9.binds (ps := ["script"]) fun _ _ _ _ _ _ us hl => match us, hl with | [_], _ => rfl
  have T : Txt K w mg ⟨⟨f0, _⟩, ⟨f1, _⟩, ⟨f2, _⟩, ⟨f3, _⟩, ⟨f4, _⟩, ⟨f5, _⟩, ⟨f6, _⟩, ⟨f7, _⟩, ⟨f8, _⟩, ⟨fa, _⟩, a_WORD_SIZES⟩ := ⟨F0, PySem.W.mg_of X G a0, b0, F1, PySem.W.mg_of X G a1, b1, F2, PySem.W.mg_of X G a2, b2, F3, PySem.W.mg_of X G a3, b3, F4, PySem.W.mg_of X G a4, b4, F5, PySem.W.mg_of X G a5, b5, F6, PySem.W.mg_of X G a6, b6, F7, PySem.W.mg_of X G a7, b7, F8, PySem.W.mg_of X G a8, b8, F9, PySem.W.mg_of X G a9, b9, PySem.W.mg_none_of X G z_abs, PySem.W.mg_none_of X G z_bool, PySem.W.mg_none_of X G z_enumerate, PySem.W.mg_none_of X G z_int, PySem.W.mg_none_of X G z_isinstance, PySem.W.mg_none_of X G z_len, PySem.W.mg_none_of X G z_list, PySem.W.mg_none_of X G z_max, PySem.W.mg_none_of X G z_range, PySem.W.mg_none_of X G z_sum, PySem.W.mg_of X G y_WORD_SIZES, ⟨es_WORD_SIZES, en_WORD_SIZES, _, m_WORD_SIZES, i_WORD_SIZES, v_WORD_SIZES_0, ⟨_, rfl⟩⟩, ⟨es_WORD_SIZES, en_WORD_SIZES, _, m_WORD_SIZES, i_WORD_SIZES, v_WORD_SIZES_1, ⟨_, rfl⟩⟩, ⟨es_WORD_SIZES, en_WORD_SIZES, _, m_WORD_SIZES, i_WORD_SIZES, v_WORD_SIZES_2, ⟨_, rfl⟩⟩, ⟨es_WORD_SIZES, en_WORD_SIZES, _, m_WORD_SIZES, i_WORD_SIZES, v_WORD_SIZES_3, ⟨_, rfl⟩⟩, ⟨es_WORD_SIZES, en_WORD_SIZES, _, m_WORD_SIZES, i_WORD_SIZES, v_WORD_SIZES_4, ⟨_, rfl⟩⟩⟩
  exact ⟨PySem.W.fnOf "law" "law" (defArgs s_law) (defBody s_law) (defScope s_law) .none kV9 dc9 pm9 an9 cd9 ct9, fun s v => .of_eq rfl, fun base _ _ => ok_law T⟩
end My
open PySem PySem.W PyProof.Rows
set_option maxHeartbeats 0 in
theorem PySem.Challenge.cw_bytebridge_k03_word_of_bytes_holds : PySem.Challenge.rw_bytebridge_k03_word_of_bytes.Holds := by
  w_on; o_law; k_head; (case hw => w_witness2)
  k_fill
  refine L2.walk_of (l := PySem.Challenge.rw_bytebridge_k03_word_of_bytes) (n := 63) (k := 3) (x := "script") (CX := fun _ => L2.CX0) (sp := fun w => My.sp_law _) rfl (by decide) rfl ⟨rfl, by decide, by decide⟩ (fun w h Y => PySem.W.kIn_of Y) ?F (fun _ _ a ns hl hO hS => ⟨a, ns, rfl, hS, hl, fun _ => rfl⟩) (fun _ _ _ _ _ h => h)
  case F =>
    intro w mg fa h KX G hmg
    refine' My.all_mk KX G hmg ?a0 ?l0 ?c0 ?k0 ?a1 ?l1 ?c1 ?k1 ?a2 ?l2 ?c2 ?k2 ?a3 ?l3 ?c3 ?k3 ?a4 ?l4 ?c4 ?k4 ?a5 ?l5 ?c5 ?k5 ?a6 ?l6 ?c6 ?k6 ?a7 ?l7 ?c7 ?k7 ?a8 ?l8 ?c8 ?k8 ?a9 ?l9 ?c9 ?k9 ?z_abs ?z_bool ?z_enumerate ?z_int ?z_isinstance ?z_len ?z_list ?z_max ?z_range ?z_sum ?y_WORD_SIZES ?m_WORD_SIZES ?i_WORD_SIZES ?v_WORD_SIZES_0 ?v_WORD_SIZES_1 ?v_WORD_SIZES_2 ?v_WORD_SIZES_3 ?v_WORD_SIZES_4
    (case a0 => k_is)
    (case l0 => k_is)
    (case c0 => k_is)
    (case k0 => k_is)
    (case a1 => k_is)
    (case l1 => k_is)
    (case c1 => k_is)
    (case k1 => k_is)
    (case a2 => k_is)
    (case l2 => k_is)
    (case c2 => k_is)
    (case k2 => k_is)
    (case a3 => k_is)
    (case l3 => k_is)
    (case c3 => k_is)
    (case k3 => k_is)
    (case a4 => k_is)
    (case l4 => k_is)
    (case c4 => k_is)
    (case k4 => k_is)
    (case a5 => k_is)
    (case l5 => k_is)
    (case c5 => k_is)
    (case k5 => k_is)
    (case a6 => k_is)
    (case l6 => k_is)
    (case c6 => k_is)
    (case k6 => k_is)
    (case a7 => k_is)
    (case l7 => k_is)
    (case c7 => k_is)
    (case k7 => k_is)
    (case a8 => k_is)
    (case l8 => k_is)
    (case c8 => k_is)
    (case k8 => k_is)
    (case a9 => k_is)
    (case l9 => k_is)
    (case c9 => k_is)
    (case k9 => k_is)
    (case z_abs => k_is)
    (case z_bool => k_is)
    (case z_enumerate => k_is)
    (case z_int => k_is)
    (case z_isinstance => k_is)
    (case z_len => k_is)
    (case z_list => k_is)
    (case z_max => k_is)
    (case z_range => k_is)
    (case z_sum => k_is)
    (case y_WORD_SIZES => k_is)
    (case m_WORD_SIZES => k_is)
    (case i_WORD_SIZES => exact ⟨⟨_, _, rfl, rfl⟩, ⟨_, _, rfl, rfl⟩, ⟨_, _, rfl, rfl⟩, ⟨_, _, rfl, rfl⟩, ⟨_, _, rfl, rfl⟩, trivial⟩)
    (case v_WORD_SIZES_0 => k_is)
    (case v_WORD_SIZES_1 => k_is)
    (case v_WORD_SIZES_2 => k_is)
    (case v_WORD_SIZES_3 => k_is)
    (case v_WORD_SIZES_4 => k_is)
