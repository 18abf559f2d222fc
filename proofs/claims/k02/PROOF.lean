import PyProof.Rows.All
import Wide.All
import OpenK.AllK
import Wide.FinOn
import HandS.ForMost
import HandS.IsInst
import HandS.Wide
import HandS.Style
import HandS.Codes
import HandS.WideBits
import HandS.More
import PySem.Challenge.RW_bytebridge_k02_bytes_of_a_word
set_option Elab.async false
set_option linter.all false
set_option maxRecDepth 100000
set_option maxHeartbeats 4000000
namespace My
open PySem PySem.Spec PyProof.Rows L2
def topS (i : Nat) : Stmt := PySem.Challenge.pw_bytebridge_k02_bytes_of_a_word.main.body.getD i (.Pass ⟨0, 0, 0, 0⟩)
abbrev s_word_size : Stmt := topS 2
theorem sc_word_size : FnScope ["word"] ["word"] (defScope s_word_size) := ⟨rfl, rfl, rfl, by decide +kernel, rfl, by decide +kernel, by decide +kernel⟩
abbrev s_bits_at : Stmt := topS 5
theorem sc_bits_at : FnScope ["code", "low", "width"] ["code", "low", "width"] (defScope s_bits_at) := ⟨rfl, rfl, rfl, by decide +kernel, rfl, by decide +kernel, by decide +kernel⟩
abbrev s_in_word_order : Stmt := topS 4
theorem sc_in_word_order : FnScope ["word", "data"] ["word", "data"] (defScope s_in_word_order) := ⟨rfl, rfl, rfl, by decide +kernel, rfl, by decide +kernel, by decide +kernel⟩
abbrev s_store : Stmt := topS 3
theorem sc_store : FnScope ["word", "code", "rising", "index"] ["word", "code"] (defScope s_store) := ⟨rfl, rfl, rfl, by decide +kernel, rfl, by decide +kernel, by decide +kernel⟩
abbrev s_l_tape : Stmt := topS 7
theorem sc_l_tape : FnScope ["script", "total", "cell"] ["script"] (defScope s_l_tape) := ⟨rfl, rfl, rfl, by decide +kernel, rfl, by decide +kernel, by decide +kernel⟩
abbrev s_l_draw : Stmt := topS 8
theorem sc_l_draw : FnScope ["tape", "many", "place", "number"] ["tape", "many"] (defScope s_l_draw) := ⟨rfl, rfl, rfl, by decide +kernel, rfl, by decide +kernel, by decide +kernel⟩
abbrev s_l_is_integer : Stmt := topS 9
theorem sc_l_is_integer : FnScope ["told", "due"] ["told", "due"] (defScope s_l_is_integer) := ⟨rfl, rfl, rfl, by decide +kernel, rfl, by decide +kernel, by decide +kernel⟩
abbrev s_l_power : Stmt := topS 10
theorem sc_l_power : FnScope ["width", "power", "k"] ["width"] (defScope s_l_power) := ⟨rfl, rfl, rfl, by decide +kernel, rfl, by decide +kernel, by decide +kernel⟩
abbrev s_l_code : Stmt := topS 11
theorem sc_l_code : FnScope ["tape", "width", "power", "edge", "code", "k"] ["tape", "width"] (defScope s_l_code) := ⟨rfl, rfl, rfl, by decide +kernel, rfl, by decide +kernel, by decide +kernel⟩
abbrev s_l_horner : Stmt := topS 12
theorem sc_l_horner : FnScope ["data", "least_first", "code", "k", "byte"] ["data", "least_first"] (defScope s_l_horner) := ⟨rfl, rfl, rfl, by decide +kernel, rfl, by decide +kernel, by decide +kernel⟩
abbrev s_l_are_bytes : Stmt := topS 13
theorem sc_l_are_bytes : FnScope ["told", "size", "byte"] ["told", "size"] (defScope s_l_are_bytes) := ⟨rfl, rfl, rfl, by decide +kernel, rfl, by decide +kernel, by decide +kernel⟩
abbrev s_law : Stmt := topS 14
theorem sc_law : FnScope ["script", "tape", "kind", "word", "size", "code", "told", "kept", "again"] ["script"] (defScope s_law) := ⟨rfl, rfl, rfl, by decide +kernel, rfl, by decide +kernel, by decide +kernel⟩
structure Fx where
  f : Addr
  fd : FuncData
structure Ad where
  word_size : Fx
  bits_at : Fx
  in_word_order : Fx
  store : Fx
  l_tape : Fx
  l_draw : Fx
  l_is_integer : Fx
  l_power : Fx
  l_code : Fx
  l_horner : Fx
  l_are_bytes : Fx
  law : Fx
  c_WORD_SIZES : Addr
structure Txt (K : PySem.W.Frag) (w : World) (mg : Str → Option Value) (A : Ad) : Prop where
  F_word_size : Fun K "word_size" "word_size" s_word_size A.word_size.f A.word_size.fd
  g_word_size : mg "word_size" = some (.ref A.word_size.f)
  b_word_size : Binds K A.word_size.fd ["word"] []
  F_bits_at : Fun K "bits_at" "bits_at" s_bits_at A.bits_at.f A.bits_at.fd
  g_bits_at : mg "bits_at" = some (.ref A.bits_at.f)
  b_bits_at : Binds K A.bits_at.fd ["code", "low", "width"] []
  F_in_word_order : Fun K "in_word_order" "in_word_order" s_in_word_order A.in_word_order.f A.in_word_order.fd
  g_in_word_order : mg "in_word_order" = some (.ref A.in_word_order.f)
  b_in_word_order : Binds K A.in_word_order.fd ["word", "data"] []
  F_store : Fun K "store" "store" s_store A.store.f A.store.fd
  g_store : mg "store" = some (.ref A.store.f)
  b_store : Binds K A.store.fd ["word", "code"] []
  F_l_tape : Fun K "_law_tape" "_law_tape" s_l_tape A.l_tape.f A.l_tape.fd
  g_l_tape : mg "_law_tape" = some (.ref A.l_tape.f)
  b_l_tape : Binds K A.l_tape.fd ["script"] []
  F_l_draw : Fun K "_law_draw" "_law_draw" s_l_draw A.l_draw.f A.l_draw.fd
  g_l_draw : mg "_law_draw" = some (.ref A.l_draw.f)
  b_l_draw : Binds K A.l_draw.fd ["tape", "many"] []
  F_l_is_integer : Fun K "_law_is_integer" "_law_is_integer" s_l_is_integer A.l_is_integer.f A.l_is_integer.fd
  g_l_is_integer : mg "_law_is_integer" = some (.ref A.l_is_integer.f)
  b_l_is_integer : Binds K A.l_is_integer.fd ["told", "due"] []
  F_l_power : Fun K "_law_power" "_law_power" s_l_power A.l_power.f A.l_power.fd
  g_l_power : mg "_law_power" = some (.ref A.l_power.f)
  b_l_power : Binds K A.l_power.fd ["width"] []
  F_l_code : Fun K "_law_code" "_law_code" s_l_code A.l_code.f A.l_code.fd
  g_l_code : mg "_law_code" = some (.ref A.l_code.f)
  b_l_code : Binds K A.l_code.fd ["tape", "width"] []
  F_l_horner : Fun K "_law_horner" "_law_horner" s_l_horner A.l_horner.f A.l_horner.fd
  g_l_horner : mg "_law_horner" = some (.ref A.l_horner.f)
  b_l_horner : Binds K A.l_horner.fd ["data", "least_first"] []
  F_l_are_bytes : Fun K "_law_are_bytes" "_law_are_bytes" s_l_are_bytes A.l_are_bytes.f A.l_are_bytes.fd
  g_l_are_bytes : mg "_law_are_bytes" = some (.ref A.l_are_bytes.f)
  b_l_are_bytes : Binds K A.l_are_bytes.fd ["told", "size"] []
  F_law : Fun K "law" "law" s_law A.law.f A.law.fd
  g_law : mg "law" = some (.ref A.law.f)
  b_law : Binds K A.law.fd ["script"] []
  n_abs : mg "abs" = none
  n_bool : mg "bool" = none
  n_int : mg "int" = none
  n_isinstance : mg "isinstance" = none
  n_len : mg "len" = none
  n_list : mg "list" = none
  n_max : mg "max" = none
  n_range : mg "range" = none
  g_WORD_SIZES : mg "WORD_SIZES" = some (.ref A.c_WORD_SIZES)
  d_WORD_SIZES_0 : KDct K w A.c_WORD_SIZES "u8" (.int 1)
  d_WORD_SIZES_1 : KDct K w A.c_WORD_SIZES "u16be" (.int 2)
  d_WORD_SIZES_2 : KDct K w A.c_WORD_SIZES "u16le" (.int 2)
  d_WORD_SIZES_3 : KDct K w A.c_WORD_SIZES "u32be" (.int 4)
  d_WORD_SIZES_4 : KDct K w A.c_WORD_SIZES "u32le" (.int 4)
theorem same_upd {H : Hp} {p : Addr} {o : HO} (h : H p = none) : Same H (upd H p o) := fun b x e => by
  rw [upd_ne (ne_of_none e h)]
  exact e
/-- a tape stands at t -/
def Tape (H : Hp) (t : Addr) : Prop := ∃ (q : Addr) (ns : List Int) (p h s : Int), H t = some (.lst [.ref q, .int p, .int h, .int s]) ∧ H q = some (.lst (ns.map V.int)) ∧ 0 ≤ p ∧ 0 ≤ h
/-- all objects but the one at t stay -/
def Kept (t : Addr) (H H' : Hp) : Prop := ∀ b o, b ≠ t → H b = some o → H' b = some o
theorem Kept.rfl {t : Addr} {H : Hp} : Kept t H H := fun _ _ _ e => e
theorem Kept.trans {t : Addr} {H H1 H2 : Hp} (a : Kept t H H1) (b : Kept t H1 H2) : Kept t H H2 := fun c o n e => b c o n (a c o n e)
theorem Kept.put {t : Addr} {H H1 : Hp} {o : HO} (a : Kept t H H1) : Kept t H (upd H1 t o) := fun c x n e => by
  rw [upd_ne n]
  exact a c x n e
theorem Kept.same {t : Addr} {H0 H H1 : Hp} (h0 : H0 t = none) (s : Same H0 H) (a : Kept t H H1) : Same H0 H1 := fun b o e => a b o (ne_of_none e h0) (s b o e)
theorem tape_ne {H : Hp} {t q : Addr} {ns : List Int} {p h s : Int} (h1 : H t = some (.lst [.ref q, .int p, .int h, .int s])) (h2 : H q = some (.lst (ns.map V.int))) : q ≠ t := fun e => by
  subst e
  rw [h1] at h2
  cases ns with
  | nil => cases h2
  | cons x r => cases h2
theorem map_int_at {ns : List Int} {i : Nat} {y : V} (h : (ns.map V.int)[i]? = some y) : ∃ z, y = V.int z ∧ ns[i]? = some z := by
  rw [List.getElem?_map] at h
  cases e : ns[i]? with
  | none => rw [e] at h; cases h
  | some z => rw [e] at h; exact ⟨z, (Option.some.inj h).symm, _root_.rfl⟩
theorem dec_eq_int {a b : Int} (e : decide (V.int a = V.int b) = true) : a = b := V.int.inj (of_decide_eq_true e)
theorem dec_ne_int {a b : Int} (e : ¬ decide (V.int a = V.int b) = true) : a ≠ b := fun z => e (decide_eq_true (congrArg V.int z))
theorem Tape.new {H : Hp} {t l : Addr} {o : HO} (h : Tape H t) (hl : H l = none) : Tape (upd H l o) t := by
  obtain ⟨q, ns, p, z, s, h1, h2, h3, h4⟩ := h
  exact ⟨q, ns, p, z, s, by rw [upd_ne (ne_of_none h1 hl)]; exact h1, by rw [upd_ne (ne_of_none h2 hl)]; exact h2, h3, h4⟩
theorem Kept.new {t l : Addr} {H H1 : Hp} {o : HO} (a : Kept t H H1) (hl : H1 l = none) : Kept t H (upd H1 l o) := fun c x n e => by
  have e1 := a c x n e
  rw [upd_ne (ne_of_none e1 hl)]
  exact e1
theorem Kept.free {t l : Addr} {H H1 : Hp} (a : Kept t H H1) (hT : Tape H1 t) (hl : H1 l = none) : H l = none := by
  cases e : H l with
  | none => rfl
  | some o =>
    by_cases n : l = t
    · obtain ⟨q, ns, p, z, s, h1, _⟩ := hT
      rw [n, h1] at hl
      cases hl
    · rw [a l o n e] at hl
      cases hl
theorem two_pos (n : Nat) : (0 : Int) < 2 ^ n := Int.pow_pos (by decide)
theorem pow_abs (n : Nat) : ((2 : Int) ^ n).natAbs = 2 ^ n := by
  rw [Int.natAbs_pow]
  rfl
theorem pow_div {n m : Nat} (h : n < m) (hm : m ≤ 9000) : CDivW 0 (2 ^ n) ∧ ∀ i, CDivW i (2 ^ n) := by
  have h1 : ((2 : Int) ^ n).natAbs < 2 ^ m := by
    rw [pow_abs]
    exact Nat.pow_lt_pow_right (by decide) h
  exact ⟨wide_div (two_pos n) h1 (by omega) hm, fun i => wide_div (two_pos n) h1 (by omega) hm⟩
theorem div_div {a : Int} (x b : Int) (ha : 0 < a) : x / (a * b) = x / a / b := by
  rw [Int.ediv_ediv, if_neg (fun z => by omega), Int.sub_zero]
theorem mod_mul_div (x a b : Int) (ha : 0 < a) (hb : 0 < b) : x % (a * b) / a = x / a % b := by
  rw [Int.emod_def, Int.emod_def, Int.sub_eq_add_neg, Int.mul_assoc, ← Int.mul_neg, Int.add_mul_ediv_left _ _ (by omega), div_div _ _ ha]
  rw [Int.sub_eq_add_neg]
theorem mod_step (x : Int) (i : Nat) : x % 2 ^ (i + 1) = x % 2 ^ i + x / 2 ^ i % 2 * 2 ^ i := by
  have hp := two_pos i
  have h1 : x % (2 ^ i * 2) / 2 ^ i = x / 2 ^ i % 2 := mod_mul_div x (2 ^ i) 2 hp (by decide)
  have h2 : x % (2 ^ i * 2) % 2 ^ i = x % 2 ^ i := Int.emod_emod_of_dvd x ⟨2, rfl⟩
  rw [Int.pow_succ, ← h1, ← h2]
  generalize x % (2 ^ i * 2) = y
  rw [Int.emod_def, Int.mul_comm (2 ^ i)]
  omega
theorem div_pow (x : Int) (i j : Nat) : x / 2 ^ (i + j) = x / 2 ^ i / 2 ^ j := by
  rw [Int.pow_add, div_div _ _ (two_pos i)]
theorem iteDF {c A B : Prop} [Decidable c] (hc : ¬ c) (h : B) : if decide c = true then A else B := by
  rw [decide_eq_false hc]
  exact iteF h
theorem iteDT {c A B : Prop} [Decidable c] (hc : c) (h : A) : if decide c = true then A else B := by
  rw [decide_eq_true hc]
  exact iteT h
theorem dp_ints {K : PySem.W.Frag} {H : Hp} : ∀ ns : List Int, DpAll K H (ns.map V.int) (ns.map PyData.int)
  | [] => .nil
  | n :: r => .cons (.int n) (dp_ints r)
theorem eqvAll_ints : ∀ xs ys : List Int, PyData.eqvAll (xs.map PyData.int) (ys.map PyData.int) = decide (xs = ys)
  | [], [] => by
    rw [List.map_nil, PyData.eqvAll, decide_eq_true rfl]
  | [], _ :: _ => by
    rw [List.map_nil, List.map_cons, PyData.eqvAll, decide_eq_false (fun e => nomatch e)]
  | _ :: _, [] => by
    rw [List.map_nil, List.map_cons, PyData.eqvAll, decide_eq_false (fun e => nomatch e)]
  | x :: xs, y :: ys => by
    rw [List.map_cons, List.map_cons, PyData.eqvAll, PyData.eqv, eqvAll_ints xs ys]
    by_cases h1 : x = y
    · by_cases h2 : xs = ys
      · subst h1 h2
        simp
      · simp [h1, h2]
    · simp [h1]
theorem eqv_ints (xs ys : List Int) : PyData.eqv (.list (xs.map PyData.int)) (.list (ys.map PyData.int)) = decide (xs = ys) := by
  rw [PyData.eqv, eqvAll_ints]
theorem lay_ints : ∀ xs : List Int, PyData.canLayAll0 (xs.map PyData.int) = true
  | [] => by rw [List.map_nil, PyData.canLayAll0]
  | x :: xs => by rw [List.map_cons, PyData.canLayAll0, PyData.canLay0, lay_ints xs]; rfl
theorem depth_ints : ∀ xs : List Int, PyData.depthAll (xs.map PyData.int) = 0
  | [] => by rw [List.map_nil, PyData.depthAll]
  | x :: xs => by rw [List.map_cons, PyData.depthAll, PyData.depth, depth_ints xs]; rfl
theorem shaped_ints (xs : List Int) : SeqAt.shaped (.list (xs.map PyData.int)) = true := by
  unfold SeqAt.shaped
  rw [PyData.canLay0, lay_ints, PyData.depth, depth_ints]
  rfl
theorem cut_all (xs : List V) : cutV xs none none = xs := by
  unfold cutV
  rw [HT.sIx_none, HT.sIx_none, List.drop_zero, Nat.sub_zero, List.take_length]
/-- Horner's rule, the first byte the most significant -/
def hor (bs : List Int) : Int := bs.foldl (fun c b => c * 256 + b) 0
theorem hor_take {bs : List Int} {i : Nat} {b : Int} (h : bs[i]? = some b) : hor (bs.take (i + 1)) = hor (bs.take i) * 256 + b := by
  unfold hor
  rw [List.take_add_one, h, List.foldl_append]
  rfl
/-- the bytes of a code, the least significant first -/
def byts (c : Int) (n : Nat) : List Int := (List.range n).map fun i => c / 2 ^ (8 * i) % 2 ^ 8
theorem byts_len (c : Int) (n : Nat) : (byts c n).length = n := by
  unfold byts
  rw [List.length_map, List.length_range]
theorem byts_next (c : Int) (n : Nat) : byts c (n + 1) = byts c n ++ [c / 2 ^ (8 * n) % 2 ^ 8] := by
  unfold byts
  rw [List.range_succ, List.map_append]
  rfl
theorem byts_are {c : Int} {n : Nat} : ∀ b ∈ byts c n, 0 ≤ b ∧ b < 256 := by
  intro b hb
  unfold byts at hb
  obtain ⟨i, _, rfl⟩ := List.mem_map.mp hb
  exact ⟨Int.emod_nonneg _ (by decide), Int.emod_lt_of_pos _ (by decide)⟩

section
variable {P : Program} {w : World} {K : PySem.W.Frag} {mg : Str → Option Value} {base : Heap} {A : Ad}
/-! def word_size -/
/-- the five words and their bytes -/
def WSz (z : Str) (n : Int) : Prop := (z = "u8" ∧ n = 1) ∨ (z = "u16be" ∧ n = 2) ∨ (z = "u16le" ∧ n = 2) ∨ (z = "u32be" ∧ n = 4) ∨ (z = "u32le" ∧ n = 4)
def sp_word_size (K : PySem.W.Frag) : Sp := fun vs H Q _ => ∃ (z : Str) (n : Int), vs = [.str z] ∧ WSz z n ∧ Q (.int n) H
theorem ok_word_size (T : Txt K w mg A) : FnOk P w K mg base CX0 1 A.word_size.f A.word_size.fd ["word"] (sp_word_size K) := by
  refine T.F_word_size.ok sc_word_size (fun vs H Q E h => ?_) (fun cdv Ar outer s H vs Q E hr h => ?_)
  · obtain ⟨z, n, rfl, _⟩ := h; rfl
  · obtain ⟨z, n, rfl, hz, k⟩ := h
    refine ⟨_, (pss_one (ps_ret (pe_ix ix_kdict (pe_glob (v := .ref A.c_WORD_SIZES) rfl T.g_WORD_SIZES rfl) (pv 0) (fun _ _ => rfl)))), ?_⟩
    have hd : KDct K w A.c_WORD_SIZES z (.int n) := by
      rcases hz with ⟨rfl, rfl⟩ | ⟨rfl, rfl⟩ | ⟨rfl, rfl⟩ | ⟨rfl, rfl⟩ | ⟨rfl, rfl⟩
      · exact T.d_WORD_SIZES_0
      · exact T.d_WORD_SIZES_1
      · exact T.d_WORD_SIZES_2
      · exact T.d_WORD_SIZES_3
      · exact T.d_WORD_SIZES_4
    exact ⟨_, rfl, _, _, _, rfl, rfl, hd, k⟩

/-! def bits_at -/
def sp_bits_at (K : PySem.W.Frag) : Sp := fun vs H Q _ => ∃ (c : Int) (l n : Nat), vs = [.int c, .int (l : Int), .int (n : Int)] ∧ n ≤ 10000 ∧ Q (.int (c / 2 ^ l % 2 ^ n)) H
theorem ok_bits_at (T : Txt K w mg A) : FnOk P w K mg base CX0 1 A.bits_at.f A.bits_at.fd ["code", "low", "width"] (sp_bits_at K) := by
  refine T.F_bits_at.ok sc_bits_at (fun vs H Q E h => ?_) (fun cdv Ar outer s H vs Q E hr h => ?_)
  · obtain ⟨c, l, n, rfl, _⟩ := h; rfl
  · obtain ⟨c, l, n, rfl, hn, k⟩ := h
    refine ⟨_, (pss_one (ps_ret (pe_op op_andM (pe_op op_shr (pv 0) (pv 1)) (pe_op op_sub (pe_op op_shl pe_int (pv 2)) pe_int)))), ?_⟩
    refine ⟨_, rfl, _, rfl, _, _, rfl, rfl, (by show (0 : Int) ≤ (l : Int); omega), _, rfl, _, _, rfl, rfl, ⟨by omega, by omega, by decide⟩, _, _, rfl, rfl, _, n, rfl, ?_, ?_⟩
    · rw [Int.toNat_natCast, Int.one_mul]
    · rw [Int.toNat_natCast]
      exact k

/-! def in_word_order -/
def isBE (z : Str) : Bool := Txt.endswith z "be"
def inOrder {α : Type} (z : Str) (xs : List α) : List α := if isBE z = true then xs.reverse else xs
theorem inOrder_map {α β : Type} (f : α → β) (z : Str) (xs : List α) : inOrder z (xs.map f) = (inOrder z xs).map f := by
  unfold inOrder
  split
  · rw [List.map_reverse]
  · rfl
def sp_in_word_order (K : PySem.W.Frag) : Sp := fun vs H Q _ => ∃ (z : Str) (d : Addr) (xs : List V), vs = [.str z, .ref d] ∧ SqL K H d xs ∧ ∀ p, H p = none → Q (.ref p) (upd H p (.lst (inOrder z xs)))
theorem ok_in_word_order (T : Txt K w mg A) : FnOk P w K mg base CX0 1 A.in_word_order.f A.in_word_order.fd ["word", "data"] (sp_in_word_order K) := by
  refine T.F_in_word_order.ok sc_in_word_order (fun vs H Q E h => ?_) (fun cdv Ar outer s H vs Q E hr h => ?_)
  · obtain ⟨z, d, xs, rfl, _⟩ := h; rfl
  · obtain ⟨z, d, xs, rfl, hd, k⟩ := h
    refine ⟨_, (pss_cons (ps_if (pt_val (pe_bm PySem.F.plainAttrs_str PySem.F.slot_str_endswith PySem.F.type_str_endswith mt_endswith (pv 0) (pa_cons pe_str pa_nil))) (pss_one (ps_ret (pe_revL (pv 1)))) pss_nil)
        (pss_one (ps_ret (pe_slice sl_list (pv 1) po_none po_none)))), ?_⟩
    refine ⟨_, rfl, rfl, z, _, rfl, rfl, _, rfl, ite2 (fun e => ?_) (fun e => ?_)⟩
    · refine ⟨_, rfl, d, xs, rfl, hd, fun p hp => ?_⟩
      have q := k p hp
      unfold inOrder isBE at q
      rw [if_pos e] at q
      exact q
    · refine ⟨_, rfl, d, xs, rfl, hd, fun p hp => ?_⟩
      have q := k p hp
      unfold inOrder isBE at q
      rw [if_neg e] at q
      rw [cut_all]
      exact q

/-! def store -/
def stored (z : Str) (c : Int) (n : Nat) : List Int := inOrder z (byts c n)
def sp_store (K : PySem.W.Frag) : Sp := fun vs H Q _ => ∃ (z : Str) (c : Int) (n : Nat), vs = [.str z, .int c] ∧ WSz z (n : Int) ∧ ∀ (H' : Hp) (p : Addr), Same H H' → H p = none → H' p = some (.lst ((stored z c n).map V.int)) → Q (.ref p) H'
theorem WSz.le {z : Str} {n : Int} (h : WSz z n) : 1 ≤ n ∧ n ≤ 4 := by
  rcases h with ⟨_, rfl⟩ | ⟨_, rfl⟩ | ⟨_, rfl⟩ | ⟨_, rfl⟩ | ⟨_, rfl⟩ <;> exact ⟨by decide, by decide⟩
theorem ok_store (T : Txt K w mg A) : FnOk P w K mg base CX0 2 A.store.f A.store.fd ["word", "code"] (sp_store K) := by
  have G_bits_at : FnOk P w K mg base CX0 1 A.bits_at.f A.bits_at.fd ["code", "low", "width"] (sp_bits_at K) := ok_bits_at T
  have G_in_word_order : FnOk P w K mg base CX0 1 A.in_word_order.f A.in_word_order.fd ["word", "data"] (sp_in_word_order K) := ok_in_word_order T
  have G_word_size : FnOk P w K mg base CX0 1 A.word_size.f A.word_size.fd ["word"] (sp_word_size K) := ok_word_size T
  refine T.F_store.ok sc_store (fun vs H Q E h => ?_) (fun cdv Ar outer s H vs Q E hr h => ?_)
  · obtain ⟨z, c, n, rfl, _⟩ := h; rfl
  · obtain ⟨z, c, n, rfl, hz, k⟩ := h
    refine ⟨_, (pss_cons (ps_setLc (i := 2) (own := [("index", 3)]) (g := (gName 3)) (tt := tYes) (by rfl) sc_store.nd rfl rfl (sw_true rfl rfl rfl (by decide +kernel)) (pi_range1 rfl T.n_range (pa_cons (pe_call G_word_size (hr.mono (by decide)) (by rfl) T.g_word_size T.F_word_size.kp T.b_word_size .nil pass0 (pa_cons (pv 0) pa_nil)) pa_nil)) (blkOk_by (own := [("index", 3)]) (N := ["word", "code", "rising", "index"]) (sc := defScope s_store) (by decide +kernel)) (fun _ _ _ _ _ => pg_name (i := 3) sc_store.nd rfl (Or.inl rfl)) (fun _ _ _ _ _ => pts_nil) (fun _ _ _ _ _ => (pe_call G_bits_at (hr.mono (by decide)) (by rfl) T.g_bits_at T.F_bits_at.kp T.b_bits_at .nil pass0 (pa_cons (pv 1) (pa_cons (pe_op op_mul pe_int (pv 3)) (pa_cons pe_int pa_nil))))))
        (pss_one (ps_ret (pe_call G_in_word_order (hr.mono (by decide)) (by rfl) T.g_in_word_order T.F_in_word_order.kp T.b_in_word_order .nil pass0 (pa_cons (pv 0) (pa_cons (pv 2) pa_nil)))))), ?_⟩
    have hn := hz.le
    refine ⟨_, rfl, z, n, rfl, hz, n, rfl, by omega, by omega, fun D hD => lc_range (lo := 0) (n := n) (fun i H2 => Same H H2 ∧ H2 D = some (.lst ((byts c i).map V.int))) ⟨same_upd hD, upd_same⟩ ?_ ?_⟩
    · rintro i H2 hi ⟨s2, h2⟩
      refine ⟨rfl, _, rfl, _, rfl, _, _, rfl, rfl, .inr ⟨by omega, by omega⟩, c, 8 * i, 8, ?_, by decide, _, h2, ?_, ?_⟩
      · show [V.int c, V.int (8 * (0 + (i : Int))), V.int 8] = _
        rw [show (8 * (0 + (i : Int))) = ((8 * i : Nat) : Int) by omega]
        rfl
      · rw [List.length_map, byts_len]
        exact small1000 (by omega)
      · refine ⟨fun b x e => ?_, ?_⟩
        · rw [upd_ne (ne_of_none e hD)]
          exact s2 b x e
        · rw [upd_same, byts_next, List.map_append]
          rfl
    · rintro H2 ⟨s2, h2⟩
      refine ⟨_, rfl, _, rfl, z, D, _, rfl, SqL.of h2, fun p hp => ?_⟩
      refine k _ p (s2.trans (same_upd hp)) (s2.free hp) ?_
      rw [upd_same, inOrder_map]
      rfl

/-! def _law_tape -/
def sp_l_tape (K : PySem.W.Frag) : Sp := fun vs H Q _ => ∃ (a : Addr) (ns : List Int), vs = [.ref a] ∧ SqL K H a (ns.map V.int) ∧ ∀ (H' : Hp) (t : Addr), Same H H' → H t = none → Tape H' t → Q (.ref t) H'
theorem ok_l_tape (T : Txt K w mg A) : FnOk P w K mg base CX0 1 A.l_tape.f A.l_tape.fd ["script"] (sp_l_tape K) := by
  refine T.F_l_tape.ok sc_l_tape (fun vs H Q E h => ?_) (fun cdv Ar outer s H vs Q E hr h => ?_)
  · obtain ⟨a, ns, rfl, _⟩ := h; rfl
  · obtain ⟨a, ns, rfl, hS, k⟩ := h
    refine ⟨_, (pss_cons (ps_set (i := 1) sc_l_tape.nd rfl (.inl rfl) pe_int)
        (pss_cons (ps_for PassesOwn.never rfl (pi_list (pv 0)) (pg_name (i := 2) sc_l_tape.nd rfl (Or.inl rfl)) (pss_one (ps_set (i := 1) sc_l_tape.nd rfl (.inl rfl) (pe_op op_mod (pe_callTy call_int1 (by rfl) T.n_int (by decide +kernel) (pa_cons (pe_op op_add (pe_op op_mul (pv 1) pe_int) (pe_callB call_abs (by rfl) T.n_abs (by decide +kernel) (pa_cons (pe_callTy call_int1 (by rfl) T.n_int (by decide +kernel) (pa_cons (pv 2) pa_nil)) pa_nil))) pa_nil)) pe_int))))
        (pss_one (ps_ret (pe_lst (pa_cons (pe_callTy call_list_of (by rfl) T.n_list (by decide +kernel) (pa_cons (pv 0) pa_nil)) (pa_cons pe_int (pa_cons pe_int (pa_cons (pv 1) pa_nil))))))))), ?_⟩
    refine ⟨_, rfl, a, rfl, ⟨_, hS⟩, for_list (K := K) (a := a) (xs := ns.map V.int) (fun i σ H2 => ∃ (z : Int) (v : Option V), σ = [some (.ref a), some (.int z), v] ∧ H2 = H) ⟨_, _, rfl, rfl⟩ (fun i σ H2 _ ⟨_, _, _, e⟩ => by rw [e]; exact hS) ?_ ?_⟩
    · rintro i y σ H2 hi ⟨z, v, rfl, rfl⟩
      obtain ⟨n, rfl, _⟩ := map_int_at hi
      refine ⟨_, rfl, _, _, rfl, rfl, .inr ⟨by decide, by decide⟩, _, rfl, .inl ⟨_, rfl, _, rfl, _, _, rfl, rfl, .inl ⟨_, rfl, _, _, rfl, rfl, (by show (0 : Int) < _; decide), ?_⟩⟩⟩
      exact ⟨_, _, rfl, rfl⟩
    · rintro σ H2 ⟨z, v, rfl, rfl⟩
      refine ⟨_, rfl, a, _, rfl, .inl hS, fun q hq => ?_⟩
      refine ⟨_, rfl, (by show 4 ≤ sizeLine; decide), fun t ht => ?_⟩
      have s1 : Same H2 (upd H2 q (.lst (ns.map V.int))) := same_upd hq
      have nqt : q ≠ t := fun e => by
        rw [← e, upd_same] at ht
        cases ht
      refine k _ t (s1.trans (same_upd ht)) (s1.free ht) ⟨q, ns, 0, 0, z, upd_same, ?_, by decide, by decide⟩
      rw [upd_ne nqt, upd_same]

/-! def _law_draw -/
def sp_l_draw (K : PySem.W.Frag) : Sp := fun vs H Q _ => ∃ (t : Addr) (m : Int), vs = [.ref t, .int m] ∧ Tape H t ∧ 1 ≤ m ∧ m < 1073741824 ∧ ∀ (H' : Hp) (v : Int), 0 ≤ v → v < m → Tape H' t → Kept t H H' → Q (.int v) H'
theorem ok_l_draw (T : Txt K w mg A) : FnOk P w K mg base CX0 1 A.l_draw.f A.l_draw.fd ["tape", "many"] (sp_l_draw K) := by
  refine T.F_l_draw.ok sc_l_draw (fun vs H Q E h => ?_) (fun cdv Ar outer s H vs Q E hr h => ?_)
  · obtain ⟨t, m, rfl, _⟩ := h; rfl
  · obtain ⟨t, m, rfl, ⟨q, ns, p, h, s0, hT, hq, hp, hh⟩, hm1, hm2, k⟩ := h
    refine ⟨_, (C8.pss_cut (ps_if (pt_cmpR op_eq (pe_ix ix_list (pv 0) pe_int (fun _ _ => rfl)) pe_int (nomark _)) (pss_cons (ps_set (i := 2) sc_l_draw.nd rfl (.inl rfl) (pe_ix ix_list (pv 0) pe_int (fun _ _ => rfl)))
        (pss_cons (ps_set (i := 3) sc_l_draw.nd rfl (.inl rfl) pe_int)
        (C8.pss_cut (ps_if (pt_cmpR op_lt (pv 2) (pe_callB call_len_seq (by rfl) T.n_len (by decide +kernel) (pa_cons (pe_ix ix_list (pv 0) pe_int (fun _ _ => rfl)) pa_nil)) (nomark _)) (pss_one (ps_set (i := 3) sc_l_draw.nd rfl (.inl rfl) (pe_callB call_abs (by rfl) T.n_abs (by decide +kernel) (pa_cons (pe_callTy call_int1 (by rfl) T.n_int (by decide +kernel) (pa_cons (pe_ix ix_list (pe_ix ix_list (pv 0) pe_int (fun _ _ => rfl)) (pv 2) (fun _ _ => rfl)) pa_nil)) pa_nil)))) (pss_cons (ps_asg (pe_op op_mod (pe_callTy call_int1 (by rfl) T.n_int (by decide +kernel) (pa_cons (pe_op op_add (pe_op op_add (pe_op op_mul (pe_ix ix_list (pv 0) pe_int (fun _ _ => rfl)) pe_int) (pv 2)) pe_int) pa_nil)) pe_int) (pg_sub (pv 0) pe_int set_list))
        (pss_one (ps_set (i := 3) sc_l_draw.nd rfl (.inl rfl) (pe_ix ix_list (pv 0) pe_int (fun _ _ => rfl))))))
        (pss_cons (ps_asg (pe_op op_add (pv 2) pe_int) (pg_sub (pv 0) pe_int set_list))
        (pss_cons (ps_if (pt_cmpR op_lt (pv 3) (pe_op op_pow pe_int pe_int) (nomark _)) (pss_cons (ps_set (i := 3) sc_l_draw.nd rfl (.inl rfl) (pe_op op_mod (pe_callTy call_int1 (by rfl) T.n_int (by decide +kernel) (pa_cons (pe_op op_add (pe_op op_add (pe_op op_mul (pv 3) pe_int) (pe_op op_mul (pv 2) pe_int)) pe_int) pa_nil)) pe_int))
        (pss_cons (ps_set (i := 3) sc_l_draw.nd rfl (.inl rfl) (pe_op op_mod (pe_callTy call_int1 (by rfl) T.n_int (by decide +kernel) (pa_cons (pe_op op_mul (pv 3) pe_int) pa_nil)) pe_int))
        (pss_one (ps_ret (pe_op op_mod (pe_callTy call_int1 (by rfl) T.n_int (by decide +kernel) (pa_cons (pv 3) pa_nil)) (pe_callB (call_max2 rfl) (by rfl) T.n_max (by decide +kernel) (pa_cons (pv 1) (pa_cons pe_int pa_nil)))))))) pss_nil)
        (pss_one (ps_asg (pv 3) (pg_sub (pv 0) pe_int set_list)))))))) pss_nil)
        (pss_cons (ps_set (i := 3) sc_l_draw.nd rfl (.inl rfl) (pe_ix ix_list (pv 0) pe_int (fun _ _ => rfl)))
        (pss_cons (ps_asg (pe_op op_fdiv (pv 3) (pe_callB (call_max2 rfl) (by rfl) T.n_max (by decide +kernel) (pa_cons (pv 1) (pa_cons pe_int pa_nil)))) (pg_sub (pv 0) pe_int set_list))
        (pss_one (ps_ret (pe_op op_mod (pe_callTy call_int1 (by rfl) T.n_int (by decide +kernel) (pa_cons (pv 3) pa_nil)) (pe_callB (call_max2 rfl) (by rfl) T.n_max (by decide +kernel) (pa_cons (pv 1) (pa_cons pe_int pa_nil))))))))), ?_⟩
    have nqt : q ≠ t := tape_ne hT hq
    have e1 : (if (1 : Int) > m then (1 : Int) else m) = m := if_neg (by omega)
    have fin : ∀ (n : Int) (H' : Hp), Tape H' t → Kept t H H' → Q (.int (n % (if (1 : Int) > m then (1 : Int) else m))) H' := fun n H' hT' hK' => by
      rw [e1]
      exact k H' _ (Int.emod_nonneg _ (by omega)) (Int.emod_lt_of_pos _ (by omega)) hT' hK'
    refine ⟨fun σ' H' => ∃ (x y : Option V), σ' = [some (.ref t), some (.int m), x, y] ∧ Tape H' t ∧ Kept t H H', ?_, ?_⟩
    · refine ⟨_, rfl, t, _, _, _, rfl, rfl, SqL.of hT, rfl, rfl, _, rfl, ite2 (fun e => ?_) (fun e => ?_)⟩
      · have eh : h = 0 := dec_eq_int e
        refine ⟨_, rfl, t, _, _, _, rfl, rfl, SqL.of hT, rfl, ?_⟩
        refine ⟨fun σ' H' => ∃ (n s' : Int), 0 ≤ n ∧ σ' = [some (.ref t), some (.int m), some (.int p), some (.int n)] ∧ H' t = some (.lst [.ref q, .int p, .int h, .int s']) ∧ Kept t H H', ?_, ?_⟩
        · refine ⟨_, rfl, _, rfl, t, _, _, _, rfl, rfl, SqL.of hT, rfl, q, _, rfl, .inl (SqL.of hq), _, _, rfl, rfl, _, rfl, ite2 (fun e => ?_) (fun e => ?_)⟩
          · have hlt : p < (ns.map V.int).length := of_decide_eq_true e
            rw [List.length_map] at hlt
            have hj : p.toNat < ns.length := by omega
            have ha : atI (ns.map V.int) p = some (V.int ns[p.toNat]) := at_of (j := p.toNat) (by omega) (by rw [List.getElem?_map, List.getElem?_eq_getElem hj]; rfl)
            refine ⟨_, rfl, t, _, _, _, rfl, rfl, SqL.of hT, rfl, _, rfl, q, _, _, _, rfl, rfl, SqL.of hq, ha, .inl ⟨_, rfl, _, rfl, ?_⟩⟩
            exact ⟨_, s0, (by split <;> omega), rfl, hT, Kept.rfl⟩
          · refine ⟨_, rfl, t, _, _, _, rfl, rfl, SqL.of hT, rfl, _, _, rfl, rfl, .inr ⟨by decide, by decide⟩, _, rfl, _, _, rfl, rfl, _, _, rfl, rfl, .inl ⟨_, rfl, _, _, rfl, rfl, (by show (0 : Int) < _; decide), _, rfl, t, _, _, 3, rfl, rfl, hT, rfl, ?_⟩⟩
            refine ⟨_, rfl, t, _, _, _, rfl, rfl, SqL.of upd_same, rfl, ?_⟩
            exact ⟨_, _, Int.emod_nonneg _ (by decide), rfl, upd_same, Kept.rfl.put⟩
        · rintro σ' H' ⟨n, s', hn, rfl, hT', hK'⟩
          have hq' := hK' q _ nqt hq
          refine ⟨_, rfl, _, _, rfl, rfl, _, rfl, t, _, _, 1, rfl, rfl, hT', rfl, ?_⟩
          have hT2 : Tape (upd H' t (.lst [.ref q, .int (p + 1), .int h, .int s'])) t := ⟨q, ns, p + 1, h, s', upd_same, by rw [upd_ne nqt]; exact hq', by omega, hh⟩
          refine ⟨_, rfl, _, _, rfl, rfl, ⟨by decide, by decide, by decide⟩, _, _, rfl, rfl, _, rfl, ite2 (fun e => ?_) (fun e => ?_)⟩
          · refine ⟨_, rfl, _, _, rfl, rfl, .inr ⟨by decide, by decide⟩, _, rfl, _, _, rfl, rfl, .inr ⟨by decide, by decide⟩, _, _, rfl, rfl, _, _, rfl, rfl, .inl ⟨_, rfl, _, _, rfl, rfl, (by show (0 : Int) < _; decide), ?_⟩⟩
            refine ⟨_, rfl, _, _, rfl, rfl, .inr ⟨by decide, by decide⟩, .inl ⟨_, rfl, _, _, rfl, rfl, (by show (0 : Int) < _; decide), ?_⟩⟩
            refine ⟨_, rfl, .inl ⟨_, rfl, _, rfl, _, _, rfl, _, _, rfl, rfl, (by rw [e1]; omega), ?_⟩⟩
            exact fin _ _ hT2 hK'.put
          · refine ⟨_, rfl, _, rfl, t, _, _, 2, rfl, rfl, upd_same, rfl, ?_⟩
            refine ⟨_, _, rfl, ⟨q, ns, p + 1, n, s', upd_same, ?_, by omega, hn⟩, hK'.put.put⟩
            rw [upd_ne nqt, upd_ne nqt]
            exact hq'
      · exact ⟨_, _, rfl, ⟨q, ns, p, h, s0, hT, hq, hp, hh⟩, Kept.rfl⟩
    · rintro σ' H' ⟨x, y, rfl, ⟨q', ns', p', h', s', hT', hq', hp', hh'⟩, hK'⟩
      have nqt' : q' ≠ t := tape_ne hT' hq'
      have e2 : (0 : Int) < (if (2 : Int) > m then (2 : Int) else m) := by split <;> omega
      refine ⟨_, rfl, t, _, _, _, rfl, rfl, SqL.of hT', rfl, ?_⟩
      refine ⟨_, rfl, _, rfl, _, _, rfl, _, _, rfl, rfl, ⟨e2, by split <;> omega⟩, _, rfl, t, _, _, 2, rfl, rfl, hT', rfl, ?_⟩
      refine ⟨_, rfl, .inl ⟨_, rfl, _, rfl, _, _, rfl, _, _, rfl, rfl, (by rw [e1]; omega), ?_⟩⟩
      refine fin _ _ ⟨q', ns', p', _, s', upd_same, ?_, hp', Int.ediv_nonneg hh' (by omega)⟩ hK'.put
      rw [upd_ne nqt']
      exact hq'

/-! def _law_is_integer -/
def sp_l_is_integer (K : PySem.W.Frag) : Sp := fun vs H Q _ => ∃ (x y : Int), vs = [.int x, .int y] ∧ Q (.bl (decide (x = y))) H
theorem ok_l_is_integer (T : Txt K w mg A) : FnOk P w K mg base CX0 1 A.l_is_integer.f A.l_is_integer.fd ["told", "due"] (sp_l_is_integer K) := by
  refine T.F_l_is_integer.ok sc_l_is_integer (fun vs H Q E h => ?_) (fun cdv Ar outer s H vs Q E hr h => ?_)
  · obtain ⟨x, y, rfl, _⟩ := h; rfl
  · obtain ⟨x, y, rfl, k⟩ := h
    refine ⟨_, (pss_one (ps_ret (pe_and (pe_callB call_isi (by rfl) T.n_isinstance (by decide +kernel) (pa_cons (pv 0) (pa_cons (pe_bltn (v := .ty "int") (by rfl) T.n_int boot_int rfl) pa_nil))) (pe_and (pe_not (pe_callB call_isi (by rfl) T.n_isinstance (by decide +kernel) (pa_cons (pv 0) (pa_cons (pe_bltn (v := .ty "bool") (by rfl) T.n_bool boot_bool rfl) pa_nil)))) (pe_one (pe_cmpR op_eq (pv 0) (pv 1) (nomark _))))))), ?_⟩
    refine ⟨_, rfl, _, _, .type "int", .type "int", true, rfl, .ty _, .base (.int _), kit_ty (by decide +kernel), true, rfl, ?_⟩
    rw [if_pos rfl]
    refine ⟨_, rfl, _, _, .type "int", .type "bool", false, rfl, .ty _, .base (.int _), kit_ty (by decide +kernel), false, rfl, true, rfl, ?_⟩
    rw [if_pos rfl]
    refine ⟨_, rfl, _, rfl, rfl, ?_⟩
    have e : decide (V.int x = V.int y) = decide (x = y) := by
      by_cases h : x = y
      · rw [decide_eq_true h, decide_eq_true (congrArg V.int h)]
      · rw [decide_eq_false h, decide_eq_false (fun z => h (V.int.inj z))]
    show Q (.bl (decide (V.int x = V.int y))) H
    rw [e]
    exact k

/-! def _law_power -/
def sp_l_power (K : PySem.W.Frag) : Sp := fun vs H Q _ => ∃ (n : Nat), vs = [.int (n : Int)] ∧ n ≤ 10000 ∧ Q (.int (2 ^ n)) H
theorem ok_l_power (T : Txt K w mg A) : FnOk P w K mg base CX0 1 A.l_power.f A.l_power.fd ["width"] (sp_l_power K) := by
  refine T.F_l_power.ok sc_l_power (fun vs H Q E h => ?_) (fun cdv Ar outer s H vs Q E hr h => ?_)
  · obtain ⟨n, rfl, _⟩ := h; rfl
  · obtain ⟨n, rfl, hn, k⟩ := h
    refine ⟨_, (pss_cons (ps_set (i := 1) sc_l_power.nd rfl (.inl rfl) pe_int)
        (pss_cons (ps_for PassesOwn.never rfl (pi_range1 rfl T.n_range (pa_cons (pv 0) pa_nil)) (pg_name (i := 2) sc_l_power.nd rfl (Or.inl rfl)) (pss_one (ps_set (i := 1) sc_l_power.nd rfl (.inl rfl) (pe_op op_mul (pv 1) pe_int))))
        (pss_one (ps_ret (pv 1))))), ?_⟩
    refine ⟨_, rfl, n, rfl, by omega, by omega, for_range (n := n) (fun i σ H2 => ∃ v, σ = [some (.int (n : Int)), some (.int (2 ^ i)), v] ∧ H2 = H) ⟨_, rfl, rfl⟩ ?_ ?_⟩
    · rintro i σ H2 hi ⟨v, rfl, rfl⟩
      refine ⟨_, rfl, _, _, rfl, rfl, .inr ⟨by decide, by decide⟩, ?_⟩
      exact ⟨_, by rw [Int.pow_succ]; rfl, rfl⟩
    · rintro σ H2 ⟨v, rfl, rfl⟩
      exact ⟨_, rfl, k⟩

/-! def _law_code -/
def sp_l_code (K : PySem.W.Frag) : Sp := fun vs H Q _ => ∃ (t : Addr) (n : Nat), vs = [.ref t, .int (n : Int)] ∧ Tape H t ∧ n ≤ 64 ∧ ∀ (H' : Hp) (c : Int), 0 ≤ c → c < 2 ^ n → Tape H' t → Kept t H H' → Q (.int c) H'
theorem ok_l_code (T : Txt K w mg A) : FnOk P w K mg base CX0 2 A.l_code.f A.l_code.fd ["tape", "width"] (sp_l_code K) := by
  have G_l_draw : FnOk P w K mg base CX0 1 A.l_draw.f A.l_draw.fd ["tape", "many"] (sp_l_draw K) := ok_l_draw T
  have G_l_power : FnOk P w K mg base CX0 1 A.l_power.f A.l_power.fd ["width"] (sp_l_power K) := ok_l_power T
  refine T.F_l_code.ok sc_l_code (fun vs H Q E h => ?_) (fun cdv Ar outer s H vs Q E hr h => ?_)
  · obtain ⟨t, n, rfl, _⟩ := h; rfl
  · obtain ⟨t, n, rfl, hT, hn, k⟩ := h
    refine ⟨_, (pss_cons (ps_set (i := 2) sc_l_code.nd rfl (.inl rfl) (pe_call G_l_power (hr.mono (by decide)) (by rfl) T.g_l_power T.F_l_power.kp T.b_l_power .nil pass0 (pa_cons (pv 1) pa_nil)))
        (pss_cons (ps_set (i := 3) sc_l_code.nd rfl (.inl rfl) (pe_call G_l_draw (hr.mono (by decide)) (by rfl) T.g_l_draw T.F_l_draw.kp T.b_l_draw .nil pass0 (pa_cons (pv 0) (pa_cons pe_int pa_nil))))
        (pss_cons (ps_if (pt_cmpR op_lt (pv 3) pe_int (nomark _)) (pss_one (ps_ret (pe_op op_mod (pe_callTy call_int1 (by rfl) T.n_int (by decide +kernel) (pa_cons (pe_ix ix_list (pe_lst (pa_cons pe_int (pa_cons pe_int (pa_cons (pe_op op_sub (pv 2) pe_int) (pa_cons (pe_op op_fdiv (pv 2) pe_int) (pa_cons (pe_op op_sub (pe_op op_fdiv (pv 2) pe_int) pe_int) pa_nil)))))) (pv 3) (fun _ _ => rfl)) pa_nil)) (pv 2)))) pss_nil)
        (pss_cons (ps_set (i := 4) sc_l_code.nd rfl (.inl rfl) pe_int)
        (pss_cons (ps_for PassesOwn.never rfl (pi_range1 rfl T.n_range (pa_cons pe_int pa_nil)) (pg_name (i := 5) sc_l_code.nd rfl (Or.inl rfl)) (pss_one (ps_set (i := 4) sc_l_code.nd rfl (.inl rfl) (pe_op op_add (pe_op op_mul (pv 4) pe_int) (pe_call G_l_draw (hr.mono (by decide)) (by rfl) T.g_l_draw T.F_l_draw.kp T.b_l_draw .nil pass0 (pa_cons (pv 0) (pa_cons pe_int pa_nil)))))))
        (pss_one (ps_ret (pe_op op_mod (pe_callTy call_int1 (by rfl) T.n_int (by decide +kernel) (pa_cons (pv 4) pa_nil)) (pv 2))))))))), ?_⟩
    have hp := two_pos n
    refine ⟨_, rfl, n, rfl, by omega, ?_⟩
    refine ⟨_, rfl, t, 10, rfl, hT, by decide, by decide, fun H1 v hv0 hv1 hT1 hK1 => ?_⟩
    refine ⟨_, rfl, _, _, rfl, rfl, _, rfl, ite2 (fun e => ?_) (fun e => ?_)⟩
    · have e : v < 5 := of_decide_eq_true e
      refine ⟨_, rfl, _, _, rfl, rfl, _, rfl, _, _, rfl, rfl, ⟨by decide, by decide⟩, _, rfl, _, _, rfl, rfl, ⟨by decide, by decide⟩, _, _, rfl, rfl, (by show 5 ≤ sizeLine; decide), fun l hl => ?_⟩
      have hat : ∃ z : Int, atI [V.int 0, V.int 1, V.int (2 ^ n - 1), V.int (2 ^ n / 2), V.int (2 ^ n / 2 - 1)] v = some (V.int z) := by
        rcases (show v = 0 ∨ v = 1 ∨ v = 2 ∨ v = 3 ∨ v = 4 by omega) with rfl | rfl | rfl | rfl | rfl <;> exact ⟨_, rfl⟩
      obtain ⟨z, hz⟩ := hat
      refine ⟨_, rfl, l, _, _, _, rfl, rfl, SqL.of upd_same, hz, .inl ⟨_, rfl, _, rfl, _, _, rfl, rfl, hp, ?_⟩⟩
      exact k _ _ (Int.emod_nonneg _ (by omega)) (Int.emod_lt_of_pos _ hp) (hT1.new hl) (hK1.new hl)
    · refine ⟨4, rfl, by decide, by decide, for_range (n := 4) (fun i σ H2 => ∃ (c : Int) (v5 : Option V), σ = [some (.ref t), some (.int (n : Int)), some (.int (2 ^ n)), some (.int v), some (.int c), v5] ∧ Tape H2 t ∧ Kept t H H2) ⟨_, _, rfl, hT1, hK1⟩ ?_ ?_⟩
      · rintro i σ H2 hi ⟨c, v5, rfl, hT2, hK2⟩
        refine ⟨_, rfl, _, _, rfl, rfl, .inr ⟨by decide, by decide⟩, _, rfl, t, 256, rfl, hT2, by decide, by decide, fun H3 u hu0 hu1 hT3 hK3 => ?_⟩
        exact ⟨_, _, rfl, rfl, _, _, rfl, hT3, hK2.trans hK3⟩
      · rintro σ H2 ⟨c, v5, rfl, hT2, hK2⟩
        refine ⟨_, rfl, .inl ⟨_, rfl, _, rfl, _, _, rfl, rfl, hp, ?_⟩⟩
        exact k _ _ (Int.emod_nonneg _ (by omega)) (Int.emod_lt_of_pos _ hp) hT2 hK2

/-! def _law_horner -/
def sp_l_horner (K : PySem.W.Frag) : Sp := fun vs H Q _ => ∃ (d : Addr) (bs : List Int) (b : Bool), vs = [.ref d, .bl b] ∧ SqL K H d (bs.map V.int) ∧ bs.length ≤ 1000 ∧ Q (.int (hor (if b = true then bs.reverse else bs))) H
theorem ok_l_horner (T : Txt K w mg A) : FnOk P w K mg base CX0 1 A.l_horner.f A.l_horner.fd ["data", "least_first"] (sp_l_horner K) := by
  refine T.F_l_horner.ok sc_l_horner (fun vs H Q E h => ?_) (fun cdv Ar outer s H vs Q E hr h => ?_)
  · obtain ⟨d, bs, b, rfl, _⟩ := h; rfl
  · obtain ⟨d, bs, b, rfl, hd, hl, k⟩ := h
    refine ⟨_, (pss_cons (ps_set (i := 2) sc_l_horner.nd rfl (.inl rfl) pe_int)
        (pss_cons (ps_for PassesOwn.never rfl (pi_range1 rfl T.n_range (pa_cons (pe_callB call_len_seq (by rfl) T.n_len (by decide +kernel) (pa_cons (pv 0) pa_nil)) pa_nil)) (pg_name (i := 3) sc_l_horner.nd rfl (Or.inl rfl)) (pss_cons (ps_set (i := 4) sc_l_horner.nd rfl (.inl rfl) (pe_ix ix_list (pv 0) (pv 3) (fun _ _ => rfl)))
        (C8.pss_cut (ps_if (pt_val (pv 1)) (pss_one (ps_set (i := 4) sc_l_horner.nd rfl (.inl rfl) (pe_ix ix_list (pv 0) (pe_op op_sub (pe_op op_sub (pe_callB call_len_seq (by rfl) T.n_len (by decide +kernel) (pa_cons (pv 0) pa_nil)) pe_int) (pv 3)) (fun _ _ => rfl)))) pss_nil)
        (pss_one (ps_set (i := 2) sc_l_horner.nd rfl (.inl rfl) (pe_op op_add (pe_op op_mul (pv 2) pe_int) (pv 4)))))))
        (pss_one (ps_ret (pv 2))))), ?_⟩
    refine ⟨_, rfl, d, _, rfl, .inl hd, _, rfl, ?_, ?_, for_range (n := (bs.map V.int).length) (fun i σ H2 => ∃ v3 v4, σ = [some (.ref d), some (.bl b), some (.int (hor ((if b = true then bs.reverse else bs).take i))), v3, v4] ∧ H2 = H) ⟨_, _, rfl, rfl⟩ ?_ ?_⟩
    · rw [List.length_map]
      omega
    · rw [List.length_map]
      omega
    · rintro i σ H2 hi ⟨v3, v4, rfl, rfl⟩
      rw [List.length_map] at hi
      have ha : atI (bs.map V.int) (0 + (i : Int)) = some (V.int bs[i]) := at_of (j := i) (by omega) (by rw [List.getElem?_map, List.getElem?_eq_getElem hi]; rfl)
      refine ⟨_, rfl, _, rfl, d, _, _, _, rfl, rfl, hd, ha, ?_⟩
      refine ⟨fun σ' H' => ∃ x : Int, (if b = true then bs.reverse else bs)[i]? = some x ∧ σ' = [some (.ref d), some (.bl b), some (.int (hor ((if b = true then bs.reverse else bs).take i))), some (.int (0 + (i : Int))), some (.int x)] ∧ H' = H2, ?_, ?_⟩
      · refine ⟨_, rfl, _, rfl, ite2 (fun e => ?_) (fun e => ?_)⟩
        · have hj : bs.length - 1 - i < bs.length := by omega
          have hb : atI (bs.map V.int) (((bs.map V.int).length : Int) - 1 - (0 + (i : Int))) = some (V.int bs[bs.length - 1 - i]) := at_of (j := bs.length - 1 - i) (by rw [List.length_map]; omega) (by rw [List.getElem?_map, List.getElem?_eq_getElem hj]; rfl)
          refine ⟨_, rfl, _, rfl, d, _, rfl, .inl hd, _, _, rfl, rfl, _, rfl, _, _, rfl, rfl, d, _, _, _, rfl, rfl, hd, hb, ?_⟩
          refine ⟨_, ?_, rfl, rfl⟩
          rw [if_pos e, List.getElem?_reverse hi, List.getElem?_eq_getElem hj]
        · refine ⟨_, ?_, rfl, rfl⟩
          rw [if_neg e, List.getElem?_eq_getElem hi]
      · rintro σ' H' ⟨x, hx, rfl, rfl⟩
        refine ⟨_, rfl, _, _, rfl, rfl, .inr ⟨by decide, by decide⟩, _, rfl, _, _, rfl, rfl, ?_⟩
        exact ⟨_, _, by rw [hor_take hx]; rfl, rfl⟩
    · rintro σ H2 ⟨v3, v4, rfl, rfl⟩
      refine ⟨_, rfl, ?_⟩
      rw [List.length_map, List.take_of_length_le (by split <;> simp)]
      exact k

/-! def _law_are_bytes -/
def sp_l_are_bytes (K : PySem.W.Frag) : Sp := fun vs H Q _ => ∃ (d : Addr) (bs : List Int), vs = [.ref d, .int (bs.length : Int)] ∧ H d = some (.lst (bs.map V.int)) ∧ (∀ b ∈ bs, 0 ≤ b ∧ b < 256) ∧ Q (.bl true) H
theorem ok_l_are_bytes (T : Txt K w mg A) : FnOk P w K mg base CX0 1 A.l_are_bytes.f A.l_are_bytes.fd ["told", "size"] (sp_l_are_bytes K) := by
  refine T.F_l_are_bytes.ok sc_l_are_bytes (fun vs H Q E h => ?_) (fun cdv Ar outer s H vs Q E hr h => ?_)
  · obtain ⟨d, bs, rfl, _⟩ := h; rfl
  · obtain ⟨d, bs, rfl, hd, hb, k⟩ := h
    refine ⟨_, (pss_cons (ps_if (PW.pt (pw_or (pt_not (pt_val (pe_callB call_isi (by rfl) T.n_isinstance (by decide +kernel) (pa_cons (pv 0) (pa_cons (pe_bltn (v := .ty "list") (by rfl) T.n_list boot_list rfl) pa_nil))))) (pw_or1 (pt_cmpR op_ne (pe_callB call_len_seq (by rfl) T.n_len (by decide +kernel) (pa_cons (pv 0) pa_nil)) (pv 1) (nomark _))))) (pss_one (ps_ret pe_bl)) pss_nil)
        (pss_cons (ps_for PassesOwn.never rfl (pi_list (pv 0)) (pg_name (i := 2) sc_l_are_bytes.nd rfl (Or.inl rfl)) (pss_one (ps_if (PW.pt (pw_or (pt_not (pt_val (pe_callB call_isi (by rfl) T.n_isinstance (by decide +kernel) (pa_cons (pv 2) (pa_cons (pe_bltn (v := .ty "int") (by rfl) T.n_int boot_int rfl) pa_nil))))) (pw_or (pt_val (pe_callB call_isi (by rfl) T.n_isinstance (by decide +kernel) (pa_cons (pv 2) (pa_cons (pe_bltn (v := .ty "bool") (by rfl) T.n_bool boot_bool rfl) pa_nil)))) (pw_or (pt_cmpR op_lt (pv 2) pe_int (nomark _)) (pw_or1 (pt_cmpR op_gt (pv 2) pe_int (nomark _))))))) (pss_one (ps_ret pe_bl)) pss_nil)))
        (pss_one (ps_ret pe_bl)))), ?_⟩
    refine ⟨_, rfl, _, _, .type "list", .type "list", true, rfl, .ty _, .base (.lst hd), kit_ty (by decide +kernel), true, rfl, iteF ⟨_, rfl, d, _, rfl, .inl (SqL.of hd), _, rfl, rfl, _, rfl, iteNS ?_ ?_⟩⟩
    · rw [List.length_map]
    refine ⟨_, rfl, d, rfl, ⟨_, SqL.of hd⟩, for_list (K := K) (a := d) (xs := bs.map V.int) (fun i σ H2 => ∃ v, σ = [some (.ref d), some (.int (bs.length : Int)), v] ∧ H2 = H) ⟨_, rfl, rfl⟩ (fun i σ H2 _ ⟨_, _, e⟩ => by rw [e]; exact SqL.of hd) ?_ ?_⟩
    · rintro i y σ H2 hi ⟨v, rfl, rfl⟩
      obtain ⟨b, rfl, hbi⟩ := map_int_at hi
      have h01 := hb b (List.mem_of_getElem? hbi)
      refine ⟨_, rfl, _, _, .type "int", .type "int", true, rfl, .ty _, .base (.int _), kit_ty (by decide +kernel), true, rfl, iteF ⟨_, rfl, _, _, .type "int", .type "bool", false, rfl, .ty _, .base (.int _), kit_ty (by decide +kernel), false, rfl, iteF ⟨_, rfl, _, _, rfl, rfl, _, rfl, iteDF (by omega) ⟨_, rfl, _, _, rfl, rfl, _, rfl, iteDF (by omega) ?_⟩⟩⟩⟩
      exact ⟨_, rfl, rfl⟩
    · rintro σ H2 ⟨v, rfl, rfl⟩
      exact k

/-! def law -/
theorem hor1 (c : Int) (h0 : 0 ≤ c) (h : c < 2 ^ 8) : hor (byts c 1) = c := by
  show 0 * 256 + c / 1 % 256 = c
  have h2 : c < 256 := h
  omega
theorem hor2 (c : Int) (h0 : 0 ≤ c) (h : c < 2 ^ 16) : hor (byts c 2).reverse = c := by
  show (0 * 256 + c / 256 % 256) * 256 + c / 1 % 256 = c
  have h2 : c < 65536 := h
  omega
theorem hor4 (c : Int) (h0 : 0 ≤ c) (h : c < 2 ^ 32) : hor (byts c 4).reverse = c := by
  show (((0 * 256 + c / 16777216 % 256) * 256 + c / 65536 % 256) * 256 + c / 256 % 256) * 256 + c / 1 % 256 = c
  have h2 : c < 4294967296 := h
  omega
/-- what the law draws of a word: kind, word, size; the number is read least first if b -/
structure Kind (v : Int) (z : Str) (n : Nat) (b : Bool) : Prop where
  wz : atI [V.str "u8", V.str "u16be", V.str "u16le", V.str "u32be", V.str "u32le"] v = some (.str z)
  nz : atI [V.int 1, V.int 2, V.int 2, V.int 4, V.int 4] v = some (.int (n : Int))
  sz : WSz z (n : Int)
  lf : b = (decide (V.int v = V.int 2) || decide (V.int v = V.int 4))
  ok : ∀ c : Int, 0 ≤ c → c < 2 ^ (8 * n) → hor (if b = true then (stored z c n).reverse else stored z c n) = c
theorem kind_of {v : Int} (h0 : 0 ≤ v) (h1 : v < 5) : ∃ z n b, Kind v z n b := by
  rcases (show v = 0 ∨ v = 1 ∨ v = 2 ∨ v = 3 ∨ v = 4 by omega) with rfl | rfl | rfl | rfl | rfl
  · exact ⟨"u8", 1, false, rfl, rfl, .inl ⟨rfl, rfl⟩, by decide, fun c a b => by
      rw [if_neg (by decide)]
      unfold stored inOrder
      rw [if_neg (by decide +kernel)]
      exact hor1 c a b⟩
  · exact ⟨"u16be", 2, false, rfl, rfl, .inr (.inl ⟨rfl, rfl⟩), by decide, fun c a b => by
      rw [if_neg (by decide)]
      unfold stored inOrder
      rw [if_pos (by decide +kernel)]
      exact hor2 c a b⟩
  · exact ⟨"u16le", 2, true, rfl, rfl, .inr (.inr (.inl ⟨rfl, rfl⟩)), by decide, fun c a b => by
      rw [if_pos rfl]
      unfold stored inOrder
      rw [if_neg (by decide +kernel)]
      exact hor2 c a b⟩
  · exact ⟨"u32be", 4, false, rfl, rfl, .inr (.inr (.inr (.inl ⟨rfl, rfl⟩))), by decide, fun c a b => by
      rw [if_neg (by decide)]
      unfold stored inOrder
      rw [if_pos (by decide +kernel)]
      exact hor4 c a b⟩
  · exact ⟨"u32le", 4, true, rfl, rfl, .inr (.inr (.inr (.inr ⟨rfl, rfl⟩))), by decide, fun c a b => by
      rw [if_pos rfl]
      unfold stored inOrder
      rw [if_neg (by decide +kernel)]
      exact hor4 c a b⟩
theorem stored_len (z : Str) (c : Int) (n : Nat) : (stored z c n).length = n := by
  unfold stored inOrder
  split
  · rw [List.length_reverse, byts_len]
  · rw [byts_len]
theorem stored_are {z : Str} {c : Int} {n : Nat} : ∀ b ∈ stored z c n, 0 ≤ b ∧ b < 256 := by
  intro b hb
  unfold stored inOrder at hb
  split at hb
  · exact byts_are b (List.mem_reverse.mp hb)
  · exact byts_are b hb
def sp_law (K : PySem.W.Frag) : Sp := fun vs H Q _ => ∃ (a : Addr) (ns : List Int), vs = [.ref a] ∧ SqL K H a (ns.map V.int) ∧ ns.length ≤ 63 ∧ ∀ H', Q (.bl true) H'
theorem ok_law (T : Txt K w mg A) : FnOk P w K mg base CX0 3 A.law.f A.law.fd ["script"] (sp_law K) := by
  have G_l_are_bytes : FnOk P w K mg base CX0 1 A.l_are_bytes.f A.l_are_bytes.fd ["told", "size"] (sp_l_are_bytes K) := ok_l_are_bytes T
  have G_l_code : FnOk P w K mg base CX0 2 A.l_code.f A.l_code.fd ["tape", "width"] (sp_l_code K) := ok_l_code T
  have G_l_draw : FnOk P w K mg base CX0 1 A.l_draw.f A.l_draw.fd ["tape", "many"] (sp_l_draw K) := ok_l_draw T
  have G_l_horner : FnOk P w K mg base CX0 1 A.l_horner.f A.l_horner.fd ["data", "least_first"] (sp_l_horner K) := ok_l_horner T
  have G_l_is_integer : FnOk P w K mg base CX0 1 A.l_is_integer.f A.l_is_integer.fd ["told", "due"] (sp_l_is_integer K) := ok_l_is_integer T
  have G_l_tape : FnOk P w K mg base CX0 1 A.l_tape.f A.l_tape.fd ["script"] (sp_l_tape K) := ok_l_tape T
  have G_store : FnOk P w K mg base CX0 2 A.store.f A.store.fd ["word", "code"] (sp_store K) := ok_store T
  have G_word_size : FnOk P w K mg base CX0 1 A.word_size.f A.word_size.fd ["word"] (sp_word_size K) := ok_word_size T
  refine T.F_law.ok sc_law (fun vs H Q E h => ?_) (fun cdv Ar outer s H vs Q E hr h => ?_)
  · obtain ⟨a, ns, rfl, _⟩ := h; rfl
  · obtain ⟨a, ns, rfl, hS, hlen, k⟩ := h
    refine ⟨_, (pss_cons (ps_set (i := 1) sc_law.nd rfl (.inl rfl) (pe_call G_l_tape (hr.mono (by decide)) (by rfl) T.g_l_tape T.F_l_tape.kp T.b_l_tape .nil pass0 (pa_cons (pv 0) pa_nil)))
        (pss_cons (ps_set (i := 2) sc_law.nd rfl (.inl rfl) (pe_call G_l_draw (hr.mono (by decide)) (by rfl) T.g_l_draw T.F_l_draw.kp T.b_l_draw .nil pass0 (pa_cons (pv 1) (pa_cons pe_int pa_nil))))
        (pss_cons (ps_set (i := 3) sc_law.nd rfl (.inl rfl) (pe_ix ix_list (pe_lst (pa_cons pe_str (pa_cons pe_str (pa_cons pe_str (pa_cons pe_str (pa_cons pe_str pa_nil)))))) (pv 2) (fun _ _ => rfl)))
        (pss_cons (ps_set (i := 4) sc_law.nd rfl (.inl rfl) (pe_ix ix_list (pe_lst (pa_cons pe_int (pa_cons pe_int (pa_cons pe_int (pa_cons pe_int (pa_cons pe_int pa_nil)))))) (pv 2) (fun _ _ => rfl)))
        (pss_cons (ps_set (i := 5) sc_law.nd rfl (.inl rfl) (pe_call G_l_code (hr.mono (by decide)) (by rfl) T.g_l_code T.F_l_code.kp T.b_l_code .nil pass0 (pa_cons (pv 1) (pa_cons (pe_op op_mul pe_int (pv 4)) pa_nil))))
        (pss_cons (ps_if (pt_not (pt_val (pe_call G_l_is_integer (hr.mono (by decide)) (by rfl) T.g_l_is_integer T.F_l_is_integer.kp T.b_l_is_integer .nil pass0 (pa_cons (pe_call G_word_size (hr.mono (by decide)) (by rfl) T.g_word_size T.F_word_size.kp T.b_word_size .nil pass0 (pa_cons (pv 3) pa_nil)) (pa_cons (pv 4) pa_nil))))) (pss_one (ps_ret pe_bl)) pss_nil)
        (pss_cons (ps_set (i := 6) sc_law.nd rfl (.inl rfl) (pe_call G_store (hr.mono (by decide)) (by rfl) T.g_store T.F_store.kp T.b_store .nil pass0 (pa_cons (pv 3) (pa_cons (pv 5) pa_nil))))
        (C8.pss_cut (ps_if (PW.pt (pw_or (pt_not (pt_val (pe_call G_l_are_bytes (hr.mono (by decide)) (by rfl) T.g_l_are_bytes T.F_l_are_bytes.kp T.b_l_are_bytes .nil pass0 (pa_cons (pv 6) (pa_cons (pv 4) pa_nil))))) (pw_or1 (pt_cmpR op_ne (pe_call G_l_horner (hr.mono (by decide)) (by rfl) T.g_l_horner T.F_l_horner.kp T.b_l_horner .nil pass0 (pa_cons (pv 6) (pa_cons (pe_or (pe_cmpR op_eq (pv 2) pe_int (nomark _)) (pe_one (pe_cmpR op_eq (pv 2) pe_int (nomark _)))) pa_nil))) (pv 5) (nomark _))))) (pss_one (ps_ret pe_bl)) pss_nil)
        (pss_cons (ps_set (i := 7) sc_law.nd rfl (.inl rfl) (pe_callTy call_list_of (by rfl) T.n_list (by decide +kernel) (pa_cons (pv 6) pa_nil)))
        (pss_cons (ps_asg pe_int (pg_sub (pv 6) pe_int set_list))
        (pss_cons (ps_expr (pe_bm PySem.F.plainAttrs_list PySem.F.slot_list_append PySem.F.type_list_append mt_append (pv 6) (pa_cons pe_int pa_nil)))
        (pss_cons (ps_set (i := 8) sc_law.nd rfl (.inl rfl) (pe_call G_store (hr.mono (by decide)) (by rfl) T.g_store T.F_store.kp T.b_store .nil pass0 (pa_cons (pv 3) (pa_cons (pv 5) pa_nil))))
        (pss_one (ps_ret (pe_and (pe_callB call_isi (by rfl) T.n_isinstance (by decide +kernel) (pa_cons (pv 8) (pa_cons (pe_bltn (v := .ty "list") (by rfl) T.n_list boot_list rfl) pa_nil))) (pe_one (pe_cmpR (op_eqD hr.units) (pv 8) (pv 7) (nomark _)))))))))))))))))), ?_⟩
    refine ⟨_, rfl, a, ns, rfl, hS, fun H1 t s1 ht hT => ?_⟩
    refine ⟨_, rfl, t, 5, rfl, hT, by decide, by decide, fun H2 v hv0 hv1 hT2 hK2 => ?_⟩
    obtain ⟨z, n, b, kd⟩ := kind_of hv0 hv1
    have hn := kd.sz.le
    refine ⟨(by show 5 ≤ sizeLine; decide), fun l1 hl1 => ⟨_, rfl, l1, _, _, _, rfl, rfl, SqL.of upd_same, kd.wz, ?_⟩⟩
    refine ⟨(by show 5 ≤ sizeLine; decide), fun l2 hl2 => ⟨_, rfl, l2, _, _, _, rfl, rfl, SqL.of upd_same, kd.nz, ?_⟩⟩
    have hT3 := (hT2.new (o := .lst [V.str "u8", V.str "u16be", V.str "u16le", V.str "u32be", V.str "u32le"]) hl1).new (o := .lst [V.int 1, V.int 2, V.int 2, V.int 4, V.int 4]) hl2
    have e8 : (8 : Int) * (n : Int) = ((8 * n : Nat) : Int) := by omega
    refine ⟨_, rfl, _, rfl, _, _, rfl, rfl, .inl ⟨by decide, by decide⟩, t, 8 * n, congrArg (fun q => [V.ref t, V.int q]) e8, hT3, by omega, fun H4 c hc0 hc1 hT4 hK4 => ?_⟩
    refine ⟨_, rfl, z, _, rfl, kd.sz, _, rfl, _, _, rfl, _, rfl, iteNS rfl ?_⟩
    refine ⟨_, rfl, _, rfl, z, c, n, rfl, kd.sz, fun H5 p s5 hp hp5 => ?_⟩
    have elen : ((stored z c n).length : Int) = (n : Int) := by rw [stored_len]
    have hok := kd.ok c hc0 hc1
    have hlf := kd.lf
    have hl5 : (stored z c n).length ≤ 1000 := by rw [stored_len]; omega
    refine ⟨fun σ' H' => σ' = [some (.ref a), some (.ref t), some (.int v), some (.str z), some (.int (n : Int)), some (.int c), some (.ref p), none, none] ∧ H' = H5, ?_, ?_⟩
    · refine ⟨_, rfl, _, rfl, p, stored z c n, congrArg (fun q => [V.ref p, V.int q]) elen.symm, hp5, stored_are, _, rfl, iteF ?_⟩
      refine ⟨_, rfl, _, rfl, rfl, _, rfl, ite2 (fun e => ?_) (fun e => ?_)⟩
      · rw [e, Bool.true_or] at hlf
        subst hlf
        exact ⟨p, _, _, rfl, SqL.of hp5, hl5, _, rfl, rfl, _, rfl, iteNS (congrArg V.int hok) ⟨rfl, rfl⟩⟩
      · rw [Bool.eq_false_iff.mpr e, Bool.false_or] at hlf
        subst hlf
        exact ⟨_, rfl, rfl, p, _, _, rfl, SqL.of hp5, hl5, _, rfl, rfl, _, rfl, iteNS (congrArg V.int hok) ⟨rfl, rfl⟩⟩
    · rintro σ' H' ⟨rfl, rfl⟩
      -- kept = list(told)
      refine ⟨_, rfl, p, _, rfl, .inl (SqL.of hp5), fun q hq => ?_⟩
      have npq : p ≠ q := ne_of_none hp5 hq
      have hp6 : (upd H' q (.lst ((stored z c n).map V.int))) p = some (.lst ((stored z c n).map V.int)) := by
        rw [upd_ne npq]
        exact hp5
      have hix : ixN ((stored z c n).map V.int).length 0 = some 0 := by
        unfold ixN
        rw [List.length_map, stored_len, if_pos (by decide), if_pos (by omega)]
        rfl
      refine ⟨_, rfl, p, _, 0, 0, rfl, rfl, hp6, hix, ?_⟩
      -- told.append(0)
      refine ⟨_, rfl, .inl ⟨rfl, _, SqL.of upd_same⟩, p, _, _, rfl, rfl, upd_same, ?_, ?_⟩
      · rw [List.length_set, List.length_map, stored_len]
        exact small1000 (by omega)
      refine ⟨_, rfl, _, rfl, z, c, n, rfl, kd.sz, fun H7 r s7 hr7 hr8 => ?_⟩
      have hq8 : H7 q = some (.lst ((stored z c n).map V.int)) := s7 _ _ (by rw [upd_ne npq.symm, upd_ne npq.symm, upd_same])
      refine ⟨_, rfl, _, _, .type "list", .type "list", true, rfl, .ty _, .base (.lst hr8), kit_ty (by decide +kernel), true, rfl, iteT ⟨_, rfl, _, rfl, _, _, .lst (SqL.of hr8) (dp_ints _), .lst (SqL.of hq8) (dp_ints _), shaped_ints _, shaped_ints _, ?_⟩⟩
      rw [eqv_ints, decide_eq_true rfl]
      exact k _
end
theorem all_mk {l : PySem.W.OpenLaw} {w : World} {K : PySem.W.Frag} {h : Heap} {mg : Str → Option Value} {fa : Addr} (X : K.In h) (G : h.Ns mainGlobals mg) (hfa : mg "law" = some (.ref fa))
    {f0 : Addr} {od0 an0 : Option Addr} {sl0 : Array (Option Value)} {oc0 kV0 dc0 pm0 cd0 ct0 : Value}
    (a0 : PySem.W.nsIn K mainGlobals "word_size" = some (some (.ref f0))) (l0 : K.lookup f0 = some ⟨oc0, od0, .func (PySem.W.fnOf "word_size" "word_size" (defArgs s_word_size) (defBody s_word_size) (defScope s_word_size) .none kV0 dc0 pm0 an0 cd0 ct0), sl0⟩) (c0 : PySem.W.codeIn K cd0 "word_size" = true) (k0 : PySem.W.keepIn K (.ref f0) = true)
    {f1 : Addr} {od1 an1 : Option Addr} {sl1 : Array (Option Value)} {oc1 kV1 dc1 pm1 cd1 ct1 : Value}
    (a1 : PySem.W.nsIn K mainGlobals "bits_at" = some (some (.ref f1))) (l1 : K.lookup f1 = some ⟨oc1, od1, .func (PySem.W.fnOf "bits_at" "bits_at" (defArgs s_bits_at) (defBody s_bits_at) (defScope s_bits_at) .none kV1 dc1 pm1 an1 cd1 ct1), sl1⟩) (c1 : PySem.W.codeIn K cd1 "bits_at" = true) (k1 : PySem.W.keepIn K (.ref f1) = true)
    {f2 : Addr} {od2 an2 : Option Addr} {sl2 : Array (Option Value)} {oc2 kV2 dc2 pm2 cd2 ct2 : Value}
    (a2 : PySem.W.nsIn K mainGlobals "in_word_order" = some (some (.ref f2))) (l2 : K.lookup f2 = some ⟨oc2, od2, .func (PySem.W.fnOf "in_word_order" "in_word_order" (defArgs s_in_word_order) (defBody s_in_word_order) (defScope s_in_word_order) .none kV2 dc2 pm2 an2 cd2 ct2), sl2⟩) (c2 : PySem.W.codeIn K cd2 "in_word_order" = true) (k2 : PySem.W.keepIn K (.ref f2) = true)
    {f3 : Addr} {od3 an3 : Option Addr} {sl3 : Array (Option Value)} {oc3 kV3 dc3 pm3 cd3 ct3 : Value}
    (a3 : PySem.W.nsIn K mainGlobals "store" = some (some (.ref f3))) (l3 : K.lookup f3 = some ⟨oc3, od3, .func (PySem.W.fnOf "store" "store" (defArgs s_store) (defBody s_store) (defScope s_store) .none kV3 dc3 pm3 an3 cd3 ct3), sl3⟩) (c3 : PySem.W.codeIn K cd3 "store" = true) (k3 : PySem.W.keepIn K (.ref f3) = true)
    {f4 : Addr} {od4 an4 : Option Addr} {sl4 : Array (Option Value)} {oc4 kV4 dc4 pm4 cd4 ct4 : Value}
    (a4 : PySem.W.nsIn K mainGlobals "_law_tape" = some (some (.ref f4))) (l4 : K.lookup f4 = some ⟨oc4, od4, .func (PySem.W.fnOf "_law_tape" "_law_tape" (defArgs s_l_tape) (defBody s_l_tape) (defScope s_l_tape) .none kV4 dc4 pm4 an4 cd4 ct4), sl4⟩) (c4 : PySem.W.codeIn K cd4 "_law_tape" = true) (k4 : PySem.W.keepIn K (.ref f4) = true)
    {f5 : Addr} {od5 an5 : Option Addr} {sl5 : Array (Option Value)} {oc5 kV5 dc5 pm5 cd5 ct5 : Value}
    (a5 : PySem.W.nsIn K mainGlobals "_law_draw" = some (some (.ref f5))) (l5 : K.lookup f5 = some ⟨oc5, od5, .func (PySem.W.fnOf "_law_draw" "_law_draw" (defArgs s_l_draw) (defBody s_l_draw) (defScope s_l_draw) .none kV5 dc5 pm5 an5 cd5 ct5), sl5⟩) (c5 : PySem.W.codeIn K cd5 "_law_draw" = true) (k5 : PySem.W.keepIn K (.ref f5) = true)
    {f6 : Addr} {od6 an6 : Option Addr} {sl6 : Array (Option Value)} {oc6 kV6 dc6 pm6 cd6 ct6 : Value}
    (a6 : PySem.W.nsIn K mainGlobals "_law_is_integer" = some (some (.ref f6))) (l6 : K.lookup f6 = some ⟨oc6, od6, .func (PySem.W.fnOf "_law_is_integer" "_law_is_integer" (defArgs s_l_is_integer) (defBody s_l_is_integer) (defScope s_l_is_integer) .none kV6 dc6 pm6 an6 cd6 ct6), sl6⟩) (c6 : PySem.W.codeIn K cd6 "_law_is_integer" = true) (k6 : PySem.W.keepIn K (.ref f6) = true)
    {f7 : Addr} {od7 an7 : Option Addr} {sl7 : Array (Option Value)} {oc7 kV7 dc7 pm7 cd7 ct7 : Value}
    (a7 : PySem.W.nsIn K mainGlobals "_law_power" = some (some (.ref f7))) (l7 : K.lookup f7 = some ⟨oc7, od7, .func (PySem.W.fnOf "_law_power" "_law_power" (defArgs s_l_power) (defBody s_l_power) (defScope s_l_power) .none kV7 dc7 pm7 an7 cd7 ct7), sl7⟩) (c7 : PySem.W.codeIn K cd7 "_law_power" = true) (k7 : PySem.W.keepIn K (.ref f7) = true)
    {f8 : Addr} {od8 an8 : Option Addr} {sl8 : Array (Option Value)} {oc8 kV8 dc8 pm8 cd8 ct8 : Value}
    (a8 : PySem.W.nsIn K mainGlobals "_law_code" = some (some (.ref f8))) (l8 : K.lookup f8 = some ⟨oc8, od8, .func (PySem.W.fnOf "_law_code" "_law_code" (defArgs s_l_code) (defBody s_l_code) (defScope s_l_code) .none kV8 dc8 pm8 an8 cd8 ct8), sl8⟩) (c8 : PySem.W.codeIn K cd8 "_law_code" = true) (k8 : PySem.W.keepIn K (.ref f8) = true)
    {f9 : Addr} {od9 an9 : Option Addr} {sl9 : Array (Option Value)} {oc9 kV9 dc9 pm9 cd9 ct9 : Value}
    (a9 : PySem.W.nsIn K mainGlobals "_law_horner" = some (some (.ref f9))) (l9 : K.lookup f9 = some ⟨oc9, od9, .func (PySem.W.fnOf "_law_horner" "_law_horner" (defArgs s_l_horner) (defBody s_l_horner) (defScope s_l_horner) .none kV9 dc9 pm9 an9 cd9 ct9), sl9⟩) (c9 : PySem.W.codeIn K cd9 "_law_horner" = true) (k9 : PySem.W.keepIn K (.ref f9) = true)
    {f10 : Addr} {od10 an10 : Option Addr} {sl10 : Array (Option Value)} {oc10 kV10 dc10 pm10 cd10 ct10 : Value}
    (a10 : PySem.W.nsIn K mainGlobals "_law_are_bytes" = some (some (.ref f10))) (l10 : K.lookup f10 = some ⟨oc10, od10, .func (PySem.W.fnOf "_law_are_bytes" "_law_are_bytes" (defArgs s_l_are_bytes) (defBody s_l_are_bytes) (defScope s_l_are_bytes) .none kV10 dc10 pm10 an10 cd10 ct10), sl10⟩) (c10 : PySem.W.codeIn K cd10 "_law_are_bytes" = true) (k10 : PySem.W.keepIn K (.ref f10) = true)
    {f11 : Addr} {od11 an11 : Option Addr} {sl11 : Array (Option Value)} {oc11 kV11 dc11 pm11 cd11 ct11 : Value}
    (a11 : PySem.W.nsIn K mainGlobals "law" = some (some (.ref f11))) (l11 : K.lookup f11 = some ⟨oc11, od11, .func (PySem.W.fnOf "law" "law" (defArgs s_law) (defBody s_law) (defScope s_law) .none kV11 dc11 pm11 an11 cd11 ct11), sl11⟩) (c11 : PySem.W.codeIn K cd11 "law" = true) (k11 : PySem.W.keepIn K (.ref f11) = true)
    (z_abs : PySem.W.nsIn K mainGlobals "abs" = some none)
    (z_bool : PySem.W.nsIn K mainGlobals "bool" = some none)
    (z_int : PySem.W.nsIn K mainGlobals "int" = some none)
    (z_isinstance : PySem.W.nsIn K mainGlobals "isinstance" = some none)
    (z_len : PySem.W.nsIn K mainGlobals "len" = some none)
    (z_list : PySem.W.nsIn K mainGlobals "list" = some none)
    (z_max : PySem.W.nsIn K mainGlobals "max" = some none)
    (z_range : PySem.W.nsIn K mainGlobals "range" = some none)
    {a_WORD_SIZES : Addr} (y_WORD_SIZES : PySem.W.nsIn K mainGlobals "WORD_SIZES" = some (some (.ref a_WORD_SIZES)))
    {es_WORD_SIZES : Array DictEntry} {en_WORD_SIZES : Nat} (m_WORD_SIZES : K.lookup a_WORD_SIZES = some ⟨.type "dict", none, .dict es_WORD_SIZES en_WORD_SIZES, #[]⟩)
    (i_WORD_SIZES : PySem.W.KeysLit w.params es_WORD_SIZES.toList)
    {u_WORD_SIZES_0 : Tok} (v_WORD_SIZES_0 : PySem.W.nsIn K a_WORD_SIZES "u8" = some (some (.int 1 u_WORD_SIZES_0)))
    {u_WORD_SIZES_1 : Tok} (v_WORD_SIZES_1 : PySem.W.nsIn K a_WORD_SIZES "u16be" = some (some (.int 2 u_WORD_SIZES_1)))
    {u_WORD_SIZES_2 : Tok} (v_WORD_SIZES_2 : PySem.W.nsIn K a_WORD_SIZES "u16le" = some (some (.int 2 u_WORD_SIZES_2)))
    {u_WORD_SIZES_3 : Tok} (v_WORD_SIZES_3 : PySem.W.nsIn K a_WORD_SIZES "u32be" = some (some (.int 4 u_WORD_SIZES_3)))
    {u_WORD_SIZES_4 : Tok} (v_WORD_SIZES_4 : PySem.W.nsIn K a_WORD_SIZES "u32le" = some (some (.int 4 u_WORD_SIZES_4)))
    : ∃ fd : FuncData, (∀ (s : Shared) (v : Value), BindsTo s fd ⟨[v], []⟩ [("script", v)]) ∧ ∀ base : Heap, K.In base → base.Ns mainGlobals mg → FnOk l.prog w K mg base CX0 3 fa fd ["script"] (sp_law K) := by
  have e := hfa.symm.trans (PySem.W.mg_of X G a11)
  cases e
  have F0 := fun_mk (st := s_word_size) l0 c0 k0
  have b0 := F0.binds (ps := ["word"]) fun _ _ _ _ _ _ us hl => match us, hl with | [_], _ => rfl
  have F1 := fun_mk (st := s_bits_at) l1 c1 k1
  have b1 := F1.binds (ps := ["code", "low", "width"]) fun _ _ _ _ _ _ us hl => match us, hl with | [_, _, _], _ => rfl
  have F2 := fun_mk (st := s_in_word_order) l2 c2 k2
  have b2 := F2.binds (ps := ["word", "data"]) fun _ _ _ _ _ _ us hl => match us, hl with | [_, _], _ => rfl
  have F3 := fun_mk (st := s_store) l3 c3 k3
  have b3 := F3.binds (ps := ["word", "code"]) fun _ _ _ _ _ _ us hl => match us, hl with | [_, _], _ => rfl
  have F4 := fun_mk (st := s_l_tape) l4 c4 k4
  have b4 := F4.binds (ps := ["script"]) fun _ _ _ _ _ _ us hl => match us, hl with | [_], _ => rfl
  have F5 := fun_mk (st := s_l_draw) l5 c5 k5
  have b5 := F5.binds (ps := ["tape", "many"]) fun _ _ _ _ _ _ us hl => match us, hl with | [_, _], _ => rfl
  have F6 := fun_mk (st := s_l_is_integer) l6 c6 k6
  have b6 := F6.binds (ps := ["told", "due"]) fun _ _ _ _ _ _ us hl => match us, hl with | [_, _], _ => rfl
  have F7 := fun_mk (st := s_l_power) l7 c7 k7
  have b7 := F7.binds (ps := ["width"]) fun _ _ _ _ _ _ us hl => match us, hl with | [_], _ => rfl
  have F8 := fun_mk (st := s_l_code) l8 c8 k8
  have b8 := F8.binds (ps := ["tape", "width"]) fun _ _ _ _ _ _ us hl => match us, hl with | [_, _], _ => rfl
  have F9 := fun_mk (st := s_l_horner) l9 c9 k9
  have b9 := F9.binds (ps := ["data", "least_first"]) fun _ _ _ _ _ _ us hl => match us, hl with | [_, _], _ => rfl
  have F10 := fun_mk (st := s_l_are_bytes) l10 c10 k10
  have b10 := F10.binds (ps := ["told", "size"]) fun _ _ _ _ _ _ us hl => match us, hl with | [_, _], _ => rfl
  have F11 := fun_mk (st := s_law) l11 c11 k11
  have b11 := F11.binds (ps := ["script"]) fun _ _ _ _ _ _ us hl => match us, hl with | [_], _ => rfl
  have T : Txt K w mg ⟨⟨f0, _⟩, ⟨f1, _⟩, ⟨f2, _⟩, ⟨f3, _⟩, ⟨f4, _⟩, ⟨f5, _⟩, ⟨f6, _⟩, ⟨f7, _⟩, ⟨f8, _⟩, ⟨f9, _⟩, ⟨f10, _⟩, ⟨fa, _⟩, a_WORD_SIZES⟩ := ⟨F0, PySem.W.mg_of X G a0, b0, F1, PySem.W.mg_of X G a1, b1, F2, PySem.W.mg_of X G a2, b2, F3, PySem.W.mg_of X G a3, b3, F4, PySem.W.mg_of X G a4, b4, F5, PySem.W.mg_of X G a5, b5, F6, PySem.W.mg_of X G a6, b6, F7, PySem.W.mg_of X G a7, b7, F8, PySem.W.mg_of X G a8, b8, F9, PySem.W.mg_of X G a9, b9, F10, PySem.W.mg_of X G a10, b10, F11, PySem.W.mg_of X G a11, b11, PySem.W.mg_none_of X G z_abs, PySem.W.mg_none_of X G z_bool, PySem.W.mg_none_of X G z_int, PySem.W.mg_none_of X G z_isinstance, PySem.W.mg_none_of X G z_len, PySem.W.mg_none_of X G z_list, PySem.W.mg_none_of X G z_max, PySem.W.mg_none_of X G z_range, PySem.W.mg_of X G y_WORD_SIZES, ⟨es_WORD_SIZES, en_WORD_SIZES, _, m_WORD_SIZES, i_WORD_SIZES, v_WORD_SIZES_0, ⟨_, rfl⟩⟩, ⟨es_WORD_SIZES, en_WORD_SIZES, _, m_WORD_SIZES, i_WORD_SIZES, v_WORD_SIZES_1, ⟨_, rfl⟩⟩, ⟨es_WORD_SIZES, en_WORD_SIZES, _, m_WORD_SIZES, i_WORD_SIZES, v_WORD_SIZES_2, ⟨_, rfl⟩⟩, ⟨es_WORD_SIZES, en_WORD_SIZES, _, m_WORD_SIZES, i_WORD_SIZES, v_WORD_SIZES_3, ⟨_, rfl⟩⟩, ⟨es_WORD_SIZES, en_WORD_SIZES, _, m_WORD_SIZES, i_WORD_SIZES, v_WORD_SIZES_4, ⟨_, rfl⟩⟩⟩
  exact ⟨PySem.W.fnOf "law" "law" (defArgs s_law) (defBody s_law) (defScope s_law) .none kV11 dc11 pm11 an11 cd11 ct11, fun s v => .of_eq rfl, fun base _ _ => ok_law T⟩
end My
open PySem PySem.W PyProof.Rows
set_option maxHeartbeats 0 in
theorem PySem.Challenge.cw_bytebridge_k02_bytes_of_a_word_holds : PySem.Challenge.rw_bytebridge_k02_bytes_of_a_word.Holds := by
  w_on; o_law; k_head; (case hw => w_witness2)
  k_fill
  refine L2.walk_of (l := PySem.Challenge.rw_bytebridge_k02_bytes_of_a_word) (n := 63) (k := 3) (x := "script") (CX := fun _ => L2.CX0) (sp := fun w => My.sp_law _) rfl (by decide) rfl ⟨rfl, by decide, by decide⟩ (fun w h Y => PySem.W.kIn_of Y) ?F (fun _ _ a ns hl hO hS => ⟨a, ns, rfl, hS, hl, fun _ => rfl⟩) (fun _ _ _ _ _ h => h)
  case F =>
    intro w mg fa h KX G hmg
    refine' My.all_mk KX G hmg ?a0 ?l0 ?c0 ?k0 ?a1 ?l1 ?c1 ?k1 ?a2 ?l2 ?c2 ?k2 ?a3 ?l3 ?c3 ?k3 ?a4 ?l4 ?c4 ?k4 ?a5 ?l5 ?c5 ?k5 ?a6 ?l6 ?c6 ?k6 ?a7 ?l7 ?c7 ?k7 ?a8 ?l8 ?c8 ?k8 ?a9 ?l9 ?c9 ?k9 ?a10 ?l10 ?c10 ?k10 ?a11 ?l11 ?c11 ?k11 ?z_abs ?z_bool ?z_int ?z_isinstance ?z_len ?z_list ?z_max ?z_range ?y_WORD_SIZES ?m_WORD_SIZES ?i_WORD_SIZES ?v_WORD_SIZES_0 ?v_WORD_SIZES_1 ?v_WORD_SIZES_2 ?v_WORD_SIZES_3 ?v_WORD_SIZES_4
    (case a0 => k_is)
    (case l0 => k_is)
    (case c0 => k_is)
    (case k0 => k_is)
    (case a1 => k_is)
    (case l1 => k_is)
    (case c1 => k_is)
    (case k1 => k_is)
    (case a2 => k_is)
    (case l2 => k_is)
    (case c2 => k_is)
    (case k2 => k_is)
    (case a3 => k_is)
    (case l3 => k_is)
    (case c3 => k_is)
    (case k3 => k_is)
    (case a4 => k_is)
    (case l4 => k_is)
    (case c4 => k_is)
    (case k4 => k_is)
    (case a5 => k_is)
    (case l5 => k_is)
    (case c5 => k_is)
    (case k5 => k_is)
    (case a6 => k_is)
    (case l6 => k_is)
    (case c6 => k_is)
    (case k6 => k_is)
    (case a7 => k_is)
    (case l7 => k_is)
    (case c7 => k_is)
    (case k7 => k_is)
    (case a8 => k_is)
    (case l8 => k_is)
    (case c8 => k_is)
    (case k8 => k_is)
    (case a9 => k_is)
    (case l9 => k_is)
    (case c9 => k_is)
    (case k9 => k_is)
    (case a10 => k_is)
    (case l10 => k_is)
    (case c10 => k_is)
    (case k10 => k_is)
    (case a11 => k_is)
    (case l11 => k_is)
    (case c11 => k_is)
    (case k11 => k_is)
    (case z_abs => k_is)
    (case z_bool => k_is)
    (case z_int => k_is)
    (case z_isinstance => k_is)
    (case z_len => k_is)
    (case z_list => k_is)
    (case z_max => k_is)
    (case z_range => k_is)
    (case y_WORD_SIZES => k_is)
    (case m_WORD_SIZES => k_is)
    (case i_WORD_SIZES => exact ⟨⟨_, _, rfl, rfl⟩, ⟨_, _, rfl, rfl⟩, ⟨_, _, rfl, rfl⟩, ⟨_, _, rfl, rfl⟩, ⟨_, _, rfl, rfl⟩, trivial⟩)
    (case v_WORD_SIZES_0 => k_is)
    (case v_WORD_SIZES_1 => k_is)
    (case v_WORD_SIZES_2 => k_is)
    (case v_WORD_SIZES_3 => k_is)
    (case v_WORD_SIZES_4 => k_is)
