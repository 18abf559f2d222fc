import PyProof.Rows.All
import Wide.All
import OpenK.AllK
import Wide.FinOn
import HandS.ForMost
import HandS.IsInst
import HandS.Wide
import HandS.Style
import HandS.Codes
import HandS.WideBits
import HandS.More
import HandS.Walk
import HandS.TupAny
import HandS.Sort
import HandS.SortInts
import PySem.Challenge.RW_bytebridge_k07_sizes_of_a_layout
set_option Elab.async false
set_option linter.all false
set_option maxRecDepth 100000
set_option maxHeartbeats 4000000
namespace My
open PySem PySem.Spec PyProof.Rows L2
def topS (i : Nat) : Stmt := PySem.Challenge.pw_bytebridge_k07_sizes_of_a_layout.main.body.getD i (.Pass ⟨0, 0, 0, 0⟩)
abbrev s_word_size : Stmt := topS 2
theorem sc_word_size : FnScope ["word"] ["word"] (defScope s_word_size) := ⟨rfl, rfl, rfl, by decide +kernel, rfl, by decide +kernel, by decide +kernel⟩
abbrev s_choice_sizes : Stmt := topS 9
theorem sc_choice_sizes : FnScope ["word", "cases", "inner", "_", "items", "shortest", "least", "longest", "greatest", "stored"] ["word", "cases"] (defScope s_choice_sizes) := ⟨rfl, rfl, rfl, by decide +kernel, rfl, by decide +kernel, by decide +kernel⟩
abbrev s_fixed_sizes : Stmt := topS 7
theorem sc_fixed_sizes : FnScope ["size"] ["size"] (defScope s_fixed_sizes) := ⟨rfl, rfl, rfl, by decide +kernel, rfl, by decide +kernel, by decide +kernel⟩
abbrev s_counted_sizes : Stmt := topS 8
theorem sc_counted_sizes : FnScope ["count", "element_sizes", "shortest", "longest", "_", "number", "word", "least", "greatest", "stored"] ["count", "element_sizes"] (defScope s_counted_sizes) := ⟨rfl, rfl, rfl, by decide +kernel, rfl, by decide +kernel, by decide +kernel⟩
abbrev s_plain_size : Stmt := topS 6
theorem sc_plain_size : FnScope ["item", "kind"] ["item"] (defScope s_plain_size) := ⟨rfl, rfl, rfl, by decide +kernel, rfl, by decide +kernel, by decide +kernel⟩
abbrev s_item_sizes : Stmt := topS 5
theorem sc_item_sizes : FnScope ["item", "kind", "_", "word", "count", "items", "cases"] ["item"] (defScope s_item_sizes) := ⟨rfl, rfl, rfl, by decide +kernel, rfl, by decide +kernel, by decide +kernel⟩
abbrev s_sizes : Stmt := topS 4
theorem sc_sizes : FnScope ["layout", "least", "greatest", "item", "shortest", "longest"] ["layout"] (defScope s_sizes) := ⟨rfl, rfl, rfl, by decide +kernel, rfl, by decide +kernel, by decide +kernel⟩
abbrev s_l_tape : Stmt := topS 11
theorem sc_l_tape : FnScope ["script", "total", "cell"] ["script"] (defScope s_l_tape) := ⟨rfl, rfl, rfl, by decide +kernel, rfl, by decide +kernel, by decide +kernel⟩
abbrev s_l_draw : Stmt := topS 12
theorem sc_l_draw : FnScope ["tape", "many", "place", "number"] ["tape", "many"] (defScope s_l_draw) := ⟨rfl, rfl, rfl, by decide +kernel, rfl, by decide +kernel, by decide +kernel⟩
abbrev s_l_name : Stmt := topS 13
theorem sc_l_name : FnScope ["tape", "used", "signs", "words", "name", "k", "fresh"] ["tape", "used"] (defScope s_l_name) := ⟨rfl, rfl, rfl, by decide +kernel, rfl, by decide +kernel, by decide +kernel⟩
abbrev s_l_runs : Stmt := topS 14
theorem sc_l_runs : FnScope ["numbers", "rows", "number"] ["numbers"] (defScope s_l_runs) := ⟨rfl, rfl, rfl, by decide +kernel, rfl, by decide +kernel, by decide +kernel⟩
abbrev s_l_same : Stmt := topS 15
theorem sc_l_same : FnScope ["told", "due", "k"] ["told", "due"] (defScope s_l_same) := ⟨rfl, rfl, rfl, by decide +kernel, rfl, by decide +kernel, by decide +kernel⟩
abbrev s_l_size : Stmt := topS 16
theorem sc_l_size : FnScope ["word"] ["word"] (defScope s_l_size) := ⟨rfl, rfl, rfl, by decide +kernel, rfl, by decide +kernel, by decide +kernel⟩
abbrev s_l_any_word : Stmt := topS 17
theorem sc_l_any_word : FnScope ["tape"] ["tape"] (defScope s_l_any_word) := ⟨rfl, rfl, rfl, by decide +kernel, rfl, by decide +kernel, by decide +kernel⟩
abbrev s_l_a_count : Stmt := topS 18
theorem sc_l_a_count : FnScope ["tape", "least", "greatest", "share"] ["tape", "least", "greatest"] (defScope s_l_a_count) := ⟨rfl, rfl, rfl, by decide +kernel, rfl, by decide +kernel, by decide +kernel⟩
abbrev s_l_bounds : Stmt := topS 19
theorem sc_l_bounds : FnScope ["count"] ["count"] (defScope s_l_bounds) := ⟨rfl, rfl, rfl, by decide +kernel, rfl, by decide +kernel, by decide +kernel⟩
abbrev s_l_ranges : Stmt := topS 21
theorem sc_l_ranges : FnScope ["tape", "width", "signed", "most", "span", "at", "numbers", "k", "lowest", "number"] ["tape", "width", "signed", "most"] (defScope s_l_ranges) := ⟨rfl, rfl, rfl, by decide +kernel, rfl, by decide +kernel, by decide +kernel⟩
abbrev s_l_a_field : Stmt := topS 20
theorem sc_l_a_field : FnScope ["tape", "widths", "most", "width", "signed"] ["tape", "widths", "most"] (defScope s_l_a_field) := ⟨rfl, rfl, rfl, by decide +kernel, rfl, by decide +kernel, by decide +kernel⟩
abbrev s_l_a_number : Stmt := topS 22
theorem sc_l_a_number : FnScope ["tape", "width", "signed", "ranges", "pair", "code"] ["tape", "width", "signed", "ranges"] (defScope s_l_a_number) := ⟨rfl, rfl, rfl, by decide +kernel, rfl, by decide +kernel, by decide +kernel⟩
abbrev s_l_part : Stmt := topS 23
theorem sc_l_part : FnScope ["tape", "used", "field", "default"] ["tape", "used", "field"] (defScope s_l_part) := ⟨rfl, rfl, rfl, by decide +kernel, rfl, by decide +kernel, by decide +kernel⟩
abbrev s_l_case_numbers : Stmt := topS 24
theorem sc_l_case_numbers : FnScope ["tape", "word", "many", "size", "steps", "step", "base", "k"] ["tape", "word", "many"] (defScope s_l_case_numbers) := ⟨rfl, rfl, rfl, by decide +kernel, rfl, by decide +kernel, by decide +kernel⟩
abbrev s_l_not_empty : Stmt := topS 25
theorem sc_l_not_empty : FnScope ["tape", "items", "item"] ["tape", "items"] (defScope s_l_not_empty) := ⟨rfl, rfl, rfl, by decide +kernel, rfl, by decide +kernel, by decide +kernel⟩
abbrev s_l_fixed : Stmt := topS 28
theorem sc_l_fixed : FnScope ["tape", "share", "many", "k"] ["tape"] (defScope s_l_fixed) := ⟨rfl, rfl, rfl, by decide +kernel, rfl, by decide +kernel, by decide +kernel⟩
abbrev s_l_rich_choice : Stmt := topS 30
theorem sc_l_rich_choice : FnScope ["tape", "name", "depth", "room", "word", "many", "alike", "told", "cases", "names", "spent", "number"] ["tape", "name", "depth", "room"] (defScope s_l_rich_choice) := ⟨rfl, rfl, rfl, by decide +kernel, rfl, by decide +kernel, by decide +kernel⟩
abbrev s_l_rich_word : Stmt := topS 29
theorem sc_l_rich_word : FnScope ["tape", "used", "word", "left", "parts", "k", "widths", "width"] ["tape", "used"] (defScope s_l_rich_word) := ⟨rfl, rfl, rfl, by decide +kernel, rfl, by decide +kernel, by decide +kernel⟩
abbrev s_l_rich_item : Stmt := topS 27
theorem sc_l_rich_item : FnScope ["tape", "used", "depth", "room", "sort", "told", "greatest", "count", "field", "word", "default"] ["tape", "used", "depth", "room"] (defScope s_l_rich_item) := ⟨rfl, rfl, rfl, by decide +kernel, rfl, by decide +kernel, by decide +kernel⟩
abbrev s_l_rich : Stmt := topS 26
theorem sc_l_rich : FnScope ["tape", "depth", "room", "items", "spent", "used", "k", "told"] ["tape", "depth", "room"] (defScope s_l_rich) := ⟨rfl, rfl, rfl, by decide +kernel, rfl, by decide +kernel, by decide +kernel⟩
abbrev s_l_extent_of : Stmt := topS 32
theorem sc_l_extent_of : FnScope ["item", "pairs", "case", "size", "pair", "each", "count", "ends"] ["item"] (defScope s_l_extent_of) := ⟨rfl, rfl, rfl, by decide +kernel, rfl, by decide +kernel, by decide +kernel⟩
abbrev s_l_extent : Stmt := topS 31
theorem sc_l_extent : FnScope ["items", "pairs", "item", "pair"] ["items"] (defScope s_l_extent) := ⟨rfl, rfl, rfl, by decide +kernel, rfl, by decide +kernel, by decide +kernel⟩
abbrev s_l_scopes : Stmt := topS 33
theorem sc_l_scopes : FnScope ["items", "found", "item", "case"] ["items"] (defScope s_l_scopes) := ⟨rfl, rfl, rfl, by decide +kernel, rfl, by decide +kernel, by decide +kernel⟩
abbrev s_law : Stmt := topS 34
theorem sc_law : FnScope ["script", "tape", "layout", "items", "due"] ["script"] (defScope s_law) := ⟨rfl, rfl, rfl, by decide +kernel, rfl, by decide +kernel, by decide +kernel⟩
structure Fx where
  f : Addr
  fd : FuncData
structure Ad where
  word_size : Fx
  choice_sizes : Fx
  fixed_sizes : Fx
  counted_sizes : Fx
  plain_size : Fx
  item_sizes : Fx
  sizes : Fx
  l_tape : Fx
  l_draw : Fx
  l_name : Fx
  l_runs : Fx
  l_same : Fx
  l_size : Fx
  l_any_word : Fx
  l_a_count : Fx
  l_bounds : Fx
  l_ranges : Fx
  l_a_field : Fx
  l_a_number : Fx
  l_part : Fx
  l_case_numbers : Fx
  l_not_empty : Fx
  l_fixed : Fx
  l_rich_choice : Fx
  l_rich_word : Fx
  l_rich_item : Fx
  l_rich : Fx
  l_extent_of : Fx
  l_extent : Fx
  l_scopes : Fx
  law : Fx
  c_WORD_SIZES : Addr
structure Txt (K : PySem.W.Frag) (w : World) (mg : Str → Option Value) (A : Ad) : Prop where
  F_word_size : Fun K "word_size" "word_size" s_word_size A.word_size.f A.word_size.fd
  g_word_size : mg "word_size" = some (.ref A.word_size.f)
  b_word_size : Binds K A.word_size.fd ["word"] []
  F_choice_sizes : Fun K "choice_sizes" "choice_sizes" s_choice_sizes A.choice_sizes.f A.choice_sizes.fd
  g_choice_sizes : mg "choice_sizes" = some (.ref A.choice_sizes.f)
  b_choice_sizes : Binds K A.choice_sizes.fd ["word", "cases"] []
  F_fixed_sizes : Fun K "fixed_sizes" "fixed_sizes" s_fixed_sizes A.fixed_sizes.f A.fixed_sizes.fd
  g_fixed_sizes : mg "fixed_sizes" = some (.ref A.fixed_sizes.f)
  b_fixed_sizes : Binds K A.fixed_sizes.fd ["size"] []
  F_counted_sizes : Fun K "counted_sizes" "counted_sizes" s_counted_sizes A.counted_sizes.f A.counted_sizes.fd
  g_counted_sizes : mg "counted_sizes" = some (.ref A.counted_sizes.f)
  b_counted_sizes : Binds K A.counted_sizes.fd ["count", "element_sizes"] []
  F_plain_size : Fun K "plain_size" "plain_size" s_plain_size A.plain_size.f A.plain_size.fd
  g_plain_size : mg "plain_size" = some (.ref A.plain_size.f)
  b_plain_size : Binds K A.plain_size.fd ["item"] []
  F_item_sizes : Fun K "item_sizes" "item_sizes" s_item_sizes A.item_sizes.f A.item_sizes.fd
  g_item_sizes : mg "item_sizes" = some (.ref A.item_sizes.f)
  b_item_sizes : Binds K A.item_sizes.fd ["item"] []
  F_sizes : Fun K "sizes" "sizes" s_sizes A.sizes.f A.sizes.fd
  g_sizes : mg "sizes" = some (.ref A.sizes.f)
  b_sizes : Binds K A.sizes.fd ["layout"] []
  F_l_tape : Fun K "_law_tape" "_law_tape" s_l_tape A.l_tape.f A.l_tape.fd
  g_l_tape : mg "_law_tape" = some (.ref A.l_tape.f)
  b_l_tape : Binds K A.l_tape.fd ["script"] []
  F_l_draw : Fun K "_law_draw" "_law_draw" s_l_draw A.l_draw.f A.l_draw.fd
  g_l_draw : mg "_law_draw" = some (.ref A.l_draw.f)
  b_l_draw : Binds K A.l_draw.fd ["tape", "many"] []
  F_l_name : Fun K "_law_name" "_law_name" s_l_name A.l_name.f A.l_name.fd
  g_l_name : mg "_law_name" = some (.ref A.l_name.f)
  b_l_name : Binds K A.l_name.fd ["tape", "used"] []
  F_l_runs : Fun K "_law_runs" "_law_runs" s_l_runs A.l_runs.f A.l_runs.fd
  g_l_runs : mg "_law_runs" = some (.ref A.l_runs.f)
  b_l_runs : Binds K A.l_runs.fd ["numbers"] []
  F_l_same : Fun K "_law_same" "_law_same" s_l_same A.l_same.f A.l_same.fd
  g_l_same : mg "_law_same" = some (.ref A.l_same.f)
  b_l_same : Binds K A.l_same.fd ["told", "due"] []
  F_l_size : Fun K "_law_size" "_law_size" s_l_size A.l_size.f A.l_size.fd
  g_l_size : mg "_law_size" = some (.ref A.l_size.f)
  b_l_size : Binds K A.l_size.fd ["word"] []
  F_l_any_word : Fun K "_law_any_word" "_law_any_word" s_l_any_word A.l_any_word.f A.l_any_word.fd
  g_l_any_word : mg "_law_any_word" = some (.ref A.l_any_word.f)
  b_l_any_word : Binds K A.l_any_word.fd ["tape"] []
  F_l_a_count : Fun K "_law_a_count" "_law_a_count" s_l_a_count A.l_a_count.f A.l_a_count.fd
  g_l_a_count : mg "_law_a_count" = some (.ref A.l_a_count.f)
  b_l_a_count : Binds K A.l_a_count.fd ["tape", "least", "greatest"] []
  F_l_bounds : Fun K "_law_bounds" "_law_bounds" s_l_bounds A.l_bounds.f A.l_bounds.fd
  g_l_bounds : mg "_law_bounds" = some (.ref A.l_bounds.f)
  b_l_bounds : Binds K A.l_bounds.fd ["count"] []
  F_l_ranges : Fun K "_law_ranges" "_law_ranges" s_l_ranges A.l_ranges.f A.l_ranges.fd
  g_l_ranges : mg "_law_ranges" = some (.ref A.l_ranges.f)
  b_l_ranges : Binds K A.l_ranges.fd ["tape", "width", "signed", "most"] []
  F_l_a_field : Fun K "_law_a_field" "_law_a_field" s_l_a_field A.l_a_field.f A.l_a_field.fd
  g_l_a_field : mg "_law_a_field" = some (.ref A.l_a_field.f)
  b_l_a_field : Binds K A.l_a_field.fd ["tape", "widths", "most"] []
  F_l_a_number : Fun K "_law_a_number" "_law_a_number" s_l_a_number A.l_a_number.f A.l_a_number.fd
  g_l_a_number : mg "_law_a_number" = some (.ref A.l_a_number.f)
  b_l_a_number : Binds K A.l_a_number.fd ["tape", "width", "signed", "ranges"] []
  F_l_part : Fun K "_law_part" "_law_part" s_l_part A.l_part.f A.l_part.fd
  g_l_part : mg "_law_part" = some (.ref A.l_part.f)
  b_l_part : Binds K A.l_part.fd ["tape", "used", "field"] []
  F_l_case_numbers : Fun K "_law_case_numbers" "_law_case_numbers" s_l_case_numbers A.l_case_numbers.f A.l_case_numbers.fd
  g_l_case_numbers : mg "_law_case_numbers" = some (.ref A.l_case_numbers.f)
  b_l_case_numbers : Binds K A.l_case_numbers.fd ["tape", "word", "many"] []
  F_l_not_empty : Fun K "_law_not_empty" "_law_not_empty" s_l_not_empty A.l_not_empty.f A.l_not_empty.fd
  g_l_not_empty : mg "_law_not_empty" = some (.ref A.l_not_empty.f)
  b_l_not_empty : Binds K A.l_not_empty.fd ["tape", "items"] []
  F_l_fixed : Fun K "_law_fixed" "_law_fixed" s_l_fixed A.l_fixed.f A.l_fixed.fd
  g_l_fixed : mg "_law_fixed" = some (.ref A.l_fixed.f)
  b_l_fixed : Binds K A.l_fixed.fd ["tape"] []
  F_l_rich_choice : Fun K "_law_rich_choice" "_law_rich_choice" s_l_rich_choice A.l_rich_choice.f A.l_rich_choice.fd
  g_l_rich_choice : mg "_law_rich_choice" = some (.ref A.l_rich_choice.f)
  b_l_rich_choice : Binds K A.l_rich_choice.fd ["tape", "name", "depth", "room"] []
  F_l_rich_word : Fun K "_law_rich_word" "_law_rich_word" s_l_rich_word A.l_rich_word.f A.l_rich_word.fd
  g_l_rich_word : mg "_law_rich_word" = some (.ref A.l_rich_word.f)
  b_l_rich_word : Binds K A.l_rich_word.fd ["tape", "used"] []
  F_l_rich_item : Fun K "_law_rich_item" "_law_rich_item" s_l_rich_item A.l_rich_item.f A.l_rich_item.fd
  g_l_rich_item : mg "_law_rich_item" = some (.ref A.l_rich_item.f)
  b_l_rich_item : Binds K A.l_rich_item.fd ["tape", "used", "depth", "room"] []
  F_l_rich : Fun K "_law_rich" "_law_rich" s_l_rich A.l_rich.f A.l_rich.fd
  g_l_rich : mg "_law_rich" = some (.ref A.l_rich.f)
  b_l_rich : Binds K A.l_rich.fd ["tape", "depth", "room"] []
  F_l_extent_of : Fun K "_law_extent_of" "_law_extent_of" s_l_extent_of A.l_extent_of.f A.l_extent_of.fd
  g_l_extent_of : mg "_law_extent_of" = some (.ref A.l_extent_of.f)
  b_l_extent_of : Binds K A.l_extent_of.fd ["item"] []
  F_l_extent : Fun K "_law_extent" "_law_extent" s_l_extent A.l_extent.f A.l_extent.fd
  g_l_extent : mg "_law_extent" = some (.ref A.l_extent.f)
  b_l_extent : Binds K A.l_extent.fd ["items"] []
  F_l_scopes : Fun K "_law_scopes" "_law_scopes" s_l_scopes A.l_scopes.f A.l_scopes.fd
  g_l_scopes : mg "_law_scopes" = some (.ref A.l_scopes.f)
  b_l_scopes : Binds K A.l_scopes.fd ["items"] []
  F_law : Fun K "law" "law" s_law A.law.f A.law.fd
  g_law : mg "law" = some (.ref A.law.f)
  b_law : Binds K A.law.fd ["script"] []
  n_abs : mg "abs" = none
  n_bool : mg "bool" = none
  n_int : mg "int" = none
  n_isinstance : mg "isinstance" = none
  n_len : mg "len" = none
  n_list : mg "list" = none
  n_max : mg "max" = none
  n_min : mg "min" = none
  n_range : mg "range" = none
  n_sorted : mg "sorted" = none
  n_str : mg "str" = none
  n_sum : mg "sum" = none
  n_tuple : mg "tuple" = none
  g_WORD_SIZES : mg "WORD_SIZES" = some (.ref A.c_WORD_SIZES)
  d_WORD_SIZES_0 : KDct K w A.c_WORD_SIZES "u8" (.int 1)
  d_WORD_SIZES_1 : KDct K w A.c_WORD_SIZES "u16be" (.int 2)
  d_WORD_SIZES_2 : KDct K w A.c_WORD_SIZES "u16le" (.int 2)
  d_WORD_SIZES_3 : KDct K w A.c_WORD_SIZES "u32be" (.int 4)
  d_WORD_SIZES_4 : KDct K w A.c_WORD_SIZES "u32le" (.int 4)
theorem same_upd {H : Hp} {p : Addr} {o : HO} (h : H p = none) : Same H (upd H p o) := fun b x e => by
  rw [upd_ne (ne_of_none e h)]
  exact e
/-- a tape stands at t -/
def Tape (H : Hp) (t q : Addr) : Prop := ∃ (ns : List Int) (p h s : Int), H t = some (.lst [.ref q, .int p, .int h, .int s]) ∧ H q = some (.lst (ns.map V.int)) ∧ 0 ≤ p ∧ 0 ≤ h
/-- all objects but the one at t stay -/
def Kept (t : Addr) (H H' : Hp) : Prop := ∀ b o, b ≠ t → H b = some o → H' b = some o
theorem Kept.rfl {t : Addr} {H : Hp} : Kept t H H := fun _ _ _ e => e
theorem Kept.trans {t : Addr} {H H1 H2 : Hp} (a : Kept t H H1) (b : Kept t H1 H2) : Kept t H H2 := fun c o n e => b c o n (a c o n e)
theorem Kept.put {t : Addr} {H H1 : Hp} {o : HO} (a : Kept t H H1) : Kept t H (upd H1 t o) := fun c x n e => by
  rw [upd_ne n]
  exact a c x n e
theorem Kept.same {t : Addr} {H0 H H1 : Hp} (h0 : H0 t = none) (s : Same H0 H) (a : Kept t H H1) : Same H0 H1 := fun b o e => a b o (ne_of_none e h0) (s b o e)
theorem tape_ne {H : Hp} {t q : Addr} {ns : List Int} {p h s : Int} (h1 : H t = some (.lst [.ref q, .int p, .int h, .int s])) (h2 : H q = some (.lst (ns.map V.int))) : q ≠ t := fun e => by
  subst e
  rw [h1] at h2
  cases ns with
  | nil => cases h2
  | cons x r => cases h2
theorem map_int_at {ns : List Int} {i : Nat} {y : V} (h : (ns.map V.int)[i]? = some y) : ∃ z, y = V.int z ∧ ns[i]? = some z := by
  rw [List.getElem?_map] at h
  cases e : ns[i]? with
  | none => rw [e] at h; cases h
  | some z => rw [e] at h; exact ⟨z, (Option.some.inj h).symm, _root_.rfl⟩
theorem dec_eq_int {a b : Int} (e : decide (V.int a = V.int b) = true) : a = b := V.int.inj (of_decide_eq_true e)
theorem dec_ne_int {a b : Int} (e : ¬ decide (V.int a = V.int b) = true) : a ≠ b := fun z => e (decide_eq_true (congrArg V.int z))
theorem Tape.new {H : Hp} {t tq l : Addr} {o : HO} (h : Tape H t tq) (hl : H l = none) : Tape (upd H l o) t tq := by
  obtain ⟨ns, p, z, s, h1, h2, h3, h4⟩ := h
  exact ⟨ns, p, z, s, by rw [upd_ne (ne_of_none h1 hl)]; exact h1, by rw [upd_ne (ne_of_none h2 hl)]; exact h2, h3, h4⟩
/-- a store at another place -/
theorem Tape.put {H : Hp} {t tq l : Addr} {o : HO} (h : Tape H t tq) (n1 : l ≠ t) (n2 : l ≠ tq) : Tape (upd H l o) t tq := by
  obtain ⟨ns, p, z, s, h1, h2, h3, h4⟩ := h
  exact ⟨ns, p, z, s, by rw [upd_ne n1.symm]; exact h1, by rw [upd_ne n2.symm]; exact h2, h3, h4⟩
/-- what is new is not the tape's -/
theorem Tape.off {H : Hp} {t tq l : Addr} (h : Tape H t tq) (hl : H l = none) : l ≠ t ∧ l ≠ tq := by
  obtain ⟨ns, p, z, s, h1, h2, _⟩ := h
  exact ⟨(ne_of_none h1 hl).symm, (ne_of_none h2 hl).symm⟩
theorem Kept.new {t l : Addr} {H H1 : Hp} {o : HO} (a : Kept t H H1) (hl : H1 l = none) : Kept t H (upd H1 l o) := fun c x n e => by
  have e1 := a c x n e
  rw [upd_ne (ne_of_none e1 hl)]
  exact e1
theorem Kept.free {t tq l : Addr} {H H1 : Hp} (a : Kept t H H1) (hT : Tape H1 t tq) (hl : H1 l = none) : H l = none := by
  cases e : H l with
  | none => rfl
  | some o =>
    by_cases n : l = t
    · obtain ⟨ns, p, z, s, h1, _⟩ := hT
      rw [n, h1] at hl
      cases hl
    · rw [a l o n e] at hl
      cases hl
theorem two_pos (n : Nat) : (0 : Int) < 2 ^ n := Int.pow_pos (by decide)
theorem pow_abs (n : Nat) : ((2 : Int) ^ n).natAbs = 2 ^ n := by
  rw [Int.natAbs_pow]
  rfl
theorem pow_div {n m : Nat} (h : n < m) (hm : m ≤ 9000) : CDivW 0 (2 ^ n) ∧ ∀ i, CDivW i (2 ^ n) := by
  have h1 : ((2 : Int) ^ n).natAbs < 2 ^ m := by
    rw [pow_abs]
    exact Nat.pow_lt_pow_right (by decide) h
  exact ⟨wide_div (two_pos n) h1 (by omega) hm, fun i => wide_div (two_pos n) h1 (by omega) hm⟩
theorem div_div {a : Int} (x b : Int) (ha : 0 < a) : x / (a * b) = x / a / b := by
  rw [Int.ediv_ediv, if_neg (fun z => by omega), Int.sub_zero]
theorem mod_mul_div (x a b : Int) (ha : 0 < a) (hb : 0 < b) : x % (a * b) / a = x / a % b := by
  rw [Int.emod_def, Int.emod_def, Int.sub_eq_add_neg, Int.mul_assoc, ← Int.mul_neg, Int.add_mul_ediv_left _ _ (by omega), div_div _ _ ha]
  rw [Int.sub_eq_add_neg]
theorem mod_step (x : Int) (i : Nat) : x % 2 ^ (i + 1) = x % 2 ^ i + x / 2 ^ i % 2 * 2 ^ i := by
  have hp := two_pos i
  have h1 : x % (2 ^ i * 2) / 2 ^ i = x / 2 ^ i % 2 := mod_mul_div x (2 ^ i) 2 hp (by decide)
  have h2 : x % (2 ^ i * 2) % 2 ^ i = x % 2 ^ i := Int.emod_emod_of_dvd x ⟨2, rfl⟩
  rw [Int.pow_succ, ← h1, ← h2]
  generalize x % (2 ^ i * 2) = y
  rw [Int.emod_def, Int.mul_comm (2 ^ i)]
  omega
theorem div_pow (x : Int) (i j : Nat) : x / 2 ^ (i + j) = x / 2 ^ i / 2 ^ j := by
  rw [Int.pow_add, div_div _ _ (two_pos i)]
theorem iteDF {c A B : Prop} [Decidable c] (hc : ¬ c) (h : B) : if decide c = true then A else B := by
  rw [decide_eq_false hc]
  exact iteF h
theorem iteDT {c A B : Prop} [Decidable c] (hc : c) (h : A) : if decide c = true then A else B := by
  rw [decide_eq_true hc]
  exact iteT h
theorem dp_ints {K : PySem.W.Frag} {H : Hp} : ∀ ns : List Int, DpAll K H (ns.map V.int) (ns.map PyData.int)
  | [] => .nil
  | n :: r => .cons (.int n) (dp_ints r)
theorem eqvAll_ints : ∀ xs ys : List Int, PyData.eqvAll (xs.map PyData.int) (ys.map PyData.int) = decide (xs = ys)
  | [], [] => by
    rw [List.map_nil, PyData.eqvAll, decide_eq_true rfl]
  | [], _ :: _ => by
    rw [List.map_nil, List.map_cons, PyData.eqvAll, decide_eq_false (fun e => nomatch e)]
  | _ :: _, [] => by
    rw [List.map_nil, List.map_cons, PyData.eqvAll, decide_eq_false (fun e => nomatch e)]
  | x :: xs, y :: ys => by
    rw [List.map_cons, List.map_cons, PyData.eqvAll, PyData.eqv, eqvAll_ints xs ys]
    by_cases h1 : x = y
    · by_cases h2 : xs = ys
      · subst h1 h2
        simp
      · simp [h1, h2]
    · simp [h1]
theorem eqv_ints (xs ys : List Int) : PyData.eqv (.list (xs.map PyData.int)) (.list (ys.map PyData.int)) = decide (xs = ys) := by
  rw [PyData.eqv, eqvAll_ints]
theorem lay_ints : ∀ xs : List Int, PyData.canLayAll0 (xs.map PyData.int) = true
  | [] => by rw [List.map_nil, PyData.canLayAll0]
  | x :: xs => by rw [List.map_cons, PyData.canLayAll0, PyData.canLay0, lay_ints xs]; rfl
theorem depth_ints : ∀ xs : List Int, PyData.depthAll (xs.map PyData.int) = 0
  | [] => by rw [List.map_nil, PyData.depthAll]
  | x :: xs => by rw [List.map_cons, PyData.depthAll, PyData.depth, depth_ints xs]; rfl
theorem shaped_ints (xs : List Int) : SeqAt.shaped (.list (xs.map PyData.int)) = true := by
  unfold SeqAt.shaped
  rw [PyData.canLay0, lay_ints, PyData.depth, depth_ints]
  rfl
theorem cut_all (xs : List V) : cutV xs none none = xs := by
  unfold cutV
  rw [HT.sIx_none, HT.sIx_none, List.drop_zero, Nat.sub_zero, List.take_length]
/-- Horner's rule, the first byte the most significant -/
def hor (bs : List Int) : Int := bs.foldl (fun c b => c * 256 + b) 0
theorem hor_take {bs : List Int} {i : Nat} {b : Int} (h : bs[i]? = some b) : hor (bs.take (i + 1)) = hor (bs.take i) * 256 + b := by
  unfold hor
  rw [List.take_add_one, h, List.foldl_append]
  rfl
/-- the bytes of a code, the least significant first -/
def byts (c : Int) (n : Nat) : List Int := (List.range n).map fun i => c / 2 ^ (8 * i) % 2 ^ 8
theorem byts_len (c : Int) (n : Nat) : (byts c n).length = n := by
  unfold byts
  rw [List.length_map, List.length_range]
theorem byts_next (c : Int) (n : Nat) : byts c (n + 1) = byts c n ++ [c / 2 ^ (8 * n) % 2 ^ 8] := by
  unfold byts
  rw [List.range_succ, List.map_append]
  rfl
theorem byts_are {c : Int} {n : Nat} : ∀ b ∈ byts c n, 0 ≤ b ∧ b < 256 := by
  intro b hb
  unfold byts at hb
  obtain ⟨i, _, rfl⟩ := List.mem_map.mp hb
  exact ⟨Int.emod_nonneg _ (by decide), Int.emod_lt_of_pos _ (by decide)⟩
/-- the terms that bytes add to a code, the least significant first -/
def terms : Nat → List Int → List Int
  | _, [] => []
  | k, b :: r => b * 2 ^ (8 * k) :: terms (k + 1) r
theorem terms_at : ∀ (k i : Nat) (xs : List Int) (b : Int), xs[i]? = some b → (terms k xs)[i]? = some (b * 2 ^ (8 * (k + i)))
  | k, 0, b :: r, x, h => by
    have e : b = x := Option.some.inj h
    subst e
    rfl
  | k, i + 1, b :: r, x, h => by
    have e : r[i]? = some x := h
    have q := terms_at (k + 1) i r x e
    rw [show k + (i + 1) = k + 1 + i by omega]
    exact q
  | _, 0, [], _, h => by cases h
  | _, i + 1, [], _, h => by cases h
theorem terms_len : ∀ (k : Nat) (xs : List Int), (terms k xs).length = xs.length
  | _, [] => rfl
  | k, b :: r => by
    show (terms (k + 1) r).length + 1 = r.length + 1
    rw [terms_len]
theorem take_next {α : Type} {xs : List α} {i : Nat} {x : α} (h : xs[i]? = some x) : xs.take (i + 1) = xs.take i ++ [x] := by
  rw [List.take_add_one, h]
  rfl

section
variable {X : Cx}
/-- a word between an expression and what follows -/
def tMid (te : TE) : TE := fun σ H Q => ∃ M : V → Hp → Prop, te σ H M ∧ ∀ v H', M v H' → Q v H'
theorem pe_mid {e : Expr} {te : TE} (h : PE X e te) : PE X e (tMid te) := by
  refine ⟨fun pins s σ H Q I q => ?_⟩
  obtain ⟨M, h1, h2⟩ := q
  exact thn (h.run pins s σ H M I h1) fun v s1 ⟨x, H1, I1, r1, q1⟩ => ⟨x, H1, I1, r1, h2 x H1 q1⟩
def tMidT (te : TT) : TT := fun σ H Q => ∃ M : Bool → Hp → Prop, te σ H M ∧ ∀ v H', M v H' → Q v H'
theorem pt_mid {e : Expr} {te : TT} (h : PT X e te) : PT X e (tMidT te) := by
  refine ⟨fun pins s σ H Q I q => ?_⟩
  obtain ⟨M, h1, h2⟩ := q
  exact thn (h.run pins s σ H M I h1) fun v s1 ⟨H1, I1, q1⟩ => ⟨H1, I1, h2 v H1 q1⟩
end
section
variable {X : Cx} {K : PySem.W.Frag}
theorem ix_tupK (h : X.K = K) : IxR X (rIxT K) := h ▸ ix_tup
theorem ix_listK (h : X.K = K) : IxR X (rIxL K) := h ▸ ix_list
theorem op_in_seqK (h : X.K = K) : OpR X (compareOp .In) (rIn K false) := h ▸ op_in_seq
theorem op_notIn_seqK (h : X.K = K) : OpR X (compareOp .NotIn) (rIn K true) := h ▸ op_notIn_seq
theorem op_catAK (h : X.K = K) : OpR X (binaryOp .Add) (rCatA K) := h ▸ op_catA
theorem call_len_seqK (h : X.K = K) : CallR X (.builtin "len") (fun xs H Q => ∃ p ys, xs = [.ref p] ∧ (SqL K H p ys ∨ SqT K H p ys) ∧ Q (.int ys.length) H) := h ▸ call_len_seq
theorem call_isiK2 (h : X.K = K) : CallR X (.builtin "isinstance") (rIsi K) := h ▸ call_isi
end
section
variable {X : Cx}
theorem vals_range' {f : Nat → Int} : ∀ (l : List Value) (k : Nat), (∀ (j : Nat) (v : Value), l[j]? = some v → ∃ t, v = Value.int (f (k + j)) t) → Vals ((List.range' k l.length).map fun i => V.int (f i)) l
  | [], k, _ => .nil
  | v :: r, k, h => by
    obtain ⟨t, e⟩ := h 0 v rfl
    refine .cons ⟨t, e⟩ (vals_range' r (k + 1) fun j u hu => ?_)
    obtain ⟨t2, e2⟩ := h (j + 1) u hu
    exact ⟨t2, by rw [e2, show k + 1 + j = k + (j + 1) by omega]⟩
/-- list(r), r a range by ones -/
theorem call_list_rng (hc : X.calm = true) : CallR X (.type "list") (fun xs H Q => ∃ (a : Addr) (lo : Int) (n : Nat), xs = [.ref a] ∧ H a = some (.rng lo (lo + (n : Int))) ∧ -(2 ^ 62) ≤ lo ∧ lo + (n : Int) < 2 ^ 62 ∧ n ≤ 100000 ∧
    ∀ l, H l = none → Q (.ref l) (upd H l (.lst ((List.range n).map fun (i : Nat) => V.int (lo + (i : Int)))))) := by
  intro pins s σ H xs us Q I r h
  obtain ⟨a, lo, n, rfl, ha, h1, h2, h3, q⟩ := h
  obtain ⟨u, rfl, rx⟩ := vals1 r
  cases rx
  obtain ⟨t, u, v, e⟩ := (show ObjOk X.prog X.w H s.heap a (.rng lo (lo + (n : Int))) from I.hok a _ ha)
  have hn : Builtin.Range.rangeSize lo (lo + (n : Int)) 1 = (n : Int) := by
    rw [rangeSize_nat]
    omega
  refine PySem.call_list_range (I.ok.hd hc) e (small_one h1 (by omega) (by omega) h2) hn (by omega) fun h' tk acc' c' kp e2 hi => ?_
  have rv : Vals ((List.range n).map fun (i : Nat) => V.int (lo + (i : Int))) acc'.toList := by
    have hl : acc'.toList.length = n := by
      rw [Array.length_toList]
      exact hi.1
    have q := vals_range' (f := fun i => lo + (i : Int)) acc'.toList 0 fun j w hw => by
      obtain ⟨t, e⟩ := hi.2 j w (by rw [← hw, Array.getElem?_toList])
      exact ⟨t, by rw [e, Nat.zero_add, Int.mul_one]⟩
    rw [hl] at q
    rw [List.range_eq_range']
    exact q
  refine ⟨.ref s.heap.objs.size, _, I.laid (t' := tk) kp (Nat.le_refl _) (show ObjOk X.prog X.w _ h' _ (.lst _) from ⟨?_, acc'.toList, c', rv, e2⟩), rfl, q _ (I.hok.fresh (Nat.le_refl _))⟩
  have h16 : (100000 : Nat) ≤ sizeLine := by decide
  rw [List.length_map, List.length_range]
  omega
/-! t[::-1] -/
theorem fm_congr {α β : Type} {f g : α → Option β} : ∀ {l : List α}, (∀ a ∈ l, f a = g a) → l.filterMap f = l.filterMap g
  | [], _ => rfl
  | a :: l, h => by
    rw [List.filterMap_cons, List.filterMap_cons, h a (by simp), fm_congr fun b hb => h b (List.mem_cons_of_mem _ hb)]
theorem back_pick (xs : Array Value) : ((List.range xs.size).filterMap fun (m : Nat) => xs[((xs.size : Int) - 1 + (m : Int) * -1).toNat]?).toArray = xs.toList.reverse.toArray := by
  have e : (List.range xs.size).filterMap (fun (m : Nat) => xs[((xs.size : Int) - 1 + (m : Int) * -1).toNat]?) = (List.range xs.size).filterMap fun m => xs[xs.size - 1 - m]? := by
    apply fm_congr
    intro m hm
    have := List.mem_range.mp hm
    have e2 : ((xs.size : Int) - 1 + (m : Int) * -1).toNat = xs.size - 1 - m := by omega
    rw [e2]
  rw [e]
  have e3 : ((List.range xs.size).map fun k => xs.size - 1 - k).filterMap (xs[·]?) = (List.range xs.size).filterMap fun m => xs[xs.size - 1 - m]? := by
    rw [List.filterMap_map]
    rfl
  rw [← e3, PySem.W.krv_range, List.filterMap_reverse, PySem.W.krv_all]
theorem back_places (n : Nat) : Builtin.Slice.slicePlaces ((n : Int) - 1) (-1) (-1) = n := by
  unfold Builtin.Slice.slicePlaces
  rw [if_neg (by decide)]
  by_cases h : (n : Int) - 1 > -1
  · rw [if_pos h, show ((n : Int) - 1 - -1 - 1) / (- -1) + 1 = (n : Int) by
      rw [show (- -1 : Int) = 1 by decide, Int.ediv_one]
      omega]
    rfl
  · rw [if_neg h]
    have : n = 0 := by omega
    subst this
    rfl
theorem getItem_tuple_back {prog : Program} {w : World} {A : Around} {E : Value → Shared → Prop} {s : Shared} {t sl : Addr} {items : Array Value} {vs : Value} {Q : Value → Shared → Prop} (ht : IsTup s.heap t items) (hs : s.heap.IsSliceOf sl .none .none vs) (pl : IsPart vs (some (-1)))
    (h : Q (.ref s.heap.objs.size) { s with heap := s.heap.push { cls := .type "tuple", data := .seq items.toList.reverse.toArray } })
    (hsz : items.size ≤ sizeLine) : wpAny (model prog w) A (getItem (.ref t) (.ref sl)) Q E s := by
  have htake : sizeOk (.seq items.toList.reverse.toArray) := by
    show items.toList.reverse.toArray.size ≤ sizeLine
    rw [List.size_toArray, List.length_reverse, Array.length_toList]
    omega
  obtain ⟨os, hos, hcs, hds⟩ := id hs
  have hTs : s.TypeIs (.ref sl) "slice" := ⟨os, hos, hcs⟩
  unfold getItem
  try with_reducible refine wpAny_holding ?_
  first | refine wpAny_bind (wpAny_pure ?_) | skip
  refine wpAny_bind (wpAny_sequenceKey ht.typeIs (by decide) ?_)
  refine wpAny_bind (wpAny_callSpecial?_slot (name := Str.ofString "__getitem__") ht.typeIs PyProof.Rows.slot_tuple_getitem
    (wpAny_call_entry PyProof.Rows.slot_tuple_getitem ht.typeIs entry_tuple_getitem ?_ (args_tuple_getitem _ _)))
  show wpAny _ _ (Builtin.Tuple.tupleItemsOf (.ref t) >>= _) _ _ s
  refine wpAny_bind (tupleItemsOf_ ht ?_)
  refine wpAny_bind (wpAny_typeOf hTs ?_)
  rw [if_pos (by decide)]
  refine wpAny_bind ?_
  unfold Builtin.Slice.sliceApplied Builtin.Slice.sliceFields
  refine wpAny_bind (wpAny_bind (wpAny_field hos hds (x := .none) rfl (wpAny_bind (wpAny_field hos hds (x := .none) rfl (wpAny_bind (wpAny_field hos hds (x := vs) rfl (wpAny_pure ?_)))))))
  refine wpAny_bind (HT.slicePart_ pl ?_)
  show wpAny _ _ (if ((-1 : Int) == 0) = true then _ else _) _ _ s
  rw [if_neg (by decide)]
  refine wpAny_bind (slicePart_none (wpAny_bind (slicePart_none (wpAny_bind (wpAny_pure ?_)))))
  show wpAny _ _ (pure (((items.size : Int) - 1), (-1 : Int), Builtin.Slice.slicePlaces ((items.size : Int) - 1) (-1) (-1))) _ _ s
  rw [back_places]
  refine wpAny_pure ?_
  show wpAny _ _ (if (((items.size : Int) - 1 == 0) && ((-1 : Int) == 1) && (items.size == items.size)) = true then _ else _) _ _ s
  rw [if_neg (by simp), back_pick]
  first
    | exact wpAny_bind (m := Builtin.Tuple.tupleExact _) (wpAny_newObj_type (wpAny_pure ⟨_, rfl, wpAny_pure h⟩) htake)
    | exact wpAny_bind (m := Builtin.Tuple.tupleExact _) (wpAny_newObj_type (wpAny_bind (wpAny_pure (wpAny_pure ⟨_, rfl, wpAny_pure h⟩))) htake)
    | exact wpAny_bind (wpAny_bind (m := Builtin.Tuple.tupleExact _) (wpAny_newObj_type (wpAny_pure (wpAny_pure ⟨_, rfl, wpAny_pure h⟩)) htake))
    | exact wpAny_bind (wpAny_bind (m := Builtin.Tuple.tupleExact _) (wpAny_newObj_type (wpAny_pure ⟨_, rfl, wpAny_pure h⟩) htake))
def tBackT (K : PySem.W.Frag) (te : TE) : TE := fun σ H Q => te σ H fun x H1 => ∃ a xs, x = .ref a ∧ SqT K H1 a xs ∧ ∀ p, H1 p = none → Q (.ref p) (upd H1 p (.tup xs.reverse))
theorem pe_backT {e : Expr} {te : TE} {k : Nat} {p1 p2 p3 pos : Pos} (he : PE X e te) : PE X (.Subscript e (.Slice none none (some (.UnaryOp .USub (.Constant (.int 1) k p1) p2)) p3) pos) (tBackT X.K te) := by
  refine ⟨fun pins s σ H Q I h => ?_⟩
  refine Subscript_ (thn (he.run pins s σ H _ I h) fun v s1 ⟨x, H1, I1, r1, q1⟩ => ?_)
  obtain ⟨a, xs, ex, hx, q⟩ := q1
  subst ex
  cases r1
  have hst : PO X (some (.UnaryOp .USub (.Constant (.int 1) k p1) p2)) (tPart (tUn (rU fun i => .int (-i)) (tC (.int 1)))) := po_some (pe_un un_neg pe_int)
  refine wpAny_Slice (thn (po_none.run pins s1 σ H1 (fun o H2 => o = none ∧ H2 = H1) I1 ⟨rfl, rfl⟩) fun vl s2 ⟨l, H2, I2, pl, el, e2⟩ => ?_)
  subst el e2
  cases pl
  refine thn (po_none.run pins s2 σ H2 (fun o H3 => o = none ∧ H3 = H2) I2 ⟨rfl, rfl⟩) fun vu s3 ⟨u, H3, I3, pu, eu, e3⟩ => ?_
  subst eu e3
  cases pu
  refine thn (hst.run pins s3 σ H3 (fun o H4 => o = some (-1) ∧ H4 = H3) I3 ⟨1, rfl, -1, rfl, rfl, rfl⟩) fun vs s4 ⟨o, H4, I4, ps, eo, e4⟩ => ?_
  subst eo e4
  have I5 : Inv X pins σ H4 { s4 with heap := s4.heap.push { cls := .type "slice", data := .fields #[.none, .none, vs] } } := I4.kept (t' := s4.toks) fun b ob q => Heap.get?_push_of_some _ q
  obtain ⟨its, r, ht, hz⟩ := I5.tuple hx
  have hlen := r.length
  show wpAny (model X.prog X.w) X.A (subscriptTail e (.Slice none none (some (.UnaryOp .USub (.Constant (.int 1) k p1) p2)) p3) (.ref a) (.ref s4.heap.objs.size)) (EP X pins σ Q) X.xe { s4 with heap := s4.heap.push { cls := .type "slice", data := .fields #[.none, .none, vs] } }
  refine tail_any (ops := [.ref a, .ref s4.heap.objs.size]) ht.typeIs (PyProof.Rows.slot_tuple_getitem.lookup) ?_ (by with_unfolding_all rfl)
  refine getItem_tuple_back ht (Heap.IsSliceOf.new _ .none .none vs) ps ?_ (by rw [List.size_toArray]; omega)
  refine ⟨.ref _, _, I5.laid (t' := s4.toks) (o := .tup xs.reverse) (fun b ob q => Heap.get?_push_of_some _ q) (Nat.le_refl _) ?_, rfl, q _ (I5.hok.fresh (Nat.le_refl _))⟩
  exact ⟨by rw [List.length_reverse]; exact hz, _, r.reverse, IsTup.new _ _⟩
end
/-! ### data in tuples -/
mutual
inductive Rep (K : PySem.W.Frag) (H : Hp) : V → PyData → Prop
  | non : Rep K H .non .none
  | bl (b : Bool) : Rep K H (.bl b) (.bool b)
  | int (i : Int) : Rep K H (.int i) (.int i)
  | str (x : Str) : Rep K H (.str x) (.str x)
  | tup {a : Addr} {xs : List V} {ds : List PyData} : SqT K H a xs → RepAll K H xs ds → Rep K H (.ref a) (.tuple ds)
inductive RepAll (K : PySem.W.Frag) (H : Hp) : List V → List PyData → Prop
  | nil : RepAll K H [] []
  | cons {v : V} {vs : List V} {d : PyData} {ds : List PyData} : Rep K H v d → RepAll K H vs ds → RepAll K H (v :: vs) (d :: ds)
end
/-- every tuple stays -/
def Imm (K : PySem.W.Frag) (H H' : Hp) : Prop := ∀ a xs, SqT K H a xs → SqT K H' a xs
section
variable {K : PySem.W.Frag} {H H' H2 : Hp}
theorem Imm.refl : Imm K H H := fun _ _ h => h
theorem Imm.trans (a : Imm K H H') (b : Imm K H' H2) : Imm K H H2 := fun c xs h => b c xs (a c xs h)
theorem Imm.of (k : ∀ a o, (∀ l, o ≠ HO.lst l) → H a = some o → H' a = some o) : Imm K H H' := by
  intro a xs h
  rcases h with (h | ⟨o, h⟩) | h
  · exact .inl (.inl (k a _ (fun l e => nomatch e) h))
  · exact .inl (.inr ⟨o, k a _ (fun l e => nomatch e) h⟩)
  · exact .inr h
theorem Imm.same (s : Same H H') : Imm K H H' := .of fun a o _ h => s a o h
theorem Imm.new {p : Addr} {o : HO} (h : H p = none) : Imm K H (upd H p o) := .same (same_upd h)
/-- a store into a list -/
theorem Imm.put {p : Addr} {l l' : List V} (h : H p = some (.lst l)) : Imm K H (upd H p (.lst l')) := .of fun a o n e => by
  have q : a ≠ p := fun z => by
    rw [z, h] at e
    exact n l (Option.some.inj e).symm
  rw [upd_ne q]
  exact e
theorem Imm.kept {t tq : Addr} (hT : Tape H t tq) (k : Kept t H H') : Imm K H H' := .of fun a o n e => by
  obtain ⟨ns, p, h, s, h1, _⟩ := hT
  have q : a ≠ t := fun z => by
    rw [z, h1] at e
    exact n _ (Option.some.inj e).symm
  exact k a o q e
mutual
theorem Rep.imm (m : Imm K H H') : ∀ (d : PyData) (v : V), Rep K H v d → Rep K H' v d
  | .none, _, h => by cases h; exact .non
  | .bool b, _, h => by cases h; exact .bl b
  | .int i, _, h => by cases h; exact .int i
  | .str x, _, h => by cases h; exact .str x
  | .list _, _, h => by cases h
  | .tuple ds, _, h => by
    cases h with
    | tup s r => exact .tup (m _ _ s) (RepAll.imm m ds _ r)
  | .dict _, _, h => by cases h
theorem RepAll.imm (m : Imm K H H') : ∀ (ds : List PyData) (vs : List V), RepAll K H vs ds → RepAll K H' vs ds
  | [], _, h => by cases h; exact .nil
  | d :: ds, _, h => by
    cases h with
    | cons a b => exact .cons (Rep.imm m d _ a) (RepAll.imm m ds _ b)
end
theorem Rep.up {v : V} {d : PyData} (h : Rep K H v d) (m : Imm K H H') : Rep K H' v d := Rep.imm m d v h
theorem RepAll.up {v : List V} {d : List PyData} (h : RepAll K H v d) (m : Imm K H H') : RepAll K H' v d := RepAll.imm m d v h
mutual
theorem Rep.dp : ∀ (d : PyData) (v : V), Rep K H v d → Dp K H v d
  | .none, _, h => by cases h; exact .non
  | .bool b, _, h => by cases h; exact .bl b
  | .int i, _, h => by cases h; exact .int i
  | .str x, _, h => by cases h; exact .str x
  | .list _, _, h => by cases h
  | .tuple ds, _, h => by
    cases h with
    | tup s r => exact .tup s (RepAll.dp ds _ r)
  | .dict _, _, h => by cases h
theorem RepAll.dp : ∀ (ds : List PyData) (vs : List V), RepAll K H vs ds → DpAll K H vs ds
  | [], _, h => by cases h; exact .nil
  | d :: ds, _, h => by
    cases h with
    | cons a b => exact .cons (Rep.dp d _ a) (RepAll.dp ds _ b)
end
theorem Rep.inv {v : V} {ds : List PyData} (h : Rep K H v (.tuple ds)) : ∃ a xs, v = .ref a ∧ SqT K H a xs ∧ RepAll K H xs ds := by
  cases h with
  | tup s r => exact ⟨_, _, rfl, s, r⟩
theorem RepAll.len : ∀ {vs : List V} {ds : List PyData}, RepAll K H vs ds → vs.length = ds.length
  | _, _, .nil => rfl
  | _, _, .cons _ r => by
    rw [List.length_cons, List.length_cons, r.len]
theorem RepAll.get : ∀ {vs : List V} {ds : List PyData} {i : Nat} {d : PyData}, RepAll K H vs ds → ds[i]? = some d → ∃ v, vs[i]? = some v ∧ Rep K H v d
  | _, _, 0, _, .cons a _, h => ⟨_, rfl, by
    have e := Option.some.inj h
    rw [← e]
    exact a⟩
  | _, _, i + 1, _, .cons _ r, h => RepAll.get (i := i) r h
  | _, _, 0, _, .nil, h => by cases h
  | _, _, _ + 1, _, .nil, h => by cases h
theorem RepAll.at {vs : List V} {ds : List PyData} {i : Nat} {v : V} (r : RepAll K H vs ds) (h : vs[i]? = some v) : ∃ d, ds[i]? = some d ∧ Rep K H v d := by
  have hi : i < ds.length := by
    rw [← r.len]
    exact (List.getElem?_eq_some_iff.mp h).1
  obtain ⟨v', h1, h2⟩ := r.get (List.getElem?_eq_getElem hi)
  rw [h] at h1
  cases h1
  exact ⟨_, List.getElem?_eq_getElem hi, h2⟩
theorem RepAll.append : ∀ {vs us : List V} {ds es : List PyData}, RepAll K H vs ds → RepAll K H us es → RepAll K H (vs ++ us) (ds ++ es)
  | _, _, _, _, .nil, r => r
  | _, _, _, _, .cons a b, r => .cons a (b.append r)
theorem RepAll.reverse : ∀ {vs : List V} {ds : List PyData}, RepAll K H vs ds → RepAll K H vs.reverse ds.reverse
  | _, _, .nil => .nil
  | _, _, .cons a b => by
    rw [List.reverse_cons, List.reverse_cons]
    exact b.reverse.append (.cons a .nil)
theorem RepAll.take : ∀ {vs : List V} {ds : List PyData} (n : Nat), RepAll K H vs ds → RepAll K H (vs.take n) (ds.take n)
  | _, _, 0, _ => by
    rw [List.take_zero, List.take_zero]
    exact .nil
  | _, _, n + 1, .nil => .nil
  | _, _, n + 1, .cons a b => .cons a (b.take n)
theorem RepAll.drop : ∀ {vs : List V} {ds : List PyData} (n : Nat), RepAll K H vs ds → RepAll K H (vs.drop n) (ds.drop n)
  | _, _, 0, h => h
  | _, _, n + 1, .nil => .nil
  | _, _, n + 1, .cons a b => b.drop n
theorem RepAll.ints : ∀ ns : List Int, RepAll K H (ns.map V.int) (ns.map PyData.int)
  | [] => .nil
  | n :: r => .cons (.int n) (RepAll.ints r)
theorem Rep.int_inv {v : V} {i : Int} (h : Rep K H v (.int i)) : v = .int i := by cases h; rfl
theorem Rep.str_inv {v : V} {i : Str} (h : Rep K H v (.str i)) : v = .str i := by cases h; rfl
theorem Rep.bl_inv {v : V} {i : Bool} (h : Rep K H v (.bool i)) : v = .bl i := by cases h; rfl
theorem Rep.non_inv {v : V} (h : Rep K H v .none) : v = .non := by cases h; rfl
/-- an item of a tuple of data -/
theorem Rep.item {v : V} {ds : List PyData} (h : Rep K H v (.tuple ds)) : ∃ a xs, v = .ref a ∧ SqT K H a xs ∧ xs.length = ds.length ∧ RepAll K H xs ds ∧ ∀ (i : Nat) (d : PyData), ds[i]? = some d → ∃ u, atI xs (i : Int) = some u ∧ Rep K H u d := by
  obtain ⟨a, xs, e, s, r⟩ := h.inv
  refine ⟨a, xs, e, s, r.len, r, fun i d hd => ?_⟩
  obtain ⟨u, h1, h2⟩ := r.get hd
  exact ⟨u, atI_nat h1, h2⟩
end
/-- two lists may have changed -/
def Kept2 (t u : Addr) (H H' : Hp) : Prop := ∀ b o, b ≠ t → b ≠ u → H b = some o → H' b = some o
theorem Kept.two {t u : Addr} {H H' : Hp} (k : Kept t H H') : Kept2 t u H H' := fun b o n _ e => k b o n e
theorem Kept2.rfl {t u : Addr} {H : Hp} : Kept2 t u H H := fun _ _ _ _ e => e
theorem Kept2.trans {t u : Addr} {H H1 H2 : Hp} (a : Kept2 t u H H1) (b : Kept2 t u H1 H2) : Kept2 t u H H2 := fun c o n m e => b c o n m (a c o n m e)
theorem Same.two {t u : Addr} {H H' : Hp} (k : Same H H') : Kept2 t u H H' := fun b o _ _ e => k b o e
theorem Same.kept {t : Addr} {H H' : Hp} (k : Same H H') : Kept t H H' := fun b o _ e => k b o e
theorem Kept2.put {t u : Addr} {H H' : Hp} {o : HO} (k : Kept2 t u H H') : Kept2 t u H (upd H' u o) := fun b x n m e => by
  rw [upd_ne m]
  exact k b x n m e
theorem Kept2.new {t u l : Addr} {H H' : Hp} {o : HO} (k : Kept2 t u H H') (hl : H' l = none) : Kept2 t u H (upd H' l o) := fun b x n m e => by
  have q := k b x n m e
  rw [upd_ne (ne_of_none q hl)]
  exact q
/-- the list at u was made since -/
theorem Kept2.one {t u : Addr} {H0 H H' : Hp} (k0 : Kept t H0 H) (hu : H0 u = none) (k : Kept2 t u H H') : Kept t H0 H' := fun b o n e => k b o n (ne_of_none e hu) (k0 b o n e)
theorem Imm.kept2 {K : PySem.W.Frag} {t tq u : Addr} {H H' : Hp} {l : List V} (hT : Tape H t tq) (hu : H u = some (.lst l)) (k : Kept2 t u H H') : Imm K H H' := .of fun a o n e => by
  obtain ⟨ns, p, h, s, h1, _⟩ := hT
  have q : a ≠ t := fun z => by
    rw [z, h1] at e
    exact n _ (Option.some.inj e).symm
  have q2 : a ≠ u := fun z => by
    rw [z, hu] at e
    exact n _ (Option.some.inj e).symm
  exact k a o q q2 e
theorem Tape.same {t tq : Addr} {H H' : Hp} (h : Tape H t tq) (s : Same H H') : Tape H' t tq := by
  obtain ⟨ns, p, z, q, h1, h2, h3, h4⟩ := h
  exact ⟨ns, p, z, q, s _ _ h1, s _ _ h2, h3, h4⟩
/-! ### layouts -/
structure Part where
  name : Option Str
  width : Int
  signed : Bool
  ranges : Option (List (Int × Int))
  default : Option Int
inductive Count where
  | exactly (n : Int)
  | counted (w : Str) (lo hi : Int)
  | marked (n : Int)
inductive Item where
  | word (w : Str) (parts : List Part)
  | array (name w : Str) (signed : Bool) (count : Count) (ranges : Option (List (Int × Int))) (default : Option Int)
  | list (name : Str) (count : Count) (items : List Item)
  | choice (name w : Str) (cases : List (Int × Str × List Item))
  | record (name : Str) (items : List Item)
  | literal (data : List Int)
  | reserved (size : Int)
  | check (method : Str)
def encO : Option Int → PyData
  | none => .none
  | some i => .int i
def encS : Option Str → PyData
  | none => .none
  | some i => .str i
def encPair (p : Int × Int) : PyData := .tuple [.int p.1, .int p.2]
def encR : Option (List (Int × Int)) → PyData
  | none => .none
  | some l => .tuple (l.map encPair)
def encPart (p : Part) : PyData := .tuple [encS p.name, .int p.width, .bool p.signed, encR p.ranges, encO p.default]
def encCount : Count → PyData
  | .exactly n => .tuple [.str "exactly", .int n]
  | .counted w lo hi => .tuple [.str "counted", .str w, .int lo, .int hi]
  | .marked n => .tuple [.str "marked", .int n]
mutual
def encItem : Item → PyData
  | .word w parts => .tuple [.str "word", .str w, .tuple (parts.map encPart)]
  | .array name w signed count ranges default => .tuple [.str "array", .str name, .str w, .bool signed, encCount count, encR ranges, encO default]
  | .list name count items => .tuple [.str "list", .str name, encCount count, .tuple (encItems items)]
  | .choice name w cases => .tuple [.str "choice", .str name, .str w, .tuple (encCases cases)]
  | .record name items => .tuple [.str "record", .str name, .tuple (encItems items)]
  | .literal data => .tuple [.str "literal", .tuple (data.map PyData.int)]
  | .reserved size => .tuple [.str "reserved", .int size]
  | .check method => .tuple [.str "check", .str method]
def encItems : List Item → List PyData
  | [] => []
  | i :: r => encItem i :: encItems r
def encCases : List (Int × Str × List Item) → List PyData
  | [] => []
  | (n, z, items) :: r => .tuple [.int n, .str z, .tuple (encItems items)] :: encCases r
end
/-- the five words and their bytes -/
def WordOk (z : Str) : Prop := z = "u8" ∨ z = "u16be" ∨ z = "u16le" ∨ z = "u32be" ∨ z = "u32le"
def wsize (z : Str) : Int := if z = "u8" then 1 else if z = "u16be" then 2 else if z = "u16le" then 2 else 4
def CountOk : Count → Prop
  | .exactly n => 1 ≤ n ∧ n ≤ 60
  | .counted w lo hi => WordOk w ∧ 0 ≤ lo ∧ lo ≤ hi ∧ 1 ≤ hi ∧ hi ≤ 60
  | .marked n => 1 ≤ n ∧ n ≤ 60
def RangesOk : Option (List (Int × Int)) → Prop
  | none => True
  | some l => l ≠ [] ∧ (∀ p ∈ l, p.1 ≤ p.2 ∧ -1000 ≤ p.1 ∧ p.2 ≤ 1000) ∧ l.length ≤ 1000
/-- a number that a field of n bits stores, in its ranges -/
def NumOk (n : Nat) (b : Bool) (r : Option (List (Int × Int))) (i : Int) : Prop := match r with
  | some l => ∃ p ∈ l, p.1 ≤ i ∧ i ≤ p.2
  | none => if b = true then -(2 ^ (n - 1)) ≤ i ∧ i < 2 ^ (n - 1) else 0 ≤ i ∧ i < 2 ^ n
def PartOk (n : Nat) (p : Part) : Prop := p.width = (n : Int) ∧ RangesOk p.ranges ∧ (∀ d, p.default = some d → NumOk n p.signed p.ranges d) ∧ (p.name = none → p = ⟨none, n, false, none, none⟩)
def PartsOk (ps : List Part) : Prop := ∀ p ∈ ps, ∃ n : Nat, 1 ≤ n ∧ n ≤ 32 ∧ PartOk n p
def widths (ps : List Part) : Int := (ps.map Part.width).sum
theorem widths_add (ps : List Part) (p : Part) : widths (ps ++ [p]) = widths ps + p.width := by
  unfold widths
  rw [List.map_append, List.sum_append]
  show _ + (p.width + 0) = _
  omega
mutual
def ItemOk : Item → Prop
  | .word w ps => WordOk w ∧ ps.length ≤ 6 ∧ PartsOk ps ∧ widths ps = 8 * wsize w
  | .array _ w b count r d => WordOk w ∧ CountOk count ∧ RangesOk r ∧ ∀ i, d = some i → NumOk (8 * wsize w).toNat b r i
  | .list _ count items => CountOk count ∧ items.length ≤ 10 ∧ ItemsOk items
  | .choice _ w cases => WordOk w ∧ cases ≠ [] ∧ cases.length ≤ 9 ∧ CasesOk cases
  | .record _ items => items.length ≤ 10 ∧ ItemsOk items
  | .literal data => data ≠ [] ∧ data.length ≤ 60 ∧ ∀ b ∈ data, 0 ≤ b ∧ b < 256
  | .reserved n => 1 ≤ n ∧ n ≤ 60
  | .check m => m = "sum" ∨ m = "xor"
def ItemsOk : List Item → Prop
  | [] => True
  | i :: r => ItemOk i ∧ ItemsOk r
def CasesOk : List (Int × Str × List Item) → Prop
  | [] => True
  | (_, _, items) :: r => (items.length ≤ 10 ∧ ItemsOk items) ∧ CasesOk r
end
mutual
/-- how deep lists, choices and records stand in one another -/
def depthI : Item → Nat
  | .list _ _ items => depthL items + 1
  | .record _ items => depthL items + 1
  | .choice _ _ cases => depthC cases + 1
  | _ => 0
def depthL : List Item → Nat
  | [] => 0
  | i :: r => max (depthI i) (depthL r)
def depthC : List (Int × Str × List Item) → Nat
  | [] => 0
  | (_, _, items) :: r => max (depthL items) (depthC r)
end
mutual
/-- the scopes inside of an item -/
def scopesI : Item → Nat
  | .list _ _ items => 1 + scopesL items
  | .record _ items => 1 + scopesL items
  | .choice _ _ cases => scopesC cases
  | _ => 0
def scopesL : List Item → Nat
  | [] => 0
  | i :: r => scopesI i + scopesL r
def scopesC : List (Int × Str × List Item) → Nat
  | [] => 0
  | (_, _, items) :: r => 1 + scopesL items + scopesC r
end
theorem encItems_append : ∀ a b : List Item, encItems (a ++ b) = encItems a ++ encItems b
  | [], _ => rfl
  | i :: r, b => by
    show encItem i :: encItems (r ++ b) = encItem i :: (encItems r ++ encItems b)
    rw [encItems_append r b]
theorem encItems_len : ∀ a : List Item, (encItems a).length = a.length
  | [] => rfl
  | i :: r => by
    show (encItems r).length + 1 = r.length + 1
    rw [encItems_len r]
theorem encItems_reverse : ∀ a : List Item, encItems a.reverse = (encItems a).reverse
  | [] => rfl
  | i :: r => by
    rw [List.reverse_cons, encItems_append, encItems_reverse r]
    show _ = (encItem i :: encItems r).reverse
    rw [List.reverse_cons]
    rfl
theorem encItems_get : ∀ (a : List Item) (i : Nat) (d : PyData), (encItems a)[i]? = some d → ∃ x, a[i]? = some x ∧ d = encItem x
  | [], i, _, h => by
    have : (encItems [])[i]? = none := rfl
    rw [this] at h
    cases h
  | x :: r, 0, d, h => ⟨x, rfl, (Option.some.inj h).symm⟩
  | x :: r, i + 1, d, h => encItems_get r i d h
theorem encItems_at : ∀ (a : List Item) (i : Nat) (x : Item), a[i]? = some x → (encItems a)[i]? = some (encItem x)
  | [], i, _, h => by cases h
  | x :: r, 0, d, h => by
    have e : x = d := Option.some.inj h
    subst e
    rfl
  | x :: r, i + 1, d, h => encItems_at r i d h
theorem itemsOk_append : ∀ {a b : List Item}, ItemsOk a → ItemsOk b → ItemsOk (a ++ b)
  | [], _, _, h => h
  | _ :: r, _, ⟨h, h1⟩, h2 => ⟨h, itemsOk_append h1 h2⟩
theorem itemsOk_mem : ∀ {a : List Item} {x : Item}, ItemsOk a → x ∈ a → ItemOk x
  | [], _, _, h => nomatch h
  | y :: r, x, ⟨h, h1⟩, h2 => by
    rcases List.mem_cons.mp h2 with e | h3
    · rw [e]
      exact h
    · exact itemsOk_mem h1 h3
theorem itemsOk_reverse : ∀ {a : List Item}, ItemsOk a → ItemsOk a.reverse
  | [], h => h
  | y :: r, ⟨h, h1⟩ => by
    rw [List.reverse_cons]
    exact itemsOk_append (itemsOk_reverse h1) ⟨h, trivial⟩
theorem scopesL_append : ∀ a b : List Item, scopesL (a ++ b) = scopesL a + scopesL b
  | [], b => by
    show scopesL b = 0 + scopesL b
    omega
  | i :: r, b => by
    show scopesI i + scopesL (r ++ b) = scopesI i + scopesL r + scopesL b
    rw [scopesL_append r b]
    omega
theorem scopesL_reverse : ∀ a : List Item, scopesL a.reverse = scopesL a
  | [] => rfl
  | i :: r => by
    rw [List.reverse_cons, scopesL_append, scopesL_reverse r]
    show _ + (scopesI i + 0) = scopesI i + _
    omega
theorem depthL_append : ∀ a b : List Item, depthL (a ++ b) = max (depthL a) (depthL b)
  | [], b => by
    show depthL b = max 0 (depthL b)
    omega
  | i :: r, b => by
    show max (depthI i) (depthL (r ++ b)) = max (max (depthI i) (depthL r)) (depthL b)
    rw [depthL_append r b]
    omega
theorem depthL_reverse : ∀ a : List Item, depthL a.reverse = depthL a
  | [] => rfl
  | i :: r => by
    rw [List.reverse_cons, depthL_append, depthL_reverse r]
    show max (depthL r) (max (depthI i) 0) = max (depthI i) (depthL r)
    omega
theorem depthC_append : ∀ a b : List (Int × Str × List Item), depthC (a ++ b) = max (depthC a) (depthC b)
  | [], b => by
    show depthC b = max 0 (depthC b)
    omega
  | (_, _, l) :: r, b => by
    show max (depthL l) (depthC (r ++ b)) = max (max (depthL l) (depthC r)) (depthC b)
    rw [depthC_append r b]
    omega
theorem encCases_append : ∀ a b : List (Int × Str × List Item), encCases (a ++ b) = encCases a ++ encCases b
  | [], _ => rfl
  | (n, z, l) :: r, b => by
    show _ :: encCases (r ++ b) = _ :: (encCases r ++ encCases b)
    rw [encCases_append r b]
theorem encCases_len : ∀ a : List (Int × Str × List Item), (encCases a).length = a.length
  | [] => rfl
  | (n, z, l) :: r => by
    show (encCases r).length + 1 = r.length + 1
    rw [encCases_len r]
theorem casesOk_append : ∀ {a b : List (Int × Str × List Item)}, CasesOk a → CasesOk b → CasesOk (a ++ b)
  | [], _, _, h => h
  | (_, _, _) :: r, _, ⟨h, h1⟩, h2 => ⟨h, casesOk_append h1 h2⟩
theorem scopesC_append : ∀ a b : List (Int × Str × List Item), scopesC (a ++ b) = scopesC a + scopesC b
  | [], b => by
    show scopesC b = 0 + scopesC b
    omega
  | (_, _, l) :: r, b => by
    show 1 + scopesL l + scopesC (r ++ b) = 1 + scopesL l + scopesC r + scopesC b
    rw [scopesC_append r b]
    omega

/-! ### members -/
def partMem (p : Part) : List PyData := match p.name with
  | none => []
  | some z => [.tuple [.str z, .str "integer"]]
def mems : Item → List PyData
  | .word _ ps => ps.flatMap partMem
  | .array name _ _ _ _ _ => [.tuple [.str name, .str "array"]]
  | .list name _ _ => [.tuple [.str name, .str "list"]]
  | .choice name _ _ => [.tuple [.str name, .str "choice"]]
  | .record name _ => [.tuple [.str name, .str "record"]]
  | _ => []
def membersOf (items : List Item) : List PyData := items.flatMap mems
def partKind (p : Part) : List PyData := match p.name with
  | none => []
  | some z => [.tuple [.str "integer", .str z, .int p.width, .bool p.signed, encR p.ranges, encO p.default]]
def kindsI : Item → List PyData
  | .word _ ps => ps.flatMap partKind
  | .array name w b c r d => [.tuple [.str "array", .str name, encCount c, .int (8 * wsize w), .bool b, encR r, encO d]]
  | .list name c items => [encItem (.list name c items)]
  | .choice name _ cases => [.tuple [.str "choice", .str name, .tuple (encCases cases)]]
  | .record name items => [encItem (.record name items)]
  | _ => []
def kindsOf (items : List Item) : List PyData := items.flatMap kindsI
/-- (kind[1], kind[0]) -/
def swapD : PyData → PyData
  | .tuple (a :: b :: _) => .tuple [b, a]
  | d => d
theorem swap_parts : ∀ ps : List Part, (ps.flatMap partKind).map swapD = ps.flatMap partMem
  | [] => rfl
  | p :: r => by
    rw [List.flatMap_cons, List.flatMap_cons, List.map_append, swap_parts r]
    congr 1
    unfold partKind partMem
    cases p.name <;> rfl
theorem swap_item : ∀ x : Item, (kindsI x).map swapD = mems x
  | .word _ ps => swap_parts ps
  | .array .. => rfl
  | .list .. => rfl
  | .choice .. => rfl
  | .record .. => rfl
  | .literal .. => rfl
  | .reserved .. => rfl
  | .check .. => rfl
theorem swap_items : ∀ items : List Item, (kindsOf items).map swapD = membersOf items
  | [] => rfl
  | x :: r => by
    show ((kindsI x) ++ kindsOf r).map swapD = mems x ++ membersOf r
    rw [List.map_append, swap_item, swap_items r]
theorem parts_kinds_len : ∀ ps : List Part, (ps.flatMap partKind).length ≤ ps.length
  | [] => Nat.le_refl _
  | p :: r => by
    rw [List.flatMap_cons, List.length_append]
    have h1 := parts_kinds_len r
    have h2 : (partKind p).length ≤ 1 := by
      unfold partKind
      cases p.name <;> simp
    rw [List.length_cons]
    omega
theorem kindsI_len {x : Item} (h : ItemOk x) : (kindsI x).length ≤ 6 := by
  cases x with
  | word w ps => exact Nat.le_trans (parts_kinds_len ps) h.2.1
  | array => exact (by show 1 ≤ 6; decide)
  | list => exact (by show 1 ≤ 6; decide)
  | choice => exact (by show 1 ≤ 6; decide)
  | record => exact (by show 1 ≤ 6; decide)
  | literal => exact (by show 0 ≤ 6; decide)
  | reserved => exact (by show 0 ≤ 6; decide)
  | check => exact (by show 0 ≤ 6; decide)
theorem kindsOf_len : ∀ {items : List Item}, ItemsOk items → (kindsOf items).length ≤ 6 * items.length
  | [], _ => Nat.le_refl _
  | x :: r, ⟨h, h1⟩ => by
    show ((kindsI x) ++ kindsOf r).length ≤ 6 * (r.length + 1)
    rw [List.length_append]
    have := kindsI_len h
    have := kindsOf_len h1
    omega
theorem membersOf_len {items : List Item} (h : ItemsOk items) : (membersOf items).length ≤ 6 * items.length := by
  rw [← swap_items, List.length_map]
  exact kindsOf_len h
theorem parts_kinds_form : ∀ (ps : List Part) (d : PyData), d ∈ ps.flatMap partKind → ∃ a b r, d = .tuple (a :: b :: r)
  | [], d, h => by cases h
  | p :: r, d, h => by
    rw [List.flatMap_cons] at h
    rcases List.mem_append.mp h with h | h
    · unfold partKind at h
      cases e : p.name with
      | none => rw [e] at h; cases h
      | some z =>
        rw [e] at h
        rw [List.mem_singleton.mp h]
        exact ⟨_, _, _, rfl⟩
    · exact parts_kinds_form r d h
theorem kindsI_form (x : Item) (d : PyData) (h : d ∈ kindsI x) : ∃ a b r, d = .tuple (a :: b :: r) := by
  cases x with
  | word w ps => exact parts_kinds_form ps d h
  | array => rw [List.mem_singleton.mp h]; exact ⟨_, _, _, rfl⟩
  | list => rw [List.mem_singleton.mp h]; exact ⟨_, _, _, rfl⟩
  | choice => rw [List.mem_singleton.mp h]; exact ⟨_, _, _, rfl⟩
  | record => rw [List.mem_singleton.mp h]; exact ⟨_, _, _, rfl⟩
  | literal => cases h
  | reserved => cases h
  | check => cases h
theorem kindsOf_form : ∀ (items : List Item) (d : PyData), d ∈ kindsOf items → ∃ a b r, d = .tuple (a :: b :: r)
  | [], d, h => by cases h
  | x :: r, d, h => by
    have h : d ∈ kindsI x ++ kindsOf r := h
    rcases List.mem_append.mp h with h | h
    · exact kindsI_form x d h
    · exact kindsOf_form r d h
theorem mems_small : ∀ (x : Item) (d : PyData), d ∈ mems x → ∃ a b, d = .tuple [.str a, .str b]
  | .word _ ps, d, h => by
    obtain ⟨p, _, hp⟩ := List.mem_flatMap.mp h
    unfold partMem at hp
    cases e : p.name with
    | none => rw [e] at hp; cases hp
    | some z => rw [e] at hp; rw [List.mem_singleton.mp hp]; exact ⟨_, _, rfl⟩
  | .array .., d, h => by rw [List.mem_singleton.mp h]; exact ⟨_, _, rfl⟩
  | .list .., d, h => by rw [List.mem_singleton.mp h]; exact ⟨_, _, rfl⟩
  | .choice .., d, h => by rw [List.mem_singleton.mp h]; exact ⟨_, _, rfl⟩
  | .record .., d, h => by rw [List.mem_singleton.mp h]; exact ⟨_, _, rfl⟩
  | .literal .., d, h => by cases h
  | .reserved .., d, h => by cases h
  | .check .., d, h => by cases h
theorem membersOf_small (items : List Item) (d : PyData) (h : d ∈ membersOf items) : ∃ a b, d = .tuple [.str a, .str b] := by
  obtain ⟨x, _, hx⟩ := List.mem_flatMap.mp h
  exact mems_small x d hx
theorem flatMap_take_next {α β : Type} {f : α → List β} {xs : List α} {i : Nat} {x : α} (h : xs[i]? = some x) : (xs.take (i + 1)).flatMap f = (xs.take i).flatMap f ++ f x := by
  rw [take_next h, List.flatMap_append]
  simp
theorem itemsOk_take : ∀ {items : List Item} (n : Nat), ItemsOk items → ItemsOk (items.take n)
  | _, 0, _ => by rw [List.take_zero]; trivial
  | [], n + 1, _ => trivial
  | x :: r, n + 1, ⟨h, h1⟩ => ⟨h, itemsOk_take n h1⟩
theorem itemsOk_drop : ∀ {items : List Item} (n : Nat), ItemsOk items → ItemsOk (items.drop n)
  | _, 0, h => h
  | [], n + 1, _ => trivial
  | x :: r, n + 1, ⟨h, h1⟩ => itemsOk_drop n h1
theorem encItems_take (items : List Item) (n : Nat) : encItems (items.take n) = (encItems items).take n := by
  induction items generalizing n with
  | nil => cases n <;> rfl
  | cons x r ih =>
    cases n with
    | zero => rfl
    | succ n =>
      show encItem x :: encItems (r.take n) = encItem x :: (encItems r).take n
      rw [ih]
theorem encItems_drop (items : List Item) (n : Nat) : encItems (items.drop n) = (encItems items).drop n := by
  induction items generalizing n with
  | nil => cases n <;> rfl
  | cons x r ih =>
    cases n with
    | zero => rfl
    | succ n => exact ih n
/-! slices of tuples of data -/
def cutD (ds : List PyData) (lo hi : Option Int) : List PyData := (ds.drop (HT.sIx ds.length 0 lo)).take (HT.sIx ds.length ds.length hi - HT.sIx ds.length 0 lo)
theorem slice_use {K : PySem.W.Frag} {H : Hp} {v : V} {ds : List PyData} {lo hi : Option Int} {Q : VK} (r : Rep K H v (.tuple ds)) (q : ∀ w H', Same H H' → Rep K H' w (.tuple (cutD ds lo hi)) → Q w H') : rSlA K v lo hi H Q := by
  obtain ⟨a, xs, rfl, s, ra⟩ := r.inv
  have hl := ra.len
  refine ⟨a, xs, rfl, s, fun h => ?_, fun _ p hp => ?_⟩
  · have e : cutD ds lo hi = ds := by
      unfold cutD
      rw [← hl, h.1, h.2, List.drop_zero, Nat.sub_zero, hl, List.take_length]
    rw [e] at q
    exact q _ H (Same.refl H) r
  · refine q _ _ (same_upd hp) (.tup (SqT.of upd_same) ?_)
    unfold cutD cutV
    rw [← hl]
    exact ((ra.up (Imm.new hp)).drop _).take _
theorem cut_head (ds : List PyData) (c : Nat) : cutD ds none (some (c : Int)) = ds.take c := by
  unfold cutD
  rw [HT.sIx_none, HT.sIx_nat, List.drop_zero, Nat.sub_zero]
  by_cases h : c ≤ ds.length
  · rw [Nat.min_eq_left h]
  · rw [Nat.min_eq_right (by omega), List.take_length, List.take_of_length_le (by omega)]
theorem cut_tail (ds : List PyData) (c : Nat) : cutD ds (some (c : Int)) none = ds.drop c := by
  unfold cutD
  rw [HT.sIx_none, HT.sIx_nat]
  by_cases h : c ≤ ds.length
  · rw [Nat.min_eq_left h]
    exact List.take_of_length_le (by rw [List.length_drop]; exact Nat.le_refl _)
  · rw [Nat.min_eq_right (by omega), List.drop_length, List.drop_of_length_le (by omega), List.take_nil]
/-! sizes of data -/
mutual
def DSmall : PyData → Prop
  | .tuple ds => ds.length ≤ 100000 ∧ DSmalls ds
  | .none => True
  | .bool _ => True
  | .int _ => True
  | .str _ => True
  | .list _ => False
  | .dict _ => False
def DSmalls : List PyData → Prop
  | [] => True
  | d :: r => DSmall d ∧ DSmalls r
end
theorem dsmalls_of : ∀ {ds : List PyData}, (∀ d ∈ ds, DSmall d) → DSmalls ds
  | [], _ => trivial
  | d :: r, h => ⟨h d (by simp), dsmalls_of fun x hx => h x (List.mem_cons_of_mem _ hx)⟩
theorem dsmalls_get : ∀ {ds : List PyData} {i : Nat} {d : PyData}, DSmalls ds → ds[i]? = some d → DSmall d
  | [], _, _, _, h => by cases h
  | x :: r, 0, d, ⟨h, _⟩, e => by
    have e : x = d := Option.some.inj e
    rw [← e]
    exact h
  | x :: r, i + 1, d, ⟨_, h⟩, e => dsmalls_get (i := i) h e
theorem depthAll_get : ∀ {ds : List PyData} {i : Nat} {d : PyData}, ds[i]? = some d → PyData.depth d ≤ PyData.depthAll ds
  | [], _, _, h => by cases h
  | x :: r, 0, d, e => by
    have e : x = d := Option.some.inj e
    rw [PyData.depthAll, ← e]
    omega
  | x :: r, i + 1, d, e => by
    have := depthAll_get (ds := r) (i := i) e
    rw [PyData.depthAll]
    omega
theorem depthAll_le : ∀ {ds : List PyData} {n : Nat}, (∀ d ∈ ds, PyData.depth d ≤ n) → PyData.depthAll ds ≤ n
  | [], n, _ => by rw [PyData.depthAll]; exact Nat.zero_le _
  | d :: r, n, h => by
    rw [PyData.depthAll]
    have h1 := h d (by simp)
    have h2 := depthAll_le (ds := r) (n := n) fun x hx => h x (List.mem_cons_of_mem _ hx)
    omega
theorem sqt_ty {K : PySem.W.Frag} {H : Hp} {a : Addr} {xs : List V} (h : SqT K H a xs) : TyX K H (.ref a) (.type "tuple") := by
  rcases h with (h | ⟨o, h⟩) | ⟨o, its, n, h, hc, _⟩
  · exact .base (.tup h)
  · exact .fTuple h
  · exact .kTuple h hc
/-! ### scopes -/
mutual
def scI : Item → List (List Item)
  | .list _ _ items => items :: scL items
  | .record _ items => items :: scL items
  | .choice _ _ cases => scC cases
  | _ => []
def scL : List Item → List (List Item)
  | [] => []
  | i :: r => scI i ++ scL r
def scC : List (Int × Str × List Item) → List (List Item)
  | [] => []
  | (_, _, items) :: r => (items :: scL items) ++ scC r
end
mutual
theorem scI_len : ∀ x : Item, (scI x).length = scopesI x
  | .list _ _ items => by
    show (scL items).length + 1 = 1 + scopesL items
    rw [scL_len items]
    omega
  | .record _ items => by
    show (scL items).length + 1 = 1 + scopesL items
    rw [scL_len items]
    omega
  | .choice _ _ cases => scC_len cases
  | .word .. => rfl
  | .array .. => rfl
  | .literal .. => rfl
  | .reserved .. => rfl
  | .check .. => rfl
theorem scL_len : ∀ items : List Item, (scL items).length = scopesL items
  | [] => rfl
  | x :: r => by
    show (scI x ++ scL r).length = scopesI x + scopesL r
    rw [List.length_append, scI_len x, scL_len r]
theorem scC_len : ∀ cases : List (Int × Str × List Item), (scC cases).length = scopesC cases
  | [] => rfl
  | (_, _, items) :: r => by
    show ((items :: scL items) ++ scC r).length = 1 + scopesL items + scopesC r
    rw [List.length_append, List.length_cons, scL_len items, scC_len r]
    omega
end
def ScopeOk (s : List Item) : Prop := ItemsOk s ∧ s.length ≤ 10
mutual
theorem scI_ok : ∀ (x : Item), ItemOk x → ∀ s ∈ scI x, ScopeOk s
  | .list _ _ items, h, s, hs => by
    rcases List.mem_cons.mp (show s ∈ items :: scL items from hs) with rfl | hs
    · exact ⟨h.2.2, h.2.1⟩
    · exact scL_ok items h.2.2 s hs
  | .record _ items, h, s, hs => by
    rcases List.mem_cons.mp (show s ∈ items :: scL items from hs) with rfl | hs
    · exact ⟨h.2, h.1⟩
    · exact scL_ok items h.2 s hs
  | .choice _ _ cases, h, s, hs => scC_ok cases h.2.2.2 s hs
  | .word .., _, _, hs => by cases hs
  | .array .., _, _, hs => by cases hs
  | .literal .., _, _, hs => by cases hs
  | .reserved .., _, _, hs => by cases hs
  | .check .., _, _, hs => by cases hs
theorem scL_ok : ∀ (items : List Item), ItemsOk items → ∀ s ∈ scL items, ScopeOk s
  | [], _, _, hs => by cases hs
  | x :: r, h, s, hs => by
    rcases List.mem_append.mp (show s ∈ scI x ++ scL r from hs) with hs | hs
    · exact scI_ok x h.1 s hs
    · exact scL_ok r h.2 s hs
theorem scC_ok : ∀ (cases : List (Int × Str × List Item)), CasesOk cases → ∀ s ∈ scC cases, ScopeOk s
  | [], _, _, hs => by cases hs
  | (_, _, items) :: r, h, s, hs => by
    rcases List.mem_append.mp (show s ∈ (items :: scL items) ++ scC r from hs) with hs | hs
    · rcases List.mem_cons.mp hs with rfl | hs
      · exact ⟨h.1.2, h.1.1⟩
      · exact scL_ok items h.1.2 s hs
    · exact scC_ok r h.2 s hs
end
def encScope (s : List Item) : PyData := .tuple (encItems s)
theorem scL_append : ∀ a b : List Item, scL (a ++ b) = scL a ++ scL b
  | [], _ => rfl
  | x :: r, b => by
    show scI x ++ scL (r ++ b) = (scI x ++ scL r) ++ scL b
    rw [scL_append r b, List.append_assoc]
theorem scC_append : ∀ a b : List (Int × Str × List Item), scC (a ++ b) = scC a ++ scC b
  | [], _ => rfl
  | (_, _, items) :: r, b => by
    show (items :: scL items) ++ scC (r ++ b) = ((items :: scL items) ++ scC r) ++ scC b
    rw [scC_append r b, List.append_assoc]
theorem scopesI_le : ∀ {items : List Item} {x : Item}, x ∈ items → scopesI x ≤ scopesL items
  | [], _, h => by cases h
  | y :: r, x, h => by
    show scopesI x ≤ scopesI y + scopesL r
    rcases List.mem_cons.mp h with rfl | h
    · omega
    · have := scopesI_le h
      omega
theorem depthI_le : ∀ {items : List Item} {x : Item}, x ∈ items → depthI x ≤ depthL items
  | [], _, h => by cases h
  | y :: r, x, h => by
    show depthI x ≤ max (depthI y) (depthL r)
    rcases List.mem_cons.mp h with rfl | h
    · omega
    · have := depthI_le h
      omega
theorem case_le : ∀ {cases : List (Int × Str × List Item)} {n : Int} {z : Str} {items : List Item}, (n, z, items) ∈ cases → depthL items ≤ depthC cases ∧ 1 + scopesL items ≤ scopesC cases
  | [], _, _, _, h => by cases h
  | (n', z', its') :: r, n, z, items, h => by
    show depthL items ≤ max (depthL its') (depthC r) ∧ 1 + scopesL items ≤ 1 + scopesL its' + scopesC r
    rcases List.mem_cons.mp h with e | h
    · cases e
      omega
    · have := case_le h
      omega
theorem case_ok : ∀ {cases : List (Int × Str × List Item)} {n : Int} {z : Str} {items : List Item}, CasesOk cases → (n, z, items) ∈ cases → ScopeOk items
  | [], _, _, _, _, h => by cases h
  | (n', z', its') :: r, n, z, items, ⟨h1, h2⟩, h => by
    rcases List.mem_cons.mp h with e | h
    · cases e
      exact ⟨h1.2, h1.1⟩
    · exact case_ok h2 h
theorem encCases_get : ∀ (a : List (Int × Str × List Item)) (i : Nat) (d : PyData), (encCases a)[i]? = some d → ∃ n z items, a[i]? = some (n, z, items) ∧ d = .tuple [.int n, .str z, .tuple (encItems items)]
  | [], i, _, h => by
    have : (encCases [])[i]? = none := rfl
    rw [this] at h
    cases h
  | (n, z, items) :: r, 0, d, h => ⟨n, z, items, rfl, (Option.some.inj h).symm⟩
  | (n, z, items) :: r, i + 1, d, h => encCases_get r i d h
theorem scL_take_next {items : List Item} {i : Nat} {x : Item} (h : items[i]? = some x) : scL (items.take (i + 1)) = scL (items.take i) ++ scI x := by
  rw [take_next h, scL_append]
  show _ ++ (scI x ++ []) = _
  rw [List.append_nil]
theorem scC_take_next {cases : List (Int × Str × List Item)} {i : Nat} {n : Int} {z : Str} {items : List Item} (h : cases[i]? = some (n, z, items)) : scC (cases.take (i + 1)) = scC (cases.take i) ++ (items :: scL items) := by
  rw [take_next h, scC_append]
  show _ ++ ((items :: scL items) ++ []) = _
  rw [List.append_nil]
theorem scL_take_len {items : List Item} (i : Nat) : (scL (items.take i)).length ≤ scopesL items := by
  have e := congrArg List.length (scL_append (items.take i) (items.drop i))
  rw [List.take_append_drop, List.length_append, scL_len items] at e
  omega
mutual
theorem scI_depth : ∀ (x : Item), ∀ s ∈ scI x, depthL s < depthI x
  | .list _ _ items, s, hs => by
    show depthL s < depthL items + 1
    rcases List.mem_cons.mp (show s ∈ items :: scL items from hs) with rfl | hs
    · omega
    · have := scL_depth items s hs
      omega
  | .record _ items, s, hs => by
    show depthL s < depthL items + 1
    rcases List.mem_cons.mp (show s ∈ items :: scL items from hs) with rfl | hs
    · omega
    · have := scL_depth items s hs
      omega
  | .choice _ _ cases, s, hs => by
    show depthL s < depthC cases + 1
    have := scC_depth cases s hs
    omega
  | .word .., _, hs => by cases hs
  | .array .., _, hs => by cases hs
  | .literal .., _, hs => by cases hs
  | .reserved .., _, hs => by cases hs
  | .check .., _, hs => by cases hs
theorem scL_depth : ∀ (items : List Item), ∀ s ∈ scL items, depthL s < depthL items
  | [], _, hs => by cases hs
  | x :: r, s, hs => by
    show depthL s < max (depthI x) (depthL r)
    rcases List.mem_append.mp (show s ∈ scI x ++ scL r from hs) with hs | hs
    · have := scI_depth x s hs
      omega
    · have := scL_depth r s hs
      omega
theorem scC_depth : ∀ (cases : List (Int × Str × List Item)), ∀ s ∈ scC cases, depthL s ≤ depthC cases
  | [], _, hs => by cases hs
  | (_, _, items) :: r, s, hs => by
    show depthL s ≤ max (depthL items) (depthC r)
    rcases List.mem_append.mp (show s ∈ (items :: scL items) ++ scC r from hs) with hs | hs
    · rcases List.mem_cons.mp hs with rfl | hs
      · omega
      · have := scL_depth items s hs
        omega
    · have := scC_depth r s hs
      omega
end

theorem RepAll.l2 {K : PySem.W.Frag} {H : Hp} {xs : List V} {a b : PyData} (h : RepAll K H xs [a, b]) : ∃ u v, xs = [u, v] ∧ Rep K H u a ∧ Rep K H v b := by
  cases h with
  | cons h1 h => cases h with
    | cons h2 h => cases h with
      | nil => exact ⟨_, _, rfl, h1, h2⟩
theorem RepAll.l3 {K : PySem.W.Frag} {H : Hp} {xs : List V} {a b c : PyData} (h : RepAll K H xs [a, b, c]) : ∃ u v w, xs = [u, v, w] ∧ Rep K H u a ∧ Rep K H v b ∧ Rep K H w c := by
  cases h with
  | cons h1 h => cases h with
    | cons h2 h => cases h with
      | cons h3 h => cases h with
        | nil => exact ⟨_, _, _, rfl, h1, h2, h3⟩
theorem RepAll.l4 {K : PySem.W.Frag} {H : Hp} {xs : List V} {a b c d : PyData} (h : RepAll K H xs [a, b, c, d]) : ∃ u v w x, xs = [u, v, w, x] ∧ Rep K H u a ∧ Rep K H v b ∧ Rep K H w c ∧ Rep K H x d := by
  cases h with
  | cons h1 h => cases h with
    | cons h2 h => cases h with
      | cons h3 h => cases h with
        | cons h4 h => cases h with
          | nil => exact ⟨_, _, _, _, rfl, h1, h2, h3, h4⟩
theorem RepAll.l7 {K : PySem.W.Frag} {H : Hp} {xs : List V} {a b c d e f g : PyData} (h : RepAll K H xs [a, b, c, d, e, f, g]) : ∃ u v w x y z t, xs = [u, v, w, x, y, z, t] ∧ Rep K H u a ∧ Rep K H v b ∧ Rep K H w c ∧ Rep K H x d ∧ Rep K H y e ∧ Rep K H z f ∧ Rep K H t g := by
  cases h with
  | cons h1 h => cases h with
    | cons h2 h => cases h with
      | cons h3 h => cases h with
        | cons h4 h => cases h with
          | cons h5 h => cases h with
            | cons h6 h => cases h with
              | cons h7 h => cases h with
                | nil => exact ⟨_, _, _, _, _, _, _, rfl, h1, h2, h3, h4, h5, h6, h7⟩
/-! sizes -/
def lmin : List Int → Int
  | [] => 0
  | [x] => x
  | x :: y :: r => min x (lmin (y :: r))
def lmax : List Int → Int
  | [] => 0
  | [x] => x
  | x :: y :: r => max x (lmax (y :: r))
theorem lmin_mem : ∀ {xs : List Int}, xs ≠ [] → lmin xs ∈ xs
  | [], h => (h rfl).elim
  | [x], _ => by simp [lmin]
  | x :: y :: r, _ => by
    have ih := lmin_mem (xs := y :: r) (by simp)
    show min x (lmin (y :: r)) ∈ _
    by_cases e : x ≤ lmin (y :: r)
    · rw [Int.min_eq_left e]
      simp
    · rw [Int.min_eq_right (by omega)]
      exact List.mem_cons_of_mem _ ih
theorem lmin_le : ∀ {xs : List Int} {x : Int}, x ∈ xs → lmin xs ≤ x
  | [], _, h => by cases h
  | [x], y, h => by
    rw [List.mem_singleton.mp h]
    exact Int.le_refl _
  | x :: y :: r, z, h => by
    show min x (lmin (y :: r)) ≤ z
    rcases List.mem_cons.mp h with rfl | h
    · omega
    · have := lmin_le h
      omega
theorem lmax_mem : ∀ {xs : List Int}, xs ≠ [] → lmax xs ∈ xs
  | [], h => (h rfl).elim
  | [x], _ => by simp [lmax]
  | x :: y :: r, _ => by
    have ih := lmax_mem (xs := y :: r) (by simp)
    show max x (lmax (y :: r)) ∈ _
    by_cases e : lmax (y :: r) ≤ x
    · rw [Int.max_eq_left e]
      simp
    · rw [Int.max_eq_right (by omega)]
      exact List.mem_cons_of_mem _ ih
theorem lmax_le : ∀ {xs : List Int} {x : Int}, x ∈ xs → x ≤ lmax xs
  | [], _, h => by cases h
  | [x], y, h => by
    rw [List.mem_singleton.mp h]
    exact Int.le_refl _
  | x :: y :: r, z, h => by
    show z ≤ max x (lmax (y :: r))
    rcases List.mem_cons.mp h with rfl | h
    · omega
    · have := lmax_le h
      omega
theorem lmin_is {xs : List Int} {m : Int} (h1 : m ∈ xs) (h2 : ∀ y, y ∈ xs → m ≤ y) : m = lmin xs := by
  have h3 := lmin_le h1
  have h4 := h2 _ (lmin_mem (List.ne_nil_of_mem h1))
  omega
theorem lmax_is {xs : List Int} {m : Int} (h1 : m ∈ xs) (h2 : ∀ y, y ∈ xs → y ≤ m) : m = lmax xs := by
  have h3 := lmax_le h1
  have h4 := h2 _ (lmax_mem (List.ne_nil_of_mem h1))
  omega
def sizeCount (c : Count) (p : Int × Int) : Int × Int := match c with
  | .exactly n => (n * p.1, n * p.2)
  | .counted w lo hi => (wsize w + lo * p.1, wsize w + hi * p.2)
  | .marked n => (1, n * (1 + p.2) + 1)
def sizeChoice (w : Str) (ps : List (Int × Int)) : Int × Int := (wsize w + lmin (ps.map Prod.fst), wsize w + lmax (ps.map Prod.snd))
mutual
def sizeI : Item → Int × Int
  | .word w _ => (wsize w, wsize w)
  | .array _ w _ c _ _ => sizeCount c (wsize w, wsize w)
  | .list _ c items => sizeCount c (sizeL items)
  | .choice _ w cases => sizeChoice w (sizeC cases)
  | .record _ items => sizeL items
  | .literal d => ((d.length : Int), (d.length : Int))
  | .reserved n => (n, n)
  | .check _ => (1, 1)
def sizeL : List Item → Int × Int
  | [] => (0, 0)
  | i :: r => ((sizeI i).1 + (sizeL r).1, (sizeI i).2 + (sizeL r).2)
def sizeC : List (Int × Str × List Item) → List (Int × Int)
  | [] => []
  | (_, _, items) :: r => sizeL items :: sizeC r
end
def encSz (p : Int × Int) : PyData := .tuple [.int p.1, .int p.2]
theorem sizeL_append : ∀ a b : List Item, sizeL (a ++ b) = ((sizeL a).1 + (sizeL b).1, (sizeL a).2 + (sizeL b).2)
  | [], b => by
    show sizeL b = (0 + (sizeL b).1, 0 + (sizeL b).2)
    rw [Int.zero_add, Int.zero_add]
  | i :: r, b => by
    show ((sizeI i).1 + (sizeL (r ++ b)).1, (sizeI i).2 + (sizeL (r ++ b)).2) = ((sizeI i).1 + (sizeL r).1 + (sizeL b).1, (sizeI i).2 + (sizeL r).2 + (sizeL b).2)
    rw [sizeL_append r b]
    simp only [Int.add_assoc]
theorem sizeL_reverse : ∀ a : List Item, sizeL a.reverse = sizeL a
  | [] => rfl
  | i :: r => by
    rw [List.reverse_cons, sizeL_append, sizeL_reverse r]
    show ((sizeL r).1 + ((sizeI i).1 + 0), (sizeL r).2 + ((sizeI i).2 + 0)) = ((sizeI i).1 + (sizeL r).1, (sizeI i).2 + (sizeL r).2)
    rw [Int.add_zero, Int.add_zero, Int.add_comm, Int.add_comm (sizeL r).2]
theorem sizeL_take_next {items : List Item} {i : Nat} {x : Item} (h : items[i]? = some x) : sizeL (items.take (i + 1)) = ((sizeL (items.take i)).1 + (sizeI x).1, (sizeL (items.take i)).2 + (sizeI x).2) := by
  rw [take_next h, sizeL_append]
  show (_ + ((sizeI x).1 + 0), _ + ((sizeI x).2 + 0)) = _
  rw [Int.add_zero, Int.add_zero]
theorem sizeC_get : ∀ (cases : List (Int × Str × List Item)) (i : Nat) (n : Int) (z : Str) (items : List Item), cases[i]? = some (n, z, items) → (sizeC cases)[i]? = some (sizeL items)
  | [], _, _, _, _, h => by cases h
  | (n', z', its') :: r, 0, n, z, items, h => by
    cases Option.some.inj h
    rfl
  | (n', z', its') :: r, i + 1, n, z, items, h => sizeC_get r i n z items h
theorem sizeC_len : ∀ cases : List (Int × Str × List Item), (sizeC cases).length = cases.length
  | [] => rfl
  | (_, _, _) :: r => by
    show (sizeC r).length + 1 = r.length + 1
    rw [sizeC_len r]
theorem ints_rep {K : PySem.W.Frag} {H : Hp} {v : V} {p : Int × Int} (h : Rep K H v (encSz p)) : ∃ a, v = .ref a ∧ SqT K H a [.int p.1, .int p.2] := by
  obtain ⟨a, xs, rfl, s, r⟩ := Rep.inv h
  obtain ⟨u, v, rfl, r1, r2⟩ := r.l2
  cases r1.int_inv
  cases r2.int_inv
  exact ⟨a, rfl, s⟩
/-- the pairs of sizes, one by one -/
theorem pairs_take {K : PySem.W.Frag} {H : Hp} {xs : List V} {ps : List (Int × Int)} (h : RepAll K H xs (ps.map encSz)) {i : Nat} {y : V} (hy : xs[i]? = some y) : ∃ p a, ps[i]? = some p ∧ y = .ref a ∧ SqT K H a [.int p.1, .int p.2] := by
  obtain ⟨d, hd, rd⟩ := h.at hy
  rw [List.getElem?_map] at hd
  cases e : ps[i]? with
  | none => rw [e] at hd; cases hd
  | some p =>
    rw [e] at hd
    cases Option.some.inj hd
    obtain ⟨a, rfl, s⟩ := ints_rep rd
    exact ⟨p, a, rfl, rfl, s⟩

section
variable {P : Program} {w : World} {K : PySem.W.Frag} {mg : Str → Option Value} {base : Heap} {A : Ad}
/-! def word_size -/
/-- the five words and their bytes -/
def WSz (z : Str) (n : Int) : Prop := (z = "u8" ∧ n = 1) ∨ (z = "u16be" ∧ n = 2) ∨ (z = "u16le" ∧ n = 2) ∨ (z = "u32be" ∧ n = 4) ∨ (z = "u32le" ∧ n = 4)
def sp_word_size (K : PySem.W.Frag) : Sp := fun vs H Q _ => ∃ (z : Str) (n : Int), vs = [.str z] ∧ WSz z n ∧ Q (.int n) H
theorem ok_word_size (T : Txt K w mg A) : FnOk P w K mg base CX0 1 A.word_size.f A.word_size.fd ["word"] (sp_word_size K) := by
  refine T.F_word_size.ok sc_word_size (fun vs H Q E h => ?_) (fun cdv Ar outer s H vs Q E hr h => ?_)
  · obtain ⟨z, n, rfl, _⟩ := h; rfl
  · obtain ⟨z, n, rfl, hz, k⟩ := h
    refine ⟨_, (pss_one (ps_ret (pe_ix ix_kdict (pe_glob (v := .ref A.c_WORD_SIZES) rfl T.g_WORD_SIZES rfl) (pv 0) (fun _ _ => rfl)))), ?_⟩
    have hd : KDct K w A.c_WORD_SIZES z (.int n) := by
      rcases hz with ⟨rfl, rfl⟩ | ⟨rfl, rfl⟩ | ⟨rfl, rfl⟩ | ⟨rfl, rfl⟩ | ⟨rfl, rfl⟩
      · exact T.d_WORD_SIZES_0
      · exact T.d_WORD_SIZES_1
      · exact T.d_WORD_SIZES_2
      · exact T.d_WORD_SIZES_3
      · exact T.d_WORD_SIZES_4
    exact ⟨_, rfl, _, _, _, rfl, rfl, hd, k⟩

/-! def fixed_sizes -/
theorem wsz_of {z : Str} (h : WordOk z) : WSz z (wsize z) := by
  rcases h with rfl | rfl | rfl | rfl | rfl
  · exact .inl ⟨rfl, by decide +kernel⟩
  · exact .inr (.inl ⟨rfl, by decide +kernel⟩)
  · exact .inr (.inr (.inl ⟨rfl, by decide +kernel⟩))
  · exact .inr (.inr (.inr (.inl ⟨rfl, by decide +kernel⟩)))
  · exact .inr (.inr (.inr (.inr ⟨rfl, by decide +kernel⟩)))
def sp_fixed_sizes (K : PySem.W.Frag) : Sp := fun vs H Q _ => ∃ (n : Int), vs = [.int n] ∧ ∀ (H' : Hp) (w : V), Same H H' → Rep K H' w (encSz (n, n)) → Q w H'
theorem ok_fixed_sizes (T : Txt K w mg A) : FnOk P w K mg base CX0 1 A.fixed_sizes.f A.fixed_sizes.fd ["size"] (sp_fixed_sizes K) := by
  refine T.F_fixed_sizes.ok sc_fixed_sizes (fun vs H Q E h => ?_) (fun cdv Ar outer s H vs Q E hr h => ?_)
  · obtain ⟨n, rfl, _⟩ := h; rfl
  · obtain ⟨n, rfl, k⟩ := h
    refine ⟨_, (pss_one (ps_ret (pe_tup (pa_cons (pv 0) (pa_cons (pv 0) pa_nil))))), ?_⟩
    refine ⟨_, rfl, _, rfl, (by show 2 ≤ sizeLine; decide), fun p hp => ?_⟩
    exact k _ _ (same_upd hp) (.tup (SqT.of upd_same) (.cons (.int _) (.cons (.int _) .nil)))

/-! def counted_sizes -/
def sp_counted_sizes (K : PySem.W.Frag) : Sp := fun vs H Q _ => ∃ (v u : V) (c : Count) (p : Int × Int), vs = [v, u] ∧ Rep K H v (encCount c) ∧ Rep K H u (encSz p) ∧ CountOk c ∧
  ∀ (H' : Hp) (w : V), Same H H' → Rep K H' w (encSz (sizeCount c p)) → Q w H'
theorem ok_counted_sizes (T : Txt K w mg A) : FnOk P w K mg base CX0 2 A.counted_sizes.f A.counted_sizes.fd ["count", "element_sizes"] (sp_counted_sizes K) := by
  have G_word_size : FnOk P w K mg base CX0 1 A.word_size.f A.word_size.fd ["word"] (sp_word_size K) := ok_word_size T
  refine T.F_counted_sizes.ok sc_counted_sizes (fun vs H Q E h => ?_) (fun cdv Ar outer s H vs Q E hr h => ?_)
  · obtain ⟨v, u, c, p, rfl, _⟩ := h; rfl
  · obtain ⟨v, u, c, p, rfl, rc, rp, hc, k⟩ := h
    refine ⟨_, (pss_cons (ps_asg (pv 1) (pg_tup (by rfl) (pgs_cons (pg_name (i := 2) sc_counted_sizes.nd rfl (Or.inl rfl)) (pgs_cons (pg_name (i := 3) sc_counted_sizes.nd rfl (Or.inl rfl)) pgs_nil))))
        (pss_cons (ps_if (pt_cmpR op_eq (pe_ix ix_tup (pv 0) pe_int (fun _ _ => rfl)) pe_str (nomark _)) (pss_cons (ps_asg (pv 0) (pg_tup (by rfl) (pgs_cons (pg_name (i := 4) sc_counted_sizes.nd rfl (Or.inl rfl)) (pgs_cons (pg_name (i := 5) sc_counted_sizes.nd rfl (Or.inl rfl)) pgs_nil))))
        (pss_one (ps_ret (pe_tup (pa_cons (pe_op op_mul (pv 5) (pv 2)) (pa_cons (pe_op op_mul (pv 5) (pv 3)) pa_nil)))))) pss_nil)
        (pss_cons (ps_if (pt_cmpR op_eq (pe_ix ix_tup (pv 0) pe_int (fun _ _ => rfl)) pe_str (nomark _)) (pss_cons (ps_asg (pv 0) (pg_tup (by rfl) (pgs_cons (pg_name (i := 4) sc_counted_sizes.nd rfl (Or.inl rfl)) (pgs_cons (pg_name (i := 6) sc_counted_sizes.nd rfl (Or.inl rfl)) (pgs_cons (pg_name (i := 7) sc_counted_sizes.nd rfl (Or.inl rfl)) (pgs_cons (pg_name (i := 8) sc_counted_sizes.nd rfl (Or.inl rfl)) pgs_nil))))))
        (pss_cons (ps_set (i := 9) sc_counted_sizes.nd rfl (.inl rfl) (pe_call G_word_size (hr.mono (by decide)) (by rfl) T.g_word_size T.F_word_size.kp T.b_word_size .nil pass0 (pa_cons (pv 6) pa_nil)))
        (pss_one (ps_ret (pe_tup (pa_cons (pe_op op_add (pv 9) (pe_op op_mul (pv 7) (pv 2))) (pa_cons (pe_op op_add (pv 9) (pe_op op_mul (pv 8) (pv 3))) pa_nil))))))) pss_nil)
        (pss_cons (ps_asg (pv 0) (pg_tup (by rfl) (pgs_cons (pg_name (i := 4) sc_counted_sizes.nd rfl (Or.inl rfl)) (pgs_cons (pg_name (i := 5) sc_counted_sizes.nd rfl (Or.inl rfl)) pgs_nil))))
        (pss_one (ps_ret (pe_tup (pa_cons pe_int (pa_cons (pe_op op_add (pe_op op_mul (pv 5) (pe_op op_add pe_int (pv 3))) pe_int) pa_nil))))))))), ?_⟩
    obtain ⟨pa, rfl, ps⟩ := ints_rep rp
    have fin : ∀ (x y : Int) (q : Addr), (x, y) = sizeCount c p → H q = none → Q (.ref q) (upd H q (.tup [.int x, .int y])) := fun x y q e hq => by
      refine k _ _ (same_upd hq) ?_
      rw [← e]
      exact .tup (SqT.of upd_same) (.cons (.int _) (.cons (.int _) .nil))
    refine ⟨_, rfl, pa, _, rfl, ps, rfl, _, _, rfl, _, _, rfl, rfl, ?_⟩
    cases c with
    | exactly n =>
      obtain ⟨ca, xs, rfl, cs, cr⟩ := Rep.inv (ds := [.str "exactly", .int n]) rc
      obtain ⟨u0, u1, rfl, r0, r1⟩ := cr.l2
      cases r0.str_inv
      cases r1.int_inv
      have hn : 1 ≤ n ∧ n ≤ 60 := hc
      refine ⟨_, rfl, ca, _, 0, _, rfl, rfl, cs, rfl, rfl, _, rfl, iteDT rfl ?_⟩
      refine ⟨_, rfl, ca, _, rfl, cs, rfl, _, _, rfl, _, _, rfl, rfl, ?_⟩
      refine ⟨_, rfl, _, rfl, _, _, rfl, rfl, .inl ⟨by omega, by omega⟩, _, rfl, _, rfl, _, _, rfl, rfl, .inl ⟨by omega, by omega⟩, (by show 2 ≤ sizeLine; decide), fun q hq => fin _ _ q rfl hq⟩
    | counted wd lo hi =>
      obtain ⟨ca, xs, rfl, cs, cr⟩ := Rep.inv (ds := [.str "counted", .str wd, .int lo, .int hi]) rc
      obtain ⟨u0, u1, u2, u3, rfl, r0, r1, r2, r3⟩ := cr.l4
      cases r0.str_inv
      cases r1.str_inv
      cases r2.int_inv
      cases r3.int_inv
      obtain ⟨hw, h0, h1, h2, h3⟩ := hc
      refine ⟨_, rfl, ca, _, 0, _, rfl, rfl, cs, rfl, rfl, _, rfl, iteDF (by decide +kernel) ?_⟩
      refine ⟨_, rfl, ca, _, 0, _, rfl, rfl, cs, rfl, rfl, _, rfl, iteDT rfl ?_⟩
      refine ⟨_, rfl, ca, _, rfl, cs, rfl, _, _, rfl, _, _, rfl, _, _, rfl, _, _, rfl, rfl, ?_⟩
      refine ⟨_, rfl, wd, _, rfl, wsz_of hw, ?_⟩
      refine ⟨_, rfl, _, rfl, _, rfl, _, _, rfl, rfl, .inl ⟨by omega, by omega⟩, _, _, rfl, rfl, _, rfl, _, rfl, _, rfl, _, _, rfl, rfl, .inl ⟨by omega, by omega⟩, _, _, rfl, rfl, (by show 2 ≤ sizeLine; decide), fun q hq => fin _ _ q rfl hq⟩
    | marked n =>
      obtain ⟨ca, xs, rfl, cs, cr⟩ := Rep.inv (ds := [.str "marked", .int n]) rc
      obtain ⟨u0, u1, rfl, r0, r1⟩ := cr.l2
      cases r0.str_inv
      cases r1.int_inv
      have hn : 1 ≤ n ∧ n ≤ 60 := hc
      refine ⟨_, rfl, ca, _, 0, _, rfl, rfl, cs, rfl, rfl, _, rfl, iteDF (by decide +kernel) ?_⟩
      refine ⟨_, rfl, ca, _, 0, _, rfl, rfl, cs, rfl, rfl, _, rfl, iteDF (by decide +kernel) ?_⟩
      refine ⟨_, rfl, ca, _, rfl, cs, rfl, _, _, rfl, _, _, rfl, rfl, ?_⟩
      refine ⟨_, rfl, _, rfl, _, _, rfl, rfl, _, _, rfl, rfl, .inl ⟨by omega, by omega⟩, _, _, rfl, rfl, (by show 2 ≤ sizeLine; decide), fun q hq => fin _ _ q rfl hq⟩

/-! def plain_size -/
def Plain (x : Item) (n : Int) : Prop := match x with
  | .word w _ => n = wsize w
  | .literal d => n = (d.length : Int)
  | .reserved m => n = m
  | .check _ => n = 1
  | _ => False
def sp_plain_size (K : PySem.W.Frag) : Sp := fun vs H Q _ => ∃ (v : V) (x : Item) (n : Int), vs = [v] ∧ Rep K H v (encItem x) ∧ ItemOk x ∧ Plain x n ∧ Q (.int n) H
theorem ok_plain_size (T : Txt K w mg A) : FnOk P w K mg base CX0 2 A.plain_size.f A.plain_size.fd ["item"] (sp_plain_size K) := by
  have G_word_size : FnOk P w K mg base CX0 1 A.word_size.f A.word_size.fd ["word"] (sp_word_size K) := ok_word_size T
  refine T.F_plain_size.ok sc_plain_size (fun vs H Q E h => ?_) (fun cdv Ar outer s H vs Q E hr h => ?_)
  · obtain ⟨v, x, n, rfl, _⟩ := h; rfl
  · obtain ⟨v, x, n, rfl, rx, hx, hp, k⟩ := h
    refine ⟨_, (pss_cons (ps_set (i := 1) sc_plain_size.nd rfl (.inl rfl) (pe_ix ix_tup (pv 0) pe_int (fun _ _ => rfl)))
        (pss_cons (ps_if (pt_cmpR op_eq (pv 1) pe_str (nomark _)) (pss_one (ps_ret (pe_call G_word_size (hr.mono (by decide)) (by rfl) T.g_word_size T.F_word_size.kp T.b_word_size .nil pass0 (pa_cons (pe_ix ix_tup (pv 0) pe_int (fun _ _ => rfl)) pa_nil)))) pss_nil)
        (pss_cons (ps_if (pt_cmpR op_eq (pv 1) pe_str (nomark _)) (pss_one (ps_ret (pe_callB call_len_seq (by rfl) T.n_len (by decide +kernel) (pa_cons (pe_ix ix_tup (pv 0) pe_int (fun _ _ => rfl)) pa_nil)))) pss_nil)
        (pss_cons (ps_if (pt_cmpR op_eq (pv 1) pe_str (nomark _)) (pss_one (ps_ret (pe_ix ix_tup (pv 0) pe_int (fun _ _ => rfl)))) pss_nil)
        (pss_one (ps_ret pe_int)))))), ?_⟩
    cases x with
    | word wd ps =>
      cases (show n = wsize wd from hp)
      obtain ⟨a, xs, rfl, s, r⟩ := Rep.inv (ds := [.str "word", .str wd, .tuple (ps.map encPart)]) rx
      obtain ⟨u0, u1, u2, rfl, r0, r1, r2⟩ := r.l3
      cases r0.str_inv
      cases r1.str_inv
      refine ⟨_, rfl, a, _, 0, _, rfl, rfl, s, rfl, ?_⟩
      refine ⟨_, rfl, rfl, _, rfl, iteDT rfl ?_⟩
      exact ⟨_, rfl, a, _, 1, _, rfl, rfl, s, rfl, wd, _, rfl, wsz_of hx.1, k⟩
    | literal d =>
      cases (show n = (d.length : Int) from hp)
      obtain ⟨a, xs, rfl, s, r⟩ := Rep.inv (ds := [.str "literal", .tuple (d.map PyData.int)]) rx
      obtain ⟨u0, u1, rfl, r0, r1⟩ := r.l2
      cases r0.str_inv
      obtain ⟨b, ys, rfl, t, rr⟩ := r1.inv
      have hl := rr.len
      rw [List.length_map] at hl
      refine ⟨_, rfl, a, _, 0, _, rfl, rfl, s, rfl, ?_⟩
      refine ⟨_, rfl, rfl, _, rfl, iteDF (by decide +kernel) ?_⟩
      refine ⟨_, rfl, rfl, _, rfl, iteDT rfl ?_⟩
      refine ⟨_, rfl, a, _, 1, _, rfl, rfl, s, rfl, b, ys, rfl, .inr t, ?_⟩
      rw [hl]
      exact k
    | reserved m =>
      cases (show n = m from hp)
      obtain ⟨a, xs, rfl, s, r⟩ := Rep.inv (ds := [.str "reserved", .int n]) rx
      obtain ⟨u0, u1, rfl, r0, r1⟩ := r.l2
      cases r0.str_inv
      cases r1.int_inv
      refine ⟨_, rfl, a, _, 0, _, rfl, rfl, s, rfl, ?_⟩
      refine ⟨_, rfl, rfl, _, rfl, iteDF (by decide +kernel) ?_⟩
      refine ⟨_, rfl, rfl, _, rfl, iteDF (by decide +kernel) ?_⟩
      refine ⟨_, rfl, rfl, _, rfl, iteDT rfl ?_⟩
      exact ⟨_, rfl, a, _, 1, _, rfl, rfl, s, rfl, k⟩
    | check m =>
      cases (show n = 1 from hp)
      obtain ⟨a, xs, rfl, s, r⟩ := Rep.inv (ds := [.str "check", .str m]) rx
      obtain ⟨u0, u1, rfl, r0, r1⟩ := r.l2
      cases r0.str_inv
      refine ⟨_, rfl, a, _, 0, _, rfl, rfl, s, rfl, ?_⟩
      refine ⟨_, rfl, rfl, _, rfl, iteDF (by decide +kernel) ?_⟩
      refine ⟨_, rfl, rfl, _, rfl, iteDF (by decide +kernel) ?_⟩
      refine ⟨_, rfl, rfl, _, rfl, iteDF (by decide +kernel) ?_⟩
      exact k
    | array => exact hp.elim
    | list => exact hp.elim
    | choice => exact hp.elim
    | record => exact hp.elim

/-! def sizes -/
def sp_sizesD (d : Nat) (K : PySem.W.Frag) : Sp := fun vs H Q _ => ∃ (v : V) (items : List Item), vs = [v] ∧ Rep K H v (.tuple (encItems items)) ∧ ScopeOk items ∧ depthL items < d ∧
  ∀ (H' : Hp) (w : V), Same H H' → Rep K H' w (encSz (sizeL items)) → Q w H'
def sp_itemD (d : Nat) (K : PySem.W.Frag) : Sp := fun vs H Q _ => ∃ (v : V) (x : Item), vs = [v] ∧ Rep K H v (encItem x) ∧ ItemOk x ∧ depthI x < d ∧
  ∀ (H' : Hp) (w : V), Same H H' → Rep K H' w (encSz (sizeI x)) → Q w H'
def sp_choiceD (d : Nat) (K : PySem.W.Frag) : Sp := fun vs H Q _ => ∃ (z : Str) (v : V) (cases : List (Int × Str × List Item)), vs = [.str z, v] ∧ WordOk z ∧ Rep K H v (.tuple (encCases cases)) ∧ cases ≠ [] ∧ cases.length ≤ 9 ∧ CasesOk cases ∧ depthC cases < d ∧
  ∀ (H' : Hp) (w : V), Same H H' → Rep K H' w (encSz (sizeChoice z (sizeC cases))) → Q w H'
def sp_sizes (K : PySem.W.Frag) : Sp := sp_sizesD 4 K
theorem st_choice_sizes {d L : Nat} (T : Txt K w mg A) (hL : 5 ≤ L) (G_sizes : FnOk P w K mg base CX0 L A.sizes.f A.sizes.fd ["layout"] (sp_sizesD d K)) : FnOk P w K mg base CX0 (L + 1) A.choice_sizes.f A.choice_sizes.fd ["word", "cases"] (sp_choiceD d K) := by
  have G_word_size : FnOk P w K mg base CX0 1 A.word_size.f A.word_size.fd ["word"] (sp_word_size K) := ok_word_size T

  refine T.F_choice_sizes.ok sc_choice_sizes (fun vs H Q E h => ?_) (fun cdv Ar outer s H vs Q E hr h => ?_)
  · obtain ⟨z, v, cases, rfl, _⟩ := h; rfl
  · obtain ⟨z, v, cases, rfl, hz, hrep, hne, hlen, hok, hdp, k⟩ := h
    refine ⟨_, (pss_cons (ps_setLc (i := 2) (own := [("_", 3), ("items", 4)]) (g := (gTup K 3 (gCons (gName 3) (gCons (gName 3) (gCons (gName 4) gNil))))) (tt := tYes) (by rfl) sc_choice_sizes.nd rfl rfl (sw_true rfl rfl rfl (by decide +kernel)) (pi_tup (pv 1)) (blkOk_by (own := [("_", 3), ("items", 4)]) (N := ["word", "cases", "inner", "_", "items", "shortest", "least", "longest", "greatest", "stored"]) (sc := defScope s_choice_sizes) (by decide +kernel)) (fun _ _ _ _ _ => (pg_tup (by rfl) (pgs_cons (pg_name (i := 3) sc_choice_sizes.nd rfl (Or.inl rfl)) (pgs_cons (pg_name (i := 3) sc_choice_sizes.nd rfl (Or.inl rfl)) (pgs_cons (pg_name (i := 4) sc_choice_sizes.nd rfl (Or.inl rfl)) pgs_nil))))) (fun _ _ _ _ _ => pts_nil) (fun _ _ _ _ _ => (pe_call G_sizes (hr.mono (by omega)) (by rfl) T.g_sizes T.F_sizes.kp T.b_sizes .nil pass0 (pa_cons (pv 4) pa_nil))))
        (pss_cons (ps_set (i := 5) sc_choice_sizes.nd rfl (.inl rfl) (pe_callB (cr_min rfl) (by rfl) T.n_min (by decide +kernel) (pa_cons (pe_lc (own := [("least", 6), ("_", 3)]) (g := (gTup K 2 (gCons (gName 6) (gCons (gName 3) gNil)))) (tt := tYes) (by rfl) sc_choice_sizes.nd (pi_list (pv 2)) (blkOk_by (own := [("least", 6), ("_", 3)]) (N := ["word", "cases", "inner", "_", "items", "shortest", "least", "longest", "greatest", "stored"]) (sc := defScope s_choice_sizes) (by decide +kernel)) (fun _ _ _ _ _ => (pg_tup (by rfl) (pgs_cons (pg_name (i := 6) sc_choice_sizes.nd rfl (Or.inl rfl)) (pgs_cons (pg_name (i := 3) sc_choice_sizes.nd rfl (Or.inl rfl)) pgs_nil)))) (fun _ _ _ _ _ => pts_nil) (fun _ _ _ _ _ => (pv 6))) pa_nil)))
        (pss_cons (ps_set (i := 7) sc_choice_sizes.nd rfl (.inl rfl) (pe_callB (cr_max rfl) (by rfl) T.n_max (by decide +kernel) (pa_cons (pe_lc (own := [("_", 3), ("greatest", 8)]) (g := (gTup K 2 (gCons (gName 3) (gCons (gName 8) gNil)))) (tt := tYes) (by rfl) sc_choice_sizes.nd (pi_list (pv 2)) (blkOk_by (own := [("_", 3), ("greatest", 8)]) (N := ["word", "cases", "inner", "_", "items", "shortest", "least", "longest", "greatest", "stored"]) (sc := defScope s_choice_sizes) (by decide +kernel)) (fun _ _ _ _ _ => (pg_tup (by rfl) (pgs_cons (pg_name (i := 3) sc_choice_sizes.nd rfl (Or.inl rfl)) (pgs_cons (pg_name (i := 8) sc_choice_sizes.nd rfl (Or.inl rfl)) pgs_nil)))) (fun _ _ _ _ _ => pts_nil) (fun _ _ _ _ _ => (pv 8))) pa_nil)))
        (pss_cons (ps_set (i := 9) sc_choice_sizes.nd rfl (.inl rfl) (pe_call G_word_size (hr.mono (by omega)) (by rfl) T.g_word_size T.F_word_size.kp T.b_word_size .nil pass0 (pa_cons (pv 0) pa_nil)))
        (pss_one (ps_ret (pe_tup (pa_cons (pe_op op_add (pv 9) (pv 5)) (pa_cons (pe_op op_add (pv 9) (pv 7)) pa_nil))))))))), ?_⟩
    obtain ⟨a, ys, rfl, hs, hyl, hall, _⟩ := Rep.item hrep
    rw [encCases_len] at hyl
    -- inner
    refine ⟨_, rfl, a, rfl, ⟨_, hs⟩, fun D hD => lc_tup (K := K) (a := a) (xs := ys) (fun i H2 => Same H H2 ∧ ∃ acc : List V, H2 D = some (.lst acc) ∧ RepAll K H2 acc (((sizeC cases).take i).map encSz)) ⟨same_upd hD, [], upd_same, .nil⟩ (fun i H2 _ h2 => Imm.same h2.1 _ _ hs) ?_ ?_⟩
    · rintro i y H2 hi ⟨s2, acc, h2, ra⟩
      obtain ⟨dd, hd, rd⟩ := hall.at hi
      obtain ⟨cn, cz, its, hc, rfl⟩ := encCases_get _ _ _ hd
      have hcm := List.mem_of_getElem? hc
      have hle := case_le hcm
      obtain ⟨ea, exs, rfl, esq, er⟩ := Rep.inv (ds := [.int cn, .str cz, .tuple (encItems its)]) (rd.up (Imm.same (K := K) s2))
      obtain ⟨w0, w1, w2, rfl, r0, r1, r2⟩ := er.l3
      have hal := ra.len
      rw [List.length_map, List.length_take] at hal
      have hcl := sizeC_len cases
      refine ⟨ea, _, rfl, esq, rfl, _, _, rfl, _, _, rfl, _, _, rfl, rfl, rfl, _, rfl, w2, its, rfl, r2, case_ok hok hcm, by omega, fun H3 w s3 r3 => ⟨acc, s3 _ _ h2, small1000 (by omega), fun b o eb => ?_, acc ++ [w], upd_same, ?_⟩⟩
      · rw [upd_ne (ne_of_none eb hD)]
        exact s3 b o (s2 b o eb)
      · have m4 : Imm K H3 (upd H3 D (.lst (acc ++ [w]))) := Imm.put (s3 _ _ h2)
        rw [take_next (sizeC_get _ _ _ _ _ hc), List.map_append]
        exact (ra.up ((Imm.same s3).trans m4)).append (.cons (r3.up m4) .nil)
    · rintro H2 ⟨s2, acc, h2, ra⟩
      rw [hyl, List.take_of_length_le (by rw [sizeC_len]; exact Nat.le_refl _)] at ra
      have hal := ra.len
      rw [List.length_map, sizeC_len] at hal
      have hpos : 0 < cases.length := List.length_pos_iff.mpr hne
      -- shortest
      refine ⟨_, rfl, D, rfl, ⟨_, SqL.of h2⟩, fun C hC => lc_list (K := K) (a := D) (xs := acc) (fun i H3 => Same H2 H3 ∧ H3 C = some (.lst (((((sizeC cases).map Prod.fst).take i)).map V.int))) ⟨same_upd hC, upd_same⟩ (fun i H3 _ h3 => SqL.of (h3.1 _ _ h2)) ?_ ?_⟩
      · rintro i y H3 hi ⟨s3, h3⟩
        obtain ⟨p, pa, hp, rfl, hpa⟩ := pairs_take ra hi
        have hil : i < acc.length := (List.getElem?_eq_some_iff.mp hi).1
        refine ⟨pa, _, rfl, (Imm.same s3) _ _ hpa, rfl, _, _, rfl, _, _, rfl, rfl, rfl, _, rfl, _, h3, ?_, fun b o eb => ?_, ?_⟩
        · rw [List.length_map, List.length_take]
          exact Nat.lt_of_le_of_lt (Nat.min_le_left _ _) (small1000 (by omega))
        · rw [upd_ne (ne_of_none eb hC)]
          exact s3 b o eb
        · rw [upd_same, take_next (x := p.1) (by rw [List.getElem?_map, hp]; rfl), List.map_append]
          rfl
      · rintro H3 ⟨s3, h3⟩
        rw [List.take_of_length_le (by rw [List.length_map, sizeC_len, hal]; exact Nat.le_refl _)] at h3
        refine ⟨C, _, rfl, SqL.of h3, by rw [List.length_map, sizeC_len]; exact hpos, fun m hm1 hm2 => ?_⟩
        have hmin := lmin_is hm1 hm2
        subst hmin
        -- longest
        have h2' := s3 _ _ h2
        refine ⟨_, rfl, D, rfl, ⟨_, SqL.of h2'⟩, fun B hB => lc_list (K := K) (a := D) (xs := acc) (fun i H4 => Same H3 H4 ∧ H4 B = some (.lst (((((sizeC cases).map Prod.snd).take i)).map V.int))) ⟨same_upd hB, upd_same⟩ (fun i H4 _ h4 => SqL.of (h4.1 _ _ h2')) ?_ ?_⟩
        · rintro i y H4 hi ⟨s4, h4⟩
          obtain ⟨p, pa, hp, rfl, hpa⟩ := pairs_take ra hi
          have hil : i < acc.length := (List.getElem?_eq_some_iff.mp hi).1
          refine ⟨pa, _, rfl, (Imm.same (s3.trans s4)) _ _ hpa, rfl, _, _, rfl, _, _, rfl, rfl, rfl, _, rfl, _, h4, ?_, fun b o eb => ?_, ?_⟩
          · rw [List.length_map, List.length_take]
            exact Nat.lt_of_le_of_lt (Nat.min_le_left _ _) (small1000 (by omega))
          · rw [upd_ne (ne_of_none eb hB)]
            exact s4 b o eb
          · rw [upd_same, take_next (x := p.2) (by rw [List.getElem?_map, hp]; rfl), List.map_append]
            rfl
        · rintro H4 ⟨s4, h4⟩
          rw [List.take_of_length_le (by rw [List.length_map, sizeC_len, hal]; exact Nat.le_refl _)] at h4
          refine ⟨B, _, rfl, SqL.of h4, by rw [List.length_map, sizeC_len]; exact hpos, fun m hm1 hm2 => ?_⟩
          have hmax := lmax_is hm1 hm2
          subst hmax
          refine ⟨_, rfl, z, _, rfl, wsz_of hz, ?_⟩
          refine ⟨_, rfl, _, rfl, _, _, rfl, rfl, _, rfl, _, rfl, _, _, rfl, rfl, (by show 2 ≤ sizeLine; decide), fun q hq => ?_⟩
          exact k _ _ (((s2.trans s3).trans s4).trans (same_upd hq)) (.tup (SqT.of upd_same) (.cons (.int _) (.cons (.int _) .nil)))
theorem st_item_sizes {d L : Nat} (T : Txt K w mg A) (hL : 5 ≤ L) (G_sizes : FnOk P w K mg base CX0 L A.sizes.f A.sizes.fd ["layout"] (sp_sizesD d K)) (G_choice_sizes : FnOk P w K mg base CX0 (L + 1) A.choice_sizes.f A.choice_sizes.fd ["word", "cases"] (sp_choiceD d K)) :
    FnOk P w K mg base CX0 (L + 2) A.item_sizes.f A.item_sizes.fd ["item"] (sp_itemD (d + 1) K) := by
  have G_counted_sizes : FnOk P w K mg base CX0 2 A.counted_sizes.f A.counted_sizes.fd ["count", "element_sizes"] (sp_counted_sizes K) := ok_counted_sizes T
  have G_fixed_sizes : FnOk P w K mg base CX0 1 A.fixed_sizes.f A.fixed_sizes.fd ["size"] (sp_fixed_sizes K) := ok_fixed_sizes T
  have G_plain_size : FnOk P w K mg base CX0 2 A.plain_size.f A.plain_size.fd ["item"] (sp_plain_size K) := ok_plain_size T
  have G_word_size : FnOk P w K mg base CX0 1 A.word_size.f A.word_size.fd ["word"] (sp_word_size K) := ok_word_size T

  refine T.F_item_sizes.ok sc_item_sizes (fun vs H Q E h => ?_) (fun cdv Ar outer s H vs Q E hr h => ?_)
  · obtain ⟨v, x, rfl, _⟩ := h; rfl
  · obtain ⟨v, x, rfl, rx, hx, hdp, k⟩ := h
    refine ⟨_, (pss_cons (ps_set (i := 1) sc_item_sizes.nd rfl (.inl rfl) (pe_ix ix_tup (pv 0) pe_int (fun _ _ => rfl)))
        (pss_cons (ps_if (pt_cmpR op_eq (pv 1) pe_str (nomark _)) (pss_cons (ps_asg (pv 0) (pg_tup (by rfl) (pgs_cons (pg_name (i := 2) sc_item_sizes.nd rfl (Or.inl rfl)) (pgs_cons (pg_name (i := 2) sc_item_sizes.nd rfl (Or.inl rfl)) (pgs_cons (pg_name (i := 3) sc_item_sizes.nd rfl (Or.inl rfl)) (pgs_cons (pg_name (i := 2) sc_item_sizes.nd rfl (Or.inl rfl)) (pgs_cons (pg_name (i := 4) sc_item_sizes.nd rfl (Or.inl rfl)) (pgs_cons (pg_name (i := 2) sc_item_sizes.nd rfl (Or.inl rfl)) (pgs_cons (pg_name (i := 2) sc_item_sizes.nd rfl (Or.inl rfl)) pgs_nil)))))))))
        (pss_one (ps_ret (pe_call G_counted_sizes (hr.mono (by omega)) (by rfl) T.g_counted_sizes T.F_counted_sizes.kp T.b_counted_sizes .nil pass0 (pa_cons (pv 4) (pa_cons (pe_call G_fixed_sizes (hr.mono (by omega)) (by rfl) T.g_fixed_sizes T.F_fixed_sizes.kp T.b_fixed_sizes .nil pass0 (pa_cons (pe_call G_word_size (hr.mono (by omega)) (by rfl) T.g_word_size T.F_word_size.kp T.b_word_size .nil pass0 (pa_cons (pv 3) pa_nil)) pa_nil)) pa_nil)))))) pss_nil)
        (pss_cons (ps_if (pt_cmpR op_eq (pv 1) pe_str (nomark _)) (pss_cons (ps_asg (pv 0) (pg_tup (by rfl) (pgs_cons (pg_name (i := 2) sc_item_sizes.nd rfl (Or.inl rfl)) (pgs_cons (pg_name (i := 2) sc_item_sizes.nd rfl (Or.inl rfl)) (pgs_cons (pg_name (i := 4) sc_item_sizes.nd rfl (Or.inl rfl)) (pgs_cons (pg_name (i := 5) sc_item_sizes.nd rfl (Or.inl rfl)) pgs_nil))))))
        (pss_one (ps_ret (pe_call G_counted_sizes (hr.mono (by omega)) (by rfl) T.g_counted_sizes T.F_counted_sizes.kp T.b_counted_sizes .nil pass0 (pa_cons (pv 4) (pa_cons (pe_call G_sizes (hr.mono (by omega)) (by rfl) T.g_sizes T.F_sizes.kp T.b_sizes .nil pass0 (pa_cons (pv 5) pa_nil)) pa_nil)))))) pss_nil)
        (pss_cons (ps_if (pt_cmpR op_eq (pv 1) pe_str (nomark _)) (pss_cons (ps_asg (pv 0) (pg_tup (by rfl) (pgs_cons (pg_name (i := 2) sc_item_sizes.nd rfl (Or.inl rfl)) (pgs_cons (pg_name (i := 2) sc_item_sizes.nd rfl (Or.inl rfl)) (pgs_cons (pg_name (i := 3) sc_item_sizes.nd rfl (Or.inl rfl)) (pgs_cons (pg_name (i := 6) sc_item_sizes.nd rfl (Or.inl rfl)) pgs_nil))))))
        (pss_one (ps_ret (pe_call G_choice_sizes (hr.mono (by omega)) (by rfl) T.g_choice_sizes T.F_choice_sizes.kp T.b_choice_sizes .nil pass0 (pa_cons (pv 3) (pa_cons (pv 6) pa_nil)))))) pss_nil)
        (pss_cons (ps_if (pt_cmpR op_eq (pv 1) pe_str (nomark _)) (pss_cons (ps_asg (pv 0) (pg_tup (by rfl) (pgs_cons (pg_name (i := 2) sc_item_sizes.nd rfl (Or.inl rfl)) (pgs_cons (pg_name (i := 2) sc_item_sizes.nd rfl (Or.inl rfl)) (pgs_cons (pg_name (i := 5) sc_item_sizes.nd rfl (Or.inl rfl)) pgs_nil)))))
        (pss_one (ps_ret (pe_call G_sizes (hr.mono (by omega)) (by rfl) T.g_sizes T.F_sizes.kp T.b_sizes .nil pass0 (pa_cons (pv 5) pa_nil))))) pss_nil)
        (pss_one (ps_ret (pe_call G_fixed_sizes (hr.mono (by omega)) (by rfl) T.g_fixed_sizes T.F_fixed_sizes.kp T.b_fixed_sizes .nil pass0 (pa_cons (pe_call G_plain_size (hr.mono (by omega)) (by rfl) T.g_plain_size T.F_plain_size.kp T.b_plain_size .nil pass0 (pa_cons (pv 0) pa_nil)) pa_nil))))))))), ?_⟩
    cases x with
    | array name wd b c r dflt =>
      obtain ⟨a, xs, rfl, s, ra⟩ := Rep.inv (ds := [.str "array", .str name, .str wd, .bool b, encCount c, encR r, encO dflt]) rx
      obtain ⟨u0, u1, u2, u3, u4, u5, u6, rfl, r0, r1, r2, r3, r4, r5, r6⟩ := ra.l7
      cases r0.str_inv
      cases r2.str_inv
      refine ⟨_, rfl, a, _, 0, _, rfl, rfl, s, rfl, ?_⟩
      refine ⟨_, rfl, rfl, _, rfl, iteDT rfl ?_⟩
      refine ⟨_, rfl, a, _, rfl, s, rfl, _, _, rfl, _, _, rfl, _, _, rfl, _, _, rfl, _, _, rfl, _, _, rfl, _, _, rfl, rfl, ?_⟩
      refine ⟨_, rfl, _, rfl, wd, _, rfl, wsz_of hx.1, _, rfl, fun H2 w2 s2 rw2 => ?_⟩
      exact ⟨u4, w2, c, _, rfl, r4.up (Imm.same s2), rw2, hx.2.1, fun H3 w3 s3 rw3 => k _ _ (s2.trans s3) rw3⟩
    | list name c its =>
      obtain ⟨a, xs, rfl, s, ra⟩ := Rep.inv (ds := [.str "list", .str name, encCount c, .tuple (encItems its)]) rx
      obtain ⟨u0, u1, u2, u3, rfl, r0, r1, r2, r3⟩ := ra.l4
      cases r0.str_inv
      have hd1 : depthL its + 1 < d + 1 := hdp
      refine ⟨_, rfl, a, _, 0, _, rfl, rfl, s, rfl, ?_⟩
      refine ⟨_, rfl, rfl, _, rfl, iteDF (by decide +kernel) ?_⟩
      refine ⟨_, rfl, rfl, _, rfl, iteDT rfl ?_⟩
      refine ⟨_, rfl, a, _, rfl, s, rfl, _, _, rfl, _, _, rfl, _, _, rfl, _, _, rfl, rfl, ?_⟩
      refine ⟨_, rfl, _, rfl, u3, its, rfl, r3, ⟨hx.2.2, hx.2.1⟩, by omega, fun H2 w2 s2 rw2 => ?_⟩
      exact ⟨u2, w2, c, _, rfl, r2.up (Imm.same s2), rw2, hx.1, fun H3 w3 s3 rw3 => k _ _ (s2.trans s3) rw3⟩
    | choice name wd cases =>
      obtain ⟨a, xs, rfl, s, ra⟩ := Rep.inv (ds := [.str "choice", .str name, .str wd, .tuple (encCases cases)]) rx
      obtain ⟨u0, u1, u2, u3, rfl, r0, r1, r2, r3⟩ := ra.l4
      cases r0.str_inv
      cases r2.str_inv
      have hd1 : depthC cases + 1 < d + 1 := hdp
      refine ⟨_, rfl, a, _, 0, _, rfl, rfl, s, rfl, ?_⟩
      refine ⟨_, rfl, rfl, _, rfl, iteDF (by decide +kernel) ?_⟩
      refine ⟨_, rfl, rfl, _, rfl, iteDF (by decide +kernel) ?_⟩
      refine ⟨_, rfl, rfl, _, rfl, iteDT rfl ?_⟩
      refine ⟨_, rfl, a, _, rfl, s, rfl, _, _, rfl, _, _, rfl, _, _, rfl, _, _, rfl, rfl, ?_⟩
      exact ⟨_, rfl, _, rfl, wd, u3, cases, rfl, hx.1, r3, hx.2.1, hx.2.2.1, hx.2.2.2, by omega, fun H3 w3 s3 rw3 => k _ _ s3 rw3⟩
    | record name its =>
      obtain ⟨a, xs, rfl, s, ra⟩ := Rep.inv (ds := [.str "record", .str name, .tuple (encItems its)]) rx
      obtain ⟨u0, u1, u2, rfl, r0, r1, r2⟩ := ra.l3
      cases r0.str_inv
      have hd1 : depthL its + 1 < d + 1 := hdp
      refine ⟨_, rfl, a, _, 0, _, rfl, rfl, s, rfl, ?_⟩
      refine ⟨_, rfl, rfl, _, rfl, iteDF (by decide +kernel) ?_⟩
      refine ⟨_, rfl, rfl, _, rfl, iteDF (by decide +kernel) ?_⟩
      refine ⟨_, rfl, rfl, _, rfl, iteDF (by decide +kernel) ?_⟩
      refine ⟨_, rfl, rfl, _, rfl, iteDT rfl ?_⟩
      refine ⟨_, rfl, a, _, rfl, s, rfl, _, _, rfl, _, _, rfl, _, _, rfl, rfl, ?_⟩
      exact ⟨_, rfl, u2, its, rfl, r2, ⟨hx.2, hx.1⟩, by omega, fun H3 w3 s3 rw3 => k _ _ s3 rw3⟩
    | word wd ps =>
      have rx0 := rx
      obtain ⟨a, xs, rfl, s, _, _, iget⟩ := Rep.item (ds := [.str "word", .str wd, .tuple (ps.map encPart)]) rx
      obtain ⟨u0, hu0, ru0⟩ := iget 0 _ rfl
      cases ru0.str_inv
      refine ⟨_, rfl, a, _, _, _, rfl, rfl, s, hu0, ?_⟩
      refine ⟨_, rfl, rfl, _, rfl, iteDF (by decide +kernel) ?_⟩
      refine ⟨_, rfl, rfl, _, rfl, iteDF (by decide +kernel) ?_⟩
      refine ⟨_, rfl, rfl, _, rfl, iteDF (by decide +kernel) ?_⟩
      refine ⟨_, rfl, rfl, _, rfl, iteDF (by decide +kernel) ?_⟩
      exact ⟨_, rfl, _, _, wsize wd, rfl, rx0, hx, rfl, _, rfl, fun H3 w3 s3 rw3 => k _ _ s3 rw3⟩
    | literal z =>
      have rx0 := rx
      obtain ⟨a, xs, rfl, s, _, _, iget⟩ := Rep.item (ds := [.str "literal", .tuple (z.map PyData.int)]) rx
      obtain ⟨u0, hu0, ru0⟩ := iget 0 _ rfl
      cases ru0.str_inv
      refine ⟨_, rfl, a, _, _, _, rfl, rfl, s, hu0, ?_⟩
      refine ⟨_, rfl, rfl, _, rfl, iteDF (by decide +kernel) ?_⟩
      refine ⟨_, rfl, rfl, _, rfl, iteDF (by decide +kernel) ?_⟩
      refine ⟨_, rfl, rfl, _, rfl, iteDF (by decide +kernel) ?_⟩
      refine ⟨_, rfl, rfl, _, rfl, iteDF (by decide +kernel) ?_⟩
      exact ⟨_, rfl, _, _, (z.length : Int), rfl, rx0, hx, rfl, _, rfl, fun H3 w3 s3 rw3 => k _ _ s3 rw3⟩
    | reserved z =>
      have rx0 := rx
      obtain ⟨a, xs, rfl, s, _, _, iget⟩ := Rep.item (ds := [.str "reserved", .int z]) rx
      obtain ⟨u0, hu0, ru0⟩ := iget 0 _ rfl
      cases ru0.str_inv
      refine ⟨_, rfl, a, _, _, _, rfl, rfl, s, hu0, ?_⟩
      refine ⟨_, rfl, rfl, _, rfl, iteDF (by decide +kernel) ?_⟩
      refine ⟨_, rfl, rfl, _, rfl, iteDF (by decide +kernel) ?_⟩
      refine ⟨_, rfl, rfl, _, rfl, iteDF (by decide +kernel) ?_⟩
      refine ⟨_, rfl, rfl, _, rfl, iteDF (by decide +kernel) ?_⟩
      exact ⟨_, rfl, _, _, z, rfl, rx0, hx, rfl, _, rfl, fun H3 w3 s3 rw3 => k _ _ s3 rw3⟩
    | check z =>
      have rx0 := rx
      obtain ⟨a, xs, rfl, s, _, _, iget⟩ := Rep.item (ds := [.str "check", .str z]) rx
      obtain ⟨u0, hu0, ru0⟩ := iget 0 _ rfl
      cases ru0.str_inv
      refine ⟨_, rfl, a, _, _, _, rfl, rfl, s, hu0, ?_⟩
      refine ⟨_, rfl, rfl, _, rfl, iteDF (by decide +kernel) ?_⟩
      refine ⟨_, rfl, rfl, _, rfl, iteDF (by decide +kernel) ?_⟩
      refine ⟨_, rfl, rfl, _, rfl, iteDF (by decide +kernel) ?_⟩
      refine ⟨_, rfl, rfl, _, rfl, iteDF (by decide +kernel) ?_⟩
      exact ⟨_, rfl, _, _, 1, rfl, rx0, hx, rfl, _, rfl, fun H3 w3 s3 rw3 => k _ _ s3 rw3⟩
theorem st_sizes {d L : Nat} (T : Txt K w mg A) (G_item_sizes : FnOk P w K mg base CX0 L A.item_sizes.f A.item_sizes.fd ["item"] (sp_itemD d K)) : FnOk P w K mg base CX0 (L + 1) A.sizes.f A.sizes.fd ["layout"] (sp_sizesD d K) := by
  refine T.F_sizes.ok sc_sizes (fun vs H Q E h => ?_) (fun cdv Ar outer s H vs Q E hr h => ?_)
  · obtain ⟨v, items, rfl, _⟩ := h; rfl
  · obtain ⟨v, items, rfl, hrep, hok, hdp, k⟩ := h
    refine ⟨_, (pss_cons (ps_set (i := 1) sc_sizes.nd rfl (.inl rfl) pe_int)
        (pss_cons (ps_set (i := 2) sc_sizes.nd rfl (.inl rfl) pe_int)
        (pss_cons (ps_for PassesOwn.never rfl (pi_tup (pv 0)) (pg_name (i := 3) sc_sizes.nd rfl (Or.inl rfl)) (pss_cons (ps_asg (pe_call G_item_sizes (hr.mono (by omega)) (by rfl) T.g_item_sizes T.F_item_sizes.kp T.b_item_sizes .nil pass0 (pa_cons (pv 3) pa_nil)) (pg_tup (by rfl) (pgs_cons (pg_name (i := 4) sc_sizes.nd rfl (Or.inl rfl)) (pgs_cons (pg_name (i := 5) sc_sizes.nd rfl (Or.inl rfl)) pgs_nil))))
        (pss_cons (ps_aug (i := 1) sc_sizes.nd rfl (.inl rfl) (pv 4) ip_add)
        (pss_one (ps_aug (i := 2) sc_sizes.nd rfl (.inl rfl) (pv 5) ip_add)))))
        (pss_one (ps_ret (pe_tup (pa_cons (pv 1) (pa_cons (pv 2) pa_nil)))))))), ?_⟩
    obtain ⟨a, ys, rfl, hs, hyl, hall, _⟩ := Rep.item hrep
    rw [encItems_len] at hyl
    refine ⟨_, rfl, a, rfl, ⟨_, hs⟩, for_tup (K := K) (a := a) (xs := ys) (fun i σ H2 => ∃ (v3 v4 v5 : Option V), σ = [some (.ref a), some (.int (sizeL (items.take i)).1), some (.int (sizeL (items.take i)).2), v3, v4, v5] ∧ Same H H2) ⟨none, none, none, rfl, Same.refl _⟩ (fun i σ H2 _ ⟨_, _, _, _, s2⟩ => Imm.same s2 _ _ hs) ?_ ?_⟩
    · rintro i y σ H2 hi ⟨v3, v4, v5, rfl, s2⟩
      obtain ⟨d, hd, rd⟩ := hall.at hi
      obtain ⟨x, hx, rfl⟩ := encItems_get _ _ _ hd
      have hxm : x ∈ items := List.mem_of_getElem? hx
      have hxd := depthI_le hxm
      refine ⟨_, rfl, y, x, rfl, rd.up (Imm.same s2), itemsOk_mem hok.1 hxm, by omega, fun H3 w3 s3 r3 => ?_⟩
      obtain ⟨pa, rfl, ps⟩ := ints_rep r3
      refine ⟨pa, _, rfl, ps, rfl, _, _, rfl, _, _, rfl, rfl, ?_⟩
      refine ⟨_, rfl, _, rfl, _, _, rfl, rfl, ?_⟩
      refine ⟨_, rfl, _, rfl, _, _, rfl, rfl, ?_⟩
      refine ⟨some y, some (.int (sizeI x).1), some (.int (sizeI x).2), ?_, s2.trans s3⟩
      rw [sizeL_take_next hx]
      rfl
    · rintro σ H2 ⟨v3, v4, v5, rfl, s2⟩
      rw [hyl, List.take_length]
      refine ⟨_, rfl, _, rfl, (by show 2 ≤ sizeLine; decide), fun q hq => ?_⟩
      exact k _ _ (s2.trans (same_upd hq)) (.tup (SqT.of upd_same) (.cons (.int _) (.cons (.int _) .nil)))
theorem no_sizes (T : Txt K w mg A) : FnOk P w K mg base CX0 5 A.sizes.f A.sizes.fd ["layout"] (sp_sizesD 0 K) := by
  refine T.F_sizes.ok sc_sizes (fun vs H Q E h => ?_) (fun cdv Ar outer s H vs Q E hr h => ?_)
  · obtain ⟨v, items, rfl, _⟩ := h
    rfl
  · obtain ⟨v, items, _, _, _, h, _⟩ := h
    omega
theorem all_sizes (T : Txt K w mg A) : ∀ d : Nat, FnOk P w K mg base CX0 (5 + 3 * d) A.sizes.f A.sizes.fd ["layout"] (sp_sizesD d K)
  | 0 => no_sizes T
  | d + 1 => by
    have G := all_sizes T d
    exact st_sizes (L := 5 + 3 * d + 2) T (st_item_sizes T (by omega) G (st_choice_sizes T (by omega) G))
theorem ok_sizes (T : Txt K w mg A) : FnOk P w K mg base CX0 17 A.sizes.f A.sizes.fd ["layout"] (sp_sizes K) := all_sizes T 4


/-! def _law_tape -/
def sp_l_tape (K : PySem.W.Frag) : Sp := fun vs H Q _ => ∃ (a : Addr) (ns : List Int), vs = [.ref a] ∧ SqL K H a (ns.map V.int) ∧ ∀ (H' : Hp) (t tq : Addr), Same H H' → H t = none → H tq = none → Tape H' t tq → Q (.ref t) H'
theorem ok_l_tape (T : Txt K w mg A) : FnOk P w K mg base CX0 1 A.l_tape.f A.l_tape.fd ["script"] (sp_l_tape K) := by
  refine T.F_l_tape.ok sc_l_tape (fun vs H Q E h => ?_) (fun cdv Ar outer s H vs Q E hr h => ?_)
  · obtain ⟨a, ns, rfl, _⟩ := h; rfl
  · obtain ⟨a, ns, rfl, hS, k⟩ := h
    refine ⟨_, (pss_cons (ps_set (i := 1) sc_l_tape.nd rfl (.inl rfl) pe_int)
        (pss_cons (ps_for PassesOwn.never rfl (pi_list (pv 0)) (pg_name (i := 2) sc_l_tape.nd rfl (Or.inl rfl)) (pss_one (ps_set (i := 1) sc_l_tape.nd rfl (.inl rfl) (pe_op op_mod (pe_callTy call_int1 (by rfl) T.n_int (by decide +kernel) (pa_cons (pe_op op_add (pe_op op_mul (pv 1) pe_int) (pe_callB call_abs (by rfl) T.n_abs (by decide +kernel) (pa_cons (pe_callTy call_int1 (by rfl) T.n_int (by decide +kernel) (pa_cons (pv 2) pa_nil)) pa_nil))) pa_nil)) pe_int))))
        (pss_one (ps_ret (pe_lst (pa_cons (pe_callTy call_list_of (by rfl) T.n_list (by decide +kernel) (pa_cons (pv 0) pa_nil)) (pa_cons pe_int (pa_cons pe_int (pa_cons (pv 1) pa_nil))))))))), ?_⟩
    refine ⟨_, rfl, a, rfl, ⟨_, hS⟩, for_list (K := K) (a := a) (xs := ns.map V.int) (fun i σ H2 => ∃ (z : Int) (v : Option V), σ = [some (.ref a), some (.int z), v] ∧ H2 = H) ⟨_, _, rfl, rfl⟩ (fun i σ H2 _ ⟨_, _, _, e⟩ => by rw [e]; exact hS) ?_ ?_⟩
    · rintro i y σ H2 hi ⟨z, v, rfl, rfl⟩
      obtain ⟨n, rfl, _⟩ := map_int_at hi
      refine ⟨_, rfl, _, _, rfl, rfl, .inr ⟨by decide, by decide⟩, _, rfl, .inl ⟨_, rfl, _, rfl, _, _, rfl, rfl, .inl ⟨_, rfl, _, _, rfl, rfl, (by show (0 : Int) < _; decide), ?_⟩⟩⟩
      exact ⟨_, _, rfl, rfl⟩
    · rintro σ H2 ⟨z, v, rfl, rfl⟩
      refine ⟨_, rfl, a, _, rfl, .inl hS, fun q hq => ?_⟩
      refine ⟨_, rfl, (by show 4 ≤ sizeLine; decide), fun t ht => ?_⟩
      have s1 : Same H2 (upd H2 q (.lst (ns.map V.int))) := same_upd hq
      have nqt : q ≠ t := fun e => by
        rw [← e, upd_same] at ht
        cases ht
      refine k _ t q (s1.trans (same_upd ht)) (s1.free ht) hq ⟨ns, 0, 0, z, upd_same, ?_, by decide, by decide⟩
      rw [upd_ne nqt, upd_same]

/-! def _law_draw -/
def sp_l_draw (K : PySem.W.Frag) : Sp := fun vs H Q _ => ∃ (t : Addr) (m : Int) (q : Addr), vs = [.ref t, .int m] ∧ Tape H t q ∧ 1 ≤ m ∧ m < 1073741824 ∧ ∀ (H' : Hp) (v : Int), 0 ≤ v → v < m → Tape H' t q → Kept t H H' → Q (.int v) H'
theorem ok_l_draw (T : Txt K w mg A) : FnOk P w K mg base CX0 1 A.l_draw.f A.l_draw.fd ["tape", "many"] (sp_l_draw K) := by
  refine T.F_l_draw.ok sc_l_draw (fun vs H Q E h => ?_) (fun cdv Ar outer s H vs Q E hr h => ?_)
  · obtain ⟨t, m, q, rfl, _⟩ := h; rfl
  · obtain ⟨t, m, q, rfl, ⟨ns, p, h, s0, hT, hq, hp, hh⟩, hm1, hm2, k⟩ := h
    refine ⟨_, (C8.pss_cut (ps_if (pt_cmpR op_eq (pe_ix ix_list (pv 0) pe_int (fun _ _ => rfl)) pe_int (nomark _)) (pss_cons (ps_set (i := 2) sc_l_draw.nd rfl (.inl rfl) (pe_ix ix_list (pv 0) pe_int (fun _ _ => rfl)))
        (pss_cons (ps_set (i := 3) sc_l_draw.nd rfl (.inl rfl) pe_int)
        (C8.pss_cut (ps_if (pt_cmpR op_lt (pv 2) (pe_callB call_len_seq (by rfl) T.n_len (by decide +kernel) (pa_cons (pe_ix ix_list (pv 0) pe_int (fun _ _ => rfl)) pa_nil)) (nomark _)) (pss_one (ps_set (i := 3) sc_l_draw.nd rfl (.inl rfl) (pe_callB call_abs (by rfl) T.n_abs (by decide +kernel) (pa_cons (pe_callTy call_int1 (by rfl) T.n_int (by decide +kernel) (pa_cons (pe_ix ix_list (pe_ix ix_list (pv 0) pe_int (fun _ _ => rfl)) (pv 2) (fun _ _ => rfl)) pa_nil)) pa_nil)))) (pss_cons (ps_asg (pe_op op_mod (pe_callTy call_int1 (by rfl) T.n_int (by decide +kernel) (pa_cons (pe_op op_add (pe_op op_add (pe_op op_mul (pe_ix ix_list (pv 0) pe_int (fun _ _ => rfl)) pe_int) (pv 2)) pe_int) pa_nil)) pe_int) (pg_sub (pv 0) pe_int set_list))
        (pss_one (ps_set (i := 3) sc_l_draw.nd rfl (.inl rfl) (pe_ix ix_list (pv 0) pe_int (fun _ _ => rfl))))))
        (pss_cons (ps_asg (pe_op op_add (pv 2) pe_int) (pg_sub (pv 0) pe_int set_list))
        (pss_cons (ps_if (pt_cmpR op_lt (pv 3) (pe_op op_pow pe_int pe_int) (nomark _)) (pss_cons (ps_set (i := 3) sc_l_draw.nd rfl (.inl rfl) (pe_op op_mod (pe_callTy call_int1 (by rfl) T.n_int (by decide +kernel) (pa_cons (pe_op op_add (pe_op op_add (pe_op op_mul (pv 3) pe_int) (pe_op op_mul (pv 2) pe_int)) pe_int) pa_nil)) pe_int))
        (pss_cons (ps_set (i := 3) sc_l_draw.nd rfl (.inl rfl) (pe_op op_mod (pe_callTy call_int1 (by rfl) T.n_int (by decide +kernel) (pa_cons (pe_op op_mul (pv 3) pe_int) pa_nil)) pe_int))
        (pss_one (ps_ret (pe_op op_mod (pe_callTy call_int1 (by rfl) T.n_int (by decide +kernel) (pa_cons (pv 3) pa_nil)) (pe_callB (call_max2 rfl) (by rfl) T.n_max (by decide +kernel) (pa_cons (pv 1) (pa_cons pe_int pa_nil)))))))) pss_nil)
        (pss_one (ps_asg (pv 3) (pg_sub (pv 0) pe_int set_list)))))))) pss_nil)
        (pss_cons (ps_set (i := 3) sc_l_draw.nd rfl (.inl rfl) (pe_ix ix_list (pv 0) pe_int (fun _ _ => rfl)))
        (pss_cons (ps_asg (pe_op op_fdiv (pv 3) (pe_callB (call_max2 rfl) (by rfl) T.n_max (by decide +kernel) (pa_cons (pv 1) (pa_cons pe_int pa_nil)))) (pg_sub (pv 0) pe_int set_list))
        (pss_one (ps_ret (pe_op op_mod (pe_callTy call_int1 (by rfl) T.n_int (by decide +kernel) (pa_cons (pv 3) pa_nil)) (pe_callB (call_max2 rfl) (by rfl) T.n_max (by decide +kernel) (pa_cons (pv 1) (pa_cons pe_int pa_nil))))))))), ?_⟩
    have nqt : q ≠ t := tape_ne hT hq
    have e1 : (if (1 : Int) > m then (1 : Int) else m) = m := if_neg (by omega)
    have fin : ∀ (n : Int) (H' : Hp), Tape H' t q → Kept t H H' → Q (.int (n % (if (1 : Int) > m then (1 : Int) else m))) H' := fun n H' hT' hK' => by
      rw [e1]
      exact k H' _ (Int.emod_nonneg _ (by omega)) (Int.emod_lt_of_pos _ (by omega)) hT' hK'
    refine ⟨fun σ' H' => ∃ (x y : Option V), σ' = [some (.ref t), some (.int m), x, y] ∧ Tape H' t q ∧ Kept t H H', ?_, ?_⟩
    · refine ⟨_, rfl, t, _, _, _, rfl, rfl, SqL.of hT, rfl, rfl, _, rfl, ite2 (fun e => ?_) (fun e => ?_)⟩
      · have eh : h = 0 := dec_eq_int e
        refine ⟨_, rfl, t, _, _, _, rfl, rfl, SqL.of hT, rfl, ?_⟩
        refine ⟨fun σ' H' => ∃ (n s' : Int), 0 ≤ n ∧ σ' = [some (.ref t), some (.int m), some (.int p), some (.int n)] ∧ H' t = some (.lst [.ref q, .int p, .int h, .int s']) ∧ Kept t H H', ?_, ?_⟩
        · refine ⟨_, rfl, _, rfl, t, _, _, _, rfl, rfl, SqL.of hT, rfl, q, _, rfl, .inl (SqL.of hq), _, _, rfl, rfl, _, rfl, ite2 (fun e => ?_) (fun e => ?_)⟩
          · have hlt : p < (ns.map V.int).length := of_decide_eq_true e
            rw [List.length_map] at hlt
            have hj : p.toNat < ns.length := by omega
            have ha : atI (ns.map V.int) p = some (V.int ns[p.toNat]) := at_of (j := p.toNat) (by omega) (by rw [List.getElem?_map, List.getElem?_eq_getElem hj]; rfl)
            refine ⟨_, rfl, t, _, _, _, rfl, rfl, SqL.of hT, rfl, _, rfl, q, _, _, _, rfl, rfl, SqL.of hq, ha, .inl ⟨_, rfl, _, rfl, ?_⟩⟩
            exact ⟨_, s0, (by split <;> omega), rfl, hT, Kept.rfl⟩
          · refine ⟨_, rfl, t, _, _, _, rfl, rfl, SqL.of hT, rfl, _, _, rfl, rfl, .inr ⟨by decide, by decide⟩, _, rfl, _, _, rfl, rfl, _, _, rfl, rfl, .inl ⟨_, rfl, _, _, rfl, rfl, (by show (0 : Int) < _; decide), _, rfl, t, _, _, 3, rfl, rfl, hT, rfl, ?_⟩⟩
            refine ⟨_, rfl, t, _, _, _, rfl, rfl, SqL.of upd_same, rfl, ?_⟩
            exact ⟨_, _, Int.emod_nonneg _ (by decide), rfl, upd_same, Kept.rfl.put⟩
        · rintro σ' H' ⟨n, s', hn, rfl, hT', hK'⟩
          have hq' := hK' q _ nqt hq
          refine ⟨_, rfl, _, _, rfl, rfl, _, rfl, t, _, _, 1, rfl, rfl, hT', rfl, ?_⟩
          have hT2 : Tape (upd H' t (.lst [.ref q, .int (p + 1), .int h, .int s'])) t q := ⟨ns, p + 1, h, s', upd_same, by rw [upd_ne nqt]; exact hq', by omega, hh⟩
          refine ⟨_, rfl, _, _, rfl, rfl, ⟨by decide, by decide, by decide⟩, _, _, rfl, rfl, _, rfl, ite2 (fun e => ?_) (fun e => ?_)⟩
          · refine ⟨_, rfl, _, _, rfl, rfl, .inr ⟨by decide, by decide⟩, _, rfl, _, _, rfl, rfl, .inr ⟨by decide, by decide⟩, _, _, rfl, rfl, _, _, rfl, rfl, .inl ⟨_, rfl, _, _, rfl, rfl, (by show (0 : Int) < _; decide), ?_⟩⟩
            refine ⟨_, rfl, _, _, rfl, rfl, .inr ⟨by decide, by decide⟩, .inl ⟨_, rfl, _, _, rfl, rfl, (by show (0 : Int) < _; decide), ?_⟩⟩
            refine ⟨_, rfl, .inl ⟨_, rfl, _, rfl, _, _, rfl, _, _, rfl, rfl, (by rw [e1]; omega), ?_⟩⟩
            exact fin _ _ hT2 hK'.put
          · refine ⟨_, rfl, _, rfl, t, _, _, 2, rfl, rfl, upd_same, rfl, ?_⟩
            refine ⟨_, _, rfl, ⟨ns, p + 1, n, s', upd_same, ?_, by omega, hn⟩, hK'.put.put⟩
            rw [upd_ne nqt, upd_ne nqt]
            exact hq'
      · exact ⟨_, _, rfl, ⟨ns, p, h, s0, hT, hq, hp, hh⟩, Kept.rfl⟩
    · rintro σ' H' ⟨x, y, rfl, ⟨ns', p', h', s', hT', hq', hp', hh'⟩, hK'⟩
      have nqt' : q ≠ t := nqt
      have e2 : (0 : Int) < (if (2 : Int) > m then (2 : Int) else m) := by split <;> omega
      refine ⟨_, rfl, t, _, _, _, rfl, rfl, SqL.of hT', rfl, ?_⟩
      refine ⟨_, rfl, _, rfl, _, _, rfl, _, _, rfl, rfl, ⟨e2, by split <;> omega⟩, _, rfl, t, _, _, 2, rfl, rfl, hT', rfl, ?_⟩
      refine ⟨_, rfl, .inl ⟨_, rfl, _, rfl, _, _, rfl, _, _, rfl, rfl, (by rw [e1]; omega), ?_⟩⟩
      refine fin _ _ ⟨ns', p', _, s', upd_same, ?_, hp', Int.ediv_nonneg hh' (by omega)⟩ hK'.put
      rw [upd_ne nqt']
      exact hq'

/-! def _law_name -/
def nameSigns : Str := "abcdefghijklmnopqrstuvwxyzABCDEFGHIJKLMNOPQRSTUVWXYZ0123456789_"
def nameWords : Str := "signed case u8 in list default bits choice record literal reserved check marked sum xor i8 length value"
theorem nameSigns_at {v : Int} (h0 : 0 ≤ v) (h1 : v < 63) : ∃ c, atI nameSigns.cps.toList v = some c := by
  have hl : nameSigns.cps.toList.length = 63 := by decide +kernel
  obtain ⟨j, rfl⟩ : ∃ j : Nat, v = (j : Int) := ⟨v.toNat, by omega⟩
  exact ⟨_, atI_nat (List.getElem?_eq_getElem (by omega))⟩
theorem nameWords_at {v : Int} (h0 : 0 ≤ v) (h1 : v < 18) : ∃ z : Str, atI ((Txt.split nameWords " ").map V.str) v = some (.str z) ∧ z.length ≤ 20 := by
  have hl : (Txt.split nameWords " ").length = 18 := by decide +kernel
  have ha : ∀ z ∈ Txt.split nameWords " ", z.length ≤ 20 := by decide +kernel
  obtain ⟨j, rfl⟩ : ∃ j : Nat, v = (j : Int) := ⟨v.toNat, by omega⟩
  have hj : j < (Txt.split nameWords " ").length := by omega
  exact ⟨(Txt.split nameWords " ")[j], atI_nat (by rw [List.getElem?_map, List.getElem?_eq_getElem hj]; rfl), ha _ (List.getElem_mem hj)⟩
theorem sign1 (c : Nat) : Str.length ⟨#[c]⟩ = 1 := rfl
theorem all_flat : ∀ us : List Str, (us.map V.str).all flatV = true
  | [] => rfl
  | _ :: r => all_flat r
def sp_l_name (K : PySem.W.Frag) : Sp := fun vs H Q _ => ∃ (t u tq : Addr) (us : List Str), vs = [.ref t, .ref u] ∧ Tape H t tq ∧ u ≠ t ∧ u ≠ tq ∧ H u = some (.lst (us.map V.str)) ∧ us.length ≤ 1000 ∧ ∀ (H' : Hp) (z : Str), z.length ≤ 40 → Tape H' t tq → Kept t H H' → Q (.str z) H'
theorem ok_l_name (T : Txt K w mg A) : FnOk P w K mg base CX0 2 A.l_name.f A.l_name.fd ["tape", "used"] (sp_l_name K) := by
  have G_l_draw : FnOk P w K mg base CX0 1 A.l_draw.f A.l_draw.fd ["tape", "many"] (sp_l_draw K) := ok_l_draw T
  refine T.F_l_name.ok sc_l_name (fun vs H Q E h => ?_) (fun cdv Ar outer s H vs Q E hr h => ?_)
  · obtain ⟨t, u, tq, us, rfl, _⟩ := h; rfl
  · obtain ⟨t, u, tq, us, rfl, hT, nut, nuq, hu, hl, k⟩ := h
    refine ⟨_, (pss_cons (ps_set (i := 2) sc_l_name.nd rfl (.inl rfl) pe_str)
        (pss_cons (ps_set (i := 3) sc_l_name.nd rfl (.inl rfl) pe_str)
        (pss_cons (ps_set (i := 4) sc_l_name.nd rfl (.inl rfl) (pe_ix ix_list (pe_lst (pa_cons pe_str (pa_cons pe_str (pa_cons pe_str (pa_cons pe_str (pa_cons pe_str (pa_cons pe_str pa_nil))))))) (pe_call G_l_draw (hr.mono (by decide)) (by rfl) T.g_l_draw T.F_l_draw.kp T.b_l_draw .nil pass0 (pa_cons (pv 0) (pa_cons pe_int pa_nil))) (fun _ _ => rfl)))
        (C8.pss_cut (ps_if (pt_cmpR op_eq (pv 4) pe_str (nomark _)) (pss_one (ps_set (i := 4) sc_l_name.nd rfl (.inl rfl) (pe_ix ix_list (pe_split (pv 3) pe_str) (pe_call G_l_draw (hr.mono (by decide)) (by rfl) T.g_l_draw T.F_l_draw.kp T.b_l_draw .nil pass0 (pa_cons (pv 0) (pa_cons pe_int pa_nil))) (fun _ _ => rfl)))) pss_nil)
        (C8.pss_cut (ps_if (pt_cmpR op_eq (pv 4) pe_str (nomark _)) (pss_one (ps_set (i := 4) sc_l_name.nd rfl (.inl rfl) (pe_ix ix_str (pv 2) (pe_call G_l_draw (hr.mono (by decide)) (by rfl) T.g_l_draw T.F_l_draw.kp T.b_l_draw .nil pass0 (pa_cons (pv 0) (pa_cons pe_int pa_nil))) (fun _ _ => rfl)))) pss_nil)
        (pss_cons (ps_for PassesOwn.never rfl (pi_range1 rfl T.n_range (pa_cons (pe_ix ix_list (pe_lst (pa_cons pe_int (pa_cons pe_int (pa_cons pe_int (pa_cons pe_int pa_nil))))) (pe_call G_l_draw (hr.mono (by decide)) (by rfl) T.g_l_draw T.F_l_draw.kp T.b_l_draw .nil pass0 (pa_cons (pv 0) (pa_cons pe_int pa_nil))) (fun _ _ => rfl)) pa_nil)) (pg_name (i := 5) sc_l_name.nd rfl (Or.inl rfl)) (pss_one (ps_set (i := 4) sc_l_name.nd rfl (.inl rfl) (pe_op op_add_str (pv 4) (pe_ix ix_str (pv 2) (pe_call G_l_draw (hr.mono (by decide)) (by rfl) T.g_l_draw T.F_l_draw.kp T.b_l_draw .nil pass0 (pa_cons (pv 0) (pa_cons pe_int pa_nil))) (fun _ _ => rfl))))))
        (pss_cons (ps_set (i := 6) sc_l_name.nd rfl (.inl rfl) (pv 4))
        (pss_cons (ps_for PassesOwn.never rfl (pi_range1 rfl T.n_range (pa_cons (pe_callB call_len_seq (by rfl) T.n_len (by decide +kernel) (pa_cons (pv 1) pa_nil)) pa_nil)) (pg_name (i := 5) sc_l_name.nd rfl (Or.inl rfl)) (pss_one (ps_if (pt_cmpR op_in_seq (pv 6) (pv 1) rfl) (pss_one (ps_set (i := 6) sc_l_name.nd rfl (.inl rfl) (pe_op op_add_str (pv 4) (pe_callTy call_str_int (by rfl) T.n_str (by decide +kernel) (pa_cons (pv 5) pa_nil))))) pss_nil)))
        (pss_one (ps_ret (pv 6))))))))))), ?_⟩
    refine ⟨(by show 6 ≤ sizeLine; decide), fun l hl1 => ⟨_, rfl, t, 6, tq, rfl, hT.new hl1, by decide, by decide, fun H1 v hv0 hv1 hT1 hK1 => ?_⟩⟩
    have hz : ∃ z : Str, atI [V.str "", V.str "", V.str "", V.str "reading_of_stat", V.str "word", V.str "word"] v = some (.str z) ∧ z.length ≤ 15 := by
      rcases (show v = 0 ∨ v = 1 ∨ v = 2 ∨ v = 3 ∨ v = 4 ∨ v = 5 by omega) with rfl | rfl | rfl | rfl | rfl | rfl <;> exact ⟨_, rfl, by decide +kernel⟩
    obtain ⟨z0, hz0, hz1⟩ := hz
    have e1 := hK1 l _ (hT.off hl1).1 upd_same
    have hK : Kept t H H1 := (Same.kept (same_upd hl1)).trans hK1
    clear hK1
    refine ⟨l, _, _, _, rfl, rfl, SqL.of e1, hz0, ?_⟩
    refine ⟨fun σ' H' => ∃ z : Str, σ' = [some (.ref t), some (.ref u), some (.str nameSigns), some (.str nameWords), some (.str z), none, none] ∧ z.length ≤ 20 ∧ Tape H' t tq ∧ Kept t H H', ?_, ?_⟩
    · refine ⟨_, rfl, rfl, _, rfl, ite2 (fun e => ?_) (fun e => ?_)⟩
      · refine ⟨_, rfl, ⟨_, rfl⟩, _, _, rfl, rfl, by decide +kernel, by decide +kernel, fun p hp => ⟨_, rfl, t, 18, tq, rfl, hT1.new hp, by decide, by decide, fun H2 x hx0 hx1 hT2 hK2 => ?_⟩⟩
        obtain ⟨z, hz2, hz3⟩ := nameWords_at hx0 hx1
        have e2 := hK2 p _ (hT1.off hp).1 upd_same
        exact ⟨p, _, _, _, rfl, rfl, SqL.of e2, hz2, z, rfl, hz3, hT2, hK.trans ((Same.kept (same_upd hp)).trans hK2)⟩
      · exact ⟨z0, rfl, by omega, hT1, hK⟩
    · rintro σ' H' ⟨z, rfl, hzl, hT', hK'⟩
      refine ⟨fun σ' H2 => ∃ z : Str, σ' = [some (.ref t), some (.ref u), some (.str nameSigns), some (.str nameWords), some (.str z), none, none] ∧ z.length ≤ 20 ∧ Tape H2 t tq ∧ Kept t H H2, ?_, ?_⟩
      · refine ⟨_, rfl, rfl, _, rfl, ite2 (fun e => ?_) (fun e => ?_)⟩
        · refine ⟨_, rfl, _, rfl, t, 52, tq, rfl, hT', by decide, by decide, fun H2 x hx0 hx1 hT2 hK2 => ?_⟩
          obtain ⟨c, hc⟩ := nameSigns_at hx0 (by omega)
          exact ⟨_, _, _, rfl, rfl, by decide +kernel, hc, _, rfl, by rw [sign1]; decide, hT2, hK'.trans hK2⟩
        · exact ⟨z, rfl, hzl, hT', hK'⟩
      · rintro σ' H2 ⟨z, rfl, hzl, hT2, hK2⟩
        refine ⟨(by show 4 ≤ sizeLine; decide), fun l2 hl2 => ⟨_, rfl, t, 4, tq, rfl, hT2.new hl2, by decide, by decide, fun H3 y hy0 hy1 hT3 hK3 => ?_⟩⟩
        have hn : ∃ n : Nat, atI [V.int 0, V.int 0, V.int 1, V.int 2] y = some (.int (n : Int)) ∧ n ≤ 2 := by
          rcases (show y = 0 ∨ y = 1 ∨ y = 2 ∨ y = 3 by omega) with rfl | rfl | rfl | rfl
          · exact ⟨0, rfl, by decide⟩
          · exact ⟨0, rfl, by decide⟩
          · exact ⟨1, rfl, by decide⟩
          · exact ⟨2, rfl, by decide⟩
        obtain ⟨n, hn1, hn2⟩ := hn
        have e3 := hK3 l2 _ (hT2.off hl2).1 upd_same
        have hK3' : Kept t H H3 := hK2.trans ((Same.kept (same_upd hl2)).trans hK3)
        refine ⟨l2, _, _, _, rfl, rfl, SqL.of e3, hn1, _, rfl, by omega, by omega, for_range (n := n) (fun i σ H4 => ∃ (z : Str) (v5 : Option V), σ = [some (.ref t), some (.ref u), some (.str nameSigns), some (.str nameWords), some (.str z), v5, none] ∧ z.length ≤ 20 + i ∧ Tape H4 t tq ∧ Kept t H H4) ⟨z, none, rfl, by omega, hT3, hK3'⟩ ?_ ?_⟩
        · rintro i σ H4 hi ⟨z, v5, rfl, hzl, hT4, hK4⟩
          refine ⟨_, rfl, _, rfl, _, rfl, t, 63, tq, rfl, hT4, by decide, by decide, fun H5 x hx0 hx1 hT5 hK5 => ?_⟩
          obtain ⟨c, hc⟩ := nameSigns_at hx0 (by omega)
          refine ⟨_, _, _, rfl, rfl, by decide +kernel, hc, _, _, rfl, rfl, ?_, ?_⟩
          · rw [sign1]
            exact Nat.le_of_lt (small1000 (by omega))
          · exact ⟨_, _, rfl, by rw [strLen_append, sign1]; omega, hT5, hK4.trans hK5⟩
        · rintro σ H4 ⟨z, v5, rfl, hzl, hT4, hK4⟩
          have hu4 := hK4 u _ nut hu
          refine ⟨_, rfl, _, rfl, u, _, rfl, .inl (SqL.of hu4), _, rfl, ?_, ?_, for_range (n := (us.map V.str).length) (fun i σ H5 => ∃ (f : Str) (v5 : Option V), σ = [some (.ref t), some (.ref u), some (.str nameSigns), some (.str nameWords), some (.str z), v5, some (.str f)] ∧ f.length ≤ 40 ∧ H5 = H4) ⟨_, _, rfl, by omega, rfl⟩ ?_ ?_⟩
          · rw [List.length_map]
            omega
          · rw [List.length_map]
            omega
          · rintro i σ H5 hi ⟨f, v5, rfl, hfl, rfl⟩
            rw [List.length_map] at hi
            refine ⟨_, rfl, _, rfl, u, _, rfl, .inl (SqL.of hu4), rfl, all_flat us, _, rfl, ite2 (fun e => ?_) (fun e => ?_)⟩
            · have h10 : (PySem.Str.ofString (toString (0 + (i : Int)))).length ≤ 10 := toString_length_le (by omega) (by decide) (by omega)
              refine ⟨_, rfl, _, rfl, _, rfl, ?_, _, _, rfl, rfl, ?_, ?_⟩
              · have : (0 + (i : Int)).natAbs < 2 ^ 20 := by omega
                have h2 := PySem.Flt.log2_lt_of (by decide) this
                omega
              · exact Nat.le_of_lt (small1000 (by omega))
              · exact ⟨_, _, rfl, by rw [strLen_append]; omega, rfl⟩
            · exact ⟨_, _, rfl, hfl, rfl⟩
          · rintro σ H5 ⟨f, v5, rfl, hfl, rfl⟩
            exact ⟨_, rfl, k _ _ hfl hT4 hK4⟩

/-! def _law_runs -/
theorem RepAll.last {K : PySem.W.Frag} {H : Hp} : ∀ {xs : List V} {ds : List PyData} {d : PyData}, RepAll K H xs (ds ++ [d]) → ∃ ys v, xs = ys ++ [v] ∧ RepAll K H ys ds ∧ Rep K H v d
  | _, [], _, .cons a .nil => ⟨[], _, rfl, .nil, a⟩
  | _, e :: ds, d, h => by
    cases h with
    | cons a b =>
      obtain ⟨ys, v, rfl, h1, h2⟩ := RepAll.last b
      exact ⟨_ :: ys, v, rfl, .cons a h1, h2⟩
theorem ix_last (n : Nat) : ixN (n + 1) (-1) = some n := by
  unfold ixN
  rw [if_neg (by decide), if_pos (by omega)]
  congr 1
  omega
theorem set_last {α : Type} (ys : List α) (v u : α) : (ys ++ [v]).set ys.length u = ys ++ [u] := by
  rw [List.set_append_right _ _ (Nat.le_refl _), Nat.sub_self]
  rfl
/-- pairs of numbers of ns, the lesser one first -/
def RunsOk (ns : List Int) (rs : List (Int × Int)) : Prop := ∀ p ∈ rs, p.1 ≤ p.2 ∧ p.1 ∈ ns ∧ p.2 ∈ ns
def sp_l_runs (K : PySem.W.Frag) : Sp := fun vs H Q _ => ∃ (a : Addr) (ns : List Int), vs = [.ref a] ∧ SqL K H a (ns.map V.int) ∧ ns.length ≤ 1000 ∧
  ∀ (H' : Hp) (v : V) (rs : List (Int × Int)), Same H H' → Rep K H' v (.tuple (rs.map encPair)) → (ns ≠ [] → rs ≠ []) → RunsOk ns rs → rs.length ≤ ns.length → Q v H'
theorem ok_l_runs (T : Txt K w mg A) : FnOk P w K mg base CX0 1 A.l_runs.f A.l_runs.fd ["numbers"] (sp_l_runs K) := by
  refine T.F_l_runs.ok sc_l_runs (fun vs H Q E h => ?_) (fun cdv Ar outer s H vs Q E hr h => ?_)
  · obtain ⟨a, ns, rfl, _⟩ := h; rfl
  · obtain ⟨a, ns, rfl, hS, hl, k⟩ := h
    refine ⟨_, (pss_cons (ps_set (i := 1) sc_l_runs.nd rfl (.inl rfl) (pe_lst pa_nil))
        (pss_cons (ps_for PassesOwn.never rfl (pi_list (pv 0)) (pg_name (i := 2) sc_l_runs.nd rfl (Or.inl rfl)) (pss_one (ps_if (PW.pt (pw_and (pt_truth (pv 1) (by intro _; rfl)) (pw_and1 (pt_cmpR op_eq (pe_ix ix_tup (pe_ix ix_list (pv 1) (pe_un un_neg pe_int) (fun _ _ => rfl)) pe_int (fun _ _ => rfl)) (pe_op op_sub (pv 2) pe_int) (nomark _))))) (pss_one (ps_asg (pe_tup (pa_cons (pe_ix ix_tup (pe_ix ix_list (pv 1) (pe_un un_neg pe_int) (fun _ _ => rfl)) pe_int (fun _ _ => rfl)) (pa_cons (pv 2) pa_nil))) (pg_sub (pv 1) (pe_un un_neg pe_int) set_list))) (pss_one (ps_expr (pe_bm PySem.F.plainAttrs_list PySem.F.slot_list_append PySem.F.type_list_append mt_append (pv 1) (pa_cons (pe_tup (pa_cons (pv 2) (pa_cons (pv 2) pa_nil))) pa_nil)))))))
        (pss_one (ps_ret (pe_callTy call_tuple_of (by rfl) T.n_tuple (by decide +kernel) (pa_cons (pv 1) pa_nil)))))), ?_⟩
    refine ⟨Nat.zero_le _, fun r hr' => ?_⟩
    refine ⟨_, rfl, a, rfl, ⟨_, (same_upd hr').seq hS⟩, for_list (K := K) (a := a) (xs := ns.map V.int) (fun i σ H2 => ∃ (rs : List (Int × Int)) (xs : List V) (v : Option V), σ = [some (.ref a), some (.ref r), v] ∧ Same H H2 ∧ H2 r = some (.lst xs) ∧ RepAll K H2 xs (rs.map encPair) ∧ RunsOk ns rs ∧ rs.length ≤ i ∧ i ≤ ns.length ∧ (i ≠ 0 → rs ≠ []))
      ⟨[], [], none, rfl, same_upd hr', upd_same, .nil, fun p h => (nomatch h), Nat.le_refl _, Nat.zero_le _, fun h => (h rfl).elim⟩ (fun i σ H2 _ ⟨_, _, _, _, s2, _⟩ => s2.seq hS) ?_ ?_⟩
    · rintro i y σ H2 hi ⟨rs, xs, v, rfl, s2, hx, rx, ok, hrl, hil, hne⟩
      obtain ⟨n, rfl, hn⟩ := map_int_at hi
      have hnm : n ∈ ns := List.mem_of_getElem? hn
      have hin : i < ns.length := (List.getElem?_eq_some_iff.mp hn).1
      have push : ∀ (T : Addr), H2 T = none → ∃ (rs' : List (Int × Int)) (xs' : List V) (v : Option V), [some (V.ref a), some (V.ref r), some (V.int n)] = [some (.ref a), some (.ref r), v] ∧ Same H (upd (upd H2 T (.tup [.int n, .int n])) r (.lst (xs ++ [.ref T]))) ∧ (upd (upd H2 T (.tup [.int n, .int n])) r (.lst (xs ++ [.ref T]))) r = some (.lst xs') ∧ RepAll K (upd (upd H2 T (.tup [.int n, .int n])) r (.lst (xs ++ [.ref T]))) xs' (rs'.map encPair) ∧ RunsOk ns rs' ∧ rs'.length ≤ i + 1 ∧ i + 1 ≤ ns.length ∧ (i + 1 ≠ 0 → rs' ≠ []) := fun T hT => by
        have nTr : r ≠ T := ne_of_none hx hT
        have m2 : Imm K (upd H2 T (.tup [.int n, .int n])) (upd (upd H2 T (.tup [.int n, .int n])) r (.lst (xs ++ [.ref T]))) := Imm.put (by rw [upd_ne nTr]; exact hx)
        refine ⟨rs ++ [(n, n)], xs ++ [.ref T], _, rfl, fun b o e => ?_, upd_same, ?_, ?_, ?_, by omega, fun _ => by simp⟩
        · rw [upd_ne (ne_of_none e hr'), upd_ne (ne_of_none (s2 b o e) hT)]
          exact s2 b o e
        · rw [List.map_append]
          exact (rx.up ((Imm.new hT).trans m2)).append (.cons (Rep.up (.tup (SqT.of upd_same) (.cons (.int _) (.cons (.int _) .nil))) m2) .nil)
        · intro p hp
          rcases List.mem_append.mp hp with hp | hp
          · exact ok p hp
          · rw [List.mem_singleton.mp hp]
            exact ⟨Int.le_refl _, hnm, hnm⟩
        · rw [List.length_append]
          show rs.length + 1 ≤ i + 1
          omega
      rcases List.eq_nil_or_concat rs with rfl | ⟨rs0, pr, rfl⟩
      · have hx0 : xs = [] := by
          have := rx.len
          cases xs with
          | nil => rfl
          | cons _ _ => cases this
        subst hx0
        refine ⟨_, rfl, false, .inl ⟨_, SqL.of hx, rfl⟩, iteF ?_⟩
        refine ⟨_, rfl, .inl ⟨rfl, _, SqL.of hx⟩, _, rfl, _, rfl, (by show 2 ≤ sizeLine; decide), fun T hT => ?_⟩
        have nTr : r ≠ T := ne_of_none hx hT
        exact ⟨r, _, _, rfl, rfl, by rw [upd_ne nTr]; exact hx, by decide, push T hT⟩
      · rw [List.concat_eq_append, List.map_append] at rx
        obtain ⟨ys, vl, rfl, ry, rl⟩ := rx.last
        obtain ⟨pa, pxs, rfl, ps, plen, pr2, pget⟩ := Rep.item (ds := [.int pr.1, .int pr.2]) rl
        obtain ⟨u0, hu0, ru0⟩ := pget 0 _ rfl
        obtain ⟨u1, hu1, ru1⟩ := pget 1 _ rfl
        cases ru0.int_inv
        cases ru1.int_inv
        refine ⟨_, rfl, true, .inl ⟨_, SqL.of hx, by simp⟩, iteT ?_⟩
        refine ⟨_, rfl, 1, rfl, r, _, -1, _, rfl, rfl, SqL.of hx, atI_last _ _, pa, _, 1, _, rfl, rfl, ps, hu1, _, rfl, _, _, rfl, rfl, rfl, _, rfl, ite2 (fun e => ?_) (fun e => ?_)⟩
        · have e := dec_eq_int e
          refine ⟨_, rfl, 1, rfl, r, _, -1, _, rfl, rfl, SqL.of hx, atI_last _ _, pa, _, 0, _, rfl, rfl, ps, hu0, _, rfl, (by show 2 ≤ sizeLine; decide), fun T hT => ?_⟩
          have nTr : r ≠ T := ne_of_none hx hT
          have hx2 : (upd H2 T (.tup [.int pr.1, .int n])) r = some (.lst (ys ++ [.ref pa])) := by
            rw [upd_ne nTr]
            exact hx
          refine ⟨_, rfl, 1, rfl, r, _, -1, ys.length, rfl, rfl, hx2, ?_, ?_⟩
          · rw [List.length_append]
            exact ix_last _
          · have okl := ok pr (by simp)
            rw [set_last]
            have m2 : Imm K (upd H2 T (.tup [.int pr.1, .int n])) (upd (upd H2 T (.tup [.int pr.1, .int n])) r (.lst (ys ++ [.ref T]))) := Imm.put hx2
            refine ⟨rs0 ++ [(pr.1, n)], ys ++ [.ref T], _, rfl, fun b o e => ?_, upd_same, ?_, ?_, ?_, by omega, fun _ => by simp⟩
            · rw [upd_ne (ne_of_none e hr'), upd_ne (ne_of_none (s2 b o e) hT)]
              exact s2 b o e
            · rw [List.map_append]
              exact (ry.up ((Imm.new hT).trans m2)).append (.cons (Rep.up (.tup (SqT.of upd_same) (.cons (.int _) (.cons (.int _) .nil))) m2) .nil)
            · intro p hp
              rcases List.mem_append.mp hp with hp | hp
              · exact ok p (by simp [hp])
              · rw [List.mem_singleton.mp hp]
                exact ⟨by show pr.1 ≤ n; omega, okl.2.1, hnm⟩
            · rw [List.length_append]
              rw [List.length_concat] at hrl
              show rs0.length + 1 ≤ i + 1
              omega
        · refine ⟨_, rfl, .inl ⟨rfl, _, SqL.of hx⟩, _, rfl, _, rfl, (by show 2 ≤ sizeLine; decide), fun T hT => ?_⟩
          have nTr : r ≠ T := ne_of_none hx hT
          refine ⟨r, _, _, rfl, rfl, by rw [upd_ne nTr]; exact hx, ?_, ?_⟩
          · have := rx.len
            rw [List.length_append, List.length_append, List.length_map] at this
            rw [List.length_concat] at hrl
            rw [List.length_append]
            exact small1000 (by
              show ys.length + 1 ≤ 1000
              have : ys.length + 1 = rs0.length + 1 := this
              omega)
          · exact push T hT
    · rintro σ H2 ⟨rs, xs, v, rfl, s2, hx, rx, ok, hrl, hil, hne⟩
      refine ⟨_, rfl, r, _, rfl, .inl ⟨SqL.of hx, fun T hT => ?_⟩⟩
      rw [List.length_map] at hrl hne
      refine k _ _ rs (s2.trans (same_upd hT)) (.tup (SqT.of upd_same) (rx.up (Imm.new hT))) (fun h => hne fun z => h (List.length_eq_zero_iff.mp z)) ok hrl

/-! def _law_same -/
def sp_same (n : Nat) (K : PySem.W.Frag) : Sp := fun vs H Q _ => ∃ (v u : V) (d : PyData), vs = [v, u] ∧ Rep K H v d ∧ Rep K H u d ∧ DSmall d ∧ PyData.depth d < n ∧ Q (.bl true) H
def sp_l_same (K : PySem.W.Frag) : Sp := sp_same 4 K
theorem no_same (T : Txt K w mg A) : FnOk P w K mg base CX0 10 A.l_same.f A.l_same.fd ["told", "due"] (sp_same 0 K) := by
  refine T.F_l_same.ok sc_l_same (fun vs H Q E h => ?_) (fun cdv Ar outer s H vs Q E hr h => ?_)
  · obtain ⟨v, u, d, rfl, _⟩ := h
    rfl
  · obtain ⟨v, u, d, _, _, _, _, h, _⟩ := h
    omega
theorem st_same {n L : Nat} (T : Txt K w mg A) (G_l_same : FnOk P w K mg base CX0 L A.l_same.f A.l_same.fd ["told", "due"] (sp_same n K)) : FnOk P w K mg base CX0 (L + 1) A.l_same.f A.l_same.fd ["told", "due"] (sp_same (n + 1) K) := by
  refine T.F_l_same.ok sc_l_same (fun vs H Q E h => ?_) (fun cdv Ar outer s H vs Q E hr h => ?_)
  · obtain ⟨v, u, d, rfl, _⟩ := h
    rfl
  · obtain ⟨v, u, d, rfl, rv, ru, hsm, hdp, k⟩ := h
    refine ⟨_, (pss_cons (ps_if (PW.pt (pw_or (pt_val (pe_callB call_isi (by rfl) T.n_isinstance (by decide +kernel) (pa_cons (pv 1) (pa_cons (pe_bltn (v := .ty "tuple") (by rfl) T.n_tuple boot_tuple rfl) pa_nil)))) (pw_or1 (pt_val (pe_callB call_isi (by rfl) T.n_isinstance (by decide +kernel) (pa_cons (pv 1) (pa_cons (pe_bltn (v := .ty "list") (by rfl) T.n_list boot_list rfl) pa_nil))))))) (pss_cons (ps_if (PW.pt (pw_and (pt_val (pe_callB call_isi (by rfl) T.n_isinstance (by decide +kernel) (pa_cons (pv 1) (pa_cons (pe_bltn (v := .ty "tuple") (by rfl) T.n_tuple boot_tuple rfl) pa_nil)))) (pw_and1 (pt_not (pt_val (pe_callB call_isi (by rfl) T.n_isinstance (by decide +kernel) (pa_cons (pv 0) (pa_cons (pe_bltn (v := .ty "tuple") (by rfl) T.n_tuple boot_tuple rfl) pa_nil)))))))) (pss_one (ps_ret pe_bl)) pss_nil)
        (pss_cons (ps_if (PW.pt (pw_and (pt_val (pe_callB call_isi (by rfl) T.n_isinstance (by decide +kernel) (pa_cons (pv 1) (pa_cons (pe_bltn (v := .ty "list") (by rfl) T.n_list boot_list rfl) pa_nil)))) (pw_and1 (pt_not (pt_val (pe_callB call_isi (by rfl) T.n_isinstance (by decide +kernel) (pa_cons (pv 0) (pa_cons (pe_bltn (v := .ty "list") (by rfl) T.n_list boot_list rfl) pa_nil)))))))) (pss_one (ps_ret pe_bl)) pss_nil)
        (pss_cons (ps_if (pt_cmpR op_ne (pe_callB call_len_seq (by rfl) T.n_len (by decide +kernel) (pa_cons (pv 0) pa_nil)) (pe_callB call_len_seq (by rfl) T.n_len (by decide +kernel) (pa_cons (pv 1) pa_nil)) (nomark _)) (pss_one (ps_ret pe_bl)) pss_nil)
        (pss_cons (ps_for PassesOwn.never rfl (pi_range1 rfl T.n_range (pa_cons (pe_callB call_len_seq (by rfl) T.n_len (by decide +kernel) (pa_cons (pv 1) pa_nil)) pa_nil)) (pg_name (i := 2) sc_l_same.nd rfl (Or.inl rfl)) (pss_one (ps_if (pt_not (pt_val (pe_call G_l_same (hr.mono (by omega)) (by rfl) T.g_l_same T.F_l_same.kp T.b_l_same .nil pass0 (pa_cons (pe_ix ix_tup (pv 0) (pv 2) (fun _ _ => rfl)) (pa_cons (pe_ix ix_tup (pv 1) (pv 2) (fun _ _ => rfl)) pa_nil))))) (pss_one (ps_ret pe_bl)) pss_nil)))
        (pss_one (ps_ret pe_bl)))))) pss_nil)
        (pss_cons (ps_if (pt_cmpR op_isN (pv 1) pe_non (nomark _)) (pss_one (ps_ret (pe_cmpR op_isN (pv 0) pe_non (nomark _)))) pss_nil)
        (pss_cons (ps_if (pt_val (pe_callB call_isi (by rfl) T.n_isinstance (by decide +kernel) (pa_cons (pv 1) (pa_cons (pe_bltn (v := .ty "bool") (by rfl) T.n_bool boot_bool rfl) pa_nil)))) (pss_one (ps_ret (pe_and (pe_callB call_isi (by rfl) T.n_isinstance (by decide +kernel) (pa_cons (pv 0) (pa_cons (pe_bltn (v := .ty "bool") (by rfl) T.n_bool boot_bool rfl) pa_nil))) (pe_one (pe_cmpR op_eq (pv 0) (pv 1) (nomark _)))))) pss_nil)
        (pss_cons (ps_if (pt_val (pe_callB call_isi (by rfl) T.n_isinstance (by decide +kernel) (pa_cons (pv 1) (pa_cons (pe_bltn (v := .ty "str") (by rfl) T.n_str boot_str rfl) pa_nil)))) (pss_one (ps_ret (pe_and (pe_callB call_isi (by rfl) T.n_isinstance (by decide +kernel) (pa_cons (pv 0) (pa_cons (pe_bltn (v := .ty "str") (by rfl) T.n_str boot_str rfl) pa_nil))) (pe_one (pe_cmpR op_eq (pv 0) (pv 1) (nomark _)))))) pss_nil)
        (pss_one (ps_ret (pe_and (pe_callB call_isi (by rfl) T.n_isinstance (by decide +kernel) (pa_cons (pv 0) (pa_cons (pe_bltn (v := .ty "int") (by rfl) T.n_int boot_int rfl) pa_nil))) (pe_and (pe_not (pe_callB call_isi (by rfl) T.n_isinstance (by decide +kernel) (pa_cons (pv 0) (pa_cons (pe_bltn (v := .ty "bool") (by rfl) T.n_bool boot_bool rfl) pa_nil)))) (pe_one (pe_cmpR op_eq (pv 0) (pv 1) (nomark _))))))))))), ?_⟩
    cases d with
    | none =>
      cases rv
      cases ru
      refine ⟨_, rfl, _, _, .type "NoneType", .type "tuple", false, rfl, .ty _, .base .non, kit_ty (by decide +kernel), false, rfl, iteF ⟨_, rfl, _, _, .type "NoneType", .type "list", false, rfl, .ty _, .base .non, kit_ty (by decide +kernel), false, rfl, iteF ?_⟩⟩
      refine ⟨_, rfl, rfl, _, rfl, iteT ⟨_, rfl, rfl, ?_⟩⟩
      exact k
    | bool b =>
      cases rv
      cases ru
      refine ⟨_, rfl, _, _, .type "bool", .type "tuple", false, rfl, .ty _, .base (.bl _), kit_ty (by decide +kernel), false, rfl, iteF ⟨_, rfl, _, _, .type "bool", .type "list", false, rfl, .ty _, .base (.bl _), kit_ty (by decide +kernel), false, rfl, iteF ?_⟩⟩
      refine ⟨_, rfl, rfl, _, rfl, iteDF (fun h => nomatch h) ?_⟩
      refine ⟨_, rfl, _, _, .type "bool", .type "bool", true, rfl, .ty _, .base (.bl _), kit_ty (by decide +kernel), true, rfl, iteT ?_⟩
      refine ⟨_, rfl, _, _, .type "bool", .type "bool", true, rfl, .ty _, .base (.bl _), kit_ty (by decide +kernel), true, rfl, iteT ⟨_, rfl, _, rfl, rfl, ?_⟩⟩
      rw [decide_eq_true rfl]
      exact k
    | int i =>
      cases rv
      cases ru
      refine ⟨_, rfl, _, _, .type "int", .type "tuple", false, rfl, .ty _, .base (.int _), kit_ty (by decide +kernel), false, rfl, iteF ⟨_, rfl, _, _, .type "int", .type "list", false, rfl, .ty _, .base (.int _), kit_ty (by decide +kernel), false, rfl, iteF ?_⟩⟩
      refine ⟨_, rfl, rfl, _, rfl, iteDF (fun h => nomatch h) ?_⟩
      refine ⟨_, rfl, _, _, .type "int", .type "bool", false, rfl, .ty _, .base (.int _), kit_ty (by decide +kernel), false, rfl, iteF ?_⟩
      refine ⟨_, rfl, _, _, .type "int", .type "str", false, rfl, .ty _, .base (.int _), kit_ty (by decide +kernel), false, rfl, iteF ?_⟩
      refine ⟨_, rfl, _, _, .type "int", .type "int", true, rfl, .ty _, .base (.int _), kit_ty (by decide +kernel), true, rfl, iteT ⟨_, rfl, _, _, .type "int", .type "bool", false, rfl, .ty _, .base (.int _), kit_ty (by decide +kernel), false, rfl, true, rfl, iteT ⟨_, rfl, _, rfl, rfl, ?_⟩⟩⟩
      rw [decide_eq_true rfl]
      exact k
    | str x =>
      cases rv
      cases ru
      refine ⟨_, rfl, _, _, .type "str", .type "tuple", false, rfl, .ty _, .base (.str _), kit_ty (by decide +kernel), false, rfl, iteF ⟨_, rfl, _, _, .type "str", .type "list", false, rfl, .ty _, .base (.str _), kit_ty (by decide +kernel), false, rfl, iteF ?_⟩⟩
      refine ⟨_, rfl, rfl, _, rfl, iteDF (fun h => nomatch h) ?_⟩
      refine ⟨_, rfl, _, _, .type "str", .type "bool", false, rfl, .ty _, .base (.str _), kit_ty (by decide +kernel), false, rfl, iteF ?_⟩
      refine ⟨_, rfl, _, _, .type "str", .type "str", true, rfl, .ty _, .base (.str _), kit_ty (by decide +kernel), true, rfl, iteT ?_⟩
      refine ⟨_, rfl, _, _, .type "str", .type "str", true, rfl, .ty _, .base (.str _), kit_ty (by decide +kernel), true, rfl, iteT ⟨_, rfl, _, rfl, rfl, ?_⟩⟩
      rw [decide_eq_true rfl]
      exact k
    | list ds => cases rv
    | dict ds => cases rv
    | tuple ds =>
      obtain ⟨ta, xs, rfl, ts, tl, tall, _⟩ := Rep.item rv
      obtain ⟨ua, ys, rfl, us, ul, uall, _⟩ := Rep.item ru
      have hlen : ds.length ≤ 100000 := hsm.1
      refine ⟨_, rfl, _, _, .type "tuple", .type "tuple", true, rfl, .ty _, (sqt_ty us), kit_ty (by decide +kernel), true, rfl, iteT ?_⟩
      refine ⟨_, rfl, _, _, .type "tuple", .type "tuple", true, rfl, .ty _, (sqt_ty us), kit_ty (by decide +kernel), true, rfl, iteT ⟨_, rfl, _, _, .type "tuple", .type "tuple", true, rfl, .ty _, (sqt_ty ts), kit_ty (by decide +kernel), true, rfl, iteF ?_⟩⟩
      refine ⟨_, rfl, _, _, .type "tuple", .type "list", false, rfl, .ty _, (sqt_ty us), kit_ty (by decide +kernel), false, rfl, iteF (iteF ?_)⟩
      refine ⟨_, rfl, ta, xs, rfl, .inr ts, _, rfl, ua, ys, rfl, .inr us, rfl, _, rfl, iteNS (by rw [tl, ul]) ?_⟩
      refine ⟨_, rfl, ua, ys, rfl, .inr us, _, rfl, by omega, by omega, for_range (n := ys.length) (fun i σ H2 => ∃ v2, σ = [some (.ref ta), some (.ref ua), v2] ∧ H2 = H) ⟨_, rfl, rfl⟩ ?_ ?_⟩
      · rintro i σ H2 hi ⟨v2, rfl, rfl⟩
        have hd : i < ds.length := by omega
        obtain ⟨v, hv, rv'⟩ := tall.get (List.getElem?_eq_getElem hd)
        obtain ⟨u, hu, ru'⟩ := uall.get (List.getElem?_eq_getElem hd)
        have hdd := depthAll_get (List.getElem?_eq_getElem hd)
        rw [PyData.depth] at hdp
        refine ⟨_, rfl, _, rfl, ta, _, _, _, rfl, rfl, ts, at_of (j := i) (by omega) hv, _, rfl, _, rfl, ua, _, _, _, rfl, rfl, us, at_of (j := i) (by omega) hu, v, u, ds[i], rfl, rv', ru', dsmalls_get hsm.2 (List.getElem?_eq_getElem hd), by omega, _, rfl, iteF ?_⟩
        exact ⟨_, rfl, rfl⟩
      · rintro σ H2 ⟨v2, rfl, rfl⟩
        exact k
theorem all_same (T : Txt K w mg A) : ∀ n : Nat, FnOk P w K mg base CX0 (10 + n) A.l_same.f A.l_same.fd ["told", "due"] (sp_same n K)
  | 0 => no_same T
  | n + 1 => st_same T (all_same T n)
theorem ok_l_same (T : Txt K w mg A) : FnOk P w K mg base CX0 14 A.l_same.f A.l_same.fd ["told", "due"] (sp_l_same K) := all_same T 4


/-! def _law_size -/
theorem wsize_pos {z : Str} (h : WordOk z) : wsize z = 1 ∨ wsize z = 2 ∨ wsize z = 4 := by
  rcases h with rfl | rfl | rfl | rfl | rfl <;> decide +kernel
theorem word_len {z : Str} (h : WordOk z) : z.length ≤ 5 := by
  rcases h with rfl | rfl | rfl | rfl | rfl <;> decide +kernel
def wordKvs : List (Key × V) := [(.inr "u8", .int 1), (.inr "u16be", .int 2), (.inr "u16le", .int 2), (.inr "u32be", .int 4), (.inr "u32le", .int 4)]
def sp_l_size (K : PySem.W.Frag) : Sp := fun vs H Q _ => ∃ (z : Str), vs = [.str z] ∧ WordOk z ∧ ∀ H', Same H H' → Q (.int (wsize z)) H'
theorem ok_l_size (T : Txt K w mg A) : FnOk P w K mg base CX0 1 A.l_size.f A.l_size.fd ["word"] (sp_l_size K) := by
  refine T.F_l_size.ok sc_l_size (fun vs H Q E h => ?_) (fun cdv Ar outer s H vs Q E hr h => ?_)
  · obtain ⟨z, rfl, _⟩ := h; rfl
  · obtain ⟨z, rfl, hz, k⟩ := h
    refine ⟨_, (pss_one (ps_ret (pe_dget (hu_of hr) (pe_disp (pps_cons pe_str pe_int (pps_cons pe_str pe_int (pps_cons pe_str pe_int (pps_cons pe_str pe_int (pps_cons pe_str pe_int pps_nil))))) (by rfl) (by rfl) (fun z => by cases z) (by decide)) (pv 0) (fun _ _ => rfl)))), ?_⟩
    intro p hp
    refine ⟨upd_same, wordKvs, rfl, by decide, _, rfl, p, .int (wsize z), rfl, ?_, k _ ?_⟩
    · have hg : valV (mergeK [] wordKvs) (.inr z) = some (.int (wsize z)) := by
        rcases hz with rfl | rfl | rfl | rfl | rfl <;> decide +kernel
      rw [← hg]
      exact DGet.k (k := Sum.inr z) upd_same
    · intro b o e
      rw [upd_ne (ne_of_none e hp), upd_ne (ne_of_none e hp)]
      exact e

/-! def _law_any_word -/
def sp_l_any_word (K : PySem.W.Frag) : Sp := fun vs H Q _ => ∃ (t tq : Addr), vs = [.ref t] ∧ Tape H t tq ∧ ∀ (H' : Hp) (z : Str), WordOk z → Tape H' t tq → Kept t H H' → Q (.str z) H'
theorem ok_l_any_word (T : Txt K w mg A) : FnOk P w K mg base CX0 2 A.l_any_word.f A.l_any_word.fd ["tape"] (sp_l_any_word K) := by
  have G_l_draw : FnOk P w K mg base CX0 1 A.l_draw.f A.l_draw.fd ["tape", "many"] (sp_l_draw K) := ok_l_draw T
  refine T.F_l_any_word.ok sc_l_any_word (fun vs H Q E h => ?_) (fun cdv Ar outer s H vs Q E hr h => ?_)
  · obtain ⟨t, tq, rfl, _⟩ := h; rfl
  · obtain ⟨t, tq, rfl, hT, k⟩ := h
    refine ⟨_, (pss_one (ps_ret (pe_ix ix_list (pe_lst (pa_cons pe_str (pa_cons pe_str (pa_cons pe_str (pa_cons pe_str (pa_cons pe_str (pa_cons pe_str pa_nil))))))) (pe_call G_l_draw (hr.mono (by decide)) (by rfl) T.g_l_draw T.F_l_draw.kp T.b_l_draw .nil pass0 (pa_cons (pv 0) (pa_cons pe_int pa_nil))) (fun _ _ => rfl)))), ?_⟩
    refine ⟨(by show 6 ≤ sizeLine; decide), fun l hl1 => ⟨_, rfl, t, 6, tq, rfl, hT.new hl1, by decide, by decide, fun H1 v hv0 hv1 hT1 hK1 => ?_⟩⟩
    have hz : ∃ z : Str, atI [V.str "u8", V.str "u8", V.str "u16be", V.str "u16le", V.str "u32be", V.str "u32le"] v = some (.str z) ∧ WordOk z := by
      rcases (show v = 0 ∨ v = 1 ∨ v = 2 ∨ v = 3 ∨ v = 4 ∨ v = 5 by omega) with rfl | rfl | rfl | rfl | rfl | rfl
      · exact ⟨_, rfl, .inl rfl⟩
      · exact ⟨_, rfl, .inl rfl⟩
      · exact ⟨_, rfl, .inr (.inl rfl)⟩
      · exact ⟨_, rfl, .inr (.inr (.inl rfl))⟩
      · exact ⟨_, rfl, .inr (.inr (.inr (.inl rfl)))⟩
      · exact ⟨_, rfl, .inr (.inr (.inr (.inr rfl)))⟩
    obtain ⟨z0, hz0, hz1⟩ := hz
    have e1 := hK1 l _ (hT.off hl1).1 upd_same
    exact ⟨l, _, _, _, rfl, rfl, SqL.of e1, hz0, k _ _ hz1 hT1 ((Same.kept (same_upd hl1)).trans hK1)⟩

/-! def _law_a_count -/
def sp_l_a_count (K : PySem.W.Frag) : Sp := fun vs H Q _ => ∃ (t tq : Addr) (lo hi : Int), vs = [.ref t, .int lo, .int hi] ∧ Tape H t tq ∧ 0 ≤ lo ∧ lo ≤ hi ∧ 1 ≤ hi ∧ hi ≤ 60 ∧
  ∀ (H' : Hp) (v : V) (c : Count), CountOk c → Rep K H' v (encCount c) → Tape H' t tq → Kept t H H' → Q v H'
theorem ok_l_a_count (T : Txt K w mg A) : FnOk P w K mg base CX0 3 A.l_a_count.f A.l_a_count.fd ["tape", "least", "greatest"] (sp_l_a_count K) := by
  have G_l_any_word : FnOk P w K mg base CX0 2 A.l_any_word.f A.l_any_word.fd ["tape"] (sp_l_any_word K) := ok_l_any_word T
  have G_l_draw : FnOk P w K mg base CX0 1 A.l_draw.f A.l_draw.fd ["tape", "many"] (sp_l_draw K) := ok_l_draw T
  refine T.F_l_a_count.ok sc_l_a_count (fun vs H Q E h => ?_) (fun cdv Ar outer s H vs Q E hr h => ?_)
  · obtain ⟨t, tq, lo, hi, rfl, _⟩ := h; rfl
  · obtain ⟨t, tq, lo, hi, rfl, hT, h1, h2, h3, h4, k⟩ := h
    refine ⟨_, (pss_cons (ps_set (i := 3) sc_l_a_count.nd rfl (.inl rfl) (pe_call G_l_draw (hr.mono (by decide)) (by rfl) T.g_l_draw T.F_l_draw.kp T.b_l_draw .nil pass0 (pa_cons (pv 0) (pa_cons pe_int pa_nil))))
        (C8.pss_cut (ps_if (PW.pt (pw_and (pt_cmpR op_eq (pv 1) (pv 2) (nomark _)) (pw_and1 (pt_cmpR op_gt (pv 3) pe_int (nomark _))))) (pss_one (ps_ret (pe_tup (pa_cons pe_str (pa_cons (pv 2) pa_nil))))) pss_nil)
        (C8.pss_cut (ps_if (PW.pt (pw_and (pt_cmpR op_eq (pv 1) pe_int (nomark _)) (pw_and1 (pt_cmpR op_gt (pv 3) pe_int (nomark _))))) (pss_one (ps_ret (pe_tup (pa_cons pe_str (pa_cons (pv 2) pa_nil))))) pss_nil)
        (pss_one (ps_ret (pe_tup (pa_cons pe_str (pa_cons (pe_call G_l_any_word (hr.mono (by decide)) (by rfl) T.g_l_any_word T.F_l_any_word.kp T.b_l_any_word .nil pass0 (pa_cons (pv 0) pa_nil)) (pa_cons (pv 1) (pa_cons (pv 2) pa_nil)))))))))), ?_⟩
    refine ⟨_, rfl, t, 3, tq, rfl, hT, by decide, by decide, fun H1 v hv0 hv1 hT1 hK1 => ?_⟩
    refine ⟨fun σ' H' => σ' = [some (.ref t), some (.int lo), some (.int hi), some (.int v)] ∧ H' = H1, ?_, ?_⟩
    · have go : ∀ p, H1 p = none → Q (.ref p) (upd H1 p (.tup [.str "exactly", .int hi])) := fun p hp =>
        k _ _ (.exactly hi) ⟨h3, h4⟩ (.tup (SqT.of upd_same) (.cons (.str _) (.cons (.int _) .nil))) (hT1.new hp) (hK1.new hp)
      refine ⟨_, rfl, _, rfl, rfl, _, rfl, ite2 (fun e => ?_) (fun e => ⟨rfl, rfl⟩)⟩
      refine ⟨_, rfl, _, _, rfl, rfl, _, rfl, ite2 (fun e => ?_) (fun e => ⟨rfl, rfl⟩)⟩
      exact ⟨_, rfl, (by show 2 ≤ sizeLine; decide), go⟩
    · rintro σ' H' ⟨rfl, rfl⟩
      refine ⟨fun σ' H2 => σ' = [some (.ref t), some (.int lo), some (.int hi), some (.int v)] ∧ H2 = H', ?_, ?_⟩
      · have go : ∀ p, H' p = none → Q (.ref p) (upd H' p (.tup [.str "marked", .int hi])) := fun p hp =>
          k _ _ (.marked hi) ⟨h3, h4⟩ (.tup (SqT.of upd_same) (.cons (.str _) (.cons (.int _) .nil))) (hT1.new hp) (hK1.new hp)
        refine ⟨_, rfl, rfl, _, rfl, ite2 (fun e => ?_) (fun e => ⟨rfl, rfl⟩)⟩
        refine ⟨_, rfl, _, _, rfl, rfl, _, rfl, ite2 (fun e => ?_) (fun e => ⟨rfl, rfl⟩)⟩
        exact ⟨_, rfl, (by show 2 ≤ sizeLine; decide), go⟩
      · rintro σ' H2 ⟨rfl, rfl⟩
        refine ⟨_, rfl, t, tq, rfl, hT1, fun H3 z hz hT3 hK3 => ⟨_, rfl, _, rfl, (by show 4 ≤ sizeLine; decide), fun p hp => ?_⟩⟩
        exact k _ _ (.counted z lo hi) ⟨hz, h1, h2, h3, h4⟩ (.tup (SqT.of upd_same) (.cons (.str _) (.cons (.str _) (.cons (.int _) (.cons (.int _) .nil))))) (hT3.new hp) ((hK1.trans hK3).new hp)

/-! def _law_bounds -/
def bounds : Count → Int × Int
  | .exactly n => (n, n)
  | .counted _ lo hi => (lo, hi)
  | .marked n => (0, n)
def sp_l_bounds (K : PySem.W.Frag) : Sp := fun vs H Q _ => ∃ (v : V) (c : Count), vs = [v] ∧ Rep K H v (encCount c) ∧
  ∀ (H' : Hp) (w : V), Same H H' → Rep K H' w (encSz (bounds c)) → Q w H'
theorem ok_l_bounds (T : Txt K w mg A) : FnOk P w K mg base CX0 1 A.l_bounds.f A.l_bounds.fd ["count"] (sp_l_bounds K) := by
  refine T.F_l_bounds.ok sc_l_bounds (fun vs H Q E h => ?_) (fun cdv Ar outer s H vs Q E hr h => ?_)
  · obtain ⟨v, c, rfl, _⟩ := h; rfl
  · obtain ⟨v, c, rfl, rc, k⟩ := h
    refine ⟨_, (pss_cons (ps_if (pt_cmpR op_eq (pe_ix ix_tup (pv 0) pe_int (fun _ _ => rfl)) pe_str (nomark _)) (pss_one (ps_ret (pe_tup (pa_cons (pe_ix ix_tup (pv 0) pe_int (fun _ _ => rfl)) (pa_cons (pe_ix ix_tup (pv 0) pe_int (fun _ _ => rfl)) pa_nil))))) pss_nil)
        (pss_one (ps_ret (pe_tup (pa_cons (pe_mid (pe_ifExp (pt_cmpR op_eq (pe_ix ix_tup (pv 0) pe_int (fun _ _ => rfl)) pe_str (nomark _)) (pe_ix ix_tup (pv 0) pe_int (fun _ _ => rfl)) pe_int)) (pa_cons (pe_ix ix_tup (pv 0) pe_int (fun _ _ => rfl)) pa_nil)))))), ?_⟩
    have fin : ∀ (x y : Int) (q : Addr), (x, y) = bounds c → H q = none → Q (.ref q) (upd H q (.tup [.int x, .int y])) := fun x y q e hq => by
      refine k _ _ (same_upd hq) ?_
      rw [← e]
      exact .tup (SqT.of upd_same) (.cons (.int _) (.cons (.int _) .nil))
    cases c with
    | exactly n =>
      obtain ⟨ca, xs, rfl, cs, cr⟩ := Rep.inv (ds := [.str "exactly", .int n]) rc
      obtain ⟨u0, u1, rfl, r0, r1⟩ := cr.l2
      cases r0.str_inv
      cases r1.int_inv
      refine ⟨_, rfl, ca, _, 0, _, rfl, rfl, cs, rfl, rfl, _, rfl, iteDF (by decide +kernel) ?_⟩
      refine ⟨fun v H' => H' = H ∧ v = .int n, ⟨_, rfl, ca, _, 0, _, rfl, rfl, cs, rfl, rfl, _, rfl, iteDT rfl ⟨_, rfl, ca, _, 1, _, rfl, rfl, cs, rfl, rfl, rfl⟩⟩, ?_⟩
      rintro v H' ⟨rfl, rfl⟩
      exact ⟨_, rfl, ca, _, 1, _, rfl, rfl, cs, rfl, (by show 2 ≤ sizeLine; decide), fun q hq => fin _ _ q rfl hq⟩
    | counted wd lo hi =>
      obtain ⟨ca, xs, rfl, cs, cr⟩ := Rep.inv (ds := [.str "counted", .str wd, .int lo, .int hi]) rc
      obtain ⟨u0, u1, u2, u3, rfl, r0, r1, r2, r3⟩ := cr.l4
      cases r0.str_inv
      cases r2.int_inv
      cases r3.int_inv
      refine ⟨_, rfl, ca, _, 0, _, rfl, rfl, cs, rfl, rfl, _, rfl, iteDT rfl ?_⟩
      exact ⟨_, rfl, ca, _, 2, _, rfl, rfl, cs, rfl, _, rfl, ca, _, 3, _, rfl, rfl, cs, rfl, (by show 2 ≤ sizeLine; decide), fun q hq => fin _ _ q rfl hq⟩
    | marked n =>
      obtain ⟨ca, xs, rfl, cs, cr⟩ := Rep.inv (ds := [.str "marked", .int n]) rc
      obtain ⟨u0, u1, rfl, r0, r1⟩ := cr.l2
      cases r0.str_inv
      cases r1.int_inv
      refine ⟨_, rfl, ca, _, 0, _, rfl, rfl, cs, rfl, rfl, _, rfl, iteDF (by decide +kernel) ?_⟩
      refine ⟨fun v H' => H' = H ∧ v = .int 0, ⟨_, rfl, ca, _, 0, _, rfl, rfl, cs, rfl, rfl, _, rfl, iteDF (by decide +kernel) ⟨rfl, rfl⟩⟩, ?_⟩
      rintro v H' ⟨rfl, rfl⟩
      exact ⟨_, rfl, ca, _, 1, _, rfl, rfl, cs, rfl, (by show 2 ≤ sizeLine; decide), fun q hq => fin _ _ q rfl hq⟩

/-! def _law_ranges -/
theorem all_flat_ints : ∀ us : List Int, (us.map V.int).all flatV = true
  | [] => rfl
  | _ :: r => all_flat_ints r
def sp_l_ranges (K : PySem.W.Frag) : Sp := fun vs H Q _ => ∃ (t tq : Addr) (n : Nat) (b : Bool), vs = [.ref t, .int (n : Int), .bl b, .int 0] ∧ Tape H t tq ∧ 1 ≤ n ∧ n ≤ 32 ∧
  ∀ (H' : Hp) (v : V) (r : Option (List (Int × Int))), RangesOk r → Rep K H' v (encR r) → Tape H' t tq → Kept t H H' → Q v H'
theorem pow_le8 {n : Nat} (h : n ≤ 8) : (2 : Int) ^ n ≤ 256 := by
  have q : (2 : Nat) ^ n ≤ 2 ^ 8 := Nat.pow_le_pow_right (by decide) h
  have e : ((2 ^ n : Nat) : Int) = (2 : Int) ^ n := by rw [Int.natCast_pow]; rfl
  omega
theorem ok_l_ranges (T : Txt K w mg A) : FnOk P w K mg base CX0 2 A.l_ranges.f A.l_ranges.fd ["tape", "width", "signed", "most"] (sp_l_ranges K) := by
  have G_l_draw : FnOk P w K mg base CX0 1 A.l_draw.f A.l_draw.fd ["tape", "many"] (sp_l_draw K) := ok_l_draw T
  have G_l_runs : FnOk P w K mg base CX0 1 A.l_runs.f A.l_runs.fd ["numbers"] (sp_l_runs K) := ok_l_runs T
  refine T.F_l_ranges.ok sc_l_ranges (fun vs H Q E h => ?_) (fun cdv Ar outer s H vs Q E hr h => ?_)
  · obtain ⟨t, tq, n, b, rfl, _⟩ := h; rfl
  · obtain ⟨t, tq, n, b, rfl, hT, hn1, hn2, k⟩ := h
    refine ⟨_, (pss_cons (ps_set (i := 4) sc_l_ranges.nd rfl (.inl rfl) (pe_op op_shl pe_int (pv 1)))
        (C8.pss_cut (ps_if (PW.pt (pw_or (pt_cmpR op_gt (pv 1) pe_int (nomark _)) (pw_or1 (PW.pt (pw_and (PW.pt (pw_or (pt_cmpR op_eq (pv 3) pe_int (nomark _)) (pw_or1 (pt_cmpR op_le (pv 4) (pv 3) (nomark _))))) (pw_and1 (pt_cmpR op_eq (pe_call G_l_draw (hr.mono (by decide)) (by rfl) T.g_l_draw T.F_l_draw.kp T.b_l_draw .nil pass0 (pa_cons (pv 0) (pa_cons pe_int pa_nil))) pe_int (nomark _)))))))) (pss_one (ps_ret pe_non)) pss_nil)
        (pss_cons (ps_set (i := 5) sc_l_ranges.nd rfl (.inl rfl) (pe_call G_l_draw (hr.mono (by decide)) (by rfl) T.g_l_draw T.F_l_draw.kp T.b_l_draw .nil pass0 (pa_cons (pv 0) (pa_cons (pv 4) pa_nil))))
        (pss_cons (ps_set (i := 6) sc_l_ranges.nd rfl (.inl rfl) (pe_lst (pa_cons (pv 5) pa_nil)))
        (C8.pss_cut (ps_if (PW.pt (pw_and (pt_cmpR op_eq (pv 3) pe_int (nomark _)) (pw_and1 (pt_cmpR op_eq (pe_call G_l_draw (hr.mono (by decide)) (by rfl) T.g_l_draw T.F_l_draw.kp T.b_l_draw .nil pass0 (pa_cons (pv 0) (pa_cons pe_int pa_nil))) pe_int (nomark _))))) (pss_one (ps_set (i := 6) sc_l_ranges.nd rfl (.inl rfl) (pe_callTy (call_list_rng rfl) (by rfl) T.n_list (by decide +kernel) (pa_cons (pe_callTy cr_range2 (by rfl) T.n_range (by decide +kernel) (pa_cons (pv 5) (pa_cons (pe_op op_add (pe_op op_add (pv 5) pe_int) (pe_call G_l_draw (hr.mono (by decide)) (by rfl) T.g_l_draw T.F_l_draw.kp T.b_l_draw .nil pass0 (pa_cons (pv 0) (pa_cons (pe_op op_sub (pv 4) (pv 5)) pa_nil)))) pa_nil))) pa_nil)))) pss_nil)
        (pss_cons (ps_for PassesOwn.never rfl (pi_range1 rfl T.n_range (pa_cons (pe_call G_l_draw (hr.mono (by decide)) (by rfl) T.g_l_draw T.F_l_draw.kp T.b_l_draw .nil pass0 (pa_cons (pv 0) (pa_cons (pe_ifExp (pt_cmpR op_eq (pv 3) pe_int (nomark _)) pe_int (pe_callB (call_min2 rfl) (by rfl) T.n_min (by decide +kernel) (pa_cons (pv 3) (pa_cons pe_int pa_nil)))) pa_nil))) pa_nil)) (pg_name (i := 7) sc_l_ranges.nd rfl (Or.inl rfl)) (pss_cons (ps_set (i := 5) sc_l_ranges.nd rfl (.inl rfl) (pe_op op_mod (pe_callTy call_int1 (by rfl) T.n_int (by decide +kernel) (pa_cons (pe_op op_add (pv 5) (pe_ix ix_list (pe_lst (pa_cons pe_int (pa_cons pe_int (pa_cons pe_int (pa_cons pe_int (pa_cons (pe_op op_fdiv (pv 4) pe_int) (pa_cons (pe_op op_add pe_int (pe_op op_fdiv (pv 4) pe_int)) pa_nil))))))) (pe_call G_l_draw (hr.mono (by decide)) (by rfl) T.g_l_draw T.F_l_draw.kp T.b_l_draw .nil pass0 (pa_cons (pv 0) (pa_cons pe_int pa_nil))) (fun _ _ => rfl))) pa_nil)) (pv 4)))
        (pss_one (ps_if (pt_cmpR op_notIn_seq (pv 5) (pv 6) rfl) (pss_one (ps_expr (pe_bm PySem.F.plainAttrs_list PySem.F.slot_list_append PySem.F.type_list_append mt_append (pv 6) (pa_cons (pv 5) pa_nil)))) pss_nil))))
        (C8.pss_cut (ps_set (i := 8) sc_l_ranges.nd rfl (.inr rfl) (pe_ifExp (pt_val (pv 2)) (pe_op op_fdiv (pv 4) pe_int) pe_int))
        (pss_one (ps_ret (pe_call G_l_runs (hr.mono (by decide)) (by rfl) T.g_l_runs T.F_l_runs.kp T.b_l_runs .nil pass0 (pa_cons (pe_lc (own := [("number", 9)]) (g := (gName 9)) (tt := tYes) (by rfl) sc_l_ranges.nd (pi_list (pe_callB cr_sortedI (by rfl) T.n_sorted (by decide +kernel) (pa_cons (pv 6) pa_nil))) (blkOk_by (own := [("number", 9)]) (N := ["tape", "width", "signed", "most", "span", "at", "numbers", "k", "lowest", "number"]) (sc := defScope s_l_ranges) (by decide +kernel)) (fun _ _ _ _ _ => pg_name (i := 9) sc_l_ranges.nd rfl (Or.inl rfl)) (fun _ _ _ _ _ => pts_nil) (fun _ _ _ _ _ => (pe_op op_sub (pv 9) (pv 8)))) pa_nil))))))))))), ?_⟩
    refine ⟨_, rfl, _, _, rfl, rfl, ⟨by omega, by omega, by decide⟩, ?_⟩
    dsimp only
    rw [Int.toNat_natCast, Int.one_mul]
    have hp := two_pos n
    generalize hsp : (2 : Int) ^ n = sp at hp
    refine ⟨fun σ' H' => n ≤ 8 ∧ σ' = [some (.ref t), some (.int (n : Int)), some (.bl b), some (.int 0), some (.int sp), none, none, none, none, none] ∧ Tape H' t tq ∧ Kept t H H', ?_, ?_⟩
    · refine ⟨_, rfl, _, _, rfl, rfl, _, rfl, ite2 (fun e => ?_) (fun e => ?_)⟩
      · exact k _ _ none trivial .non hT Kept.rfl
      · have e : ¬ (8 : Int) < n := fun z => e (decide_eq_true z)
        refine ⟨_, rfl, rfl, _, rfl, iteDT rfl (iteT ⟨_, rfl, t, 2, tq, rfl, hT, by decide, by decide, fun H1 v hv0 hv1 hT1 hK1 => ⟨rfl, _, rfl, ite2 (fun e => ?_) (fun e => ?_)⟩⟩)⟩
        · exact k _ _ none trivial .non hT1 hK1
        · exact ⟨by omega, rfl, hT1, hK1⟩
    · rintro σ' H1 ⟨hn8, rfl, hT1, hK1⟩
      have hsp2 : sp ≤ 256 := by
        rw [← hsp]
        exact pow_le8 hn8
      refine ⟨_, rfl, _, rfl, t, sp, tq, rfl, hT1, by omega, by omega, fun H2 a ha0 ha1 hT2 hK2 => ?_⟩
      refine ⟨_, rfl, (by show 1 ≤ sizeLine; decide), fun l hl => ?_⟩
      have hT3 := hT2.new (o := .lst [V.int a]) hl
      have hK3 : Kept t H (upd H2 l (.lst [V.int a])) := (hK1.trans hK2).new hl
      obtain ⟨nl1, nl2⟩ := hT2.off hl
      have hl3 : (upd H2 l (.lst [V.int a])) l = some (.lst ([a].map V.int)) := upd_same
      have hHl : H l = none := (hK1.trans hK2).free hT2 hl
      generalize upd H2 l (.lst [V.int a]) = H3 at hT3 hK3 hl3
      refine ⟨fun σ' H' => ∃ (p : Addr) (ns : List Int), σ' = [some (.ref t), some (.int (n : Int)), some (.bl b), some (.int 0), some (.int sp), some (.int a), some (.ref p), none, none, none] ∧ ns ≠ [] ∧ ns.length ≤ 300 ∧ (∀ x ∈ ns, 0 ≤ x ∧ x < sp) ∧ H' p = some (.lst (ns.map V.int)) ∧ p ≠ t ∧ p ≠ tq ∧ H p = none ∧ Tape H' t tq ∧ Kept t H H', ?_, ?_⟩
      · refine ⟨_, rfl, rfl, _, rfl, iteDT rfl ⟨_, rfl, t, 2, tq, rfl, hT3, by decide, by decide, fun H4 v hv0 hv1 hT4 hK4 => ⟨rfl, _, rfl, ite2 (fun e => ?_) (fun e => ?_)⟩⟩⟩
        · refine ⟨_, rfl, _, rfl, _, _, rfl, rfl, _, rfl, _, rfl, _, rfl, _, _, rfl, rfl, t, sp - a, tq, rfl, hT4, by omega, by omega, fun H5 d hd0 hd1 hT5 hK5 => ⟨_, _, rfl, rfl, _, _, rfl, fun r hr' => ?_⟩⟩
          have er : (upd H5 r (.rng a (a + 1 + d))) r = some (.rng a (a + ((d.toNat + 1 : Nat) : Int))) := by
            rw [upd_same, show a + 1 + d = a + ((d.toNat + 1 : Nat) : Int) by omega]
          refine ⟨r, a, d.toNat + 1, rfl, er, by omega, by omega, by omega, fun p hp => ?_⟩
          have hT6 := hT5.new (o := .rng a (a + 1 + d)) hr'
          have hK6 : Kept t H (upd H5 r (.rng a (a + 1 + d))) := ((hK3.trans hK4).trans hK5).new hr'
          obtain ⟨np1, np2⟩ := hT6.off hp
          refine ⟨p, (List.range (d.toNat + 1)).map fun (i : Nat) => a + (i : Int), rfl, by simp, by simp; omega, fun x hx => ?_, ?_, np1, np2, hK6.free hT6 hp, hT6.new hp, hK6.new hp⟩
          · obtain ⟨i, hi, rfl⟩ := List.mem_map.mp hx
            have := List.mem_range.mp hi
            omega
          · rw [upd_same, List.map_map]
            rfl
        · exact ⟨l, [a], rfl, by simp, (by show 1 ≤ 300; decide), fun x hx => by rw [List.mem_singleton.mp hx]; exact ⟨ha0, ha1⟩, hK4 l _ nl1 hl3, nl1, nl2, hHl, hT4, hK3.trans hK4⟩
      · rintro σ' H4 ⟨p, ns, rfl, hne, hlen, hin, hp4, np1, np2, hHp, hT4, hK4⟩
        refine ⟨_, rfl, _, rfl, rfl, _, rfl, iteDT rfl ⟨t, 4, tq, rfl, hT4, by decide, by decide, fun H5 m hm0 hm1 hT5 hK5 => ?_⟩⟩
        refine ⟨m, rfl, by omega, by omega, for_range (n := m.toNat) (fun i σ H6 => ∃ (a : Int) (ns : List Int) (v7 : Option V), σ = [some (.ref t), some (.int (n : Int)), some (.bl b), some (.int 0), some (.int sp), some (.int a), some (.ref p), v7, none, none] ∧ ns ≠ [] ∧ ns.length ≤ 300 + i ∧ (∀ x ∈ ns, 0 ≤ x ∧ x < sp) ∧ H6 p = some (.lst (ns.map V.int)) ∧ Tape H6 t tq ∧ Kept t H H6)
          ⟨a, ns, none, rfl, hne, by omega, hin, hK5 p _ np1 hp4, hT5, hK4.trans hK5⟩ ?_ ?_⟩
        · rintro i σ H6 hi ⟨a, ns, v7, rfl, hne, hlen, hin, hp6, hT6, hK6⟩
          refine ⟨_, rfl, _, rfl, _, _, rfl, rfl, ⟨by decide, by decide⟩, _, rfl, _, _, rfl, rfl, ⟨by decide, by decide⟩, _, _, rfl, rfl, (by show 6 ≤ sizeLine; decide), fun l hl => ⟨_, rfl, t, 6, tq, rfl, hT6.new hl, by decide, by decide, fun H7 x hx0 hx1 hT7 hK7 => ?_⟩⟩
          have hz : ∃ z : Int, atI [V.int 1, V.int 1, V.int 2, V.int 7, V.int (sp / 2), V.int (1 + sp / 4)] x = some (V.int z) := by
            rcases (show x = 0 ∨ x = 1 ∨ x = 2 ∨ x = 3 ∨ x = 4 ∨ x = 5 by omega) with rfl | rfl | rfl | rfl | rfl | rfl <;> exact ⟨_, rfl⟩
          obtain ⟨z, hz⟩ := hz
          have el := hK7 l _ (hT6.off hl).1 upd_same
          have hK7' : Kept t H H7 := (hK6.new hl).trans hK7
          have hp7 : H7 p = some (.lst (ns.map V.int)) := hK7 p _ np1 (by rw [upd_ne (ne_of_none hp6 hl)]; exact hp6)
          refine ⟨l, _, _, _, rfl, rfl, SqL.of el, hz, _, _, rfl, rfl, .inl ⟨_, rfl, _, rfl, _, _, rfl, rfl, hp, ?_⟩⟩
          have hy0 := Int.emod_nonneg (a + z) (show sp ≠ 0 by omega)
          have hy1 := Int.emod_lt_of_pos (a + z) hp
          refine ⟨_, rfl, _, rfl, p, _, rfl, .inl (SqL.of hp7), rfl, all_flat_ints ns, _, rfl, ite2 (fun e => ?_) (fun e => ?_)⟩
          · refine ⟨_, rfl, .inl ⟨rfl, _, SqL.of hp7⟩, _, rfl, p, _, _, rfl, rfl, hp7, ?_, ?_⟩
            · rw [List.length_map]
              exact small1000 (by omega)
            · refine ⟨_, ns ++ [(a + z) % sp], _, rfl, by simp, by rw [List.length_append]; show ns.length + 1 ≤ _; omega, fun q hq => ?_, ?_, hT7.put np1 np2, fun b o hb e => ?_⟩
              · rcases List.mem_append.mp hq with hq | hq
                · exact hin q hq
                · rw [List.mem_singleton.mp hq]
                  exact ⟨hy0, hy1⟩
              · rw [upd_same, List.map_append]
                rfl
              · rw [upd_ne (ne_of_none e hHp)]
                exact hK7' b o hb e
          · exact ⟨_, ns, _, rfl, hne, by omega, hin, hp7, hT7, hK7'⟩
        · rintro σ H6 ⟨a, ns, v7, rfl, hne, hlen, hin, hp6, hT6, hK6⟩
          refine ⟨fun σ' H' => ∃ low : Int, 0 ≤ low ∧ low ≤ 256 ∧ σ' = [some (.ref t), some (.int (n : Int)), some (.bl b), some (.int 0), some (.int sp), some (.int a), some (.ref p), v7, some (.int low), none] ∧ H' = H6, ?_, ?_⟩
          · refine ⟨_, rfl, b, rfl, ite2 (fun e => ?_) (fun e => ?_)⟩
            · refine ⟨_, rfl, _, _, rfl, rfl, ⟨by decide, by decide⟩, ?_⟩
              exact ⟨sp / 2, by omega, by omega, rfl, rfl⟩
            · exact ⟨0, by decide, by decide, rfl, rfl⟩
          · rintro σ' H' ⟨low, hl0, hl1, rfl, rfl⟩
            refine ⟨_, rfl, p, ns, rfl, SqL.of hp6, fun ns' q perm srt hq => ?_⟩
            have hT7 := hT6.new (o := .lst (ns'.map V.int)) hq
            have hK7 : Kept t H (upd H' q (.lst (ns'.map V.int))) := hK6.new hq
            have hq7 : (upd H' q (.lst (ns'.map V.int))) q = some (.lst (ns'.map V.int)) := upd_same
            generalize upd H' q (.lst (ns'.map V.int)) = H7 at hT7 hK7 hq7
            refine ⟨q, rfl, ⟨_, SqL.of hq7⟩, fun D hD => lc_list (K := K) (a := q) (xs := ns'.map V.int) (fun i H8 => Same H7 H8 ∧ H8 D = some (.lst (((ns'.map fun x => x - low).take i).map V.int))) ⟨same_upd hD, upd_same⟩ (fun i H8 _ h8 => SqL.of (h8.1 _ _ hq7)) ?_ ?_⟩
            · rintro i y H8 hi ⟨s8, h8⟩
              obtain ⟨x, rfl, hx⟩ := map_int_at hi
              have hxl : i < ns'.length := (List.getElem?_eq_some_iff.mp hx).1
              have hpl := perm.length_eq
              refine ⟨rfl, _, rfl, _, rfl, _, _, rfl, rfl, _, h8, ?_, fun c o e => ?_, ?_⟩
              · rw [List.length_map, List.length_take]
                exact Nat.lt_of_le_of_lt (Nat.min_le_left _ _) (small1000 (by omega))
              · rw [upd_ne (ne_of_none e hD)]
                exact s8 c o e
              · rw [upd_same, take_next (x := x - low) (by rw [List.getElem?_map, hx]; rfl), List.map_append]
                rfl
            · rintro H8 ⟨s8, h8⟩
              have hpl := perm.length_eq
              rw [List.take_of_length_le (by rw [List.length_map, List.length_map]; exact Nat.le_refl _)] at h8
              refine ⟨D, _, rfl, SqL.of h8, by rw [List.length_map]; omega, fun H9 v rs s9 rr hne9 ok9 hl9 => ?_⟩
              have hmem : ∀ x ∈ ns'.map (fun x => x - low), -1000 ≤ x ∧ x ≤ 1000 := fun x hx => by
                obtain ⟨y, hy, rfl⟩ := List.mem_map.mp hx
                have := hin y (perm.mem_iff.mp hy)
                omega
              have hns' : ns'.map (fun x => x - low) ≠ [] := fun z => hne (List.length_eq_zero_iff.mp (by
                have := congrArg List.length z
                rw [List.length_map] at this
                show ns.length = 0
                rw [← hpl]
                exact this))
              exact k H9 v (some rs) ⟨hne9 hns', fun p hp => ⟨(ok9 p hp).1, (hmem _ (ok9 p hp).2.1).1, (hmem _ (ok9 p hp).2.2).2⟩, by rw [List.length_map] at hl9; omega⟩ rr ((hT7.same s8).same s9) (hK7.trans (Same.kept (s8.trans s9)))

/-! def _law_a_field -/
def sp_l_a_field (K : PySem.W.Frag) : Sp := fun vs H Q _ => ∃ (t u tq : Addr) (ws : List Int), vs = [.ref t, .ref u, .int 0] ∧ Tape H t tq ∧ H u = some (.lst (ws.map V.int)) ∧ u ≠ t ∧ ws ≠ [] ∧ ws.length ≤ 1000 ∧ (∀ x ∈ ws, 1 ≤ x ∧ x ≤ 32) ∧
  ∀ (H' : Hp) (v : V) (n : Nat) (b : Bool) (r : Option (List (Int × Int))), 1 ≤ n → n ≤ 32 → (n : Int) ∈ ws → RangesOk r → Rep K H' v (.tuple [.int (n : Int), .bool b, encR r]) → Tape H' t tq → Kept t H H' → Q v H'
theorem ok_l_a_field (T : Txt K w mg A) : FnOk P w K mg base CX0 3 A.l_a_field.f A.l_a_field.fd ["tape", "widths", "most"] (sp_l_a_field K) := by
  have G_l_draw : FnOk P w K mg base CX0 1 A.l_draw.f A.l_draw.fd ["tape", "many"] (sp_l_draw K) := ok_l_draw T
  have G_l_ranges : FnOk P w K mg base CX0 2 A.l_ranges.f A.l_ranges.fd ["tape", "width", "signed", "most"] (sp_l_ranges K) := ok_l_ranges T
  refine T.F_l_a_field.ok sc_l_a_field (fun vs H Q E h => ?_) (fun cdv Ar outer s H vs Q E hr h => ?_)
  · obtain ⟨t, u, tq, ws, rfl, _⟩ := h; rfl
  · obtain ⟨t, u, tq, ws, rfl, hT, hu, nut, hne, hwl, hws, k⟩ := h
    refine ⟨_, (pss_cons (ps_set (i := 3) sc_l_a_field.nd rfl (.inl rfl) (pe_ix ix_list (pv 1) (pe_call G_l_draw (hr.mono (by decide)) (by rfl) T.g_l_draw T.F_l_draw.kp T.b_l_draw .nil pass0 (pa_cons (pv 0) (pa_cons (pe_callB call_len_seq (by rfl) T.n_len (by decide +kernel) (pa_cons (pv 1) pa_nil)) pa_nil))) (fun _ _ => rfl)))
        (pss_cons (ps_set (i := 4) sc_l_a_field.nd rfl (.inl rfl) (pe_cmpR op_eq (pe_call G_l_draw (hr.mono (by decide)) (by rfl) T.g_l_draw T.F_l_draw.kp T.b_l_draw .nil pass0 (pa_cons (pv 0) (pa_cons pe_int pa_nil))) pe_int (nomark _)))
        (pss_one (ps_ret (pe_tup (pa_cons (pv 3) (pa_cons (pv 4) (pa_cons (pe_call G_l_ranges (hr.mono (by decide)) (by rfl) T.g_l_ranges T.F_l_ranges.kp T.b_l_ranges .nil pass0 (pa_cons (pv 0) (pa_cons (pv 3) (pa_cons (pv 4) (pa_cons (pv 2) pa_nil))))) pa_nil)))))))), ?_⟩
    have hpos : 0 < ws.length := List.length_pos_iff.mpr hne
    refine ⟨_, rfl, _, rfl, _, rfl, u, _, rfl, .inl (SqL.of hu), t, _, tq, rfl, hT, (by rw [List.length_map]; omega), (by rw [List.length_map]; omega), fun H1 v hv0 hv1 hT1 hK1 => ?_⟩
    rw [List.length_map] at hv1
    have hj : v.toNat < ws.length := by omega
    have ha : atI (ws.map V.int) v = some (V.int ws[v.toNat]) := at_of (j := v.toNat) (by omega) (by rw [List.getElem?_map, List.getElem?_eq_getElem hj]; rfl)
    have hm : ws[v.toNat] ∈ ws := List.getElem_mem hj
    have hw := hws _ hm
    obtain ⟨n, hn⟩ : ∃ n : Nat, ws[v.toNat] = (n : Int) := ⟨ws[v.toNat].toNat, by omega⟩
    rw [hn] at ha hm hw
    refine ⟨u, _, _, _, rfl, rfl, SqL.of (hK1 u _ nut hu), ha, ?_⟩
    refine ⟨_, rfl, t, 3, tq, rfl, hT1, by decide, by decide, fun H2 x hx0 hx1 hT2 hK2 => ⟨rfl, ?_⟩⟩
    generalize decide (V.int x = V.int 0) = b
    refine ⟨_, rfl, _, rfl, _, rfl, _, rfl, _, rfl, _, rfl, t, tq, n, b, rfl, hT2, by omega, by omega, fun H3 w r hr3 rr hT3 hK3 => ⟨(by show 3 ≤ sizeLine; decide), fun p hp => ?_⟩⟩
    exact k _ _ n b r (by omega) (by omega) hm hr3 (.tup (SqT.of upd_same) (.cons (.int _) (.cons (.bl _) (.cons (rr.up (Imm.new hp)) .nil)))) (hT3.new hp) (((hK1.trans hK2).trans hK3).new hp)

/-! def _law_a_number -/
theorem encPairs_get {l : List (Int × Int)} {i : Nat} (h : i < l.length) : (l.map encPair)[i]? = some (encPair l[i]) := by
  rw [List.getElem?_map, List.getElem?_eq_getElem h]
  rfl
theorem pow_le16 {n : Nat} (h : n ≤ 16) : (2 : Int) ^ n ≤ 65536 := by
  have q : (2 : Nat) ^ n ≤ 2 ^ 16 := Nat.pow_le_pow_right (by decide) h
  have e : ((2 ^ n : Nat) : Int) = (2 : Int) ^ n := by rw [Int.natCast_pow]; rfl
  omega
def sp_l_a_number (K : PySem.W.Frag) : Sp := fun vs H Q _ => ∃ (t tq : Addr) (n : Nat) (b : Bool) (v : V) (r : Option (List (Int × Int))), vs = [.ref t, .int (n : Int), .bl b, v] ∧ Tape H t tq ∧ 1 ≤ n ∧ n ≤ 32 ∧ RangesOk r ∧ Rep K H v (encR r) ∧
  ∀ (H' : Hp) (i : Int), NumOk n b r i → Tape H' t tq → Kept t H H' → Q (.int i) H'
theorem ok_l_a_number (T : Txt K w mg A) : FnOk P w K mg base CX0 2 A.l_a_number.f A.l_a_number.fd ["tape", "width", "signed", "ranges"] (sp_l_a_number K) := by
  have G_l_draw : FnOk P w K mg base CX0 1 A.l_draw.f A.l_draw.fd ["tape", "many"] (sp_l_draw K) := ok_l_draw T
  refine T.F_l_a_number.ok sc_l_a_number (fun vs H Q E h => ?_) (fun cdv Ar outer s H vs Q E hr h => ?_)
  · obtain ⟨t, tq, n, b, v, r, rfl, _⟩ := h; rfl
  · obtain ⟨t, tq, n, b, v, r, rfl, hT, hn1, hn2, hr1, hrep, k⟩ := h
    refine ⟨_, (pss_cons (ps_if (pt_cmpR op_notN (pv 3) pe_non (nomark _)) (pss_cons (ps_set (i := 4) sc_l_a_number.nd rfl (.inl rfl) (pe_ix ix_tup (pv 3) (pe_call G_l_draw (hr.mono (by decide)) (by rfl) T.g_l_draw T.F_l_draw.kp T.b_l_draw .nil pass0 (pa_cons (pv 0) (pa_cons (pe_callB call_len_seq (by rfl) T.n_len (by decide +kernel) (pa_cons (pv 3) pa_nil)) pa_nil))) (fun _ _ => rfl)))
        (pss_one (ps_ret (pe_op op_add (pe_ix ix_tup (pv 4) pe_int (fun _ _ => rfl)) (pe_call G_l_draw (hr.mono (by decide)) (by rfl) T.g_l_draw T.F_l_draw.kp T.b_l_draw .nil pass0 (pa_cons (pv 0) (pa_cons (pe_op op_add (pe_op op_sub (pe_ix ix_tup (pv 4) pe_int (fun _ _ => rfl)) (pe_ix ix_tup (pv 4) pe_int (fun _ _ => rfl))) pe_int) pa_nil))))))) pss_nil)
        (pss_cons (ps_set (i := 5) sc_l_a_number.nd rfl (.inl rfl) (pe_call G_l_draw (hr.mono (by decide)) (by rfl) T.g_l_draw T.F_l_draw.kp T.b_l_draw .nil pass0 (pa_cons (pv 0) (pa_cons (pe_op op_shl pe_int (pe_callB (call_min2 rfl) (by rfl) T.n_min (by decide +kernel) (pa_cons (pv 1) (pa_cons pe_int pa_nil)))) pa_nil))))
        (C8.pss_cut (ps_if (pt_cmpR op_gt (pv 1) pe_int (nomark _)) (pss_one (ps_set (i := 5) sc_l_a_number.nd rfl (.inl rfl) (pe_op op_add (pe_op op_mul (pv 5) pe_int) (pe_call G_l_draw (hr.mono (by decide)) (by rfl) T.g_l_draw T.F_l_draw.kp T.b_l_draw .nil pass0 (pa_cons (pv 0) (pa_cons pe_int pa_nil)))))) pss_nil)
        (pss_cons (ps_set (i := 5) sc_l_a_number.nd rfl (.inl rfl) (pe_op op_andM (pe_ix ix_list (pe_lst (pa_cons pe_int (pa_cons (pe_op op_sub (pe_op op_shl pe_int (pv 1)) pe_int) (pa_cons (pe_op op_shl pe_int (pe_op op_sub (pv 1) pe_int)) (pa_cons (pe_op op_and (pv 5) pe_int) (pa_cons (pv 5) (pa_cons (pv 5) pa_nil))))))) (pe_call G_l_draw (hr.mono (by decide)) (by rfl) T.g_l_draw T.F_l_draw.kp T.b_l_draw .nil pass0 (pa_cons (pv 0) (pa_cons pe_int pa_nil))) (fun _ _ => rfl)) (pe_op op_sub (pe_op op_shl pe_int (pv 1)) pe_int)))
        (pss_one (ps_ret (pe_ifExp (PW.pt (pw_and (pt_val (pv 2)) (pw_and1 (pt_cmpR op_eq (pe_op op_shr (pv 5) (pe_op op_sub (pv 1) pe_int)) pe_int (nomark _))))) (pe_op op_sub (pv 5) (pe_op op_shl pe_int (pv 1))) (pv 5)))))))), ?_⟩
    cases r with
    | some l =>
      obtain ⟨a, xs, rfl, hs, hlen, _, hget⟩ := Rep.item (show Rep K H v (.tuple (l.map encPair)) from hrep)
      rw [List.length_map] at hlen
      have hpos : 0 < l.length := List.length_pos_iff.mpr hr1.1
      have hl1 := hr1.2.2
      refine ⟨_, rfl, rfl, _, rfl, ite2 (fun e => ?_) (fun e => (e rfl).elim)⟩
      refine ⟨_, rfl, _, rfl, _, rfl, a, xs, rfl, .inr hs, t, _, tq, rfl, hT, (by rw [hlen]; omega), (by rw [hlen]; omega), fun H1 x hx0 hx1 hT1 hK1 => ?_⟩
      rw [hlen] at hx1
      have m1 : Imm K H H1 := Imm.kept hT hK1
      have hj : x.toNat < l.length := by omega
      obtain ⟨u, hu, ru⟩ := hget x.toNat _ (encPairs_get hj)
      rw [show ((x.toNat : Nat) : Int) = x by omega] at hu
      obtain ⟨pa, pxs, rfl, ps, _, _, pget⟩ := Rep.item (ds := [.int l[x.toNat].1, .int l[x.toNat].2]) (ru.up m1)
      obtain ⟨u0, hu0, ru0⟩ := pget 0 _ rfl
      obtain ⟨u1, hu1, ru1⟩ := pget 1 _ rfl
      cases ru0.int_inv
      cases ru1.int_inv
      have hp := hr1.2.1 _ (List.getElem_mem hj)
      refine ⟨a, xs, _, _, rfl, rfl, m1 _ _ hs, hu, ?_⟩
      refine ⟨_, rfl, pa, _, _, _, rfl, rfl, ps, hu0, _, rfl, _, rfl, pa, _, _, _, rfl, rfl, ps, hu1, _, rfl, pa, _, _, _, rfl, rfl, ps, hu0, _, _, rfl, rfl, _, _, rfl, rfl, t, _, tq, rfl, hT1, by omega, by omega, fun H2 y hy0 hy1 hT2 hK2 => ⟨_, _, rfl, rfl, ?_⟩⟩
      exact k _ _ ⟨_, List.getElem_mem hj, by omega, by omega⟩ hT2 (hK1.trans hK2)
    | none =>
      cases hrep.non_inv
      refine ⟨_, rfl, rfl, _, rfl, ite2 (fun e => (nomatch e)) (fun e => ?_)⟩
      have hmin : (if (16 : Int) < (n : Int) then (16 : Int) else (n : Int)) = ((min n 16 : Nat) : Int) := by
        split <;> omega
      have h16 := pow_le16 (n := min n 16) (by omega)
      have h16p := two_pos (min n 16)
      refine ⟨_, rfl, _, rfl, _, _, rfl, _, _, rfl, rfl, ⟨?_, ?_, by decide⟩, t, _, tq, rfl, hT, ?_, ?_, fun H1 c hc0 hc1 hT1 hK1 => ?_⟩
      · rw [hmin]
        omega
      · rw [hmin]
        omega
      · rw [hmin, Int.toNat_natCast, Int.one_mul]
        omega
      · rw [hmin, Int.toNat_natCast, Int.one_mul]
        omega
      refine ⟨fun σ' H' => ∃ c : Int, σ' = [some (.ref t), some (.int (n : Int)), some (.bl b), some .non, none, some (.int c)] ∧ Tape H' t tq ∧ Kept t H H', ?_, ?_⟩
      · refine ⟨_, rfl, _, _, rfl, rfl, _, rfl, ite2 (fun e => ?_) (fun e => ?_)⟩
        · refine ⟨_, rfl, _, _, rfl, rfl, .inr ⟨by decide, by decide⟩, _, rfl, t, 65536, tq, rfl, hT1, by decide, by decide, fun H2 d hd0 hd1 hT2 hK2 => ⟨_, _, rfl, rfl, ?_⟩⟩
          exact ⟨_, rfl, hT2, hK1.trans hK2⟩
        · exact ⟨_, rfl, hT1, hK1⟩
      · rintro σ' H2 ⟨c, rfl, hT2, hK2⟩
        obtain ⟨m, rfl⟩ : ∃ m, n = m + 1 := ⟨n - 1, by omega⟩
        have em : ((m + 1 : Nat) : Int) - 1 = (m : Int) := by omega
        refine ⟨_, rfl, _, _, rfl, rfl, ⟨by omega, by omega, by decide⟩, _, _, rfl, rfl, _, rfl, _, _, rfl, rfl, _, _, rfl, rfl, ⟨by omega, by omega, by decide⟩, _, rfl, _, _, rfl, rfl, _, rfl, _, rfl, (by show 6 ≤ sizeLine; decide), fun l hl => ?_⟩
        refine ⟨_, rfl, t, 6, tq, rfl, hT2.new hl, by decide, by decide, fun H3 x hx0 hx1 hT3 hK3 => ?_⟩
        have hz : ∃ z : Int, atI [V.int 0, V.int (1 * 2 ^ ((m + 1 : Nat) : Int).toNat - 1), V.int (1 * 2 ^ (((m + 1 : Nat) : Int) - 1).toNat), V.int (Builtin.bitAnd c 255), V.int c, V.int c] x = some (V.int z) := by
          rcases (show x = 0 ∨ x = 1 ∨ x = 2 ∨ x = 3 ∨ x = 4 ∨ x = 5 by omega) with rfl | rfl | rfl | rfl | rfl | rfl <;> exact ⟨_, rfl⟩
        obtain ⟨z, hz⟩ := hz
        have e3 := hK3 l _ (hT2.off hl).1 upd_same
        refine ⟨l, _, _, _, rfl, rfl, SqL.of e3, hz, _, rfl, _, _, rfl, rfl, ⟨by omega, by omega, by decide⟩, _, _, rfl, rfl, z, m + 1, rfl, ?_, ?_⟩
        · rw [Int.toNat_natCast, Int.one_mul]
        have hK4 : Kept t H H3 := (hK2.new hl).trans hK3
        have hp1 := two_pos (m + 1)
        have hp0 := two_pos m
        have hd : (2 : Int) ^ (m + 1) = 2 * 2 ^ m := by rw [Int.pow_succ, Int.mul_comm]
        have c0 := Int.emod_nonneg z (show (2 : Int) ^ (m + 1) ≠ 0 by omega)
        have c1 := Int.emod_lt_of_pos z hp1
        generalize z % 2 ^ (m + 1) = y at c0 c1
        have hdef : ¬ (b = true ∧ y / 2 ^ m = 1) → NumOk (m + 1) b none y := fun h => by
          unfold NumOk
          by_cases e : b = true
          · rw [if_pos e]
            show -(2 ^ m) ≤ y ∧ y < 2 ^ m
            by_cases q : y < 2 ^ m
            · exact ⟨by omega, q⟩
            · exact (h ⟨e, by
                have h1 : y / 2 ^ m < 2 := Int.ediv_lt_of_lt_mul hp0 (by omega)
                have h2 : 1 ≤ y / 2 ^ m := Int.le_ediv_of_mul_le hp0 (by omega)
                omega⟩).elim
          · rw [if_neg e]
            exact ⟨c0, c1⟩
        refine ⟨_, rfl, b, rfl, ite2 (fun e => ?_) (fun e => ?_)⟩
        · refine ⟨_, rfl, _, rfl, _, _, rfl, rfl, _, _, rfl, rfl, (by show (0 : Int) ≤ ((m + 1 : Nat) : Int) - 1; omega), rfl, _, rfl, ite2 (fun e2 => ?_) (fun e2 => ?_)⟩
          · have e2 := dec_eq_int e2
            rw [em, Int.toNat_natCast] at e2
            refine ⟨_, rfl, _, rfl, _, _, rfl, rfl, ⟨by omega, by omega, by decide⟩, _, _, rfl, rfl, ?_⟩
            dsimp only
            rw [Int.toNat_natCast, Int.one_mul]
            refine k _ _ ?_ hT3 hK4
            unfold NumOk
            rw [if_pos e]
            show -(2 ^ m) ≤ _ ∧ _ < 2 ^ m
            have h1 : 1 * 2 ^ m ≤ y := by
              rw [← e2]
              exact Int.ediv_mul_le y (by omega)
            omega
          · have e2 := dec_ne_int e2
            rw [em, Int.toNat_natCast] at e2
            exact ⟨_, rfl, k _ _ (hdef fun z => e2 z.2) hT3 hK4⟩
        · exact ⟨_, rfl, k _ _ (hdef fun z => e z.1) hT3 hK4⟩

/-! def _law_part -/
def sp_l_part (K : PySem.W.Frag) : Sp := fun vs H Q _ => ∃ (t u tq : Addr) (v : V) (us : List Str) (n : Nat) (b : Bool) (r : Option (List (Int × Int))), vs = [.ref t, .ref u, v] ∧ Tape H t tq ∧ u ≠ t ∧ u ≠ tq ∧ H u = some (.lst (us.map V.str)) ∧ us.length ≤ 900 ∧
  1 ≤ n ∧ n ≤ 32 ∧ RangesOk r ∧ Rep K H v (.tuple [.int (n : Int), .bool b, encR r]) ∧
  ∀ (H' : Hp) (w : V) (p : Part) (us' : List Str), PartOk n p → Rep K H' w (encPart p) → Tape H' t tq → H' u = some (.lst (us'.map V.str)) → us'.length ≤ us.length + 1 → Kept2 t u H H' → Q w H'
theorem ok_l_part (T : Txt K w mg A) : FnOk P w K mg base CX0 3 A.l_part.f A.l_part.fd ["tape", "used", "field"] (sp_l_part K) := by
  have G_l_a_number : FnOk P w K mg base CX0 2 A.l_a_number.f A.l_a_number.fd ["tape", "width", "signed", "ranges"] (sp_l_a_number K) := ok_l_a_number T
  have G_l_draw : FnOk P w K mg base CX0 1 A.l_draw.f A.l_draw.fd ["tape", "many"] (sp_l_draw K) := ok_l_draw T
  have G_l_name : FnOk P w K mg base CX0 2 A.l_name.f A.l_name.fd ["tape", "used"] (sp_l_name K) := ok_l_name T
  refine T.F_l_part.ok sc_l_part (fun vs H Q E h => ?_) (fun cdv Ar outer s H vs Q E hr h => ?_)
  · obtain ⟨t, u, tq, v, us, n, b, r, rfl, _⟩ := h; rfl
  · obtain ⟨t, u, tq, v, us, n, b, r, rfl, hT, nut, nuq, hu, hul, hn1, hn2, hr1, hrep, k⟩ := h
    refine ⟨_, (pss_cons (ps_if (pt_cmpR op_eq (pe_call G_l_draw (hr.mono (by decide)) (by rfl) T.g_l_draw T.F_l_draw.kp T.b_l_draw .nil pass0 (pa_cons (pv 0) (pa_cons pe_int pa_nil))) pe_int (nomark _)) (pss_one (ps_ret (pe_tup (pa_cons pe_non (pa_cons (pe_ix ix_tup (pv 2) pe_int (fun _ _ => rfl)) (pa_cons pe_bl (pa_cons pe_non (pa_cons pe_non pa_nil)))))))) pss_nil)
        (pss_cons (ps_expr (pe_bm PySem.F.plainAttrs_list PySem.F.slot_list_append PySem.F.type_list_append mt_append (pv 1) (pa_cons (pe_call G_l_name (hr.mono (by decide)) (by rfl) T.g_l_name T.F_l_name.kp T.b_l_name .nil pass0 (pa_cons (pv 0) (pa_cons (pv 1) pa_nil))) pa_nil)))
        (pss_cons (ps_set (i := 3) sc_l_part.nd rfl (.inl rfl) (pe_ix ix_list (pe_lst (pa_cons pe_non (pa_cons (pe_call G_l_a_number (hr.mono (by decide)) (by rfl) T.g_l_a_number T.F_l_a_number.kp T.b_l_a_number .nil pass0 (pa_cons (pv 0) (pa_cons (pe_ix ix_tup (pv 2) pe_int (fun _ _ => rfl)) (pa_cons (pe_ix ix_tup (pv 2) pe_int (fun _ _ => rfl)) (pa_cons (pe_ix ix_tup (pv 2) pe_int (fun _ _ => rfl)) pa_nil))))) pa_nil))) (pe_call G_l_draw (hr.mono (by decide)) (by rfl) T.g_l_draw T.F_l_draw.kp T.b_l_draw .nil pass0 (pa_cons (pv 0) (pa_cons pe_int pa_nil))) (fun _ _ => rfl)))
        (pss_one (ps_ret (pe_tup (pa_cons (pe_ix ix_list (pv 1) (pe_un un_neg pe_int) (fun _ _ => rfl)) (pa_cons (pe_ix ix_tup (pv 2) pe_int (fun _ _ => rfl)) (pa_cons (pe_ix ix_tup (pv 2) pe_int (fun _ _ => rfl)) (pa_cons (pe_ix ix_tup (pv 2) pe_int (fun _ _ => rfl)) (pa_cons (pv 3) pa_nil))))))))))), ?_⟩
    obtain ⟨a, xs, rfl, hs, _, _, hget⟩ := Rep.item hrep
    obtain ⟨u0, hu0, ru0⟩ := hget 0 _ rfl
    obtain ⟨u1, hu1, ru1⟩ := hget 1 _ rfl
    obtain ⟨u2, hu2, ru2⟩ := hget 2 _ rfl
    cases ru0.int_inv
    cases ru1.bl_inv
    refine ⟨_, rfl, t, 5, tq, rfl, hT, by decide, by decide, fun H1 x hx0 hx1 hT1 hK1 => ⟨rfl, _, rfl, ite2 (fun e => ?_) (fun e => ?_)⟩⟩
    · have m1 : Imm K H H1 := Imm.kept hT hK1
      refine ⟨_, rfl, a, _, _, _, rfl, rfl, m1 _ _ hs, hu0, (by show 5 ≤ sizeLine; decide), fun p hp => ?_⟩
      have hu1' := hK1 u _ nut hu
      refine k _ _ ⟨none, n, false, none, none⟩ us ⟨rfl, trivial, fun d h => (nomatch h), fun _ => rfl⟩ (.tup (SqT.of upd_same) (.cons .non (.cons (.int _) (.cons (.bl _) (.cons .non (.cons .non .nil)))))) (hT1.new hp) (by rw [upd_ne (ne_of_none hu1' hp)]; exact hu1') (by omega) (hK1.new hp).two
    · have hu1' := hK1 u _ nut hu
      refine ⟨_, rfl, .inl ⟨rfl, _, SqL.of hu1'⟩, _, rfl, _, rfl, t, u, tq, us, rfl, hT1, nut, nuq, hu1', by omega, fun H2 z hzl hT2 hK2 => ?_⟩
      have hu2' := hK2 u _ nut hu1'
      refine ⟨u, _, _, rfl, rfl, hu2', by rw [List.length_map]; exact small1000 (by omega), ?_⟩
      have hT3 : Tape (upd H2 u (.lst (us.map V.str ++ [.str z]))) t tq := hT2.put nut nuq
      have m3 : Imm K H (upd H2 u (.lst (us.map V.str ++ [.str z]))) := (Imm.kept hT (hK1.trans hK2)).trans (Imm.put hu2')
      have hK3 : Kept2 t u H (upd H2 u (.lst (us.map V.str ++ [.str z]))) := (hK1.trans hK2).two.put
      have hu3 : (upd H2 u (.lst (us.map V.str ++ [.str z]))) u = some (.lst ((us ++ [z]).map V.str)) := by
        rw [upd_same, List.map_append]
        rfl
      generalize upd H2 u (.lst (us.map V.str ++ [.str z])) = H3 at hT3 m3 hK3 hu3
      -- default
      refine ⟨_, rfl, _, rfl, a, _, _, _, rfl, rfl, m3 _ _ hs, hu0, _, rfl, a, _, _, _, rfl, rfl, m3 _ _ hs, hu1, _, rfl, a, _, _, _, rfl, rfl, m3 _ _ hs, hu2, t, tq, n, b, u2, r, rfl, hT3, hn1, hn2, hr1, ru2.up m3, fun H4 i hi hT4 hK4 => ⟨(by show 2 ≤ sizeLine; decide), fun l hl => ⟨_, rfl, t, 2, tq, rfl, hT4.new hl, by decide, by decide, fun H5 y hy0 hy1 hT5 hK5 => ?_⟩⟩⟩
      have hd : ∃ d : Option Int, ∃ w : V, atI [V.non, V.int i] y = some w ∧ (∀ H, Rep K H w (encO d)) ∧ ∀ d', d = some d' → NumOk n b r d' := by
        rcases (show y = 0 ∨ y = 1 by omega) with rfl | rfl
        · exact ⟨none, .non, rfl, fun _ => .non, fun d' h => nomatch h⟩
        · exact ⟨some i, .int i, rfl, fun _ => .int i, fun d' h => by cases h; exact hi⟩
      obtain ⟨d, w, hw, rw', hdn⟩ := hd
      have el := hK5 l _ (hT4.off hl).1 upd_same
      have hK5' : Kept t H3 H5 := (hK4.new hl).trans hK5
      have m5 : Imm K H H5 := m3.trans (Imm.kept hT3 hK5')
      have hu5 : H5 u = some (.lst ((us ++ [z]).map V.str)) := hK5' u _ nut hu3
      refine ⟨l, _, _, _, rfl, rfl, SqL.of el, hw, ?_⟩
      have hat : atI ((us ++ [z]).map V.str) (-1) = some (V.str z) := by
        rw [List.map_append]
        exact atI_last _ _
      refine ⟨_, rfl, 1, rfl, u, _, -1, _, rfl, rfl, SqL.of hu5, hat, _, rfl, a, _, _, _, rfl, rfl, m5 _ _ hs, hu0, _, rfl, a, _, _, _, rfl, rfl, m5 _ _ hs, hu1, _, rfl, a, _, _, _, rfl, rfl, m5 _ _ hs, hu2, _, rfl, (by show 5 ≤ sizeLine; decide), fun p hp => ?_⟩
      have mp : Imm K H5 (upd H5 p (.tup [.str z, .int (n : Int), .bl b, u2, w])) := Imm.new hp
      refine k _ _ ⟨some z, n, b, r, d⟩ (us ++ [z]) ⟨rfl, hr1, hdn, fun h => nomatch h⟩ (.tup (SqT.of upd_same) (.cons (.str _) (.cons (.int _) (.cons (.bl _) (.cons (ru2.up (m5.trans mp)) (.cons (rw' _) .nil)))))) (hT5.new hp) (by rw [upd_ne (ne_of_none hu5 hp)]; exact hu5) (by rw [List.length_append]; exact Nat.le_refl _) ((hK3.trans hK5'.two).new hp)

/-! def _law_case_numbers -/
theorem pow_le256 {m : Nat} (h : m ≤ 3) : (2 : Int) ^ (8 * m) ≤ 16777216 := by
  have q : (2 : Nat) ^ (8 * m) ≤ 2 ^ 24 := Nat.pow_le_pow_right (by decide) (by omega)
  have e : ((2 ^ (8 * m) : Nat) : Int) = (2 : Int) ^ (8 * m) := by rw [Int.natCast_pow]; rfl
  omega
def sp_l_case_numbers (K : PySem.W.Frag) : Sp := fun vs H Q _ => ∃ (t tq : Addr) (z : Str) (m : Nat), vs = [.ref t, .str z, .int (m : Int)] ∧ Tape H t tq ∧ WordOk z ∧ m ≤ 100 ∧
  ∀ (H' : Hp) (D : Addr) (ns : List Int), H D = none → ns.length = m → (∀ x ∈ ns, 0 ≤ x ∧ x < 2 ^ (8 * (wsize z).toNat)) → H' D = some (.lst (ns.map V.int)) → Tape H' t tq → Kept t H H' → Q (.ref D) H'
theorem ok_l_case_numbers (T : Txt K w mg A) : FnOk P w K mg base CX0 2 A.l_case_numbers.f A.l_case_numbers.fd ["tape", "word", "many"] (sp_l_case_numbers K) := by
  have G_l_draw : FnOk P w K mg base CX0 1 A.l_draw.f A.l_draw.fd ["tape", "many"] (sp_l_draw K) := ok_l_draw T
  have G_l_size : FnOk P w K mg base CX0 1 A.l_size.f A.l_size.fd ["word"] (sp_l_size K) := ok_l_size T
  refine T.F_l_case_numbers.ok sc_l_case_numbers (fun vs H Q E h => ?_) (fun cdv Ar outer s H vs Q E hr h => ?_)
  · obtain ⟨t, tq, z, m, rfl, _⟩ := h; rfl
  · obtain ⟨t, tq, z, m, rfl, hT, hz, hm, k⟩ := h
    refine ⟨_, (pss_cons (ps_set (i := 3) sc_l_case_numbers.nd rfl (.inr rfl) (pe_call G_l_size (hr.mono (by decide)) (by rfl) T.g_l_size T.F_l_size.kp T.b_l_size .nil pass0 (pa_cons (pv 1) pa_nil)))
        (pss_cons (ps_set (i := 4) sc_l_case_numbers.nd rfl (.inl rfl) (pe_dget (hu_of hr) (pe_disp (pps_cons pe_int (pe_lst (pa_cons pe_int (pa_cons pe_int (pa_cons pe_int (pa_cons pe_int pa_nil))))) (pps_cons pe_int (pe_lst (pa_cons pe_int (pa_cons pe_int (pa_cons pe_int (pa_cons pe_int pa_nil))))) (pps_cons pe_int (pe_lst (pa_cons pe_int (pa_cons pe_int (pa_cons pe_int (pa_cons pe_int pa_nil))))) pps_nil))) (by rfl) (by rfl) (fun z => by cases z) (by decide)) (pv 3) (fun _ _ => rfl)))
        (pss_cons (ps_set (i := 5) sc_l_case_numbers.nd rfl (.inr rfl) (pe_ix ix_list (pv 4) (pe_call G_l_draw (hr.mono (by decide)) (by rfl) T.g_l_draw T.F_l_draw.kp T.b_l_draw .nil pass0 (pa_cons (pv 0) (pa_cons pe_int pa_nil))) (fun _ _ => rfl)))
        (pss_cons (ps_set (i := 6) sc_l_case_numbers.nd rfl (.inr rfl) (pe_op op_shl (pe_call G_l_draw (hr.mono (by decide)) (by rfl) T.g_l_draw T.F_l_draw.kp T.b_l_draw .nil pass0 (pa_cons (pv 0) (pa_cons pe_int pa_nil))) (pe_op op_mul pe_int (pe_call G_l_draw (hr.mono (by decide)) (by rfl) T.g_l_draw T.F_l_draw.kp T.b_l_draw .nil pass0 (pa_cons (pv 0) (pa_cons (pv 3) pa_nil))))))
        (pss_one (ps_ret (pe_lc (own := [("k", 7)]) (g := (gName 7)) (tt := tYes) (by rfl) sc_l_case_numbers.nd (pi_range1 rfl T.n_range (pa_cons (pv 2) pa_nil)) (blkOk_by (own := [("k", 7)]) (N := ["tape", "word", "many", "size", "steps", "step", "base", "k"]) (sc := defScope s_l_case_numbers) (by decide +kernel)) (fun _ _ _ _ _ => pg_name (i := 7) sc_l_case_numbers.nd rfl (Or.inl rfl)) (fun _ _ _ _ _ => pts_nil) (fun _ _ _ _ _ => (pe_op op_mod (pe_callTy call_int1 (by rfl) T.n_int (by decide +kernel) (pa_cons (pe_op op_add (pv 6) (pe_op op_mul (pv 7) (pv 5))) pa_nil)) (pe_op op_shl pe_int (pe_op op_mul pe_int (pv 3)))))))))))), ?_⟩
    refine ⟨_, rfl, z, rfl, hz, fun H1 s1 => ?_⟩
    have hT1 := hT.same s1
    have hw := wsize_pos hz
    generalize hsz : wsize z = sz at hw
    intro p hp
    refine ⟨(by show 4 ≤ sizeLine; decide), fun l1 hl1 => ⟨(by show 4 ≤ sizeLine; decide), fun l2 hl2 => ⟨(by show 4 ≤ sizeLine; decide), fun l3 hl3 => ?_⟩⟩⟩
    have n1 : p ≠ l1 := ne_of_none upd_same hl1
    have n2 : p ≠ l2 := ne_of_none (by rw [upd_ne n1]; exact upd_same) hl2
    have n3 : p ≠ l3 := ne_of_none (by rw [upd_ne n2, upd_ne n1]; exact upd_same) hl3
    have n12 : l1 ≠ l2 := ne_of_none upd_same hl2
    have n13 : l1 ≠ l3 := ne_of_none (by rw [upd_ne n12]; exact upd_same) hl3
    have n23 : l2 ≠ l3 := ne_of_none upd_same hl3
    refine ⟨by rw [upd_ne n3, upd_ne n2, upd_ne n1]; exact upd_same, [(.inl 1, .ref l1), (.inl 2, .ref l2), (.inl 4, .ref l3)], rfl, (by show 3 ≤ 15; decide), ?_⟩
    have hT2 := (((hT1.new (o := .dK []) hp).new (o := .lst [V.int 1, V.int 255, V.int 37, V.int 2]) hl1).new (o := .lst [V.int 1, V.int 256, V.int 257, V.int 65535]) hl2).new (o := .lst [V.int 1, V.int 256, V.int 65536, V.int 16777216]) hl3
    have hs2 : Same H1 (upd (upd (upd (upd H1 p (.dK [])) l1 (.lst [V.int 1, V.int 255, V.int 37, V.int 2])) l2 (.lst [V.int 1, V.int 256, V.int 257, V.int 65535])) l3 (.lst [V.int 1, V.int 256, V.int 65536, V.int 16777216])) := (((same_upd hp).trans (same_upd hl1)).trans (same_upd hl2)).trans (same_upd hl3)
    have e1 : (upd (upd (upd (upd H1 p (.dK [])) l1 (.lst [V.int 1, V.int 255, V.int 37, V.int 2])) l2 (.lst [V.int 1, V.int 256, V.int 257, V.int 65535])) l3 (.lst [V.int 1, V.int 256, V.int 65536, V.int 16777216])) l1 = some (.lst [V.int 1, V.int 255, V.int 37, V.int 2]) := by rw [upd_ne n13, upd_ne n12, upd_same]
    have e2 : (upd (upd (upd (upd H1 p (.dK [])) l1 (.lst [V.int 1, V.int 255, V.int 37, V.int 2])) l2 (.lst [V.int 1, V.int 256, V.int 257, V.int 65535])) l3 (.lst [V.int 1, V.int 256, V.int 65536, V.int 16777216])) l2 = some (.lst [V.int 1, V.int 256, V.int 257, V.int 65535]) := by rw [upd_ne n23, upd_same]
    have e3 : (upd (upd (upd (upd H1 p (.dK [])) l1 (.lst [V.int 1, V.int 255, V.int 37, V.int 2])) l2 (.lst [V.int 1, V.int 256, V.int 257, V.int 65535])) l3 (.lst [V.int 1, V.int 256, V.int 65536, V.int 16777216])) l3 = some (.lst [V.int 1, V.int 256, V.int 65536, V.int 16777216]) := upd_same
    obtain ⟨np1, np2⟩ := hT1.off hp
    generalize upd (upd (upd (upd H1 p (.dK [])) l1 (.lst [V.int 1, V.int 255, V.int 37, V.int 2])) l2 (.lst [V.int 1, V.int 256, V.int 257, V.int 65535])) l3 (.lst [V.int 1, V.int 256, V.int 65536, V.int 16777216]) = H2 at hT2 hs2 e1 e2 e3
    have hT3 : Tape (upd H2 p (.dK (mergeK [] [(.inl 1, .ref l1), (.inl 2, .ref l2), (.inl 4, .ref l3)]))) t tq := hT2.put np1 np2
    have hK3 : Kept t H (upd H2 p (.dK (mergeK [] [(.inl 1, .ref l1), (.inl 2, .ref l2), (.inl 4, .ref l3)]))) := fun b o n e => by
      have q := s1 b o e
      rw [upd_ne (ne_of_none q hp)]
      exact hs2 b o q
    have hv : ∃ (l : Addr) (ys : List V), valV (mergeK [] [(.inl 1, .ref l1), (.inl 2, .ref l2), (.inl 4, .ref l3)]) (.inl sz) = some (V.ref l) ∧ H2 l = some (.lst ys) ∧ l ≠ p ∧ ∀ x : Int, 0 ≤ x → x < 4 → ∃ y : Int, atI ys x = some (.int y) ∧ 0 ≤ y ∧ y < 2 ^ 32 := by
      have h4 : ∀ x : Int, 0 ≤ x → x < 4 → x = 0 ∨ x = 1 ∨ x = 2 ∨ x = 3 := by omega
      rcases hw with rfl | rfl | rfl
      · exact ⟨l1, _, rfl, e1, n1.symm, fun x a b => by rcases h4 x a b with rfl | rfl | rfl | rfl <;> exact ⟨_, rfl, by decide, by decide⟩⟩
      · exact ⟨l2, _, rfl, e2, n2.symm, fun x a b => by rcases h4 x a b with rfl | rfl | rfl | rfl <;> exact ⟨_, rfl, by decide, by decide⟩⟩
      · exact ⟨l3, _, rfl, e3, n3.symm, fun x a b => by rcases h4 x a b with rfl | rfl | rfl | rfl <;> exact ⟨_, rfl, by decide, by decide⟩⟩
    obtain ⟨l, ys, hvl, hly, nlp, hys⟩ := hv
    have hg : DGet (upd H2 p (.dK (mergeK [] [(.inl 1, .ref l1), (.inl 2, .ref l2), (.inl 4, .ref l3)]))) p (.int sz) (some (.ref l)) := by
      rw [← hvl]
      exact DGet.k (k := Sum.inl sz) upd_same
    have hl3' : (upd H2 p (.dK (mergeK [] [(.inl 1, .ref l1), (.inl 2, .ref l2), (.inl 4, .ref l3)]))) l = some (.lst ys) := by
      rw [upd_ne nlp]
      exact hly
    have nl1 : l ≠ t := fun z => by
      obtain ⟨_, _, _, _, h1, _⟩ := hT1
      have := hs2 _ _ h1
      rw [z] at hly
      rw [this] at hly
      have h5 := Option.some.inj hly
      injection h5 with h6
      obtain ⟨y, hy, _⟩ := hys 0 (by decide) (by decide)
      rw [← h6] at hy
      cases hy
    refine ⟨_, rfl, p, .ref l, rfl, hg, ?_⟩
    generalize upd H2 p (.dK (mergeK [] [(.inl 1, .ref l1), (.inl 2, .ref l2), (.inl 4, .ref l3)])) = H3 at hT3 hK3 hg hl3'
    clear e1 e2 e3 hs2 hT2
    refine ⟨_, rfl, _, rfl, t, 4, tq, rfl, hT3, by decide, by decide, fun H4 x hx0 hx1 hT4 hK4 => ?_⟩
    obtain ⟨y, hy, hy0, hy1⟩ := hys x hx0 hx1
    refine ⟨l, _, _, _, rfl, rfl, SqL.of (hK4 l _ nl1 hl3'), hy, ?_⟩
    obtain ⟨s, hs⟩ : ∃ s : Nat, sz = (s : Int) := ⟨sz.toNat, by omega⟩
    subst hs
    refine ⟨_, rfl, t, 256, tq, rfl, hT4, by decide, by decide, fun H5 b hb0 hb1 hT5 hK5 => ?_⟩
    refine ⟨_, rfl, _, rfl, t, _, tq, rfl, hT5, by omega, by omega, fun H6 g hg0 hg1 hT6 hK6 => ?_⟩
    refine ⟨_, _, rfl, rfl, .inl ⟨by decide, by decide⟩, _, _, rfl, rfl, ⟨by omega, by omega, by omega⟩, ?_⟩
    have hK6' : Kept t H H6 := ((hK3.trans hK4).trans hK5).trans hK6
    have h8 : ((8 : Int) * (s : Int)).toNat = 8 * s := by omega
    have hp8 := two_pos (8 * s)
    refine ⟨_, rfl, _, rfl, by omega, by omega, fun D hD => lc_range (lo := 0) (n := m) (fun i H7 => Same H6 H7 ∧ ∃ ns : List Int, ns.length = i ∧ (∀ x ∈ ns, 0 ≤ x ∧ x < 2 ^ (8 * s)) ∧ H7 D = some (.lst (ns.map V.int))) ⟨same_upd hD, [], rfl, (fun x h => nomatch h), upd_same⟩ ?_ ?_⟩
    · rintro i H7 hi ⟨s7, ns, hnl, hns, h7⟩
      refine ⟨rfl, _, rfl, _, rfl, _, rfl, _, _, rfl, rfl, .inl ⟨by omega, by omega⟩, _, _, rfl, rfl, .inl ⟨_, rfl, _, rfl, _, _, rfl, rfl, .inl ⟨by decide, by decide⟩, _, _, rfl, rfl, ⟨by omega, by omega, by decide⟩, _, _, rfl, rfl, ?_, ns.map V.int, h7, ?_, ?_⟩⟩
      · rw [h8, Int.one_mul]
        exact hp8
      · rw [List.length_map]
        exact small1000 (by omega)
      · refine ⟨fun c o e => ?_, ns ++ [(b * 2 ^ (8 * g).toNat + (0 + (i : Int)) * y) % 2 ^ (8 * s)], ?_, ?_, ?_⟩
        · rw [upd_ne (ne_of_none e hD)]
          exact s7 c o e
        · rw [List.length_append, hnl]
          rfl
        · intro q hq
          rcases List.mem_append.mp hq with hq | hq
          · exact hns q hq
          · rw [List.mem_singleton.mp hq]
            exact ⟨Int.emod_nonneg _ (by omega), Int.emod_lt_of_pos _ hp8⟩
        · rw [upd_same, List.map_append]
          dsimp only
          rw [h8, Int.one_mul]
          rfl
    · rintro H7 ⟨s7, ns, hnl, hns, h7⟩
      refine k H7 D ns (hK6'.free hT6 hD) hnl ?_ h7 (hT6.same s7) (hK6'.trans (Same.kept s7))
      rw [hsz, Int.toNat_natCast]
      exact hns

/-! def _law_not_empty -/
theorem encItem_head : ∀ x : Item, ∃ (z : Str) (r : List PyData), encItem x = .tuple (.str z :: r)
  | .word .. => ⟨_, _, rfl⟩
  | .array .. => ⟨_, _, rfl⟩
  | .list .. => ⟨_, _, rfl⟩
  | .choice .. => ⟨_, _, rfl⟩
  | .record .. => ⟨_, _, rfl⟩
  | .literal .. => ⟨_, _, rfl⟩
  | .reserved .. => ⟨_, _, rfl⟩
  | .check .. => ⟨_, _, rfl⟩
theorem cat_use {K : PySem.W.Frag} {H : Hp} {a b : V} {ds es : List PyData} {Q : VK} (ra : Rep K H a (.tuple ds)) (rb : Rep K H b (.tuple es)) (hl : ds.length + es.length ≤ 1000) (q : ∀ v H', Same H H' → Rep K H' v (.tuple (ds ++ es)) → Q v H') : rCatA K a b H Q := by
  obtain ⟨pa, xs, rfl, sa, r1⟩ := ra.inv
  obtain ⟨pb, ys, rfl, sb, r2⟩ := rb.inv
  refine ⟨pa, pb, xs, ys, rfl, rfl, sa, sb, ?_, fun e => ?_, fun e e2 => ?_, fun e e2 p hp => ?_⟩
  · rw [r1.len, r2.len]
    exact Nat.le_of_lt (small1000 hl)
  · have : ds = [] := List.length_eq_zero_iff.mp (by rw [← r1.len, e]; rfl)
    subst this
    exact q _ H (Same.refl H) rb
  · have : es = [] := List.length_eq_zero_iff.mp (by rw [← r2.len, e2]; rfl)
    subst this
    rw [List.append_nil] at q
    exact q _ H (Same.refl H) ra
  · exact q _ _ (same_upd hp) (.tup (SqT.of upd_same) ((r1.up (Imm.new hp)).append (r2.up (Imm.new hp))))
def sp_l_not_empty (K : PySem.W.Frag) : Sp := fun vs H Q _ => ∃ (t tq : Addr) (v : V) (items : List Item), vs = [.ref t, v] ∧ Tape H t tq ∧ Rep K H v (.tuple (encItems items)) ∧ ItemsOk items ∧ items.length ≤ 900 ∧
  ∀ (H' : Hp) (w : V) (items' : List Item), ItemsOk items' → scopesL items' = scopesL items → depthL items' = depthL items → items'.length ≤ items.length + 1 → Rep K H' w (.tuple (encItems items')) → Tape H' t tq → Kept t H H' → Q w H'
theorem ok_l_not_empty (T : Txt K w mg A) : FnOk P w K mg base CX0 2 A.l_not_empty.f A.l_not_empty.fd ["tape", "items"] (sp_l_not_empty K) := by
  have G_l_draw : FnOk P w K mg base CX0 1 A.l_draw.f A.l_draw.fd ["tape", "many"] (sp_l_draw K) := ok_l_draw T
  refine T.F_l_not_empty.ok sc_l_not_empty (fun vs H Q E h => ?_) (fun cdv Ar outer s H vs Q E hr h => ?_)
  · obtain ⟨t, tq, v, items, rfl, _⟩ := h; rfl
  · obtain ⟨t, tq, v, items, rfl, hT, hrep, hok, hlen, k⟩ := h
    refine ⟨_, (pss_cons (ps_if (pt_truth (pe_lc (own := [("item", 2)]) (g := (gName 2)) (by rfl) sc_l_not_empty.nd (pi_tup (pv 1)) (blkOk_by (own := [("item", 2)]) (N := ["tape", "items", "item"]) (sc := defScope s_l_not_empty) (by decide +kernel)) (fun _ _ _ _ _ => pg_name (i := 2) sc_l_not_empty.nd rfl (Or.inl rfl)) (fun _ _ _ _ _ => pts_one (pt_cmpR (op_in_seqK (K := K) rfl) (pe_ix (ix_tupK (K := K) rfl) (pv 2) pe_int (fun _ _ => rfl)) (pe_tup (pa_cons pe_str (pa_cons pe_str (pa_cons pe_str (pa_cons pe_str (pa_cons pe_str pa_nil)))))) rfl)) (fun _ _ _ _ _ => (pv 2))) (by intro _; rfl)) (pss_one (ps_ret (pv 1))) pss_nil)
        (pss_one (ps_ret (pe_op op_catA (pv 1) (pe_tup (pa_cons (pe_tup (pa_cons pe_str (pa_cons (pe_tup (pa_cons (pe_call G_l_draw (hr.mono (by decide)) (by rfl) T.g_l_draw T.F_l_draw.kp T.b_l_draw .nil pass0 (pa_cons (pv 0) (pa_cons pe_int pa_nil))) pa_nil)) pa_nil))) pa_nil)))))), ?_⟩
    obtain ⟨a, xs, rfl, hs, hxl, hall, _⟩ := Rep.item hrep
    rw [encItems_len] at hxl
    refine ⟨_, rfl, a, rfl, ⟨_, hs⟩, fun D hD => lc_tup (K := K) (a := a) (xs := xs) (fun i H2 => Same H H2 ∧ ∃ acc : List V, H2 D = some (.lst acc) ∧ acc.length ≤ i) ⟨same_upd hD, [], upd_same, Nat.le_refl _⟩ (fun i H2 _ h2 => Imm.same h2.1 _ _ hs) ?_ ?_⟩
    · rintro i y H2 hi ⟨s2, acc, h2, hal⟩
      have hil : i < xs.length := (List.getElem?_eq_some_iff.mp hi).1
      obtain ⟨d, hd, rd⟩ := hall.at hi
      obtain ⟨x, hx, rfl⟩ := encItems_get _ _ _ hd
      obtain ⟨z, r, hz⟩ := encItem_head x
      rw [hz] at rd
      obtain ⟨ya, yxs, rfl, ys, _, _, yget⟩ := Rep.item (rd.up (Imm.same s2))
      obtain ⟨u0, hu0, ru0⟩ := yget 0 _ rfl
      cases ru0.str_inv
      refine ⟨rfl, _, rfl, ya, _, _, _, rfl, rfl, ys, hu0, (by show 5 ≤ sizeLine; decide), fun T hT2 => ⟨T, _, rfl, .inr (SqT.of upd_same), rfl, rfl, _, rfl, ite2 (fun e => ?_) (fun e => ?_)⟩⟩
      · have nDT : D ≠ T := ne_of_none h2 hT2
        refine ⟨_, rfl, acc, by rw [upd_ne nDT]; exact h2, small1000 (by omega), fun b o e => ?_, acc ++ [_], upd_same, by rw [List.length_append]; show acc.length + 1 ≤ _; omega⟩
        rw [upd_ne (ne_of_none e hD), upd_ne (ne_of_none (s2 b o e) hT2)]
        exact s2 b o e
      · exact ⟨s2.trans (same_upd hT2), acc, by rw [upd_ne (ne_of_none h2 hT2)]; exact h2, by omega⟩
    · rintro H2 ⟨s2, acc, h2, hal⟩
      refine ⟨!acc.isEmpty, .inl ⟨_, SqL.of h2, rfl⟩, ite2 (fun e => ?_) (fun e => ?_)⟩
      · exact ⟨_, rfl, k H2 _ items hok rfl rfl (by omega) (hrep.up (Imm.same s2)) (hT.same s2) (Same.kept s2)⟩
      · refine ⟨_, rfl, _, rfl, t, 256, tq, rfl, hT.same s2, by decide, by decide, fun H3 x hx0 hx1 hT3 hK3 => ⟨(by show 1 ≤ sizeLine; decide), fun p1 hp1 => ⟨(by show 2 ≤ sizeLine; decide), fun p2 hp2 => ⟨(by show 1 ≤ sizeLine; decide), fun p3 hp3 => ?_⟩⟩⟩⟩
        have s4 : Same H3 (upd (upd (upd H3 p1 (.tup [.int x])) p2 (.tup [.str "literal", .ref p1])) p3 (.tup [.ref p2])) := ((same_upd hp1).trans (same_upd hp2)).trans (same_upd hp3)
        have n12 : p1 ≠ p2 := ne_of_none upd_same hp2
        have n13 : p1 ≠ p3 := ne_of_none (by rw [upd_ne n12]; exact upd_same) hp3
        have n23 : p2 ≠ p3 := ne_of_none upd_same hp3
        have m2 : Imm K H H2 := Imm.same s2
        have m3 : Imm K H2 H3 := Imm.kept (hT.same s2) hK3
        have rl : Rep K (upd (upd (upd H3 p1 (.tup [.int x])) p2 (.tup [.str "literal", .ref p1])) p3 (.tup [.ref p2])) (.ref p3) (.tuple (encItems [.literal [x]])) :=
          .tup (SqT.of upd_same) (.cons (.tup (SqT.of (by rw [upd_ne n23]; exact upd_same)) (.cons (.str _) (.cons (.tup (SqT.of (by rw [upd_ne n13, upd_ne n12]; exact upd_same)) (.cons (.int x) .nil)) .nil))) .nil)
        refine cat_use (hrep.up ((m2.trans m3).trans (Imm.same s4))) rl (by rw [encItems_len]; show items.length + 1 ≤ 1000; omega) fun w H5 s5 r5 => ?_
        rw [← encItems_append] at r5
        refine k H5 w (items ++ [Item.literal [x]]) (itemsOk_append hok (show ItemsOk [Item.literal [x]] from ⟨⟨by simp, (by show 1 ≤ 60; decide), fun b hb => by rw [List.mem_singleton.mp hb]; exact ⟨hx0, hx1⟩⟩, trivial⟩)) ?_ ?_ (by rw [List.length_append]; exact Nat.le_refl _) r5 ((hT3.same s4).same s5) ((Same.kept s2).trans (hK3.trans (Same.kept (s4.trans s5))))
        · rw [scopesL_append]
          rfl
        · rw [depthL_append]
          show max (depthL items) (max 0 0) = depthL items
          omega

/-! def _law_fixed -/
def sp_l_fixed (K : PySem.W.Frag) : Sp := fun vs H Q _ => ∃ (t tq : Addr), vs = [.ref t] ∧ Tape H t tq ∧
  ∀ (H' : Hp) (w : V) (x : Item) (c : Int), ItemOk x → scopesI x = 0 → depthI x = 0 → 0 ≤ c → c ≤ 60 → Rep K H' w (.tuple [encItem x, .int c]) → Tape H' t tq → Kept t H H' → Q w H'
theorem ok_l_fixed (T : Txt K w mg A) : FnOk P w K mg base CX0 2 A.l_fixed.f A.l_fixed.fd ["tape"] (sp_l_fixed K) := by
  have G_l_draw : FnOk P w K mg base CX0 1 A.l_draw.f A.l_draw.fd ["tape", "many"] (sp_l_draw K) := ok_l_draw T
  refine T.F_l_fixed.ok sc_l_fixed (fun vs H Q E h => ?_) (fun cdv Ar outer s H vs Q E hr h => ?_)
  · obtain ⟨t, tq, rfl, _⟩ := h; rfl
  · obtain ⟨t, tq, rfl, hT, k⟩ := h
    refine ⟨_, (pss_cons (ps_set (i := 1) sc_l_fixed.nd rfl (.inl rfl) (pe_call G_l_draw (hr.mono (by decide)) (by rfl) T.g_l_draw T.F_l_draw.kp T.b_l_draw .nil pass0 (pa_cons (pv 0) (pa_cons pe_int pa_nil))))
        (pss_cons (ps_set (i := 2) sc_l_fixed.nd rfl (.inl rfl) (pe_ix ix_list (pe_lst (pa_cons pe_int (pa_cons pe_int (pa_cons pe_int (pa_cons (pe_op op_add pe_int (pe_call G_l_draw (hr.mono (by decide)) (by rfl) T.g_l_draw T.F_l_draw.kp T.b_l_draw .nil pass0 (pa_cons (pv 0) (pa_cons pe_int pa_nil)))) pa_nil))))) (pe_call G_l_draw (hr.mono (by decide)) (by rfl) T.g_l_draw T.F_l_draw.kp T.b_l_draw .nil pass0 (pa_cons (pv 0) (pa_cons pe_int pa_nil))) (fun _ _ => rfl)))
        (pss_cons (ps_if (pt_cmpR op_lt (pv 1) pe_int (nomark _)) (pss_one (ps_ret (pe_tup (pa_cons (pe_tup (pa_cons pe_str (pa_cons (pe_ix ix_list (pe_lst (pa_cons pe_str (pa_cons pe_str pa_nil))) (pv 1) (fun _ _ => rfl)) pa_nil))) (pa_cons pe_int pa_nil))))) pss_nil)
        (pss_cons (ps_if (pt_cmpR op_eq (pv 1) pe_int (nomark _)) (pss_one (ps_ret (pe_tup (pa_cons (pe_tup (pa_cons pe_str (pa_cons (pv 2) pa_nil))) (pa_cons (pv 2) pa_nil))))) pss_nil)
        (pss_cons (ps_if (pt_cmpR op_eq (pv 1) pe_int (nomark _)) (pss_one (ps_ret (pe_tup (pa_cons (pe_tup (pa_cons pe_str (pa_cons pe_str (pa_cons (pe_tup (pa_cons (pe_tup (pa_cons pe_non (pa_cons pe_int (pa_cons pe_bl (pa_cons pe_non (pa_cons pe_non pa_nil)))))) (pa_cons (pe_tup (pa_cons pe_non (pa_cons pe_int (pa_cons pe_bl (pa_cons pe_non (pa_cons pe_non pa_nil)))))) pa_nil))) pa_nil)))) (pa_cons pe_int pa_nil))))) pss_nil)
        (pss_one (ps_ret (pe_tup (pa_cons (pe_tup (pa_cons pe_str (pa_cons (pe_callTy call_tuple_of (by rfl) T.n_tuple (by decide +kernel) (pa_cons (pe_lc (own := [("k", 3)]) (g := (gName 3)) (tt := tYes) (by rfl) sc_l_fixed.nd (pi_range1 rfl T.n_range (pa_cons (pv 2) pa_nil)) (blkOk_by (own := [("k", 3)]) (N := ["tape", "share", "many", "k"]) (sc := defScope s_l_fixed) (by decide +kernel)) (fun _ _ _ _ _ => pg_name (i := 3) sc_l_fixed.nd rfl (Or.inl rfl)) (fun _ _ _ _ _ => pts_nil) (fun _ _ _ _ _ => (pe_call G_l_draw (hr.mono (by decide)) (by rfl) T.g_l_draw T.F_l_draw.kp T.b_l_draw .nil pass0 (pa_cons (pv 0) (pa_cons pe_int pa_nil))))) pa_nil)) pa_nil))) (pa_cons (pv 2) pa_nil)))))))))), ?_⟩
    refine ⟨_, rfl, t, 6, tq, rfl, hT, by decide, by decide, fun H1 sh hs0 hs1 hT1 hK1 => ?_⟩
    refine ⟨_, rfl, t, 60, tq, rfl, hT1, by decide, by decide, fun H2 y hy0 hy1 hT2 hK2 => ⟨_, _, rfl, rfl, (by show 4 ≤ sizeLine; decide), fun l hl => ⟨_, rfl, t, 4, tq, rfl, hT2.new hl, by decide, by decide, fun H3 x hx0 hx1 hT3 hK3 => ?_⟩⟩⟩
    have hm : ∃ m : Nat, atI [V.int 1, V.int 2, V.int 3, V.int (1 + y)] x = some (V.int (m : Int)) ∧ 1 ≤ m ∧ m ≤ 60 := by
      rcases (show x = 0 ∨ x = 1 ∨ x = 2 ∨ x = 3 by omega) with rfl | rfl | rfl | rfl
      · exact ⟨1, rfl, by decide, by decide⟩
      · exact ⟨2, rfl, by decide, by decide⟩
      · exact ⟨3, rfl, by decide, by decide⟩
      · refine ⟨(1 + y).toNat, ?_, by omega, by omega⟩
        rw [show (((1 + y).toNat : Nat) : Int) = 1 + y by omega]
        rfl
    obtain ⟨m, hm, hm1, hm2⟩ := hm
    have el := hK3 l _ (hT2.off hl).1 upd_same
    have hK3' : Kept t H H3 := ((hK1.trans hK2).new hl).trans hK3
    refine ⟨l, _, _, _, rfl, rfl, SqL.of el, hm, ?_⟩
    refine ⟨_, rfl, _, _, rfl, rfl, _, rfl, ite2 (fun e => ?_) (fun e => ?_)⟩
    · have e : sh < 2 := of_decide_eq_true e
      refine ⟨(by show 2 ≤ sizeLine; decide), fun l2 hl2 => ?_⟩
      have hc : ∃ z : Str, atI [V.str "sum", V.str "xor"] sh = some (V.str z) ∧ (z = "sum" ∨ z = "xor") := by
        rcases (show sh = 0 ∨ sh = 1 by omega) with rfl | rfl
        · exact ⟨_, rfl, .inl rfl⟩
        · exact ⟨_, rfl, .inr rfl⟩
      obtain ⟨z, hz, hzz⟩ := hc
      refine ⟨_, rfl, l2, _, _, _, rfl, rfl, SqL.of upd_same, hz, (by show 2 ≤ sizeLine; decide), fun p1 hp1 => ⟨(by show 2 ≤ sizeLine; decide), fun p2 hp2 => ?_⟩⟩
      have n12 : p1 ≠ p2 := ne_of_none upd_same hp2
      exact k _ _ (.check z) 1 hzz rfl rfl (by decide) (by decide) (.tup (SqT.of upd_same) (.cons (.tup (SqT.of (by rw [upd_ne n12]; exact upd_same)) (.cons (.str _) (.cons (.str _) .nil))) (.cons (.int _) .nil))) (((hT3.new hl2).new hp1).new hp2) (((hK3'.new hl2).new hp1).new hp2)
    · refine ⟨_, rfl, rfl, _, rfl, ite2 (fun e => ?_) (fun e => ?_)⟩
      · refine ⟨_, rfl, (by show 2 ≤ sizeLine; decide), fun p1 hp1 => ⟨_, rfl, (by show 2 ≤ sizeLine; decide), fun p2 hp2 => ?_⟩⟩
        have n12 : p1 ≠ p2 := ne_of_none upd_same hp2
        exact k _ _ (.reserved m) m ⟨by omega, by omega⟩ rfl rfl (by omega) (by omega) (.tup (SqT.of upd_same) (.cons (.tup (SqT.of (by rw [upd_ne n12]; exact upd_same)) (.cons (.str _) (.cons (.int _) .nil))) (.cons (.int _) .nil))) ((hT3.new hp1).new hp2) ((hK3'.new hp1).new hp2)
      · refine ⟨_, rfl, rfl, _, rfl, ite2 (fun e => ?_) (fun e => ?_)⟩
        · refine ⟨(by show 5 ≤ sizeLine; decide), fun p1 hp1 => ⟨(by show 5 ≤ sizeLine; decide), fun p2 hp2 => ⟨(by show 2 ≤ sizeLine; decide), fun p3 hp3 => ⟨(by show 3 ≤ sizeLine; decide), fun p4 hp4 => ⟨(by show 2 ≤ sizeLine; decide), fun p5 hp5 => ?_⟩⟩⟩⟩⟩
          have n12 : p1 ≠ p2 := ne_of_none upd_same hp2
          have n13 : p1 ≠ p3 := ne_of_none (by rw [upd_ne n12]; exact upd_same) hp3
          have n23 : p2 ≠ p3 := ne_of_none upd_same hp3
          have n14 : p1 ≠ p4 := ne_of_none (by rw [upd_ne n13, upd_ne n12]; exact upd_same) hp4
          have n24 : p2 ≠ p4 := ne_of_none (by rw [upd_ne n23]; exact upd_same) hp4
          have n34 : p3 ≠ p4 := ne_of_none upd_same hp4
          have n15 : p1 ≠ p5 := ne_of_none (by rw [upd_ne n14, upd_ne n13, upd_ne n12]; exact upd_same) hp5
          have n25 : p2 ≠ p5 := ne_of_none (by rw [upd_ne n24, upd_ne n23]; exact upd_same) hp5
          have n35 : p3 ≠ p5 := ne_of_none (by rw [upd_ne n34]; exact upd_same) hp5
          have n45 : p4 ≠ p5 := ne_of_none upd_same hp5
          refine k _ _ (.word "u8" [⟨none, 3, false, none, none⟩, ⟨none, 5, false, none, none⟩]) 3 ⟨.inl rfl, (by decide), ?_, by decide +kernel⟩ rfl rfl (by decide) (by decide) ?_ (((((hT3.new hp1).new hp2).new hp3).new hp4).new hp5) (((((hK3'.new hp1).new hp2).new hp3).new hp4).new hp5)
          · intro p hp
            simp only [List.mem_cons, List.not_mem_nil, or_false] at hp
            rcases hp with rfl | rfl
            · exact ⟨3, by decide, by decide, rfl, trivial, fun d h => (nomatch h), fun _ => rfl⟩
            · exact ⟨5, by decide, by decide, rfl, trivial, fun d h => (nomatch h), fun _ => rfl⟩
          exact .tup (SqT.of upd_same) (.cons (.tup (SqT.of (by rw [upd_ne n45]; exact upd_same)) (.cons (.str _) (.cons (.str _) (.cons (.tup (SqT.of (by rw [upd_ne n35, upd_ne n34]; exact upd_same)) (.cons (.tup (SqT.of (by rw [upd_ne n15, upd_ne n14, upd_ne n13, upd_ne n12]; exact upd_same)) (.cons .non (.cons (.int _) (.cons (.bl _) (.cons .non (.cons .non .nil)))))) (.cons (.tup (SqT.of (by rw [upd_ne n25, upd_ne n24, upd_ne n23]; exact upd_same)) (.cons .non (.cons (.int _) (.cons (.bl _) (.cons .non (.cons .non .nil)))))) .nil))) .nil)))) (.cons (.int _) .nil))
        · refine ⟨_, rfl, _, rfl, by omega, by omega, fun D hD => lc_range (lo := 0) (n := m) (fun i H4 => Tape H4 t tq ∧ Kept t H H4 ∧ ∃ ns : List Int, ns.length = i ∧ (∀ x ∈ ns, 0 ≤ x ∧ x < 256) ∧ H4 D = some (.lst (ns.map V.int))) ⟨hT3.new hD, hK3'.new hD, [], rfl, (fun x h => nomatch h), upd_same⟩ ?_ ?_⟩
          · rintro i H4 hi ⟨hT4, hK4, ns, hnl, hns, h4⟩
            obtain ⟨nD1, nD2⟩ := hT3.off hD
            refine ⟨rfl, _, rfl, t, 256, tq, rfl, hT4, by decide, by decide, fun H5 u hu0 hu1 hT5 hK5 => ⟨_, hK5 D _ nD1 h4, ?_, hT5.put nD1 nD2, fun b o n e => ?_, ns ++ [u], ?_, ?_, ?_⟩⟩
            · rw [List.length_map]
              exact small1000 (by omega)
            · rw [upd_ne (ne_of_none e (hK3'.free hT3 hD))]
              exact hK5 b o n (hK4 b o n e)
            · rw [List.length_append, hnl]
              rfl
            · intro q hq
              rcases List.mem_append.mp hq with hq | hq
              · exact hns q hq
              · rw [List.mem_singleton.mp hq]
                exact ⟨hu0, hu1⟩
            · rw [upd_same, List.map_append]
              rfl
          · rintro H4 ⟨hT4, hK4, ns, hnl, hns, h4⟩
            refine ⟨D, _, rfl, .inl ⟨SqL.of h4, fun p0 hp0 => ⟨(by show 2 ≤ sizeLine; decide), fun p1 hp1 => ⟨_, rfl, (by show 2 ≤ sizeLine; decide), fun p2 hp2 => ?_⟩⟩⟩⟩
            have n01 : p0 ≠ p1 := ne_of_none upd_same hp1
            have n02 : p0 ≠ p2 := ne_of_none (by rw [upd_ne n01]; exact upd_same) hp2
            have n12 : p1 ≠ p2 := ne_of_none upd_same hp2
            exact k _ _ (.literal ns) m ⟨fun h => by rw [h] at hnl; have : 0 = m := hnl; omega, by omega, hns⟩ rfl rfl (by omega) (by omega) (.tup (SqT.of upd_same) (.cons (.tup (SqT.of (by rw [upd_ne n12]; exact upd_same)) (.cons (.str _) (.cons (.tup (SqT.of (by rw [upd_ne n02, upd_ne n01]; exact upd_same)) (RepAll.ints ns)) .nil))) (.cons (.int _) .nil))) (((hT4.new hp0).new hp1).new hp2) (((hK4.new hp0).new hp1).new hp2)

/-! def _law_rich_word -/
def sp_l_rich_word (K : PySem.W.Frag) : Sp := fun vs H Q _ => ∃ (t u tq : Addr) (us : List Str), vs = [.ref t, .ref u] ∧ Tape H t tq ∧ u ≠ t ∧ u ≠ tq ∧ H u = some (.lst (us.map V.str)) ∧ us.length ≤ 800 ∧
  ∀ (H' : Hp) (v : V) (z : Str) (ps : List Part) (us' : List Str), WordOk z → PartsOk ps → widths ps = 8 * wsize z → ps.length ≤ 6 → Rep K H' v (encItem (.word z ps)) → Tape H' t tq → H' u = some (.lst (us'.map V.str)) → us'.length ≤ us.length + 5 → Kept2 t u H H' → Q v H'
theorem ok_l_rich_word (T : Txt K w mg A) : FnOk P w K mg base CX0 4 A.l_rich_word.f A.l_rich_word.fd ["tape", "used"] (sp_l_rich_word K) := by
  have G_l_a_field : FnOk P w K mg base CX0 3 A.l_a_field.f A.l_a_field.fd ["tape", "widths", "most"] (sp_l_a_field K) := ok_l_a_field T
  have G_l_any_word : FnOk P w K mg base CX0 2 A.l_any_word.f A.l_any_word.fd ["tape"] (sp_l_any_word K) := ok_l_any_word T
  have G_l_draw : FnOk P w K mg base CX0 1 A.l_draw.f A.l_draw.fd ["tape", "many"] (sp_l_draw K) := ok_l_draw T
  have G_l_part : FnOk P w K mg base CX0 3 A.l_part.f A.l_part.fd ["tape", "used", "field"] (sp_l_part K) := ok_l_part T
  have G_l_size : FnOk P w K mg base CX0 1 A.l_size.f A.l_size.fd ["word"] (sp_l_size K) := ok_l_size T
  refine T.F_l_rich_word.ok sc_l_rich_word (fun vs H Q E h => ?_) (fun cdv Ar outer s H vs Q E hr h => ?_)
  · obtain ⟨t, u, tq, us, rfl, _⟩ := h; rfl
  · obtain ⟨t, u, tq, us, rfl, hT, nut, nuq, hu, hul, k⟩ := h
    refine ⟨_, (pss_cons (ps_set (i := 2) sc_l_rich_word.nd rfl (.inl rfl) (pe_call G_l_any_word (hr.mono (by decide)) (by rfl) T.g_l_any_word T.F_l_any_word.kp T.b_l_any_word .nil pass0 (pa_cons (pv 0) pa_nil)))
        (pss_cons (ps_set (i := 3) sc_l_rich_word.nd rfl (.inr rfl) (pe_op op_mul pe_int (pe_call G_l_size (hr.mono (by decide)) (by rfl) T.g_l_size T.F_l_size.kp T.b_l_size .nil pass0 (pa_cons (pv 2) pa_nil))))
        (pss_cons (ps_set (i := 4) sc_l_rich_word.nd rfl (.inl rfl) (pe_tup pa_nil))
        (pss_cons (ps_for PassesOwn.never rfl (pi_range1 rfl T.n_range (pa_cons (pe_ix ix_list (pe_lst (pa_cons pe_int (pa_cons pe_int (pa_cons pe_int (pa_cons pe_int pa_nil))))) (pe_call G_l_draw (hr.mono (by decide)) (by rfl) T.g_l_draw T.F_l_draw.kp T.b_l_draw .nil pass0 (pa_cons (pv 0) (pa_cons pe_int pa_nil))) (fun _ _ => rfl)) pa_nil)) (pg_name (i := 5) sc_l_rich_word.nd rfl (Or.inl rfl)) (pss_one (ps_if (pt_cmpR op_gt (pv 3) pe_int (nomark _)) (pss_cons (ps_setLc (i := 6) (own := [("width", 7)]) (g := (gName 7)) (by rfl) sc_l_rich_word.nd rfl rfl (sw_true rfl rfl rfl (by decide +kernel)) (pi_list (pe_lst (pa_cons (pv 3) (pa_cons pe_int (pa_cons pe_int (pa_cons pe_int (pa_cons pe_int (pa_cons pe_int (pa_cons pe_int (pa_cons (pv 3) pa_nil)))))))))) (blkOk_by (own := [("width", 7)]) (N := ["tape", "used", "word", "left", "parts", "k", "widths", "width"]) (sc := defScope s_l_rich_word) (by decide +kernel)) (fun _ _ _ _ _ => pg_name (i := 7) sc_l_rich_word.nd rfl (Or.inl rfl)) (fun _ _ _ _ _ => pts_one (pt_cmpR op_le (pv 7) (pv 3) (nomark _))) (fun _ _ _ _ _ => (pv 7)))
        (pss_cons (ps_set (i := 4) sc_l_rich_word.nd rfl (.inl rfl) (pe_op op_catA (pv 4) (pe_tup (pa_cons (pe_call G_l_part (hr.mono (by decide)) (by rfl) T.g_l_part T.F_l_part.kp T.b_l_part .nil pass0 (pa_cons (pv 0) (pa_cons (pv 1) (pa_cons (pe_call G_l_a_field (hr.mono (by decide)) (by rfl) T.g_l_a_field T.F_l_a_field.kp T.b_l_a_field .nil pass0 (pa_cons (pv 0) (pa_cons (pv 6) (pa_cons pe_int pa_nil)))) pa_nil)))) pa_nil))))
        (pss_one (ps_set (i := 3) sc_l_rich_word.nd rfl (.inr rfl) (pe_op op_sub (pv 3) (pe_ix ix_tup (pe_ix ix_tup (pv 4) (pe_un un_neg pe_int) (fun _ _ => rfl)) pe_int (fun _ _ => rfl))))))) pss_nil)))
        (C8.pss_cut (ps_if (pt_cmpR op_gt (pv 3) pe_int (nomark _)) (pss_one (ps_set (i := 4) sc_l_rich_word.nd rfl (.inl rfl) (pe_op op_catA (pv 4) (pe_tup (pa_cons (pe_tup (pa_cons pe_non (pa_cons (pv 3) (pa_cons pe_bl (pa_cons pe_non (pa_cons pe_non pa_nil)))))) pa_nil))))) pss_nil)
        (pss_one (ps_ret (pe_tup (pa_cons pe_str (pa_cons (pv 2) (pa_cons (pv 4) pa_nil))))))))))), ?_⟩
    refine ⟨_, rfl, t, tq, rfl, hT, fun H1 z hz hT1 hK1 => ?_⟩
    have hw := wsize_pos hz
    refine ⟨_, rfl, z, rfl, hz, fun H2 s2 => ⟨_, _, rfl, rfl, .inl ⟨by decide, by decide⟩, ?_⟩⟩
    refine ⟨Nat.zero_le _, fun p hp => ?_⟩
    have hT3 := (hT1.same s2).new (o := .tup []) hp
    have hK3 : Kept t H (upd H2 p (.tup [])) := (hK1.trans (Same.kept s2)).new hp
    have rp : Rep K (upd H2 p (.tup [])) (.ref p) (.tuple (([] : List Part).map encPart)) := .tup (SqT.of upd_same) .nil
    generalize upd H2 p (.tup []) = H3 at hT3 hK3 rp
    refine ⟨(by show 4 ≤ sizeLine; decide), fun l hl => ⟨_, rfl, t, 4, tq, rfl, hT3.new hl, by decide, by decide, fun H4 x hx0 hx1 hT4 hK4 => ?_⟩⟩
    have hm : ∃ m : Nat, atI [V.int 1, V.int 1, V.int 2, V.int 5] x = some (V.int (m : Int)) ∧ m ≤ 5 := by
      rcases (show x = 0 ∨ x = 1 ∨ x = 2 ∨ x = 3 by omega) with rfl | rfl | rfl | rfl
      · exact ⟨1, rfl, by decide⟩
      · exact ⟨1, rfl, by decide⟩
      · exact ⟨2, rfl, by decide⟩
      · exact ⟨5, rfl, by decide⟩
    obtain ⟨m, hm, hm5⟩ := hm
    have el := hK4 l _ (hT3.off hl).1 upd_same
    have m4 : Imm K H3 H4 := (Imm.new hl).trans (Imm.kept (hT3.new hl) hK4)
    have hK4' : Kept t H H4 := (hK3.new hl).trans hK4
    have hu4 := hK4' u _ nut hu
    refine ⟨l, _, _, _, rfl, rfl, SqL.of el, hm, m, rfl, by omega, by omega, for_range (n := m) (fun i σ H5 => ∃ (left : Int) (ps : List Part) (v : V) (us' : List Str) (v5 v6 v7 : Option V), σ = [some (.ref t), some (.ref u), some (.str z), some (.int left), some v, v5, v6, v7] ∧
        0 ≤ left ∧ left ≤ 32 ∧ PartsOk ps ∧ widths ps + left = 8 * wsize z ∧ ps.length ≤ i ∧ Rep K H5 v (.tuple (ps.map encPart)) ∧ Tape H5 t tq ∧ H5 u = some (.lst (us'.map V.str)) ∧ us'.length ≤ us.length + i ∧ Kept2 t u H H5)
      ⟨8 * wsize z, [], .ref p, us, none, none, none, rfl, by omega, by omega, (fun p h => nomatch h), by show 0 + _ = _; omega, Nat.le_refl _, rp.up m4, hT4, hu4, Nat.le_refl _, hK4'.two⟩ ?_ ?_⟩
    · rintro i σ H5 hi ⟨left, ps, v, us', v5, v6, v7, rfl, hl0, hl32, hps, hsum, hpl, rv, hT5, hu5, hul5, hK5⟩
      refine ⟨_, rfl, _, _, rfl, rfl, _, rfl, ite2 (fun e => ?_) (fun e => ?_)⟩
      · have e : 0 < left := of_decide_eq_true e
        refine ⟨_, rfl, _, rfl, (by show 8 ≤ sizeLine; decide), fun l2 hl2 => ?_⟩
        have hl6 : (upd H5 l2 (.lst [V.int left, V.int 8, V.int 1, V.int 2, V.int 3, V.int 5, V.int 12, V.int left])) l2 = some (.lst ([left, 8, 1, 2, 3, 5, 12, left].map V.int)) := upd_same
        have s6 : Same H5 (upd H5 l2 (.lst [V.int left, V.int 8, V.int 1, V.int 2, V.int 3, V.int 5, V.int 12, V.int left])) := same_upd hl2
        generalize upd H5 l2 (.lst [V.int left, V.int 8, V.int 1, V.int 2, V.int 3, V.int 5, V.int 12, V.int left]) = H6 at hl6 s6
        refine ⟨l2, rfl, ⟨_, SqL.of hl6⟩, fun D hD => lc_list (K := K) (a := l2) (xs := [left, 8, 1, 2, 3, 5, 12, left].map V.int) (fun j H7 => Same H6 H7 ∧ ∃ acc : List Int, H7 D = some (.lst (acc.map V.int)) ∧ acc.length ≤ j ∧ (∀ x ∈ acc, 1 ≤ x ∧ x ≤ left) ∧ (0 < j → left ∈ acc)) ⟨same_upd hD, [], upd_same, Nat.le_refl _, (fun x h => nomatch h), (fun h => nomatch h)⟩ (fun j H7 _ h7 => SqL.of (h7.1 _ _ hl6)) ?_ ?_⟩
        · rintro j y H7 hj ⟨s7, acc, h7, hal, hin, hli⟩
          obtain ⟨w, rfl, hwj⟩ := map_int_at hj
          have hj8 : j < 8 := (List.getElem?_eq_some_iff.mp hwj).1
          have hwpos : 1 ≤ w := by
            have : w ∈ [left, 8, 1, 2, 3, 5, 12, left] := List.mem_of_getElem? hwj
            simp only [List.mem_cons, List.not_mem_nil, or_false] at this
            omega
          refine ⟨rfl, _, rfl, _, rfl, _, _, rfl, rfl, _, rfl, ite2 (fun e => ?_) (fun e => ?_)⟩
          · have e : w ≤ left := of_decide_eq_true e
            refine ⟨_, rfl, acc.map V.int, h7, by rw [List.length_map]; exact small1000 (by omega), fun b o eb => ?_, acc ++ [w], by rw [upd_same, List.map_append]; rfl, by rw [List.length_append]; show acc.length + 1 ≤ _; omega, fun q hq => ?_, fun _ => ?_⟩
            · rw [upd_ne (ne_of_none eb hD)]
              exact s7 b o eb
            · rcases List.mem_append.mp hq with hq | hq
              · exact hin q hq
              · rw [List.mem_singleton.mp hq]
                exact ⟨hwpos, e⟩
            · by_cases q : 0 < j
              · exact List.mem_append_left _ (hli q)
              · have : j = 0 := by omega
                subst this
                have : left = w := Option.some.inj hwj
                rw [this]
                simp
          · have e : ¬ w ≤ left := fun z => e (decide_eq_true z)
            refine ⟨s7, acc, h7, by omega, hin, fun _ => ?_⟩
            by_cases q : 0 < j
            · exact hli q
            · have : j = 0 := by omega
              subst this
              have : left = w := Option.some.inj hwj
              omega
        · rintro H7 ⟨s7, acc, h7, hal, hin, hli⟩
          have hli := hli (by show 0 < 8; decide)
          have s57 := s6.trans s7
          have hT7 := hT5.same s57
          have nDt : D ≠ t := by
            obtain ⟨_, _, _, _, h1, _⟩ := hT5
            exact (ne_of_none (s6 _ _ h1) hD).symm
          refine ⟨_, rfl, _, rfl, _, rfl, _, rfl, _, rfl, t, D, tq, acc, rfl, hT7, h7, nDt, List.ne_nil_of_mem hli, by (have : acc.length ≤ 8 := hal); omega, fun x hx => by have := hin x hx; omega, fun H8 fv n b r hn1 hn2 hnm hr hrep hT8 hK8 => ?_⟩
          have hu8 := hK8 u _ nut (s57 _ _ hu5)
          have hnl := hin _ hnm
          refine ⟨t, u, tq, fv, us', n, b, r, rfl, hT8, nut, nuq, hu8, by omega, hn1, hn2, hr, hrep, fun H9 w p us9 hp rp hT9 hu9 hul9 hK9 => ⟨(by show 1 ≤ sizeLine; decide), fun q hq => ?_⟩⟩
          have m9 : Imm K H5 H9 := ((Imm.same s57).trans (Imm.kept hT7 hK8)).trans (Imm.kept2 hT8 hu8 hK9)
          have rq : Rep K (upd H9 q (.tup [w])) (.ref q) (.tuple ([p].map encPart)) := .tup (SqT.of upd_same) (.cons (rp.up (Imm.new hq)) .nil)
          refine cat_use (rv.up (m9.trans (Imm.new hq))) rq (by rw [List.length_map]; show ps.length + 1 ≤ 1000; omega) fun v10 H10 s10 r10 => ?_
          rw [← List.map_append] at r10
          -- left = left - parts[-1][1]
          obtain ⟨pa, pxs, rfl, psq, _, pall, _⟩ := Rep.item r10
          rw [List.map_append] at pall
          obtain ⟨ys, lv, rfl, _, rlv⟩ := pall.last
          obtain ⟨qa, qxs, rfl, qsq, _, _, qget⟩ := Rep.item (ds := [encS p.name, .int p.width, .bool p.signed, encR p.ranges, encO p.default]) rlv
          obtain ⟨u1, hu1, ru1⟩ := qget 1 _ rfl
          cases ru1.int_inv
          refine ⟨_, rfl, _, rfl, 1, rfl, pa, _, -1, _, rfl, rfl, psq, atI_last _ _, qa, _, _, _, rfl, rfl, qsq, hu1, _, _, rfl, rfl, ?_⟩
          have hpw := hp.1
          refine ⟨left - p.width, ps ++ [p], .ref pa, us9, _, _, _, rfl, by omega, by omega, fun x hx => ?_, by rw [widths_add]; omega, by rw [List.length_append]; show ps.length + 1 ≤ _; omega, r10, (hT9.new hq).same s10, s10 _ _ (by rw [upd_ne (ne_of_none hu9 hq)]; exact hu9), by omega, ?_⟩
          · rcases List.mem_append.mp hx with hx | hx
            · exact hps x hx
            · rw [List.mem_singleton.mp hx]
              exact ⟨n, hn1, hn2, hp⟩
          · exact (((hK5.trans (Same.two s57)).trans hK8.two).trans hK9).trans (Same.two ((same_upd hq).trans s10))
      · exact ⟨left, ps, v, us', _, _, _, rfl, hl0, hl32, hps, hsum, by omega, rv, hT5, hu5, by omega, hK5⟩
    · rintro σ H5 ⟨left, ps, v, us', v5, v6, v7, rfl, hl0, hl32, hps, hsum, hpl, rv, hT5, hu5, hul5, hK5⟩
      refine ⟨fun σ' H6 => ∃ (left : Int) (ps : List Part) (v : V), σ' = [some (.ref t), some (.ref u), some (.str z), some (.int left), some v, v5, v6, v7] ∧ PartsOk ps ∧ widths ps = 8 * wsize z ∧ ps.length ≤ 6 ∧ Rep K H6 v (.tuple (ps.map encPart)) ∧ Tape H6 t tq ∧ H6 u = some (.lst (us'.map V.str)) ∧ Kept2 t u H H6, ?_, ?_⟩
      · refine ⟨_, rfl, _, _, rfl, rfl, _, rfl, ite2 (fun e => ?_) (fun e => ?_)⟩
        · have e : 0 < left := of_decide_eq_true e
          refine ⟨_, rfl, _, rfl, (by show 5 ≤ sizeLine; decide), fun p1 hp1 => ⟨(by show 1 ≤ sizeLine; decide), fun p2 hp2 => ?_⟩⟩
          have n12 : p1 ≠ p2 := ne_of_none upd_same hp2
          have s6 : Same H5 (upd (upd H5 p1 (.tup [.non, .int left, .bl false, .non, .non])) p2 (.tup [.ref p1])) := (same_upd hp1).trans (same_upd hp2)
          have rq : Rep K (upd (upd H5 p1 (.tup [.non, .int left, .bl false, .non, .non])) p2 (.tup [.ref p1])) (.ref p2) (.tuple ([(⟨none, left, false, none, none⟩ : Part)].map encPart)) :=
            .tup (SqT.of upd_same) (.cons (.tup (SqT.of (by rw [upd_ne n12]; exact upd_same)) (.cons .non (.cons (.int _) (.cons (.bl _) (.cons .non (.cons .non .nil)))))) .nil)
          refine cat_use (rv.up (Imm.same s6)) rq (by rw [List.length_map]; show ps.length + 1 ≤ 1000; omega) fun v10 H10 s10 r10 => ?_
          rw [← List.map_append] at r10
          refine ⟨left, ps ++ [(⟨none, left, false, none, none⟩ : Part)], v10, rfl, fun x hx => ?_, by rw [widths_add]; show widths ps + left = _; omega, by rw [List.length_append]; show ps.length + 1 ≤ 6; omega, r10, hT5.same (s6.trans s10), (s6.trans s10) _ _ hu5, hK5.trans (Same.two (s6.trans s10))⟩
          rcases List.mem_append.mp hx with hx | hx
          · exact hps x hx
          · rw [List.mem_singleton.mp hx]
            exact ⟨left.toNat, by omega, by omega, by show left = ((left.toNat : Nat) : Int); omega, trivial, fun d h => (nomatch h), fun _ => by
              have : left = ((left.toNat : Nat) : Int) := by omega
              rw [← this]⟩
        · have e : ¬ 0 < left := fun z => e (decide_eq_true z)
          exact ⟨left, ps, v, rfl, hps, by omega, by omega, rv, hT5, hu5, hK5⟩
      · rintro σ' H6 ⟨left, ps, v, rfl, hps, hsum, hpl, rv, hT6, hu6, hK6⟩
        refine ⟨_, rfl, _, rfl, (by show 3 ≤ sizeLine; decide), fun q hq => ?_⟩
        exact k _ _ z ps us' hz hps hsum hpl (.tup (SqT.of upd_same) (.cons (.str _) (.cons (.str _) (.cons (rv.up (Imm.new hq)) .nil)))) (hT6.new hq) (by rw [upd_ne (ne_of_none hu6 hq)]; exact hu6) (by omega) (hK6.new hq)

/-! def _law_rich -/
def sp_rich (d : Nat) (K : PySem.W.Frag) : Sp := fun vs H Q _ => ∃ (t tq : Addr) (e : Nat) (room : Int), vs = [.ref t, .int (e : Int), .int room] ∧ e < d ∧ Tape H t tq ∧
  ∀ (H' : Hp) (v : V) (items : List Item) (spent : Int), ItemsOk items → items.length ≤ 9 → (scopesL items : Int) ≤ spent → 0 ≤ spent → spent ≤ max room 0 → depthL items ≤ e → Rep K H' v (.tuple [.tuple (encItems items), .int spent]) → Tape H' t tq → Kept t H H' → Q v H'
def sp_item (d : Nat) (K : PySem.W.Frag) : Sp := fun vs H Q _ => ∃ (t u tq : Addr) (us : List Str) (e : Nat) (room : Int), vs = [.ref t, .ref u, .int (e : Int), .int room] ∧ e < d ∧ Tape H t tq ∧ u ≠ t ∧ u ≠ tq ∧ H u = some (.lst (us.map V.str)) ∧ us.length ≤ 100 ∧
  ∀ (H' : Hp) (v : V) (x : Item) (cost : Int) (us' : List Str), ItemOk x → depthI x ≤ e → (scopesI x : Int) ≤ cost → 0 ≤ cost → Rep K H' v (.tuple [encItem x, .int cost]) → Tape H' t tq → H' u = some (.lst (us'.map V.str)) → us'.length ≤ us.length + 6 → Kept2 t u H H' → Q v H'
def sp_choice (d : Nat) (K : PySem.W.Frag) : Sp := fun vs H Q _ => ∃ (t tq : Addr) (z : Str) (e : Nat) (room : Int), vs = [.ref t, .str z, .int ((e + 1 : Nat) : Int), .int room] ∧ e + 1 < d ∧ Tape H t tq ∧
  ∀ (H' : Hp) (v : V) (x : Item) (cost : Int), ItemOk x → depthI x ≤ e + 1 → (scopesI x : Int) ≤ cost → 0 ≤ cost → Rep K H' v (.tuple [encItem x, .int cost]) → Tape H' t tq → Kept t H H' → Q v H'
def sp_l_rich (K : PySem.W.Frag) : Sp := sp_rich 4 K
theorem st_choice {d L : Nat} (T : Txt K w mg A) (hL : 9 ≤ L) (G_l_rich : FnOk P w K mg base CX0 L A.l_rich.f A.l_rich.fd ["tape", "depth", "room"] (sp_rich d K)) : FnOk P w K mg base CX0 (L + 1) A.l_rich_choice.f A.l_rich_choice.fd ["tape", "name", "depth", "room"] (sp_choice (d + 1) K) := by
  have G_l_any_word : FnOk P w K mg base CX0 2 A.l_any_word.f A.l_any_word.fd ["tape"] (sp_l_any_word K) := ok_l_any_word T
  have G_l_case_numbers : FnOk P w K mg base CX0 2 A.l_case_numbers.f A.l_case_numbers.fd ["tape", "word", "many"] (sp_l_case_numbers K) := ok_l_case_numbers T
  have G_l_draw : FnOk P w K mg base CX0 1 A.l_draw.f A.l_draw.fd ["tape", "many"] (sp_l_draw K) := ok_l_draw T
  have G_l_name : FnOk P w K mg base CX0 2 A.l_name.f A.l_name.fd ["tape", "used"] (sp_l_name K) := ok_l_name T

  refine T.F_l_rich_choice.ok sc_l_rich_choice (fun vs H Q E h => ?_) (fun cdv Ar outer s H vs Q E hr h => ?_)
  · obtain ⟨t, tq, z, e, room, rfl, _⟩ := h; rfl
  · obtain ⟨t, tq, z, e, room, rfl, hed, hT, k⟩ := h
    refine ⟨_, (pss_cons (ps_set (i := 4) sc_l_rich_choice.nd rfl (.inl rfl) (pe_call G_l_any_word (hr.mono (by omega)) (by rfl) T.g_l_any_word T.F_l_any_word.kp T.b_l_any_word .nil pass0 (pa_cons (pv 0) pa_nil)))
        (pss_cons (ps_set (i := 5) sc_l_rich_choice.nd rfl (.inl rfl) (pe_ix ix_list (pe_lst (pa_cons pe_int (pa_cons pe_int (pa_cons pe_int (pa_cons (pe_mid (pe_ifExp (pt_cmpR op_gt (pv 2) pe_int (nomark _)) pe_int pe_int)) pa_nil))))) (pe_call G_l_draw (hr.mono (by omega)) (by rfl) T.g_l_draw T.F_l_draw.kp T.b_l_draw .nil pass0 (pa_cons (pv 0) (pa_cons pe_int pa_nil))) (fun _ _ => rfl)))
        (pss_cons (ps_set (i := 6) sc_l_rich_choice.nd rfl (.inl rfl) (pe_cmpR op_eq (pe_call G_l_draw (hr.mono (by omega)) (by rfl) T.g_l_draw T.F_l_draw.kp T.b_l_draw .nil pass0 (pa_cons (pv 0) (pa_cons pe_int pa_nil))) pe_int (nomark _)))
        (pss_cons (ps_set (i := 7) sc_l_rich_choice.nd rfl (.inl rfl) (pe_call G_l_rich (hr.mono (by omega)) (by rfl) T.g_l_rich T.F_l_rich.kp T.b_l_rich .nil pass0 (pa_cons (pv 0) (pa_cons (pe_op op_sub (pv 2) pe_int) (pa_cons (pe_op op_sub (pe_op op_fdiv (pe_op op_sub (pv 3) pe_int) (pv 5)) pe_int) pa_nil)))))
        (pss_cons (ps_set (i := 8) sc_l_rich_choice.nd rfl (.inl rfl) (pe_tup pa_nil))
        (pss_cons (ps_set (i := 9) sc_l_rich_choice.nd rfl (.inl rfl) (pe_lst pa_nil))
        (pss_cons (ps_set (i := 10) sc_l_rich_choice.nd rfl (.inl rfl) pe_int)
        (pss_cons (ps_for PassesOwn.never rfl (pi_list (pe_call G_l_case_numbers (hr.mono (by omega)) (by rfl) T.g_l_case_numbers T.F_l_case_numbers.kp T.b_l_case_numbers .nil pass0 (pa_cons (pv 0) (pa_cons (pv 4) (pa_cons (pv 5) pa_nil))))) (pg_name (i := 11) sc_l_rich_choice.nd rfl (Or.inl rfl)) (pss_cons (ps_expr (pe_bm PySem.F.plainAttrs_list PySem.F.slot_list_append PySem.F.type_list_append mt_append (pv 9) (pa_cons (pe_call G_l_name (hr.mono (by omega)) (by rfl) T.g_l_name T.F_l_name.kp T.b_l_name .nil pass0 (pa_cons (pv 0) (pa_cons (pv 9) pa_nil))) pa_nil)))
        (pss_cons (ps_set (i := 8) sc_l_rich_choice.nd rfl (.inl rfl) (pe_op op_catA (pv 8) (pe_tup (pa_cons (pe_tup (pa_cons (pv 11) (pa_cons (pe_ix ix_list (pv 9) (pe_un un_neg pe_int) (fun _ _ => rfl)) (pa_cons (pe_ix ix_tup (pv 7) pe_int (fun _ _ => rfl)) pa_nil)))) pa_nil))))
        (pss_cons (ps_set (i := 10) sc_l_rich_choice.nd rfl (.inl rfl) (pe_op op_add (pe_op op_add (pv 10) pe_int) (pe_ix ix_tup (pv 7) pe_int (fun _ _ => rfl))))
        (pss_one (ps_set (i := 7) sc_l_rich_choice.nd rfl (.inl rfl) (pe_ifExp (pt_val (pv 6)) (pe_tup (pa_cons (pe_backT (pe_ix ix_tup (pv 7) pe_int (fun _ _ => rfl))) (pa_cons (pe_ix ix_tup (pv 7) pe_int (fun _ _ => rfl)) pa_nil))) (pe_call G_l_rich (hr.mono (by omega)) (by rfl) T.g_l_rich T.F_l_rich.kp T.b_l_rich .nil pass0 (pa_cons (pv 0) (pa_cons (pe_op op_sub (pv 2) pe_int) (pa_cons (pe_op op_sub (pe_op op_fdiv (pe_op op_sub (pv 3) pe_int) (pv 5)) pe_int) pa_nil)))))))))))
        (pss_one (ps_ret (pe_tup (pa_cons (pe_tup (pa_cons pe_str (pa_cons (pv 1) (pa_cons (pv 4) (pa_cons (pv 8) pa_nil))))) (pa_cons (pv 10) pa_nil))))))))))))), ?_⟩
    refine ⟨_, rfl, t, tq, rfl, hT, fun H1 wd hwd hT1 hK1 => ?_⟩
    have ee : ((e + 1 : Nat) : Int) - 1 = (e : Int) := by omega
    -- many
    refine ⟨fun v H' => H' = H1 ∧ (v = .int 9 ∨ v = .int 6), ⟨_, rfl, _, _, rfl, rfl, _, rfl, ite2 (fun _ => ⟨rfl, .inl rfl⟩) (fun _ => ⟨rfl, .inr rfl⟩)⟩, ?_⟩
    rintro v96 H' ⟨rfl, h96⟩
    refine ⟨(by show 4 ≤ sizeLine; decide), fun l hl => ⟨_, rfl, t, 4, tq, rfl, hT1.new hl, by decide, by decide, fun H2 x hx0 hx1 hT2 hK2 => ?_⟩⟩
    have hm : ∃ m : Nat, atI [V.int 1, V.int 2, V.int 3, v96] x = some (V.int (m : Int)) ∧ 1 ≤ m ∧ m ≤ 9 := by
      rcases (show x = 0 ∨ x = 1 ∨ x = 2 ∨ x = 3 by omega) with rfl | rfl | rfl | rfl
      · exact ⟨1, rfl, by decide, by decide⟩
      · exact ⟨2, rfl, by decide, by decide⟩
      · exact ⟨3, rfl, by decide, by decide⟩
      · rcases h96 with rfl | rfl
        · exact ⟨9, rfl, by decide, by decide⟩
        · exact ⟨6, rfl, by decide, by decide⟩
    obtain ⟨m, hm, hm1, hm9⟩ := hm
    have el := hK2 l _ (hT1.off hl).1 upd_same
    have hK2' : Kept t H H2 := (hK1.new hl).trans hK2
    refine ⟨l, _, _, _, rfl, rfl, SqL.of el, hm, ?_⟩
    -- alike
    refine ⟨_, rfl, t, 3, tq, rfl, hT2, by decide, by decide, fun H3 y hy0 hy1 hT3 hK3 => ⟨rfl, ?_⟩⟩
    generalize decide (V.int y = V.int 0) = b
    have hK3' := hK2'.trans hK3
    -- told
    refine ⟨_, rfl, _, rfl, _, _, rfl, rfl, _, rfl, _, _, rfl, rfl, _, rfl, _, _, rfl, rfl, ⟨by omega, by omega⟩, _, _, rfl, rfl, t, tq, e, _, congrArg (fun q => [V.ref t, V.int q, V.int ((room - 5) / (m : Int) - 1)]) ee, by omega, hT3, fun H4 vt items cost hio hil hsc hc0 _ hdp rt hT4 hK4 => ?_⟩
    refine ⟨Nat.zero_le _, fun pc hpc => ?_⟩
    refine ⟨Nat.zero_le _, fun nm hnm => ?_⟩
    have s6 : Same H4 (upd (upd H4 pc (.tup [])) nm (.lst [])) := (same_upd hpc).trans (same_upd hnm)
    have hT6 := hT4.same s6
    obtain ⟨nn1, nn2⟩ := (hT4.new (o := .tup []) hpc).off hnm
    have hK6 : Kept t H (upd (upd H4 pc (.tup [])) nm (.lst [])) := (hK3'.trans hK4).trans (Same.kept s6)
    have hnm0 : H nm = none := ((hK3'.trans hK4).new hpc).free (hT4.new hpc) hnm
    have hnm6 : (upd (upd H4 pc (.tup [])) nm (.lst [])) nm = some (.lst (([] : List Str).map V.str)) := upd_same
    have rc : Rep K (upd (upd H4 pc (.tup [])) nm (.lst [])) (.ref pc) (.tuple (encCases [])) := .tup (SqT.of (by rw [upd_ne (ne_of_none upd_same hnm)]; exact upd_same)) .nil
    have rt6 := rt.up (Imm.same (K := K) s6)
    generalize upd (upd H4 pc (.tup [])) nm (.lst []) = H6 at s6 hT6 hK6 hnm6 rc rt6
    refine ⟨_, rfl, _, rfl, _, rfl, t, tq, wd, m, rfl, hT6, hwd, by omega, fun H7 D ns hD hnl hns h7 hT7 hK7 => ?_⟩
    have nDt : D ≠ t := by
      obtain ⟨_, _, _, _, h1, _⟩ := hT6
      exact (ne_of_none h1 hD).symm
    have nDn : D ≠ nm := (ne_of_none hnm6 hD).symm
    have hD0 : H D = none := hK6.free hT6 hD
    refine ⟨D, rfl, ⟨_, SqL.of h7⟩, for_list (K := K) (a := D) (xs := ns.map V.int) (fun i σ H2 => ∃ (vt vc : V) (items : List Item) (cost spent : Int) (cases : List (Int × Str × List Item)) (zs : List Str) (v11 : Option V), σ = [some (.ref t), some (.str z), some (.int ((e + 1 : Nat) : Int)), some (.int room), some (.str wd), some (.int (m : Int)), some (.bl b), some vt, some vc, some (.ref nm), some (.int spent), v11] ∧
        ItemsOk items ∧ depthL items ≤ e ∧ depthC cases ≤ e ∧ (scopesL items : Int) ≤ cost ∧ 0 ≤ cost ∧ items.length ≤ 9 ∧ Rep K H2 vt (.tuple [.tuple (encItems items), .int cost]) ∧ CasesOk cases ∧ cases.length = i ∧ (scopesC cases : Int) + 5 ≤ spent ∧ Rep K H2 vc (.tuple (encCases cases)) ∧ zs.length ≤ i ∧ i ≤ 9 ∧ H2 nm = some (.lst (zs.map V.str)) ∧ H2 D = some (.lst (ns.map V.int)) ∧ Tape H2 t tq ∧ Kept t H H2)
      ⟨vt, .ref pc, items, cost, 5, [], [], none, rfl, hio, hdp, Nat.zero_le _, hsc, hc0, hil, rt6.up (Imm.kept hT6 hK7), trivial, rfl, by show ((0 : Nat) : Int) + 5 ≤ 5; decide, rc.up (Imm.kept hT6 hK7), Nat.le_refl _, by decide, hK7 nm _ nn1 hnm6, h7, hT7, hK6.trans hK7⟩ (fun i σ H2 _ ⟨_, _, _, _, _, _, _, _, _, _, _, _, _, _, _, _, _, _, _, _, _, _, _, h, _⟩ => SqL.of h) ?_ ?_⟩
    · rintro i yv σ H2 hi ⟨vt, vc, items, cost, spent, cases, zs, v11, rfl, hio, hdp, hdc, hsc, hc0, hil, rt, hco, hcl, hcs, rc, hzl, hi9, hn2, hD2, hT2, hK2⟩
      obtain ⟨num, rfl, hnum⟩ := map_int_at hi
      have hin : i < ns.length := (List.getElem?_eq_some_iff.mp hnum).1
      -- names.append(_law_name(tape, names))
      refine ⟨_, rfl, .inl ⟨rfl, _, SqL.of hn2⟩, _, rfl, _, rfl, t, nm, tq, zs, rfl, hT2, nn1, nn2, hn2, by omega, fun H3 zn hznl hT3 hK3 => ?_⟩
      have hn3 := hK3 nm _ nn1 hn2
      refine ⟨nm, _, _, rfl, rfl, hn3, by rw [List.length_map]; exact small1000 (by omega), ?_⟩
      have m4 : Imm K H2 (upd H3 nm (.lst (zs.map V.str ++ [.str zn]))) := (Imm.kept hT2 hK3).trans (Imm.put hn3)
      have hT4 : Tape (upd H3 nm (.lst (zs.map V.str ++ [.str zn]))) t tq := hT3.put nn1 nn2
      have hK4 : Kept t H (upd H3 nm (.lst (zs.map V.str ++ [.str zn]))) := fun c o n eb => by
        rw [upd_ne (ne_of_none eb hnm0)]
        exact hK3 c o n (hK2 c o n eb)
      have hD4 : (upd H3 nm (.lst (zs.map V.str ++ [.str zn]))) D = some (.lst (ns.map V.int)) := by
        rw [upd_ne nDn]
        exact hK3 D _ nDt hD2
      have hn4 : (upd H3 nm (.lst (zs.map V.str ++ [.str zn]))) nm = some (.lst ((zs ++ [zn]).map V.str)) := by
        rw [upd_same, List.map_append]
        rfl
      generalize upd H3 nm (.lst (zs.map V.str ++ [.str zn])) = H4 at m4 hT4 hK4 hD4 hn4
      have rt4 := rt.up m4
      have rc4 := rc.up m4
      obtain ⟨ta, txs, rfl, tsq, _, _, tget⟩ := Rep.item rt4
      obtain ⟨u0, hu0, ru0⟩ := tget 0 _ rfl
      obtain ⟨u1, hu1, ru1⟩ := tget 1 _ rfl
      cases ru1.int_inv
      have hat : atI ((zs ++ [zn]).map V.str) (-1) = some (V.str zn) := by
        rw [List.map_append]
        exact atI_last _ _
      -- cases = cases + ((number, names[-1], told[0]),)
      refine ⟨_, rfl, _, rfl, _, rfl, 1, rfl, nm, _, -1, _, rfl, rfl, SqL.of hn4, hat, _, rfl, ta, _, _, _, rfl, rfl, tsq, hu0, (by show 3 ≤ sizeLine; decide), fun q1 hq1 => ⟨(by show 1 ≤ sizeLine; decide), fun q2 hq2 => ?_⟩⟩
      have n12 : q1 ≠ q2 := ne_of_none upd_same hq2
      have s5 : Same H4 (upd (upd H4 q1 (.tup [.int num, .str zn, u0])) q2 (.tup [.ref q1])) := (same_upd hq1).trans (same_upd hq2)
      have rq : Rep K (upd (upd H4 q1 (.tup [.int num, .str zn, u0])) q2 (.tup [.ref q1])) (.ref q2) (.tuple (encCases [(num, zn, items)])) :=
        .tup (SqT.of upd_same) (.cons (.tup (SqT.of (by rw [upd_ne n12]; exact upd_same)) (.cons (.int _) (.cons (.str _) (.cons (ru0.up (Imm.same s5)) .nil)))) .nil)
      refine cat_use (rc4.up (Imm.same s5)) rq (by rw [encCases_len, encCases_len]; show cases.length + 1 ≤ 1000; omega) fun vc5 H5 s5' rc5 => ?_
      rw [← encCases_append] at rc5
      have s55 := s5.trans s5'
      have m5 : Imm K H4 H5 := Imm.same s55
      -- spent = spent + 1 + told[1]
      refine ⟨_, rfl, _, _, rfl, rfl, _, rfl, ta, _, _, _, rfl, rfl, m5 _ _ tsq, hu1, _, _, rfl, rfl, ?_⟩
      have hcs5 : (scopesC (cases ++ [(num, zn, items)]) : Int) + 5 ≤ spent + 1 + cost := by
        rw [scopesC_append]
        have : scopesC [(num, zn, items)] = 1 + scopesL items + 0 := rfl
        omega
      have hT5 := hT4.same s55
      have hK5 : Kept t H H5 := hK4.trans (Same.kept s55)
      have hn5 := s55 _ _ hn4
      have hD5 := s55 _ _ hD4
      have hco5 : CasesOk (cases ++ [(num, zn, items)]) := casesOk_append hco (show CasesOk [(num, zn, items)] from ⟨⟨by omega, hio⟩, trivial⟩)
      have hdc5 : depthC (cases ++ [(num, zn, items)]) ≤ e := by
        rw [depthC_append]
        show max (depthC cases) (max (depthL items) 0) ≤ e
        omega
      have hl5 : (cases ++ [(num, zn, items)]).length = i + 1 := by
        rw [List.length_append, hcl]
        rfl
      have hz5 : (zs ++ [zn]).length ≤ i + 1 := by
        rw [List.length_append]
        show zs.length + 1 ≤ i + 1
        omega
      have hi10 : i + 1 ≤ 9 := by omega
      refine ⟨_, rfl, b, rfl, ite2 (fun eb => ?_) (fun eb => ?_)⟩
      · obtain ⟨ia, ixs, rfl, isq, _, iall, _⟩ := Rep.item (ru0.up m5)
        refine ⟨_, rfl, ta, _, _, _, rfl, rfl, m5 _ _ tsq, hu0, ia, ixs, rfl, isq, fun p1 hp1 => ⟨_, rfl, ta, _, _, _, rfl, rfl, (m5.trans (Imm.new hp1)) _ _ tsq, hu1, (by show 2 ≤ sizeLine; decide), fun p2 hp2 => ?_⟩⟩
        have n12 : p1 ≠ p2 := ne_of_none upd_same hp2
        have s6 : Same H5 (upd (upd H5 p1 (.tup ixs.reverse)) p2 (.tup [.ref p1, .int cost])) := (same_upd hp1).trans (same_upd hp2)
        have rr : Rep K (upd (upd H5 p1 (.tup ixs.reverse)) p2 (.tup [.ref p1, .int cost])) (.ref p2) (.tuple [.tuple (encItems items.reverse), .int cost]) := by
          rw [encItems_reverse]
          exact .tup (SqT.of upd_same) (.cons (.tup (SqT.of (by rw [upd_ne n12]; exact upd_same)) (iall.up (Imm.same s6)).reverse) (.cons (.int _) .nil))
        exact ⟨.ref p2, vc5, items.reverse, cost, spent + 1 + cost, cases ++ [(num, zn, items)], zs ++ [zn], _, rfl, itemsOk_reverse hio, by rw [depthL_reverse]; exact hdp, hdc5, by rw [scopesL_reverse]; exact hsc, hc0, by rw [List.length_reverse]; exact hil, rr, hco5, hl5, hcs5, rc5.up (Imm.same s6), hz5, hi10, s6 _ _ hn5, s6 _ _ hD5, hT5.same s6, hK5.trans (Same.kept s6)⟩
      · refine ⟨_, rfl, _, rfl, _, _, rfl, rfl, _, rfl, _, _, rfl, rfl, _, rfl, _, _, rfl, rfl, ⟨by omega, by omega⟩, _, _, rfl, rfl, t, tq, e, _, congrArg (fun q => [V.ref t, V.int q, V.int ((room - 5) / (m : Int) - 1)]) ee, by omega, hT5, fun H6 vt6 items6 cost6 hio6 hil6 hsc6 hc06 _ hdp6 rt6 hT6 hK6 => ?_⟩
        exact ⟨vt6, vc5, items6, cost6, spent + 1 + cost, cases ++ [(num, zn, items)], zs ++ [zn], _, rfl, hio6, hdp6, hdc5, hsc6, hc06, hil6, rt6, hco5, hl5, hcs5, rc5.up (Imm.kept hT5 hK6), hz5, hi10, hK6 _ _ nn1 hn5, hK6 _ _ nDt hD5, hT6, hK5.trans hK6⟩
    · rintro σ H2 ⟨vt, vc, items, cost, spent, cases, zs, v11, rfl, hio, hdp, hdc, hsc, hc0, hil, rt, hco, hcl, hcs, rc, hzl, hi9, hn2, hD2, hT2, hK2⟩
      refine ⟨_, rfl, _, rfl, _, rfl, (by show 4 ≤ sizeLine; decide), fun q1 hq1 => ⟨_, rfl, (by show 2 ≤ sizeLine; decide), fun q2 hq2 => ?_⟩⟩
      have n12 : q1 ≠ q2 := ne_of_none upd_same hq2
      have s5 : Same H2 (upd (upd H2 q1 (.tup [.str "choice", .str z, .str wd, vc])) q2 (.tup [.ref q1, .int spent])) := (same_upd hq1).trans (same_upd hq2)
      rw [List.length_map, hnl] at hcl
      refine k _ _ (.choice z wd cases) spent ⟨hwd, fun h => ?_, by omega, hco⟩ (by show depthC cases + 1 ≤ e + 1; omega) (by show (scopesC cases : Int) ≤ spent; omega) (by omega) ?_ (hT2.same s5) (hK2.trans (Same.kept s5))
      · rw [h] at hcl
        have : 0 = m := hcl
        omega
      · exact .tup (SqT.of upd_same) (.cons (.tup (SqT.of (by rw [upd_ne n12]; exact upd_same)) (.cons (.str _) (.cons (.str _) (.cons (.str _) (.cons (rc.up (Imm.same s5)) .nil))))) (.cons (.int _) .nil))
theorem st_item {d L : Nat} (T : Txt K w mg A) (hL : 9 ≤ L) (G_l_rich : FnOk P w K mg base CX0 L A.l_rich.f A.l_rich.fd ["tape", "depth", "room"] (sp_rich d K)) (G_l_rich_choice : FnOk P w K mg base CX0 (L + 1) A.l_rich_choice.f A.l_rich_choice.fd ["tape", "name", "depth", "room"] (sp_choice (d + 1) K)) :
    FnOk P w K mg base CX0 (L + 2) A.l_rich_item.f A.l_rich_item.fd ["tape", "used", "depth", "room"] (sp_item (d + 1) K) := by
  have G_l_a_count : FnOk P w K mg base CX0 3 A.l_a_count.f A.l_a_count.fd ["tape", "least", "greatest"] (sp_l_a_count K) := ok_l_a_count T
  have G_l_a_field : FnOk P w K mg base CX0 3 A.l_a_field.f A.l_a_field.fd ["tape", "widths", "most"] (sp_l_a_field K) := ok_l_a_field T
  have G_l_a_number : FnOk P w K mg base CX0 2 A.l_a_number.f A.l_a_number.fd ["tape", "width", "signed", "ranges"] (sp_l_a_number K) := ok_l_a_number T
  have G_l_draw : FnOk P w K mg base CX0 1 A.l_draw.f A.l_draw.fd ["tape", "many"] (sp_l_draw K) := ok_l_draw T
  have G_l_fixed : FnOk P w K mg base CX0 2 A.l_fixed.f A.l_fixed.fd ["tape"] (sp_l_fixed K) := ok_l_fixed T
  have G_l_name : FnOk P w K mg base CX0 2 A.l_name.f A.l_name.fd ["tape", "used"] (sp_l_name K) := ok_l_name T
  have G_l_not_empty : FnOk P w K mg base CX0 2 A.l_not_empty.f A.l_not_empty.fd ["tape", "items"] (sp_l_not_empty K) := ok_l_not_empty T
  have G_l_rich_word : FnOk P w K mg base CX0 4 A.l_rich_word.f A.l_rich_word.fd ["tape", "used"] (sp_l_rich_word K) := ok_l_rich_word T

  refine T.F_l_rich_item.ok sc_l_rich_item (fun vs H Q E h => ?_) (fun cdv Ar outer s H vs Q E hr h => ?_)
  · obtain ⟨t, u, tq, us, e, room, rfl, _⟩ := h; rfl
  · obtain ⟨t, u, tq, us, e, room, rfl, hed, hT, nut, nuq, hu, hul, k⟩ := h
    refine ⟨_, (pss_cons (ps_set (i := 4) sc_l_rich_item.nd rfl (.inl rfl) (pe_call G_l_draw (hr.mono (by omega)) (by rfl) T.g_l_draw T.F_l_draw.kp T.b_l_draw .nil pass0 (pa_cons (pv 0) (pa_cons pe_int pa_nil))))
        (pss_cons (ps_if (pt_cmpR op_lt (pv 4) pe_int (nomark _)) (pss_one (ps_ret (pe_call G_l_fixed (hr.mono (by omega)) (by rfl) T.g_l_fixed T.F_l_fixed.kp T.b_l_fixed .nil pass0 (pa_cons (pv 0) pa_nil)))) pss_nil)
        (pss_cons (ps_if (pt_mid (PW.pt (pw_or (pt_cmpR op_lt (pv 4) pe_int (nomark _)) (pw_or1 (PW.pt (pw_and (pt_cmpR op_gt (pv 4) pe_int (nomark _)) (pw_and1 (pt_cmpR op_eq (pv 2) pe_int (nomark _))))))))) (pss_one (ps_ret (pe_tup (pa_cons (pe_call G_l_rich_word (hr.mono (by omega)) (by rfl) T.g_l_rich_word T.F_l_rich_word.kp T.b_l_rich_word .nil pass0 (pa_cons (pv 0) (pa_cons (pv 1) pa_nil))) (pa_cons pe_int pa_nil))))) pss_nil)
        (pss_cons (ps_expr (pe_bm PySem.F.plainAttrs_list PySem.F.slot_list_append PySem.F.type_list_append mt_append (pv 1) (pa_cons (pe_call G_l_name (hr.mono (by omega)) (by rfl) T.g_l_name T.F_l_name.kp T.b_l_name .nil pass0 (pa_cons (pv 0) (pa_cons (pv 1) pa_nil))) pa_nil)))
        (pss_cons (ps_if (pt_cmpR op_eq (pv 4) pe_int (nomark _)) (pss_cons (ps_set (i := 5) sc_l_rich_item.nd rfl (.inl rfl) (pe_call G_l_rich (hr.mono (by omega)) (by rfl) T.g_l_rich T.F_l_rich.kp T.b_l_rich .nil pass0 (pa_cons (pv 0) (pa_cons (pe_op op_sub (pv 2) pe_int) (pa_cons (pe_op op_sub (pv 3) pe_int) pa_nil)))))
        (pss_one (ps_ret (pe_tup (pa_cons (pe_tup (pa_cons pe_str (pa_cons (pe_ix ix_list (pv 1) (pe_un un_neg pe_int) (fun _ _ => rfl)) (pa_cons (pe_ix ix_tup (pv 5) pe_int (fun _ _ => rfl)) pa_nil)))) (pa_cons (pe_op op_add (pe_ix ix_tup (pv 5) pe_int (fun _ _ => rfl)) pe_int) pa_nil)))))) pss_nil)
        (pss_cons (ps_if (pt_mid (PW.pt (pw_and (pt_cmpR op_eq (pv 4) pe_int (nomark _)) (pw_and1 (pt_cmpR op_gt (pv 3) pe_int (nomark _)))))) (pss_one (ps_ret (pe_call G_l_rich_choice (hr.mono (by omega)) (by rfl) T.g_l_rich_choice T.F_l_rich_choice.kp T.b_l_rich_choice .nil pass0 (pa_cons (pv 0) (pa_cons (pe_ix ix_list (pv 1) (pe_un un_neg pe_int) (fun _ _ => rfl)) (pa_cons (pv 2) (pa_cons (pv 3) pa_nil))))))) pss_nil)
        (pss_cons (ps_set (i := 6) sc_l_rich_item.nd rfl (.inl rfl) (pe_ix ix_list (pe_lst (pa_cons pe_int (pa_cons pe_int (pa_cons pe_int (pa_cons (pe_op op_add pe_int (pe_call G_l_draw (hr.mono (by omega)) (by rfl) T.g_l_draw T.F_l_draw.kp T.b_l_draw .nil pass0 (pa_cons (pv 0) (pa_cons pe_int pa_nil)))) pa_nil))))) (pe_call G_l_draw (hr.mono (by omega)) (by rfl) T.g_l_draw T.F_l_draw.kp T.b_l_draw .nil pass0 (pa_cons (pv 0) (pa_cons pe_int pa_nil))) (fun _ _ => rfl)))
        (pss_cons (ps_set (i := 7) sc_l_rich_item.nd rfl (.inl rfl) (pe_call G_l_a_count (hr.mono (by omega)) (by rfl) T.g_l_a_count T.F_l_a_count.kp T.b_l_a_count .nil pass0 (pa_cons (pv 0) (pa_cons (pe_ix ix_list (pe_lst (pa_cons pe_int (pa_cons (pv 6) (pa_cons (pe_call G_l_draw (hr.mono (by omega)) (by rfl) T.g_l_draw T.F_l_draw.kp T.b_l_draw .nil pass0 (pa_cons (pv 0) (pa_cons (pe_op op_add (pv 6) pe_int) pa_nil))) pa_nil)))) (pe_call G_l_draw (hr.mono (by omega)) (by rfl) T.g_l_draw T.F_l_draw.kp T.b_l_draw .nil pass0 (pa_cons (pv 0) (pa_cons pe_int pa_nil))) (fun _ _ => rfl)) (pa_cons (pv 6) pa_nil)))))
        (pss_cons (ps_if (pt_cmpR op_eq (pv 4) pe_int (nomark _)) (pss_cons (ps_set (i := 8) sc_l_rich_item.nd rfl (.inl rfl) (pe_call G_l_a_field (hr.mono (by omega)) (by rfl) T.g_l_a_field T.F_l_a_field.kp T.b_l_a_field .nil pass0 (pa_cons (pv 0) (pa_cons (pe_lst (pa_cons pe_int (pa_cons pe_int (pa_cons pe_int (pa_cons pe_int pa_nil))))) (pa_cons pe_int pa_nil)))))
        (pss_cons (ps_set (i := 9) sc_l_rich_item.nd rfl (.inl rfl) (pe_ix ix_list (pe_dget (hu_of hr) (pe_disp (pps_cons pe_int (pe_lst (pa_cons pe_str (pa_cons pe_str pa_nil))) (pps_cons pe_int (pe_lst (pa_cons pe_str (pa_cons pe_str pa_nil))) (pps_cons pe_int (pe_lst (pa_cons pe_str (pa_cons pe_str pa_nil))) pps_nil))) (by rfl) (by rfl) (fun z => by cases z) (by decide)) (pe_ix ix_tup (pv 8) pe_int (fun _ _ => rfl)) (fun _ _ => rfl)) (pe_call G_l_draw (hr.mono (by omega)) (by rfl) T.g_l_draw T.F_l_draw.kp T.b_l_draw .nil pass0 (pa_cons (pv 0) (pa_cons pe_int pa_nil))) (fun _ _ => rfl)))
        (pss_cons (ps_set (i := 10) sc_l_rich_item.nd rfl (.inl rfl) (pe_ix ix_list (pe_lst (pa_cons pe_non (pa_cons (pe_call G_l_a_number (hr.mono (by omega)) (by rfl) T.g_l_a_number T.F_l_a_number.kp T.b_l_a_number .nil pass0 (pa_cons (pv 0) (pa_cons (pe_ix ix_tup (pv 8) pe_int (fun _ _ => rfl)) (pa_cons (pe_ix ix_tup (pv 8) pe_int (fun _ _ => rfl)) (pa_cons (pe_ix ix_tup (pv 8) pe_int (fun _ _ => rfl)) pa_nil))))) pa_nil))) (pe_call G_l_draw (hr.mono (by omega)) (by rfl) T.g_l_draw T.F_l_draw.kp T.b_l_draw .nil pass0 (pa_cons (pv 0) (pa_cons pe_int pa_nil))) (fun _ _ => rfl)))
        (pss_one (ps_ret (pe_tup (pa_cons (pe_tup (pa_cons pe_str (pa_cons (pe_ix ix_list (pv 1) (pe_un un_neg pe_int) (fun _ _ => rfl)) (pa_cons (pv 9) (pa_cons (pe_ix ix_tup (pv 8) pe_int (fun _ _ => rfl)) (pa_cons (pv 7) (pa_cons (pe_ix ix_tup (pv 8) pe_int (fun _ _ => rfl)) (pa_cons (pv 10) pa_nil)))))))) (pa_cons (pe_op op_add pe_int (pe_op op_mul pe_int (pv 6))) pa_nil)))))))) pss_nil)
        (pss_cons (ps_set (i := 5) sc_l_rich_item.nd rfl (.inl rfl) (pe_call G_l_rich (hr.mono (by omega)) (by rfl) T.g_l_rich T.F_l_rich.kp T.b_l_rich .nil pass0 (pa_cons (pv 0) (pa_cons (pe_op op_sub (pv 2) pe_int) (pa_cons (pe_op op_sub (pe_op op_fdiv (pe_op op_sub (pv 3) pe_int) (pv 6)) pe_int) pa_nil)))))
        (pss_one (ps_ret (pe_tup (pa_cons (pe_tup (pa_cons pe_str (pa_cons (pe_ix ix_list (pv 1) (pe_un un_neg pe_int) (fun _ _ => rfl)) (pa_cons (pv 7) (pa_cons (pe_call G_l_not_empty (hr.mono (by omega)) (by rfl) T.g_l_not_empty T.F_l_not_empty.kp T.b_l_not_empty .nil pass0 (pa_cons (pv 0) (pa_cons (pe_ix ix_tup (pv 5) pe_int (fun _ _ => rfl)) pa_nil))) pa_nil))))) (pa_cons (pe_op op_add pe_int (pe_op op_mul (pv 6) (pe_op op_add (pe_ix ix_tup (pv 5) pe_int (fun _ _ => rfl)) pe_int))) pa_nil))))))))))))))), ?_⟩
    refine ⟨_, rfl, t, 10, tq, rfl, hT, by decide, by decide, fun H1 so hs0 hs1 hT1 hK1 => ?_⟩
    have hu1 := hK1 u _ nut hu
    refine ⟨_, rfl, _, _, rfl, rfl, _, rfl, ite2 (fun e2 => ?_) (fun e2 => ?_)⟩
    · refine ⟨_, rfl, t, tq, rfl, hT1, fun H2 v x c hx hsx hdx hc0 _ rx hT2 hK2 => ?_⟩
      exact k H2 v x c us hx (by omega) (by rw [hsx]; exact hc0) hc0 rx hT2 (hK2 u _ nut hu1) (by omega) (hK1.trans hK2).two
    have e2 : ¬ so < 2 := fun z => e2 (decide_eq_true z)
    -- sort < 5 or (sort > 5 and depth == 0)
    refine ⟨fun b H' => H' = H1 ∧ (b = false → 5 ≤ so ∧ (so = 5 ∨ 1 ≤ e)), ?_, ?_⟩
    · refine ⟨_, rfl, _, _, rfl, rfl, _, rfl, ite2 (fun e3 => ⟨rfl, fun z => (nomatch z)⟩) (fun e3 => ?_)⟩
      have e3 : ¬ so < 5 := fun z => e3 (decide_eq_true z)
      refine ⟨_, rfl, _, _, rfl, rfl, _, rfl, ite2 (fun e4 => ?_) (fun e4 => ?_)⟩
      · refine ⟨_, rfl, rfl, _, rfl, rfl, fun z => ⟨by omega, .inr ?_⟩⟩
        have z : decide (V.int (e : Int) = V.int 0) = false := z
        have := dec_ne_int (Bool.eq_false_iff.mp z)
        omega
      · have e4 : ¬ 5 < so := fun z => e4 (decide_eq_true z)
        exact ⟨rfl, fun _ => ⟨by omega, .inl (by omega)⟩⟩
    rintro bb H' ⟨rfl, hbb⟩
    refine ite2 (fun eb => ?_) (fun eb => ?_)
    · refine ⟨_, rfl, _, rfl, t, u, tq, us, rfl, hT1, nut, nuq, hu1, by omega, fun H2 v z ps us2 hz hps hsum hpl rw2 hT2 hu2 hul2 hK2 => ⟨(by show 2 ≤ sizeLine; decide), fun q hq => ?_⟩⟩
      exact k _ _ (.word z ps) 8 us2 ⟨hz, hpl, hps, hsum⟩ (Nat.zero_le _) (by show ((0 : Nat) : Int) ≤ 8; decide) (by decide) (.tup (SqT.of upd_same) (.cons (rw2.up (Imm.new hq)) (.cons (.int _) .nil))) (hT2.new hq) (by rw [upd_ne (ne_of_none hu2 hq)]; exact hu2) (by omega) ((hK1.two.trans hK2).new hq)
    obtain ⟨hso5, hse⟩ := hbb (Bool.eq_false_iff.mpr eb)
    -- used.append(_law_name(tape, used))
    refine ⟨_, rfl, .inl ⟨rfl, _, SqL.of hu1⟩, _, rfl, _, rfl, t, u, tq, us, rfl, hT1, nut, nuq, hu1, by omega, fun H3 zn hznl hT3 hK3 => ?_⟩
    have hu3 := hK3 u _ nut hu1
    refine ⟨u, _, _, rfl, rfl, hu3, by rw [List.length_map]; exact small1000 (by omega), ?_⟩
    have hT4 : Tape (upd H3 u (.lst (us.map V.str ++ [.str zn]))) t tq := hT3.put nut nuq
    have hK4 : Kept2 t u H (upd H3 u (.lst (us.map V.str ++ [.str zn]))) := (hK1.trans hK3).two.put
    have hu4 : (upd H3 u (.lst (us.map V.str ++ [.str zn]))) u = some (.lst ((us ++ [zn]).map V.str)) := by
      rw [upd_same, List.map_append]
      rfl
    have hul4 : (us ++ [zn]).length ≤ us.length + 6 := by
      rw [List.length_append]
      show us.length + 1 ≤ _
      omega
    have hat : atI ((us ++ [zn]).map V.str) (-1) = some (V.str zn) := by
      rw [List.map_append]
      exact atI_last _ _
    generalize upd H3 u (.lst (us.map V.str ++ [.str zn])) = H4 at hT4 hK4 hu4
    -- if sort == 9
    refine ⟨_, rfl, rfl, _, rfl, ite2 (fun e9 => ?_) (fun e9 => ?_)⟩
    · have e9 := dec_eq_int e9
      obtain ⟨f, rfl⟩ : ∃ f, e = f + 1 := ⟨e - 1, by omega⟩
      have ee : ((f + 1 : Nat) : Int) - 1 = (f : Int) := by omega
      refine ⟨_, rfl, _, rfl, _, _, rfl, rfl, _, rfl, _, _, rfl, rfl, t, tq, f, _, congrArg (fun q => [V.ref t, V.int q, V.int (room - 1)]) ee, by omega, hT4, fun H5 vt items cost hio hil hsc hc0 _ hdp rt hT5 hK5 => ?_⟩
      obtain ⟨ta, txs, rfl, tsq, _, _, tget⟩ := Rep.item rt
      obtain ⟨u0, hu0, ru0⟩ := tget 0 _ rfl
      obtain ⟨u1, hu1', ru1⟩ := tget 1 _ rfl
      cases ru1.int_inv
      have hu5 := hK5 u _ nut hu4
      refine ⟨_, rfl, 1, rfl, u, _, -1, _, rfl, rfl, SqL.of hu5, hat, _, rfl, ta, _, _, _, rfl, rfl, tsq, hu0, (by show 3 ≤ sizeLine; decide), fun q1 hq1 => ?_⟩
      refine ⟨_, rfl, ta, _, _, _, rfl, rfl, (Imm.new hq1) _ _ tsq, hu1', _, _, rfl, rfl, (by show 2 ≤ sizeLine; decide), fun q2 hq2 => ?_⟩
      have n12 : q1 ≠ q2 := ne_of_none upd_same hq2
      have s6 : Same H5 (upd (upd H5 q1 (.tup [.str "record", .str zn, u0])) q2 (.tup [.ref q1, .int (cost + 1)])) := (same_upd hq1).trans (same_upd hq2)
      refine k _ _ (.record zn items) (cost + 1) (us ++ [zn]) ⟨by omega, hio⟩ (by show depthL items + 1 ≤ f + 1; omega) ?_ (by omega) ?_ (hT5.same s6) (s6 _ _ hu5) hul4 ((hK4.trans hK5.two).trans (Same.two s6))
      · have : scopesI (.record zn items) = 1 + scopesL items := rfl
        rw [this]
        omega
      · exact .tup (SqT.of upd_same) (.cons (.tup (SqT.of (by rw [upd_ne n12]; exact upd_same)) (.cons (.str _) (.cons (.str _) (.cons (ru0.up (Imm.same s6)) .nil)))) (.cons (.int _) .nil))
    have e9 := dec_ne_int e9
    -- if sort == 8 and room > 5
    refine ⟨fun b H' => H' = H4 ∧ (b = true → so = 8), ?_, ?_⟩
    · refine ⟨_, rfl, rfl, _, rfl, ite2 (fun e8 => ?_) (fun e8 => ⟨rfl, fun z => (nomatch z)⟩)⟩
      exact ⟨_, rfl, _, _, rfl, rfl, _, rfl, rfl, fun _ => dec_eq_int e8⟩
    rintro b8 H' ⟨rfl, hb8⟩
    refine ite2 (fun eb8 => ?_) (fun eb8 => ?_)
    · have h8 := hb8 eb8
      obtain ⟨f, rfl⟩ : ∃ f, e = f + 1 := ⟨e - 1, by omega⟩
      refine ⟨_, rfl, _, rfl, 1, rfl, u, _, -1, _, rfl, rfl, SqL.of hu4, hat, _, rfl, _, rfl, t, tq, zn, f, room, rfl, by omega, hT4, fun H5 v x c hx hdx hsx hc0 rx hT5 hK5 => ?_⟩
      exact k _ _ x c (us ++ [zn]) hx hdx hsx hc0 rx hT5 (hK5 u _ nut hu4) hul4 (hK4.trans hK5.two)
    -- greatest
    refine ⟨_, rfl, t, 60, tq, rfl, hT4, by decide, by decide, fun H5 g hg0 hg1 hT5 hK5 => ⟨_, _, rfl, rfl, (by show 4 ≤ sizeLine; decide), fun l hl => ⟨_, rfl, t, 4, tq, rfl, hT5.new hl, by decide, by decide, fun H6 x hx0 hx1 hT6 hK6 => ?_⟩⟩⟩
    have hm : ∃ m : Nat, atI [V.int 1, V.int 2, V.int 3, V.int (1 + g)] x = some (V.int (m : Int)) ∧ 1 ≤ m ∧ m ≤ 60 := by
      rcases (show x = 0 ∨ x = 1 ∨ x = 2 ∨ x = 3 by omega) with rfl | rfl | rfl | rfl
      · exact ⟨1, rfl, by decide, by decide⟩
      · exact ⟨2, rfl, by decide, by decide⟩
      · exact ⟨3, rfl, by decide, by decide⟩
      · refine ⟨(1 + g).toNat, ?_, by omega, by omega⟩
        rw [show (((1 + g).toNat : Nat) : Int) = 1 + g by omega]
        rfl
    obtain ⟨m, hm, hm1, hm60⟩ := hm
    have el := hK6 l _ (hT5.off hl).1 upd_same
    have hK46 : Kept t H' H6 := (hK5.new hl).trans hK6
    refine ⟨l, _, _, _, rfl, rfl, SqL.of el, hm, ?_⟩
    -- count
    refine ⟨_, rfl, _, rfl, _, rfl, _, rfl, _, _, rfl, rfl, t, _, tq, rfl, hT6, by omega, by omega, fun H7 g2 hg20 hg21 hT7 hK7 => ⟨(by show 3 ≤ sizeLine; decide), fun l2 hl2 => ⟨_, rfl, t, 3, tq, rfl, hT7.new hl2, by decide, by decide, fun H8 y hy0 hy1 hT8 hK8 => ?_⟩⟩⟩
    have hlo : ∃ lo : Int, atI [V.int 0, V.int (m : Int), V.int g2] y = some (V.int lo) ∧ 0 ≤ lo ∧ lo ≤ (m : Int) := by
      rcases (show y = 0 ∨ y = 1 ∨ y = 2 by omega) with rfl | rfl | rfl
      · exact ⟨0, rfl, by decide, by omega⟩
      · exact ⟨_, rfl, by omega, by omega⟩
      · exact ⟨_, rfl, by omega, by omega⟩
    obtain ⟨lo, hlo, hlo0, hlo1⟩ := hlo
    have el2 := hK8 l2 _ (hT7.off hl2).1 upd_same
    have hK48 : Kept t H' H8 := (hK46.trans hK7).trans ((Same.kept (same_upd hl2)).trans hK8)
    refine ⟨l2, _, _, _, rfl, rfl, SqL.of el2, hlo, _, rfl, t, tq, lo, m, rfl, hT8, hlo0, hlo1, by omega, by omega, fun H9 vc c hc rc hT9 hK9 => ?_⟩
    have hK49 := hK48.trans hK9
    have hu9 := hK49 u _ nut hu4
    have hK09 : Kept2 t u H H9 := hK4.trans hK49.two
    clear el el2 hK46 hK48 hK5 hK6 hK7 hK8 hT5 hT6 hT7 hT8
    refine ⟨_, rfl, rfl, _, rfl, ite2 (fun e5 => ?_) (fun e5 => ?_)⟩
    · -- field
      refine ⟨_, rfl, (by show 4 ≤ sizeLine; decide), fun lw hlw => ⟨t, lw, tq, [8, 8, 16, 32], rfl, hT9.new hlw, upd_same, (hT9.off hlw).1, by simp, (by show 4 ≤ 1000; decide), ?_, fun H10 vf n b r hn1 hn2 hnm hr1 rf hT10 hK10 => ?_⟩⟩
      · intro x hx
        simp only [List.mem_cons, List.not_mem_nil, or_false] at hx
        omega
      have hn3 : (n : Int) = 8 ∨ (n : Int) = 16 ∨ (n : Int) = 32 := by
        simp only [List.mem_cons, List.not_mem_nil, or_false] at hnm
        omega
      have hK910 : Kept t H9 H10 := (Same.kept (same_upd hlw)).trans hK10
      have m10 : Imm K H9 H10 := Imm.kept hT9 hK910
      obtain ⟨fa, fxs, rfl, fsq, _, _, fget⟩ := Rep.item rf
      obtain ⟨f0, hf0, rf0⟩ := fget 0 _ rfl
      obtain ⟨f1, hf1, rf1⟩ := fget 1 _ rfl
      obtain ⟨f2, hf2, rf2⟩ := fget 2 _ rfl
      cases rf0.int_inv
      cases rf1.bl_inv
      -- word
      intro pd hpd
      refine ⟨(by show 2 ≤ sizeLine; decide), fun l1 hl1 => ⟨(by show 2 ≤ sizeLine; decide), fun l2 hl2 => ⟨(by show 2 ≤ sizeLine; decide), fun l3 hl3 => ?_⟩⟩⟩
      have n1 : pd ≠ l1 := ne_of_none upd_same hl1
      have n2 : pd ≠ l2 := ne_of_none (by rw [upd_ne n1]; exact upd_same) hl2
      have n3 : pd ≠ l3 := ne_of_none (by rw [upd_ne n2, upd_ne n1]; exact upd_same) hl3
      have n12 : l1 ≠ l2 := ne_of_none upd_same hl2
      have n13 : l1 ≠ l3 := ne_of_none (by rw [upd_ne n12]; exact upd_same) hl3
      have n23 : l2 ≠ l3 := ne_of_none upd_same hl3
      refine ⟨by rw [upd_ne n3, upd_ne n2, upd_ne n1]; exact upd_same, [(.inl 8, .ref l1), (.inl 16, .ref l2), (.inl 32, .ref l3)], rfl, (by show 3 ≤ 15; decide), ?_⟩
      have s11 : Same H10 (upd (upd (upd (upd H10 pd (.dK [])) l1 (.lst [V.str "u8", V.str "u8"])) l2 (.lst [V.str "u16be", V.str "u16le"])) l3 (.lst [V.str "u32be", V.str "u32le"])) := (((same_upd hpd).trans (same_upd hl1)).trans (same_upd hl2)).trans (same_upd hl3)
      have e1 : (upd (upd (upd (upd H10 pd (.dK [])) l1 (.lst [V.str "u8", V.str "u8"])) l2 (.lst [V.str "u16be", V.str "u16le"])) l3 (.lst [V.str "u32be", V.str "u32le"])) l1 = some (.lst [V.str "u8", V.str "u8"]) := by rw [upd_ne n13, upd_ne n12, upd_same]
      have e2' : (upd (upd (upd (upd H10 pd (.dK [])) l1 (.lst [V.str "u8", V.str "u8"])) l2 (.lst [V.str "u16be", V.str "u16le"])) l3 (.lst [V.str "u32be", V.str "u32le"])) l2 = some (.lst [V.str "u16be", V.str "u16le"]) := by rw [upd_ne n23, upd_same]
      have e3 : (upd (upd (upd (upd H10 pd (.dK [])) l1 (.lst [V.str "u8", V.str "u8"])) l2 (.lst [V.str "u16be", V.str "u16le"])) l3 (.lst [V.str "u32be", V.str "u32le"])) l3 = some (.lst [V.str "u32be", V.str "u32le"]) := upd_same
      obtain ⟨np1, np2⟩ := hT10.off hpd
      generalize upd (upd (upd (upd H10 pd (.dK [])) l1 (.lst [V.str "u8", V.str "u8"])) l2 (.lst [V.str "u16be", V.str "u16le"])) l3 (.lst [V.str "u32be", V.str "u32le"]) = H11 at s11 e1 e2' e3
      have s12 : Same H10 (upd H11 pd (.dK (mergeK [] [(.inl 8, .ref l1), (.inl 16, .ref l2), (.inl 32, .ref l3)]))) := fun b o eb => by
        rw [upd_ne (ne_of_none eb hpd)]
        exact s11 b o eb
      have hv : ∃ (l : Addr) (ys : List V), valV (mergeK [] [(.inl 8, .ref l1), (.inl 16, .ref l2), (.inl 32, .ref l3)]) (.inl (n : Int)) = some (V.ref l) ∧ H11 l = some (.lst ys) ∧ l ≠ pd ∧ H10 l = none ∧ ∀ x : Int, 0 ≤ x → x < 2 → ∃ z : Str, atI ys x = some (.str z) ∧ WordOk z ∧ 8 * wsize z = (n : Int) := by
        have h2 : ∀ x : Int, 0 ≤ x → x < 2 → x = 0 ∨ x = 1 := by omega
        have g1 : H10 l1 = none := (same_upd hpd).free hl1
        have g2 : H10 l2 = none := ((same_upd hpd).trans (same_upd hl1)).free hl2
        have g3 : H10 l3 = none := (((same_upd hpd).trans (same_upd hl1)).trans (same_upd hl2)).free hl3
        rcases hn3 with hn | hn | hn <;> rw [hn]
        · exact ⟨l1, _, rfl, e1, n1.symm, g1, fun x a b => by rcases h2 x a b with rfl | rfl <;> exact ⟨_, rfl, .inl rfl, rfl⟩⟩
        · exact ⟨l2, _, rfl, e2', n2.symm, g2, fun x a b => by
            rcases h2 x a b with rfl | rfl
            · exact ⟨_, rfl, .inr (.inl rfl), by decide +kernel⟩
            · exact ⟨_, rfl, .inr (.inr (.inl rfl)), by decide +kernel⟩⟩
        · exact ⟨l3, _, rfl, e3, n3.symm, g3, fun x a b => by
            rcases h2 x a b with rfl | rfl
            · exact ⟨_, rfl, .inr (.inr (.inr (.inl rfl))), by decide +kernel⟩
            · exact ⟨_, rfl, .inr (.inr (.inr (.inr rfl))), by decide +kernel⟩⟩
      obtain ⟨lz, ys, hvl, hly, nlp, hlz, hys⟩ := hv
      have hg : DGet (upd H11 pd (.dK (mergeK [] [(.inl 8, .ref l1), (.inl 16, .ref l2), (.inl 32, .ref l3)]))) pd (.int (n : Int)) (some (.ref lz)) := by
        rw [← hvl]
        exact DGet.k (k := Sum.inl (n : Int)) upd_same
      have hlz' : (upd H11 pd (.dK (mergeK [] [(.inl 8, .ref l1), (.inl 16, .ref l2), (.inl 32, .ref l3)]))) lz = some (.lst ys) := by
        rw [upd_ne nlp]
        exact hly
      have nlt := (hT10.off hlz).1
      generalize upd H11 pd (.dK (mergeK [] [(.inl 8, .ref l1), (.inl 16, .ref l2), (.inl 32, .ref l3)])) = H12 at s12 hg hlz'
      have hT12 := hT10.same s12
      have m12 : Imm K H10 H12 := Imm.same s12
      refine ⟨_, rfl, fa, _, _, _, rfl, rfl, m12 _ _ fsq, hf0, pd, .ref lz, rfl, hg, ?_⟩
      refine ⟨_, rfl, t, 2, tq, rfl, hT12, by decide, by decide, fun H13 x2 hx20 hx21 hT13 hK13 => ?_⟩
      obtain ⟨zw, hzw, hwo, hws⟩ := hys x2 hx20 hx21
      have m13 : Imm K H10 H13 := m12.trans (Imm.kept hT12 hK13)
      refine ⟨lz, _, _, _, rfl, rfl, SqL.of (hK13 lz _ nlt hlz'), hzw, ?_⟩
      -- default
      refine ⟨_, rfl, _, rfl, fa, _, _, _, rfl, rfl, m13 _ _ fsq, hf0, _, rfl, fa, _, _, _, rfl, rfl, m13 _ _ fsq, hf1, _, rfl, fa, _, _, _, rfl, rfl, m13 _ _ fsq, hf2, t, tq, n, b, f2, r, rfl, hT13, hn1, hn2, hr1, rf2.up m13, fun H14 i hi hT14 hK14 => ⟨(by show 2 ≤ sizeLine; decide), fun ld hld => ⟨_, rfl, t, 2, tq, rfl, hT14.new hld, by decide, by decide, fun H15 y2 hy20 hy21 hT15 hK15 => ?_⟩⟩⟩
      have hd : ∃ d : Option Int, ∃ w : V, atI [V.non, V.int i] y2 = some w ∧ (∀ H, Rep K H w (encO d)) ∧ ∀ d', d = some d' → NumOk n b r d' := by
        rcases (show y2 = 0 ∨ y2 = 1 by omega) with rfl | rfl
        · exact ⟨none, .non, rfl, fun _ => .non, fun d' h => nomatch h⟩
        · exact ⟨some i, .int i, rfl, fun _ => .int i, fun d' h => by cases h; exact hi⟩
      obtain ⟨dd, wd, hwd, rwd, hdn⟩ := hd
      have eld := hK15 ld _ (hT14.off hld).1 upd_same
      have hK1315 : Kept t H13 H15 := (hK14.new hld).trans hK15
      have hK915 : Kept t H9 H15 := ((hK910.trans (Same.kept s12)).trans hK13).trans hK1315
      have m15 : Imm K H10 H15 := m13.trans (Imm.kept hT13 hK1315)
      have m915 : Imm K H9 H15 := Imm.kept hT9 hK915
      have hu15 := hK915 u _ nut hu9
      refine ⟨ld, _, _, _, rfl, rfl, SqL.of eld, hwd, ?_⟩
      refine ⟨_, rfl, 1, rfl, u, _, -1, _, rfl, rfl, SqL.of hu15, hat, _, rfl, _, rfl, fa, _, _, _, rfl, rfl, m15 _ _ fsq, hf1, _, rfl, _, rfl, fa, _, _, _, rfl, rfl, m15 _ _ fsq, hf2, _, rfl, (by show 7 ≤ sizeLine; decide), fun q1 hq1 => ⟨_, rfl, _, _, rfl, rfl, .inl ⟨by decide, by decide⟩, _, _, rfl, rfl, (by show 2 ≤ sizeLine; decide), fun q2 hq2 => ?_⟩⟩
      have n12 : q1 ≠ q2 := ne_of_none upd_same hq2
      have s16 : Same H15 (upd (upd H15 q1 (.tup [.str "array", .str zn, .str zw, .bl b, vc, f2, wd])) q2 (.tup [.ref q1, .int (5 + 5 * (m : Int))])) := (same_upd hq1).trans (same_upd hq2)
      have m16 := Imm.same (K := K) s16
      refine k _ _ (.array zn zw b c r dd) (5 + 5 * (m : Int)) (us ++ [zn]) ⟨hwo, hc, hr1, fun i' h => by rw [hws, Int.toNat_natCast]; exact hdn i' h⟩ (Nat.zero_le _) (by show ((0 : Nat) : Int) ≤ _; omega) (by omega) ?_ (hT15.same s16) (s16 _ _ hu15) hul4 ((hK09.trans hK915.two).trans (Same.two s16))
      exact .tup (SqT.of upd_same) (.cons (.tup (SqT.of (by rw [upd_ne n12]; exact upd_same)) (.cons (.str _) (.cons (.str _) (.cons (.str _) (.cons (.bl _) (.cons (rc.up (m915.trans m16)) (.cons (rf2.up (m15.trans m16)) (.cons (rwd _) .nil)))))))) (.cons (.int _) .nil))
    have e5 := dec_ne_int e5
    obtain ⟨f, rfl⟩ : ∃ f, e = f + 1 := ⟨e - 1, by omega⟩
    have ee : ((f + 1 : Nat) : Int) - 1 = (f : Int) := by omega
    refine ⟨_, rfl, _, rfl, _, _, rfl, rfl, _, rfl, _, _, rfl, rfl, _, rfl, _, _, rfl, rfl, ⟨by omega, by omega⟩, _, _, rfl, rfl, t, tq, f, _, congrArg (fun q => [V.ref t, V.int q, V.int ((room - 5) / (m : Int) - 2)]) ee, by omega, hT9, fun H10 vt items cost hio hil hsc hc0 _ hdp rt hT10 hK10 => ?_⟩
    obtain ⟨ta, txs, rfl, tsq, _, _, tget⟩ := Rep.item rt
    obtain ⟨u0, hu0, ru0⟩ := tget 0 _ rfl
    obtain ⟨u1, hu1', ru1⟩ := tget 1 _ rfl
    cases ru1.int_inv
    have hu10 := hK10 u _ nut hu9
    refine ⟨_, rfl, 1, rfl, u, _, -1, _, rfl, rfl, SqL.of hu10, hat, _, rfl, _, rfl, _, rfl, ta, _, _, _, rfl, rfl, tsq, hu0, t, tq, u0, items, rfl, hT10, ru0, hio, by omega, fun H11 vi items2 hio2 hsc2 hdp2 hil2 ri hT11 hK11 => ⟨(by show 4 ≤ sizeLine; decide), fun q1 hq1 => ?_⟩⟩
    have m11 : Imm K H10 H11 := Imm.kept hT10 hK11
    have m911 : Imm K H9 H11 := (Imm.kept hT9 hK10).trans m11
    have hu11 := hK11 u _ nut hu10
    refine ⟨_, rfl, _, rfl, ta, _, _, _, rfl, rfl, (m11.trans (Imm.new hq1)) _ _ tsq, hu1', _, _, rfl, rfl, _, _, rfl, rfl, .inl ⟨by omega, by omega⟩, _, _, rfl, rfl, (by show 2 ≤ sizeLine; decide), fun q2 hq2 => ?_⟩
    have n12 : q1 ≠ q2 := ne_of_none upd_same hq2
    have s12 : Same H11 (upd (upd H11 q1 (.tup [.str "list", .str zn, vc, vi])) q2 (.tup [.ref q1, .int (5 + (m : Int) * (cost + 2))])) := (same_upd hq1).trans (same_upd hq2)
    have m12 := Imm.same (K := K) s12
    have hmul : 1 * (cost + 2) ≤ (m : Int) * (cost + 2) := Int.mul_le_mul_of_nonneg_right (by omega) (by omega)
    refine k _ _ (.list zn c items2) (5 + (m : Int) * (cost + 2)) (us ++ [zn]) ⟨hc, by omega, hio2⟩ (by show depthL items2 + 1 ≤ f + 1; omega) ?_ (by omega) ?_ (hT11.same s12) (s12 _ _ hu11) hul4 (((hK09.trans hK10.two).trans hK11.two).trans (Same.two s12))
    · have : scopesI (.list zn c items2) = 1 + scopesL items2 := rfl
      rw [this, hsc2]
      omega
    · exact .tup (SqT.of upd_same) (.cons (.tup (SqT.of (by rw [upd_ne n12]; exact upd_same)) (.cons (.str _) (.cons (.str _) (.cons (rc.up (m911.trans m12)) (.cons (ri.up m12) .nil))))) (.cons (.int _) .nil))
theorem st_rich {d L : Nat} (T : Txt K w mg A) (hL : 9 ≤ L) (G_l_rich_item : FnOk P w K mg base CX0 L A.l_rich_item.f A.l_rich_item.fd ["tape", "used", "depth", "room"] (sp_item d K)) : FnOk P w K mg base CX0 (L + 1) A.l_rich.f A.l_rich.fd ["tape", "depth", "room"] (sp_rich d K) := by
  have G_l_draw : FnOk P w K mg base CX0 1 A.l_draw.f A.l_draw.fd ["tape", "many"] (sp_l_draw K) := ok_l_draw T
  refine T.F_l_rich.ok sc_l_rich (fun vs H Q E h => ?_) (fun cdv Ar outer s H vs Q E hr h => ?_)
  · obtain ⟨t, tq, e, room, rfl, _⟩ := h; rfl
  · obtain ⟨t, tq, e, room, rfl, hed, hT, k⟩ := h
    refine ⟨_, (pss_cons (ps_set (i := 3) sc_l_rich.nd rfl (.inl rfl) (pe_tup pa_nil))
        (pss_cons (ps_set (i := 4) sc_l_rich.nd rfl (.inl rfl) pe_int)
        (pss_cons (ps_set (i := 5) sc_l_rich.nd rfl (.inl rfl) (pe_lst pa_nil))
        (pss_cons (ps_for PassesOwn.never rfl (pi_range1 rfl T.n_range (pa_cons (pe_mid (pe_ifExp (pt_cmpR op_gt (pv 2) pe_int (nomark _)) (pe_ix ix_list (pe_lst (pa_cons pe_int (pa_cons pe_int (pa_cons pe_int (pa_cons pe_int (pa_cons pe_int (pa_cons pe_int (pa_cons (pe_mid (pe_ifExp (pt_cmpR op_gt (pv 1) pe_int (nomark _)) pe_int pe_int)) pa_nil)))))))) (pe_call G_l_draw (hr.mono (by omega)) (by rfl) T.g_l_draw T.F_l_draw.kp T.b_l_draw .nil pass0 (pa_cons (pv 0) (pa_cons pe_int pa_nil))) (fun _ _ => rfl)) pe_int)) pa_nil)) (pg_name (i := 6) sc_l_rich.nd rfl (Or.inl rfl)) (pss_cons (ps_set (i := 7) sc_l_rich.nd rfl (.inl rfl) (pe_call G_l_rich_item (hr.mono (by omega)) (by rfl) T.g_l_rich_item T.F_l_rich_item.kp T.b_l_rich_item .nil pass0 (pa_cons (pv 0) (pa_cons (pv 5) (pa_cons (pv 1) (pa_cons (pe_op op_sub (pv 2) (pv 4)) pa_nil))))))
        (pss_one (ps_if (pt_cmpR op_le (pe_op op_add (pv 4) (pe_ix ix_tup (pv 7) pe_int (fun _ _ => rfl))) (pv 2) (nomark _)) (pss_cons (ps_set (i := 3) sc_l_rich.nd rfl (.inl rfl) (pe_op op_catA (pv 3) (pe_tup (pa_cons (pe_ix ix_tup (pv 7) pe_int (fun _ _ => rfl)) pa_nil))))
        (pss_one (ps_set (i := 4) sc_l_rich.nd rfl (.inl rfl) (pe_op op_add (pv 4) (pe_ix ix_tup (pv 7) pe_int (fun _ _ => rfl)))))) pss_nil))))
        (pss_one (ps_ret (pe_tup (pa_cons (pv 3) (pa_cons (pv 4) pa_nil))))))))), ?_⟩
    refine ⟨Nat.zero_le _, fun pi hpi => ?_⟩
    refine ⟨Nat.zero_le _, fun u hu0 => ?_⟩
    have s2 : Same H (upd (upd H pi (.tup [])) u (.lst [])) := (same_upd hpi).trans (same_upd hu0)
    have hT2 := hT.same s2
    obtain ⟨nut, nuq⟩ := (hT.new (o := .tup []) hpi).off hu0
    have hun : H u = none := (same_upd hpi).free hu0
    have hu2 : (upd (upd H pi (.tup [])) u (.lst [])) u = some (.lst (([] : List Str).map V.str)) := upd_same
    have ri : Rep K (upd (upd H pi (.tup [])) u (.lst [])) (.ref pi) (.tuple (encItems [])) := .tup (SqT.of (by rw [upd_ne (ne_of_none upd_same hu0)]; exact upd_same)) .nil
    generalize upd (upd H pi (.tup [])) u (.lst []) = H2 at s2 hT2 hu2 ri
    -- the number of turns
    refine ⟨fun v H' => ∃ m : Nat, v = .int (m : Int) ∧ m ≤ 9 ∧ Tape H' t tq ∧ Kept t H2 H', ?_, ?_⟩
    · refine ⟨_, rfl, _, _, rfl, rfl, _, rfl, ite2 (fun e1 => ?_) (fun e1 => ⟨0, rfl, by decide, hT2, Kept.rfl⟩)⟩
      refine ⟨fun v H' => H' = H2 ∧ (v = .int 9 ∨ v = .int 3), ⟨_, rfl, _, _, rfl, rfl, _, rfl, ite2 (fun _ => ⟨rfl, .inl rfl⟩) (fun _ => ⟨rfl, .inr rfl⟩)⟩, ?_⟩
      rintro v93 H' ⟨rfl, h93⟩
      refine ⟨(by show 7 ≤ sizeLine; decide), fun l hl => ⟨_, rfl, t, 7, tq, rfl, hT2.new hl, by decide, by decide, fun H3 x hx0 hx1 hT3 hK3 => ?_⟩⟩
      have hm : ∃ m : Nat, atI [V.int 2, V.int 1, V.int 2, V.int 3, V.int 4, V.int 0, v93] x = some (V.int (m : Int)) ∧ m ≤ 9 := by
        rcases (show x = 0 ∨ x = 1 ∨ x = 2 ∨ x = 3 ∨ x = 4 ∨ x = 5 ∨ x = 6 by omega) with rfl | rfl | rfl | rfl | rfl | rfl | rfl
        · exact ⟨2, rfl, by decide⟩
        · exact ⟨1, rfl, by decide⟩
        · exact ⟨2, rfl, by decide⟩
        · exact ⟨3, rfl, by decide⟩
        · exact ⟨4, rfl, by decide⟩
        · exact ⟨0, rfl, by decide⟩
        · rcases h93 with rfl | rfl
          · exact ⟨9, rfl, by decide⟩
          · exact ⟨3, rfl, by decide⟩
      obtain ⟨m, hm, hm9⟩ := hm
      have el := hK3 l _ (hT2.off hl).1 upd_same
      exact ⟨l, _, _, _, rfl, rfl, SqL.of el, hm, m, rfl, hm9, hT3, (Same.kept (same_upd hl)).trans hK3⟩
    rintro vm H3 ⟨m, rfl, hm9, hT3, hK3⟩
    refine ⟨_, rfl, by omega, by omega, for_range (n := m) (fun i σ H4 => ∃ (vi : V) (items : List Item) (spent : Int) (us : List Str) (v6 v7 : Option V), σ = [some (.ref t), some (.int (e : Int)), some (.int room), some vi, some (.int spent), some (.ref u), v6, v7] ∧
        ItemsOk items ∧ items.length ≤ i ∧ depthL items ≤ e ∧ (scopesL items : Int) ≤ spent ∧ 0 ≤ spent ∧ spent ≤ max room 0 ∧ Rep K H4 vi (.tuple (encItems items)) ∧ Tape H4 t tq ∧ H4 u = some (.lst (us.map V.str)) ∧ us.length ≤ 6 * i ∧ Kept t H H4)
      ⟨.ref pi, [], 0, [], none, none, rfl, trivial, Nat.le_refl _, Nat.zero_le _, by show ((0 : Nat) : Int) ≤ 0; decide, by decide, by omega, ri.up (Imm.kept hT2 hK3), hT3, hK3 u _ nut hu2, Nat.le_refl _, (Same.kept s2).trans hK3⟩ ?_ ?_⟩
    · rintro i σ H4 hi ⟨vi, items, spent, us, v6, v7, rfl, hio, hil, hdp, hsc, hs0, hsr, ri, hT4, hu4, hul, hK4⟩
      refine ⟨_, rfl, _, rfl, _, rfl, _, rfl, _, rfl, _, _, rfl, rfl, t, u, tq, us, e, room - spent, rfl, hed, hT4, nut, nuq, hu4, by omega, fun H5 v x cost us5 hx hdx hsx hc0 rx hT5 hu5 hul5 hK5 => ?_⟩
      have m5 : Imm K H4 H5 := Imm.kept2 hT4 hu4 hK5
      have hK5' : Kept t H H5 := Kept2.one hK4 hun hK5
      obtain ⟨ta, txs, rfl, tsq, _, _, tget⟩ := Rep.item rx
      obtain ⟨u0, hu0', ru0⟩ := tget 0 _ rfl
      obtain ⟨u1, hu1', ru1⟩ := tget 1 _ rfl
      cases ru1.int_inv
      refine ⟨_, rfl, _, rfl, ta, _, _, _, rfl, rfl, tsq, hu1', _, _, rfl, rfl, _, rfl, _, _, rfl, rfl, _, rfl, ite2 (fun e1 => ?_) (fun e1 => ?_)⟩
      · have e1 : spent + cost ≤ room := of_decide_eq_true e1
        refine ⟨_, rfl, _, rfl, ta, _, _, _, rfl, rfl, tsq, hu0', (by show 1 ≤ sizeLine; decide), fun q hq => ?_⟩
        have rq : Rep K (upd H5 q (.tup [u0])) (.ref q) (.tuple (encItems [x])) := .tup (SqT.of upd_same) (.cons (ru0.up (Imm.new hq)) .nil)
        refine cat_use (ri.up (m5.trans (Imm.new hq))) rq (by rw [encItems_len]; show items.length + 1 ≤ 1000; omega) fun v6 H6 s6 r6 => ?_
        rw [← encItems_append] at r6
        have s56 := (same_upd (o := .tup [u0]) hq).trans s6
        refine ⟨_, rfl, _, rfl, ta, _, _, _, rfl, rfl, (Imm.same s56) _ _ tsq, hu1', _, _, rfl, rfl, ?_⟩
        refine ⟨v6, items ++ [x], spent + cost, us5, _, _, rfl, itemsOk_append hio (show ItemsOk [x] from ⟨hx, trivial⟩), by rw [List.length_append]; show items.length + 1 ≤ _; omega, by rw [depthL_append]; show max (depthL items) (max (depthI x) 0) ≤ e; omega, ?_, by omega, by omega, r6, hT5.same s56, s56 _ _ hu5, by omega, hK5'.trans (Same.kept s56)⟩
        rw [scopesL_append]
        have : scopesL [x] = scopesI x + 0 := rfl
        omega
      · exact ⟨vi, items, spent, us5, _, _, rfl, hio, by omega, hdp, hsc, hs0, hsr, ri.up m5, hT5, hu5, by omega, hK5'⟩
    · rintro σ H4 ⟨vi, items, spent, us, v6, v7, rfl, hio, hil, hdp, hsc, hs0, hsr, ri, hT4, hu4, hul, hK4⟩
      refine ⟨_, rfl, _, rfl, (by show 2 ≤ sizeLine; decide), fun q hq => ?_⟩
      exact k _ _ items spent hio (by omega) hsc hs0 hsr hdp (.tup (SqT.of upd_same) (.cons (ri.up (Imm.new hq)) (.cons (.int _) .nil))) (hT4.new hq) (hK4.new hq)
theorem no_rich (T : Txt K w mg A) : FnOk P w K mg base CX0 9 A.l_rich.f A.l_rich.fd ["tape", "depth", "room"] (sp_rich 0 K) := by
  refine T.F_l_rich.ok sc_l_rich (fun vs H Q E h => ?_) (fun cdv Ar outer s H vs Q E hr h => ?_)
  · obtain ⟨t, tq, e, room, _, h, _⟩ := h
    omega
  · obtain ⟨t, tq, e, room, _, h, _⟩ := h
    omega
theorem all_rich (T : Txt K w mg A) : ∀ d : Nat, FnOk P w K mg base CX0 (9 + 3 * d) A.l_rich.f A.l_rich.fd ["tape", "depth", "room"] (sp_rich d K)
  | 0 => no_rich T
  | d + 1 => by
    have G := all_rich T d
    exact st_rich (L := 9 + 3 * d + 2) T (by omega) (st_item T (by omega) G (st_choice T (by omega) G))
theorem ok_l_rich (T : Txt K w mg A) : FnOk P w K mg base CX0 21 A.l_rich.f A.l_rich.fd ["tape", "depth", "room"] (sp_l_rich K) := all_rich T 4


/-! def _law_extent -/
def sp_extD (d : Nat) (K : PySem.W.Frag) : Sp := fun vs H Q _ => ∃ (v : V) (items : List Item), vs = [v] ∧ Rep K H v (.tuple (encItems items)) ∧ ScopeOk items ∧ depthL items < d ∧
  ∀ (H' : Hp) (w : V), Same H H' → Rep K H' w (encSz (sizeL items)) → Q w H'
def sp_extofD (d : Nat) (K : PySem.W.Frag) : Sp := fun vs H Q _ => ∃ (v : V) (x : Item), vs = [v] ∧ Rep K H v (encItem x) ∧ ItemOk x ∧ depthI x < d ∧
  ∀ (H' : Hp) (w : V), Same H H' → Rep K H' w (encSz (sizeI x)) → Q w H'
def sp_l_extent (K : PySem.W.Frag) : Sp := sp_extD 4 K
theorem sizeL_sum : ∀ items : List Item, ((items.map sizeI).map Prod.fst).sum = (sizeL items).1 ∧ ((items.map sizeI).map Prod.snd).sum = (sizeL items).2
  | [] => ⟨rfl, rfl⟩
  | x :: r => by
    have ih := sizeL_sum r
    rw [List.map_cons, List.map_cons, List.map_cons, List.sum_cons, List.sum_cons, ih.1, ih.2]
    exact ⟨rfl, rfl⟩
/-- what the law reckons from a count and the sizes of each element -/
theorem count_size {c : Count} (p : Int × Int) : (match c with
    | .exactly _ => (0 + (bounds c).1 * p.1, 0 + (bounds c).2 * p.2)
    | .counted w _ _ => (wsize w + (bounds c).1 * p.1, wsize w + (bounds c).2 * p.2)
    | .marked _ => (1, 1 + (bounds c).2 * (1 + p.2))) = sizeCount c p := by
  cases c with
  | exactly n =>
    show (0 + n * p.1, 0 + n * p.2) = (n * p.1, n * p.2)
    rw [Int.zero_add, Int.zero_add]
  | counted w lo hi => rfl
  | marked n =>
    show (1, 1 + n * (1 + p.2)) = (1, n * (1 + p.2) + 1)
    rw [Int.add_comm 1 (n * (1 + p.2))]
theorem st_extof {d L : Nat} (T : Txt K w mg A) (hL : 5 ≤ L) (G_l_extent : FnOk P w K mg base CX0 L A.l_extent.f A.l_extent.fd ["items"] (sp_extD d K)) : FnOk P w K mg base CX0 (L + 1) A.l_extent_of.f A.l_extent_of.fd ["item"] (sp_extofD (d + 1) K) := by
  have G_l_bounds : FnOk P w K mg base CX0 1 A.l_bounds.f A.l_bounds.fd ["count"] (sp_l_bounds K) := ok_l_bounds T
  have G_l_size : FnOk P w K mg base CX0 1 A.l_size.f A.l_size.fd ["word"] (sp_l_size K) := ok_l_size T

  refine T.F_l_extent_of.ok sc_l_extent_of (fun vs H Q E h => ?_) (fun cdv Ar outer s H vs Q E hr h => ?_)
  · obtain ⟨v, x, rfl, _⟩ := h; rfl
  · obtain ⟨v, x, rfl, rx, hx, hdp, k⟩ := h
    refine ⟨_, (pss_cons (ps_if (pt_cmpR op_eq (pe_ix ix_tup (pv 0) pe_int (fun _ _ => rfl)) pe_str (nomark _)) (pss_one (ps_ret (pe_tup (pa_cons (pe_call G_l_size (hr.mono (by omega)) (by rfl) T.g_l_size T.F_l_size.kp T.b_l_size .nil pass0 (pa_cons (pe_ix ix_tup (pv 0) pe_int (fun _ _ => rfl)) pa_nil)) (pa_cons (pe_call G_l_size (hr.mono (by omega)) (by rfl) T.g_l_size T.F_l_size.kp T.b_l_size .nil pass0 (pa_cons (pe_ix ix_tup (pv 0) pe_int (fun _ _ => rfl)) pa_nil)) pa_nil))))) pss_nil)
        (pss_cons (ps_if (pt_cmpR op_eq (pe_ix ix_tup (pv 0) pe_int (fun _ _ => rfl)) pe_str (nomark _)) (pss_one (ps_ret (pe_tup (pa_cons (pe_callB call_len_seq (by rfl) T.n_len (by decide +kernel) (pa_cons (pe_ix ix_tup (pv 0) pe_int (fun _ _ => rfl)) pa_nil)) (pa_cons (pe_callB call_len_seq (by rfl) T.n_len (by decide +kernel) (pa_cons (pe_ix ix_tup (pv 0) pe_int (fun _ _ => rfl)) pa_nil)) pa_nil))))) pss_nil)
        (pss_cons (ps_if (pt_cmpR op_eq (pe_ix ix_tup (pv 0) pe_int (fun _ _ => rfl)) pe_str (nomark _)) (pss_one (ps_ret (pe_tup (pa_cons (pe_ix ix_tup (pv 0) pe_int (fun _ _ => rfl)) (pa_cons (pe_ix ix_tup (pv 0) pe_int (fun _ _ => rfl)) pa_nil))))) pss_nil)
        (pss_cons (ps_if (pt_cmpR op_eq (pe_ix ix_tup (pv 0) pe_int (fun _ _ => rfl)) pe_str (nomark _)) (pss_one (ps_ret (pe_tup (pa_cons pe_int (pa_cons pe_int pa_nil))))) pss_nil)
        (pss_cons (ps_if (pt_cmpR op_eq (pe_ix ix_tup (pv 0) pe_int (fun _ _ => rfl)) pe_str (nomark _)) (pss_one (ps_ret (pe_call G_l_extent (hr.mono (by omega)) (by rfl) T.g_l_extent T.F_l_extent.kp T.b_l_extent .nil pass0 (pa_cons (pe_ix ix_tup (pv 0) pe_int (fun _ _ => rfl)) pa_nil)))) pss_nil)
        (pss_cons (ps_if (pt_cmpR op_eq (pe_ix ix_tup (pv 0) pe_int (fun _ _ => rfl)) pe_str (nomark _)) (pss_cons (ps_setLc (i := 1) (own := [("case", 2)]) (g := (gName 2)) (tt := tYes) (by rfl) sc_l_extent_of.nd rfl rfl (sw_true rfl rfl rfl (by decide +kernel)) (pi_tup (pe_ix ix_tup (pv 0) pe_int (fun _ _ => rfl))) (blkOk_by (own := [("case", 2)]) (N := ["item", "pairs", "case", "size", "pair", "each", "count", "ends"]) (sc := defScope s_l_extent_of) (by decide +kernel)) (fun _ _ _ _ _ => pg_name (i := 2) sc_l_extent_of.nd rfl (Or.inl rfl)) (fun _ _ _ _ _ => pts_nil) (fun _ _ _ _ _ => (pe_call G_l_extent (hr.mono (by omega)) (by rfl) T.g_l_extent T.F_l_extent.kp T.b_l_extent .nil pass0 (pa_cons (pe_ix (ix_tupK (K := K) rfl) (pv 2) pe_int (fun _ _ => rfl)) pa_nil))))
        (pss_cons (ps_set (i := 3) sc_l_extent_of.nd rfl (.inl rfl) (pe_call G_l_size (hr.mono (by omega)) (by rfl) T.g_l_size T.F_l_size.kp T.b_l_size .nil pass0 (pa_cons (pe_ix ix_tup (pv 0) pe_int (fun _ _ => rfl)) pa_nil)))
        (pss_one (ps_ret (pe_tup (pa_cons (pe_op op_add (pv 3) (pe_callB (cr_min rfl) (by rfl) T.n_min (by decide +kernel) (pa_cons (pe_lc (own := [("pair", 4)]) (g := (gName 4)) (tt := tYes) (by rfl) sc_l_extent_of.nd (pi_list (pv 1)) (blkOk_by (own := [("pair", 4)]) (N := ["item", "pairs", "case", "size", "pair", "each", "count", "ends"]) (sc := defScope s_l_extent_of) (by decide +kernel)) (fun _ _ _ _ _ => pg_name (i := 4) sc_l_extent_of.nd rfl (Or.inl rfl)) (fun _ _ _ _ _ => pts_nil) (fun _ _ _ _ _ => (pe_ix (ix_tupK (K := K) rfl) (pv 4) pe_int (fun _ _ => rfl)))) pa_nil))) (pa_cons (pe_op op_add (pv 3) (pe_callB (cr_max rfl) (by rfl) T.n_max (by decide +kernel) (pa_cons (pe_lc (own := [("pair", 4)]) (g := (gName 4)) (tt := tYes) (by rfl) sc_l_extent_of.nd (pi_list (pv 1)) (blkOk_by (own := [("pair", 4)]) (N := ["item", "pairs", "case", "size", "pair", "each", "count", "ends"]) (sc := defScope s_l_extent_of) (by decide +kernel)) (fun _ _ _ _ _ => pg_name (i := 4) sc_l_extent_of.nd rfl (Or.inl rfl)) (fun _ _ _ _ _ => pts_nil) (fun _ _ _ _ _ => (pe_ix (ix_tupK (K := K) rfl) (pv 4) pe_int (fun _ _ => rfl)))) pa_nil))) pa_nil))))))) pss_nil)
        (pss_cons (ps_set (i := 5) sc_l_extent_of.nd rfl (.inl rfl) (pe_mid (pe_ifExp (pt_cmpR op_eq (pe_ix ix_tup (pv 0) pe_int (fun _ _ => rfl)) pe_str (nomark _)) (pe_call G_l_extent (hr.mono (by omega)) (by rfl) T.g_l_extent T.F_l_extent.kp T.b_l_extent .nil pass0 (pa_cons (pe_ix ix_tup (pv 0) pe_int (fun _ _ => rfl)) pa_nil)) (pe_tup (pa_cons (pe_call G_l_size (hr.mono (by omega)) (by rfl) T.g_l_size T.F_l_size.kp T.b_l_size .nil pass0 (pa_cons (pe_ix ix_tup (pv 0) pe_int (fun _ _ => rfl)) pa_nil)) (pa_cons (pe_call G_l_size (hr.mono (by omega)) (by rfl) T.g_l_size T.F_l_size.kp T.b_l_size .nil pass0 (pa_cons (pe_ix ix_tup (pv 0) pe_int (fun _ _ => rfl)) pa_nil)) pa_nil))))))
        (pss_cons (ps_set (i := 6) sc_l_extent_of.nd rfl (.inl rfl) (pe_mid (pe_ifExp (pt_cmpR op_eq (pe_ix ix_tup (pv 0) pe_int (fun _ _ => rfl)) pe_str (nomark _)) (pe_ix ix_tup (pv 0) pe_int (fun _ _ => rfl)) (pe_ix ix_tup (pv 0) pe_int (fun _ _ => rfl)))))
        (pss_cons (ps_set (i := 7) sc_l_extent_of.nd rfl (.inl rfl) (pe_call G_l_bounds (hr.mono (by omega)) (by rfl) T.g_l_bounds T.F_l_bounds.kp T.b_l_bounds .nil pass0 (pa_cons (pv 6) pa_nil)))
        (pss_cons (ps_if (pt_cmpR op_eq (pe_ix ix_tup (pv 6) pe_int (fun _ _ => rfl)) pe_str (nomark _)) (pss_one (ps_ret (pe_tup (pa_cons pe_int (pa_cons (pe_op op_add pe_int (pe_op op_mul (pe_ix ix_tup (pv 7) pe_int (fun _ _ => rfl)) (pe_op op_add pe_int (pe_ix ix_tup (pv 5) pe_int (fun _ _ => rfl))))) pa_nil))))) pss_nil)
        (pss_cons (ps_set (i := 3) sc_l_extent_of.nd rfl (.inl rfl) (pe_mid (pe_ifExp (pt_cmpR op_eq (pe_ix ix_tup (pv 6) pe_int (fun _ _ => rfl)) pe_str (nomark _)) (pe_call G_l_size (hr.mono (by omega)) (by rfl) T.g_l_size T.F_l_size.kp T.b_l_size .nil pass0 (pa_cons (pe_ix ix_tup (pv 6) pe_int (fun _ _ => rfl)) pa_nil)) pe_int)))
        (pss_one (ps_ret (pe_tup (pa_cons (pe_op op_add (pv 3) (pe_op op_mul (pe_ix ix_tup (pv 7) pe_int (fun _ _ => rfl)) (pe_ix ix_tup (pv 5) pe_int (fun _ _ => rfl)))) (pa_cons (pe_op op_add (pv 3) (pe_op op_mul (pe_ix ix_tup (pv 7) pe_int (fun _ _ => rfl)) (pe_ix ix_tup (pv 5) pe_int (fun _ _ => rfl)))) pa_nil)))))))))))))))), ?_⟩
    have fin : ∀ (H2 : Hp) (a b : Int) (q : Addr), (a, b) = sizeI x → Same H H2 → H2 q = none → Q (.ref q) (upd H2 q (.tup [.int a, .int b])) := fun H2 a b q e s hq => by
      refine k _ _ (s.trans (same_upd hq)) ?_
      rw [← e]
      exact .tup (SqT.of upd_same) (.cons (.int _) (.cons (.int _) .nil))
    cases x with
    | word wd ps =>
      obtain ⟨a, xs, rfl, s, r⟩ := Rep.inv (ds := [.str "word", .str wd, .tuple (ps.map encPart)]) rx
      obtain ⟨u0, u1, u2, rfl, r0, r1, r2⟩ := r.l3
      cases r0.str_inv
      cases r1.str_inv
      refine ⟨_, rfl, a, _, 0, _, rfl, rfl, s, rfl, rfl, _, rfl, iteDT rfl ?_⟩
      refine ⟨_, rfl, a, _, 1, _, rfl, rfl, s, rfl, wd, rfl, hx.1, fun H2 s2 => ⟨_, rfl, a, _, 1, _, rfl, rfl, (Imm.same s2) _ _ s, rfl, wd, rfl, hx.1, fun H3 s3 => ⟨(by show 2 ≤ sizeLine; decide), fun q hq => fin _ _ _ q rfl (s2.trans s3) hq⟩⟩⟩
    | literal z =>
      obtain ⟨a, xs, rfl, s, r⟩ := Rep.inv (ds := [.str "literal", .tuple (z.map PyData.int)]) rx
      obtain ⟨u0, u1, rfl, r0, r1⟩ := r.l2
      cases r0.str_inv
      obtain ⟨b, ys, rfl, t, rr⟩ := r1.inv
      have hl := rr.len
      rw [List.length_map] at hl
      refine ⟨_, rfl, a, _, 0, _, rfl, rfl, s, rfl, rfl, _, rfl, iteDF (by decide +kernel) ?_⟩
      refine ⟨_, rfl, a, _, 0, _, rfl, rfl, s, rfl, rfl, _, rfl, iteDT rfl ?_⟩
      exact ⟨_, rfl, a, _, 1, _, rfl, rfl, s, rfl, b, ys, rfl, .inr t, _, rfl, a, _, 1, _, rfl, rfl, s, rfl, b, ys, rfl, .inr t, (by show 2 ≤ sizeLine; decide), fun q hq => fin _ _ _ q (by rw [hl]; rfl) (Same.refl _) hq⟩
    | reserved z =>
      obtain ⟨a, xs, rfl, s, r⟩ := Rep.inv (ds := [.str "reserved", .int z]) rx
      obtain ⟨u0, u1, rfl, r0, r1⟩ := r.l2
      cases r0.str_inv
      cases r1.int_inv
      refine ⟨_, rfl, a, _, 0, _, rfl, rfl, s, rfl, rfl, _, rfl, iteDF (by decide +kernel) ?_⟩
      refine ⟨_, rfl, a, _, 0, _, rfl, rfl, s, rfl, rfl, _, rfl, iteDF (by decide +kernel) ?_⟩
      refine ⟨_, rfl, a, _, 0, _, rfl, rfl, s, rfl, rfl, _, rfl, iteDT rfl ?_⟩
      exact ⟨_, rfl, a, _, 1, _, rfl, rfl, s, rfl, _, rfl, a, _, 1, _, rfl, rfl, s, rfl, (by show 2 ≤ sizeLine; decide), fun q hq => fin _ _ _ q rfl (Same.refl _) hq⟩
    | check z =>
      obtain ⟨a, xs, rfl, s, r⟩ := Rep.inv (ds := [.str "check", .str z]) rx
      obtain ⟨u0, u1, rfl, r0, r1⟩ := r.l2
      cases r0.str_inv
      refine ⟨_, rfl, a, _, 0, _, rfl, rfl, s, rfl, rfl, _, rfl, iteDF (by decide +kernel) ?_⟩
      refine ⟨_, rfl, a, _, 0, _, rfl, rfl, s, rfl, rfl, _, rfl, iteDF (by decide +kernel) ?_⟩
      refine ⟨_, rfl, a, _, 0, _, rfl, rfl, s, rfl, rfl, _, rfl, iteDF (by decide +kernel) ?_⟩
      refine ⟨_, rfl, a, _, 0, _, rfl, rfl, s, rfl, rfl, _, rfl, iteDT rfl ?_⟩
      exact ⟨(by show 2 ≤ sizeLine; decide), fun q hq => fin _ _ _ q rfl (Same.refl _) hq⟩
    | record name its =>
      obtain ⟨a, xs, rfl, s, r⟩ := Rep.inv (ds := [.str "record", .str name, .tuple (encItems its)]) rx
      obtain ⟨u0, u1, u2, rfl, r0, r1, r2⟩ := r.l3
      cases r0.str_inv
      have hd1 : depthL its + 1 < d + 1 := hdp
      refine ⟨_, rfl, a, _, 0, _, rfl, rfl, s, rfl, rfl, _, rfl, iteDF (by decide +kernel) ?_⟩
      refine ⟨_, rfl, a, _, 0, _, rfl, rfl, s, rfl, rfl, _, rfl, iteDF (by decide +kernel) ?_⟩
      refine ⟨_, rfl, a, _, 0, _, rfl, rfl, s, rfl, rfl, _, rfl, iteDF (by decide +kernel) ?_⟩
      refine ⟨_, rfl, a, _, 0, _, rfl, rfl, s, rfl, rfl, _, rfl, iteDF (by decide +kernel) ?_⟩
      refine ⟨_, rfl, a, _, 0, _, rfl, rfl, s, rfl, rfl, _, rfl, iteDT rfl ?_⟩
      exact ⟨_, rfl, a, _, 2, _, rfl, rfl, s, rfl, u2, its, rfl, r2, ⟨hx.2, hx.1⟩, by omega, fun H3 w3 s3 rw3 => k _ _ s3 rw3⟩
    | choice name wd cases =>
      obtain ⟨a, xs, rfl, s, r⟩ := Rep.inv (ds := [.str "choice", .str name, .str wd, .tuple (encCases cases)]) rx
      obtain ⟨u0, u1, u2, u3, rfl, r0, r1, r2, r3⟩ := r.l4
      cases r0.str_inv
      cases r2.str_inv
      have hd1 : depthC cases + 1 < d + 1 := hdp
      have hne := hx.2.1
      have hlen := hx.2.2.1
      have hok := hx.2.2.2
      refine ⟨_, rfl, a, _, 0, _, rfl, rfl, s, rfl, rfl, _, rfl, iteDF (by decide +kernel) ?_⟩
      refine ⟨_, rfl, a, _, 0, _, rfl, rfl, s, rfl, rfl, _, rfl, iteDF (by decide +kernel) ?_⟩
      refine ⟨_, rfl, a, _, 0, _, rfl, rfl, s, rfl, rfl, _, rfl, iteDF (by decide +kernel) ?_⟩
      refine ⟨_, rfl, a, _, 0, _, rfl, rfl, s, rfl, rfl, _, rfl, iteDF (by decide +kernel) ?_⟩
      refine ⟨_, rfl, a, _, 0, _, rfl, rfl, s, rfl, rfl, _, rfl, iteDF (by decide +kernel) ?_⟩
      refine ⟨_, rfl, a, _, 0, _, rfl, rfl, s, rfl, rfl, _, rfl, iteDT rfl ?_⟩
      obtain ⟨ca, ys, rfl, hs, hyl, hall, _⟩ := Rep.item r3
      rw [encCases_len] at hyl
      refine ⟨_, rfl, a, _, 3, _, rfl, rfl, s, rfl, ca, rfl, ⟨_, hs⟩, fun D hD => lc_tup (K := K) (a := ca) (xs := ys) (fun i H2 => Same H H2 ∧ ∃ acc : List V, H2 D = some (.lst acc) ∧ RepAll K H2 acc (((sizeC cases).take i).map encSz)) ⟨same_upd hD, [], upd_same, .nil⟩ (fun i H2 _ h2 => Imm.same h2.1 _ _ hs) ?_ ?_⟩
      · rintro i y H2 hi ⟨s2, acc, h2, ra⟩
        obtain ⟨dd, hd, rd⟩ := hall.at hi
        obtain ⟨cn, cz, its, hc, rfl⟩ := encCases_get _ _ _ hd
        have hcm := List.mem_of_getElem? hc
        have hle := case_le hcm
        obtain ⟨ea, exs, rfl, esq, er⟩ := Rep.inv (ds := [.int cn, .str cz, .tuple (encItems its)]) (rd.up (Imm.same (K := K) s2))
        obtain ⟨w0, w1, w2, rfl, q0, q1, q2⟩ := er.l3
        have hal := ra.len
        rw [List.length_map, List.length_take] at hal
        have hcl := sizeC_len cases
        refine ⟨rfl, _, rfl, ea, _, 2, _, rfl, rfl, esq, rfl, w2, its, rfl, q2, case_ok hok hcm, by omega, fun H3 w s3 r3 => ⟨acc, s3 _ _ h2, small1000 (by omega), fun b o eb => ?_, acc ++ [w], upd_same, ?_⟩⟩
        · rw [upd_ne (ne_of_none eb hD)]
          exact s3 b o (s2 b o eb)
        · have m4 : Imm K H3 (upd H3 D (.lst (acc ++ [w]))) := Imm.put (s3 _ _ h2)
          rw [take_next (sizeC_get _ _ _ _ _ hc), List.map_append]
          exact (ra.up ((Imm.same s3).trans m4)).append (.cons (r3.up m4) .nil)
      · rintro H2 ⟨s2, acc, h2, ra⟩
        rw [hyl, List.take_of_length_le (by rw [sizeC_len]; exact Nat.le_refl _)] at ra
        have hal := ra.len
        rw [List.length_map, sizeC_len] at hal
        have hpos : 0 < cases.length := List.length_pos_iff.mpr hne
        refine ⟨_, rfl, a, _, 2, _, rfl, rfl, (Imm.same s2) _ _ s, rfl, wd, rfl, hx.1, fun H3 s3 => ?_⟩
        have h3 := s3 _ _ h2
        refine ⟨_, rfl, _, rfl, D, rfl, ⟨_, SqL.of h3⟩, fun C hC => lc_list (K := K) (a := D) (xs := acc) (fun i H4 => Same H3 H4 ∧ H4 C = some (.lst (((((sizeC cases).map Prod.fst).take i)).map V.int))) ⟨same_upd hC, upd_same⟩ (fun i H4 _ h4 => SqL.of (h4.1 _ _ h3)) ?_ ?_⟩
        · rintro i y H4 hi ⟨s4, h4⟩
          obtain ⟨p, pa, hp, rfl, hpa⟩ := pairs_take ra hi
          have hil : i < acc.length := (List.getElem?_eq_some_iff.mp hi).1
          refine ⟨rfl, _, rfl, pa, _, 0, _, rfl, rfl, (Imm.same (s3.trans s4)) _ _ hpa, rfl, _, h4, ?_, fun b o eb => ?_, ?_⟩
          · rw [List.length_map, List.length_take]
            exact Nat.lt_of_le_of_lt (Nat.min_le_left _ _) (small1000 (by omega))
          · rw [upd_ne (ne_of_none eb hC)]
            exact s4 b o eb
          · rw [upd_same, take_next (x := p.1) (by rw [List.getElem?_map, hp]; rfl), List.map_append]
            rfl
        · rintro H4 ⟨s4, h4⟩
          rw [List.take_of_length_le (by rw [List.length_map, sizeC_len, hal]; exact Nat.le_refl _)] at h4
          refine ⟨C, _, rfl, SqL.of h4, by rw [List.length_map, sizeC_len]; exact hpos, fun m hm1 hm2 => ?_⟩
          have hmin := lmin_is hm1 hm2
          subst hmin
          have h4' := s4 _ _ h3
          refine ⟨_, _, rfl, rfl, _, rfl, _, rfl, D, rfl, ⟨_, SqL.of h4'⟩, fun B hB => lc_list (K := K) (a := D) (xs := acc) (fun i H5 => Same H4 H5 ∧ H5 B = some (.lst (((((sizeC cases).map Prod.snd).take i)).map V.int))) ⟨same_upd hB, upd_same⟩ (fun i H5 _ h5 => SqL.of (h5.1 _ _ h4')) ?_ ?_⟩
          · rintro i y H5 hi ⟨s5, h5⟩
            obtain ⟨p, pa, hp, rfl, hpa⟩ := pairs_take ra hi
            have hil : i < acc.length := (List.getElem?_eq_some_iff.mp hi).1
            refine ⟨rfl, _, rfl, pa, _, 1, _, rfl, rfl, (Imm.same ((s3.trans s4).trans s5)) _ _ hpa, rfl, _, h5, ?_, fun b o eb => ?_, ?_⟩
            · rw [List.length_map, List.length_take]
              exact Nat.lt_of_le_of_lt (Nat.min_le_left _ _) (small1000 (by omega))
            · rw [upd_ne (ne_of_none eb hB)]
              exact s5 b o eb
            · rw [upd_same, take_next (x := p.2) (by rw [List.getElem?_map, hp]; rfl), List.map_append]
              rfl
          · rintro H5 ⟨s5, h5⟩
            rw [List.take_of_length_le (by rw [List.length_map, sizeC_len, hal]; exact Nat.le_refl _)] at h5
            refine ⟨B, _, rfl, SqL.of h5, by rw [List.length_map, sizeC_len]; exact hpos, fun m hm1 hm2 => ?_⟩
            have hmax := lmax_is hm1 hm2
            subst hmax
            exact ⟨_, _, rfl, rfl, (by show 2 ≤ sizeLine; decide), fun q hq => fin _ _ _ q rfl (((s2.trans s3).trans s4).trans s5) hq⟩
    | array name wd b c r dflt =>
      obtain ⟨a, xs, rfl, s, ra⟩ := Rep.inv (ds := [.str "array", .str name, .str wd, .bool b, encCount c, encR r, encO dflt]) rx
      obtain ⟨u0, u1, u2, u3, u4, u5, u6, rfl, r0, r1, r2, r3, r4, r5, r6⟩ := ra.l7
      cases r0.str_inv
      cases r2.str_inv
      refine ⟨_, rfl, a, _, 0, _, rfl, rfl, s, rfl, rfl, _, rfl, iteDF (by decide +kernel) ?_⟩
      refine ⟨_, rfl, a, _, 0, _, rfl, rfl, s, rfl, rfl, _, rfl, iteDF (by decide +kernel) ?_⟩
      refine ⟨_, rfl, a, _, 0, _, rfl, rfl, s, rfl, rfl, _, rfl, iteDF (by decide +kernel) ?_⟩
      refine ⟨_, rfl, a, _, 0, _, rfl, rfl, s, rfl, rfl, _, rfl, iteDF (by decide +kernel) ?_⟩
      refine ⟨_, rfl, a, _, 0, _, rfl, rfl, s, rfl, rfl, _, rfl, iteDF (by decide +kernel) ?_⟩
      refine ⟨_, rfl, a, _, 0, _, rfl, rfl, s, rfl, rfl, _, rfl, iteDF (by decide +kernel) ?_⟩
      refine ⟨fun v H' => Same H H' ∧ Rep K H' v (encSz (wsize wd, wsize wd)), ?_, ?_⟩
      · refine ⟨_, rfl, a, _, 0, _, rfl, rfl, s, rfl, rfl, _, rfl, iteDF (by decide +kernel) ?_⟩
        refine ⟨_, rfl, a, _, 2, _, rfl, rfl, s, rfl, wd, rfl, hx.1, fun H2 s2 => ⟨_, rfl, a, _, 2, _, rfl, rfl, (Imm.same s2) _ _ s, rfl, wd, rfl, hx.1, fun H3 s3 => ⟨(by show 2 ≤ sizeLine; decide), fun q hq => ?_⟩⟩⟩
        exact ⟨(s2.trans s3).trans (same_upd hq), .tup (SqT.of upd_same) (.cons (.int _) (.cons (.int _) .nil))⟩
      · rintro ev H2 ⟨s2, re⟩
        refine ⟨fun v H' => H' = H2 ∧ v = u4, ⟨_, rfl, a, _, 0, _, rfl, rfl, (Imm.same s2) _ _ s, rfl, rfl, _, rfl, iteDT rfl ⟨_, rfl, a, _, 4, _, rfl, rfl, (Imm.same s2) _ _ s, rfl, rfl, rfl⟩⟩, ?_⟩
        rintro cv H' ⟨rfl, rfl⟩
        have hcs := count_size (c := c) (wsize wd, wsize wd)
        have rc := r4.up (Imm.same (K := K) s2)
        have hc : CountOk c := hx.2.1
        refine ⟨_, rfl, cv, c, rfl, rc, fun H3 bv s3 rb => ?_⟩
        obtain ⟨ba, rfl, bs⟩ := ints_rep rb
        obtain ⟨ea, rfl, es⟩ := ints_rep (re.up (Imm.same (K := K) s3))
        have s23 := s2.trans s3
        cases c with
        | exactly n =>
          obtain ⟨ca, xs, rfl, cs, cr⟩ := Rep.inv (ds := [.str "exactly", .int n]) (rc.up (Imm.same (K := K) s3))
          obtain ⟨c0, c1, rfl, q0, q1⟩ := cr.l2
          cases q0.str_inv
          cases q1.int_inv
          have hn : 1 ≤ n ∧ n ≤ 60 := hc
          refine ⟨_, rfl, ca, _, 0, _, rfl, rfl, cs, rfl, rfl, _, rfl, iteDF (by decide +kernel) ?_⟩
          refine ⟨fun v H' => H' = H3 ∧ v = .int 0, ⟨_, rfl, ca, _, 0, _, rfl, rfl, cs, rfl, rfl, _, rfl, iteDF (by decide +kernel) ⟨rfl, rfl⟩⟩, ?_⟩
          rintro sv H' ⟨rfl, rfl⟩
          exact ⟨_, rfl, _, rfl, ba, _, 0, _, rfl, rfl, bs, rfl, _, rfl, ea, _, 0, _, rfl, rfl, es, rfl, _, _, rfl, rfl, .inl ⟨by show -(2 ^ 64) < n; omega, by show n < 2 ^ 64; omega⟩, _, _, rfl, rfl, _, rfl, _, rfl, ba, _, 1, _, rfl, rfl, bs, rfl, _, rfl, ea, _, 1, _, rfl, rfl, es, rfl, _, _, rfl, rfl, .inl ⟨by show -(2 ^ 64) < n; omega, by show n < 2 ^ 64; omega⟩, _, _, rfl, rfl, (by show 2 ≤ sizeLine; decide), fun q hq => fin _ _ _ q hcs s23 hq⟩
        | counted wc lo hi =>
          obtain ⟨ca, xs, rfl, cs, cr⟩ := Rep.inv (ds := [.str "counted", .str wc, .int lo, .int hi]) (rc.up (Imm.same (K := K) s3))
          obtain ⟨c0, c1, c2, c3, rfl, q0, q1, q2, q3⟩ := cr.l4
          cases q0.str_inv
          cases q1.str_inv
          obtain ⟨hw, h0, h1, h2, h3⟩ := hc
          refine ⟨_, rfl, ca, _, 0, _, rfl, rfl, cs, rfl, rfl, _, rfl, iteDF (by decide +kernel) ?_⟩
          refine ⟨fun v H' => Same H3 H' ∧ v = .int (wsize wc), ⟨_, rfl, ca, _, 0, _, rfl, rfl, cs, rfl, rfl, _, rfl, iteDT rfl ⟨_, rfl, ca, _, 1, _, rfl, rfl, cs, rfl, wc, rfl, hw, fun H4 s4 => ⟨s4, rfl⟩⟩⟩, ?_⟩
          rintro sv H4 ⟨s4, rfl⟩
          have bs4 := (Imm.same (K := K) s4) _ _ bs
          have es4 := (Imm.same (K := K) s4) _ _ es
          exact ⟨_, rfl, _, rfl, ba, _, 0, _, rfl, rfl, bs4, rfl, _, rfl, ea, _, 0, _, rfl, rfl, es4, rfl, _, _, rfl, rfl, .inl ⟨by show -(2 ^ 64) < lo; omega, by show lo < 2 ^ 64; omega⟩, _, _, rfl, rfl, _, rfl, _, rfl, ba, _, 1, _, rfl, rfl, bs4, rfl, _, rfl, ea, _, 1, _, rfl, rfl, es4, rfl, _, _, rfl, rfl, .inl ⟨by show -(2 ^ 64) < hi; omega, by show hi < 2 ^ 64; omega⟩, _, _, rfl, rfl, (by show 2 ≤ sizeLine; decide), fun q hq => fin _ _ _ q hcs (s23.trans s4) hq⟩
        | marked n =>
          obtain ⟨ca, xs, rfl, cs, cr⟩ := Rep.inv (ds := [.str "marked", .int n]) (rc.up (Imm.same (K := K) s3))
          obtain ⟨c0, c1, rfl, q0, q1⟩ := cr.l2
          cases q0.str_inv
          cases q1.int_inv
          have hn : 1 ≤ n ∧ n ≤ 60 := hc
          refine ⟨_, rfl, ca, _, 0, _, rfl, rfl, cs, rfl, rfl, _, rfl, iteDT rfl ?_⟩
          exact ⟨_, rfl, ba, _, 1, _, rfl, rfl, bs, rfl, _, rfl, ea, _, 1, _, rfl, rfl, es, rfl, _, _, rfl, rfl, _, _, rfl, rfl, .inl ⟨by show -(2 ^ 64) < n; omega, by show n < 2 ^ 64; omega⟩, _, _, rfl, rfl, (by show 2 ≤ sizeLine; decide), fun q hq => fin _ _ _ q hcs s23 hq⟩
    | list name c its =>
      obtain ⟨a, xs, rfl, s, ra⟩ := Rep.inv (ds := [.str "list", .str name, encCount c, .tuple (encItems its)]) rx
      obtain ⟨u0, u1, u4, u3, rfl, r0, r1, r4, r3⟩ := ra.l4
      cases r0.str_inv
      have hd1 : depthL its + 1 < d + 1 := hdp
      refine ⟨_, rfl, a, _, 0, _, rfl, rfl, s, rfl, rfl, _, rfl, iteDF (by decide +kernel) ?_⟩
      refine ⟨_, rfl, a, _, 0, _, rfl, rfl, s, rfl, rfl, _, rfl, iteDF (by decide +kernel) ?_⟩
      refine ⟨_, rfl, a, _, 0, _, rfl, rfl, s, rfl, rfl, _, rfl, iteDF (by decide +kernel) ?_⟩
      refine ⟨_, rfl, a, _, 0, _, rfl, rfl, s, rfl, rfl, _, rfl, iteDF (by decide +kernel) ?_⟩
      refine ⟨_, rfl, a, _, 0, _, rfl, rfl, s, rfl, rfl, _, rfl, iteDF (by decide +kernel) ?_⟩
      refine ⟨_, rfl, a, _, 0, _, rfl, rfl, s, rfl, rfl, _, rfl, iteDF (by decide +kernel) ?_⟩
      refine ⟨fun v H' => Same H H' ∧ Rep K H' v (encSz (sizeL its)), ?_, ?_⟩
      · refine ⟨_, rfl, a, _, 0, _, rfl, rfl, s, rfl, rfl, _, rfl, iteDT rfl ?_⟩
        exact ⟨_, rfl, a, _, 3, _, rfl, rfl, s, rfl, u3, its, rfl, r3, ⟨hx.2.2, hx.2.1⟩, by omega, fun H2 w2 s2 rw2 => ⟨s2, rw2⟩⟩
      · rintro ev H2 ⟨s2, re⟩
        refine ⟨fun v H' => H' = H2 ∧ v = u4, ⟨_, rfl, a, _, 0, _, rfl, rfl, (Imm.same s2) _ _ s, rfl, rfl, _, rfl, iteDF (by decide +kernel) ⟨_, rfl, a, _, 2, _, rfl, rfl, (Imm.same s2) _ _ s, rfl, rfl, rfl⟩⟩, ?_⟩
        rintro cv H' ⟨rfl, rfl⟩
        have hcs := count_size (c := c) (sizeL its)
        have rc := r4.up (Imm.same (K := K) s2)
        have hc : CountOk c := hx.1
        refine ⟨_, rfl, cv, c, rfl, rc, fun H3 bv s3 rb => ?_⟩
        obtain ⟨ba, rfl, bs⟩ := ints_rep rb
        obtain ⟨ea, rfl, es⟩ := ints_rep (re.up (Imm.same (K := K) s3))
        have s23 := s2.trans s3
        cases c with
        | exactly n =>
          obtain ⟨ca, xs, rfl, cs, cr⟩ := Rep.inv (ds := [.str "exactly", .int n]) (rc.up (Imm.same (K := K) s3))
          obtain ⟨c0, c1, rfl, q0, q1⟩ := cr.l2
          cases q0.str_inv
          cases q1.int_inv
          have hn : 1 ≤ n ∧ n ≤ 60 := hc
          refine ⟨_, rfl, ca, _, 0, _, rfl, rfl, cs, rfl, rfl, _, rfl, iteDF (by decide +kernel) ?_⟩
          refine ⟨fun v H' => H' = H3 ∧ v = .int 0, ⟨_, rfl, ca, _, 0, _, rfl, rfl, cs, rfl, rfl, _, rfl, iteDF (by decide +kernel) ⟨rfl, rfl⟩⟩, ?_⟩
          rintro sv H' ⟨rfl, rfl⟩
          exact ⟨_, rfl, _, rfl, ba, _, 0, _, rfl, rfl, bs, rfl, _, rfl, ea, _, 0, _, rfl, rfl, es, rfl, _, _, rfl, rfl, .inl ⟨by show -(2 ^ 64) < n; omega, by show n < 2 ^ 64; omega⟩, _, _, rfl, rfl, _, rfl, _, rfl, ba, _, 1, _, rfl, rfl, bs, rfl, _, rfl, ea, _, 1, _, rfl, rfl, es, rfl, _, _, rfl, rfl, .inl ⟨by show -(2 ^ 64) < n; omega, by show n < 2 ^ 64; omega⟩, _, _, rfl, rfl, (by show 2 ≤ sizeLine; decide), fun q hq => fin _ _ _ q hcs s23 hq⟩
        | counted wc lo hi =>
          obtain ⟨ca, xs, rfl, cs, cr⟩ := Rep.inv (ds := [.str "counted", .str wc, .int lo, .int hi]) (rc.up (Imm.same (K := K) s3))
          obtain ⟨c0, c1, c2, c3, rfl, q0, q1, q2, q3⟩ := cr.l4
          cases q0.str_inv
          cases q1.str_inv
          obtain ⟨hw, h0, h1, h2, h3⟩ := hc
          refine ⟨_, rfl, ca, _, 0, _, rfl, rfl, cs, rfl, rfl, _, rfl, iteDF (by decide +kernel) ?_⟩
          refine ⟨fun v H' => Same H3 H' ∧ v = .int (wsize wc), ⟨_, rfl, ca, _, 0, _, rfl, rfl, cs, rfl, rfl, _, rfl, iteDT rfl ⟨_, rfl, ca, _, 1, _, rfl, rfl, cs, rfl, wc, rfl, hw, fun H4 s4 => ⟨s4, rfl⟩⟩⟩, ?_⟩
          rintro sv H4 ⟨s4, rfl⟩
          have bs4 := (Imm.same (K := K) s4) _ _ bs
          have es4 := (Imm.same (K := K) s4) _ _ es
          exact ⟨_, rfl, _, rfl, ba, _, 0, _, rfl, rfl, bs4, rfl, _, rfl, ea, _, 0, _, rfl, rfl, es4, rfl, _, _, rfl, rfl, .inl ⟨by show -(2 ^ 64) < lo; omega, by show lo < 2 ^ 64; omega⟩, _, _, rfl, rfl, _, rfl, _, rfl, ba, _, 1, _, rfl, rfl, bs4, rfl, _, rfl, ea, _, 1, _, rfl, rfl, es4, rfl, _, _, rfl, rfl, .inl ⟨by show -(2 ^ 64) < hi; omega, by show hi < 2 ^ 64; omega⟩, _, _, rfl, rfl, (by show 2 ≤ sizeLine; decide), fun q hq => fin _ _ _ q hcs (s23.trans s4) hq⟩
        | marked n =>
          obtain ⟨ca, xs, rfl, cs, cr⟩ := Rep.inv (ds := [.str "marked", .int n]) (rc.up (Imm.same (K := K) s3))
          obtain ⟨c0, c1, rfl, q0, q1⟩ := cr.l2
          cases q0.str_inv
          cases q1.int_inv
          have hn : 1 ≤ n ∧ n ≤ 60 := hc
          refine ⟨_, rfl, ca, _, 0, _, rfl, rfl, cs, rfl, rfl, _, rfl, iteDT rfl ?_⟩
          exact ⟨_, rfl, ba, _, 1, _, rfl, rfl, bs, rfl, _, rfl, ea, _, 1, _, rfl, rfl, es, rfl, _, _, rfl, rfl, _, _, rfl, rfl, .inl ⟨by show -(2 ^ 64) < n; omega, by show n < 2 ^ 64; omega⟩, _, _, rfl, rfl, (by show 2 ≤ sizeLine; decide), fun q hq => fin _ _ _ q hcs s23 hq⟩
theorem st_ext {d L : Nat} (T : Txt K w mg A) (G_l_extent_of : FnOk P w K mg base CX0 L A.l_extent_of.f A.l_extent_of.fd ["item"] (sp_extofD d K)) : FnOk P w K mg base CX0 (L + 1) A.l_extent.f A.l_extent.fd ["items"] (sp_extD d K) := by
  refine T.F_l_extent.ok sc_l_extent (fun vs H Q E h => ?_) (fun cdv Ar outer s H vs Q E hr h => ?_)
  · obtain ⟨v, items, rfl, _⟩ := h; rfl
  · obtain ⟨v, items, rfl, hrep, hok, hdp, k⟩ := h
    refine ⟨_, (pss_cons (ps_setLc (i := 1) (own := [("item", 2)]) (g := (gName 2)) (tt := tYes) (by rfl) sc_l_extent.nd rfl rfl (sw_true rfl rfl rfl (by decide +kernel)) (pi_tup (pv 0)) (blkOk_by (own := [("item", 2)]) (N := ["items", "pairs", "item", "pair"]) (sc := defScope s_l_extent) (by decide +kernel)) (fun _ _ _ _ _ => pg_name (i := 2) sc_l_extent.nd rfl (Or.inl rfl)) (fun _ _ _ _ _ => pts_nil) (fun _ _ _ _ _ => (pe_call G_l_extent_of (hr.mono (by omega)) (by rfl) T.g_l_extent_of T.F_l_extent_of.kp T.b_l_extent_of .nil pass0 (pa_cons (pv 2) pa_nil))))
        (pss_one (ps_ret (pe_tup (pa_cons (pe_callB (cr_sum rfl) (by rfl) T.n_sum (by decide +kernel) (pa_cons (pe_lc (own := [("pair", 3)]) (g := (gName 3)) (tt := tYes) (by rfl) sc_l_extent.nd (pi_list (pv 1)) (blkOk_by (own := [("pair", 3)]) (N := ["items", "pairs", "item", "pair"]) (sc := defScope s_l_extent) (by decide +kernel)) (fun _ _ _ _ _ => pg_name (i := 3) sc_l_extent.nd rfl (Or.inl rfl)) (fun _ _ _ _ _ => pts_nil) (fun _ _ _ _ _ => (pe_ix (ix_tupK (K := K) rfl) (pv 3) pe_int (fun _ _ => rfl)))) pa_nil)) (pa_cons (pe_callB (cr_sum rfl) (by rfl) T.n_sum (by decide +kernel) (pa_cons (pe_lc (own := [("pair", 3)]) (g := (gName 3)) (tt := tYes) (by rfl) sc_l_extent.nd (pi_list (pv 1)) (blkOk_by (own := [("pair", 3)]) (N := ["items", "pairs", "item", "pair"]) (sc := defScope s_l_extent) (by decide +kernel)) (fun _ _ _ _ _ => pg_name (i := 3) sc_l_extent.nd rfl (Or.inl rfl)) (fun _ _ _ _ _ => pts_nil) (fun _ _ _ _ _ => (pe_ix (ix_tupK (K := K) rfl) (pv 3) pe_int (fun _ _ => rfl)))) pa_nil)) pa_nil)))))), ?_⟩
    obtain ⟨a, ys, rfl, hs, hyl, hall, _⟩ := Rep.item hrep
    rw [encItems_len] at hyl
    have hlen := hok.2
    refine ⟨_, rfl, a, rfl, ⟨_, hs⟩, fun D hD => lc_tup (K := K) (a := a) (xs := ys) (fun i H2 => Same H H2 ∧ ∃ acc : List V, H2 D = some (.lst acc) ∧ RepAll K H2 acc (((items.map sizeI).take i).map encSz)) ⟨same_upd hD, [], upd_same, .nil⟩ (fun i H2 _ h2 => Imm.same h2.1 _ _ hs) ?_ ?_⟩
    · rintro i y H2 hi ⟨s2, acc, h2, ra⟩
      obtain ⟨dd, hd, rd⟩ := hall.at hi
      obtain ⟨x, hx, rfl⟩ := encItems_get _ _ _ hd
      have hxm : x ∈ items := List.mem_of_getElem? hx
      have hxd := depthI_le hxm
      have hal := ra.len
      rw [List.length_map, List.length_take, List.length_map] at hal
      refine ⟨rfl, _, rfl, y, x, rfl, rd.up (Imm.same s2), itemsOk_mem hok.1 hxm, by omega, fun H3 w s3 r3 => ⟨acc, s3 _ _ h2, small1000 (by omega), fun b o eb => ?_, acc ++ [w], upd_same, ?_⟩⟩
      · rw [upd_ne (ne_of_none eb hD)]
        exact s3 b o (s2 b o eb)
      · have m4 : Imm K H3 (upd H3 D (.lst (acc ++ [w]))) := Imm.put (s3 _ _ h2)
        rw [take_next (x := sizeI x) (by rw [List.getElem?_map, hx]; rfl), List.map_append]
        exact (ra.up ((Imm.same s3).trans m4)).append (.cons (r3.up m4) .nil)
    · rintro H2 ⟨s2, acc, h2, ra⟩
      rw [hyl, List.take_of_length_le (by rw [List.length_map]; exact Nat.le_refl _)] at ra
      have hal := ra.len
      rw [List.length_map, List.length_map] at hal
      refine ⟨_, rfl, D, rfl, ⟨_, SqL.of h2⟩, fun C hC => lc_list (K := K) (a := D) (xs := acc) (fun i H4 => Same H2 H4 ∧ H4 C = some (.lst (((((items.map sizeI).map Prod.fst).take i)).map V.int))) ⟨same_upd hC, upd_same⟩ (fun i H4 _ h4 => SqL.of (h4.1 _ _ h2)) ?_ ?_⟩
      · rintro i y H4 hi ⟨s4, h4⟩
        obtain ⟨p, pa, hp, rfl, hpa⟩ := pairs_take ra hi
        have hil : i < acc.length := (List.getElem?_eq_some_iff.mp hi).1
        refine ⟨rfl, _, rfl, pa, _, 0, _, rfl, rfl, (Imm.same s4) _ _ hpa, rfl, _, h4, ?_, fun b o eb => ?_, ?_⟩
        · rw [List.length_map, List.length_take]
          exact Nat.lt_of_le_of_lt (Nat.min_le_left _ _) (small1000 (by omega))
        · rw [upd_ne (ne_of_none eb hC)]
          exact s4 b o eb
        · rw [upd_same, take_next (x := p.1) (by rw [List.getElem?_map, hp]; rfl), List.map_append]
          rfl
      · rintro H4 ⟨s4, h4⟩
        rw [List.take_of_length_le (by rw [List.length_map, List.length_map, hal]; exact Nat.le_refl _)] at h4
        have h4' := s4 _ _ h2
        refine ⟨C, _, rfl, SqL.of h4, _, rfl, D, rfl, ⟨_, SqL.of h4'⟩, fun B hB => lc_list (K := K) (a := D) (xs := acc) (fun i H5 => Same H4 H5 ∧ H5 B = some (.lst (((((items.map sizeI).map Prod.snd).take i)).map V.int))) ⟨same_upd hB, upd_same⟩ (fun i H5 _ h5 => SqL.of (h5.1 _ _ h4')) ?_ ?_⟩
        · rintro i y H5 hi ⟨s5, h5⟩
          obtain ⟨p, pa, hp, rfl, hpa⟩ := pairs_take ra hi
          have hil : i < acc.length := (List.getElem?_eq_some_iff.mp hi).1
          refine ⟨rfl, _, rfl, pa, _, 1, _, rfl, rfl, (Imm.same (s4.trans s5)) _ _ hpa, rfl, _, h5, ?_, fun b o eb => ?_, ?_⟩
          · rw [List.length_map, List.length_take]
            exact Nat.lt_of_le_of_lt (Nat.min_le_left _ _) (small1000 (by omega))
          · rw [upd_ne (ne_of_none eb hB)]
            exact s5 b o eb
          · rw [upd_same, take_next (x := p.2) (by rw [List.getElem?_map, hp]; rfl), List.map_append]
            rfl
        · rintro H5 ⟨s5, h5⟩
          rw [List.take_of_length_le (by rw [List.length_map, List.length_map, hal]; exact Nat.le_refl _)] at h5
          have hsum := sizeL_sum items
          refine ⟨B, _, rfl, SqL.of h5, (by show 2 ≤ sizeLine; decide), fun q hq => ?_⟩
          refine k _ _ (((s2.trans s4).trans s5).trans (same_upd hq)) ?_
          have e : sizeL items = (((items.map sizeI).map Prod.fst).sum, ((items.map sizeI).map Prod.snd).sum) := by rw [hsum.1, hsum.2]
          rw [e]
          exact .tup (SqT.of upd_same) (.cons (.int _) (.cons (.int _) .nil))
theorem no_ext (T : Txt K w mg A) : FnOk P w K mg base CX0 9 A.l_extent.f A.l_extent.fd ["items"] (sp_extD 0 K) := by
  refine T.F_l_extent.ok sc_l_extent (fun vs H Q E h => ?_) (fun cdv Ar outer s H vs Q E hr h => ?_)
  · obtain ⟨v, items, rfl, _⟩ := h
    rfl
  · obtain ⟨v, items, _, _, _, h, _⟩ := h
    omega
theorem all_ext (T : Txt K w mg A) : ∀ d : Nat, FnOk P w K mg base CX0 (9 + 2 * d) A.l_extent.f A.l_extent.fd ["items"] (sp_extD d K)
  | 0 => no_ext T
  | d + 1 => by
    have G := all_ext T d
    exact st_ext (L := 9 + 2 * d + 1) T (st_extof T (by omega) G)
theorem ok_l_extent (T : Txt K w mg A) : FnOk P w K mg base CX0 17 A.l_extent.f A.l_extent.fd ["items"] (sp_l_extent K) := all_ext T 4


/-! def _law_scopes -/
def sp_scopes (n : Nat) (K : PySem.W.Frag) : Sp := fun vs H Q _ => ∃ (v : V) (items : List Item), vs = [v] ∧ Rep K H v (.tuple (encItems items)) ∧ ScopeOk items ∧ depthL items < n ∧ scopesL items ≤ 5000 ∧
  ∀ (H' : Hp) (D : Addr) (xs : List V), Same H H' → H D = none → H' D = some (.lst xs) → RepAll K H' xs ((items :: scL items).map encScope) → Q (.ref D) H'
def sp_l_scopes (K : PySem.W.Frag) : Sp := sp_scopes 4 K
theorem no_scopes (T : Txt K w mg A) : FnOk P w K mg base CX0 18 A.l_scopes.f A.l_scopes.fd ["items"] (sp_scopes 0 K) := by
  refine T.F_l_scopes.ok sc_l_scopes (fun vs H Q E h => ?_) (fun cdv Ar outer s H vs Q E hr h => ?_)
  · obtain ⟨v, items, rfl, _⟩ := h
    rfl
  · obtain ⟨v, items, _, _, _, h, _⟩ := h
    omega
theorem st_scopes {n L : Nat} (T : Txt K w mg A) (G_l_scopes : FnOk P w K mg base CX0 L A.l_scopes.f A.l_scopes.fd ["items"] (sp_scopes n K)) : FnOk P w K mg base CX0 (L + 1) A.l_scopes.f A.l_scopes.fd ["items"] (sp_scopes (n + 1) K) := by
  refine T.F_l_scopes.ok sc_l_scopes (fun vs H Q E h => ?_) (fun cdv Ar outer s H vs Q E hr h => ?_)
  · obtain ⟨v, items, rfl, _⟩ := h
    rfl
  · obtain ⟨v, items, rfl, hrep, hok, hdp, hsc, k⟩ := h
    refine ⟨_, (pss_cons (ps_set (i := 1) sc_l_scopes.nd rfl (.inl rfl) (pe_lst (pa_cons (pv 0) pa_nil)))
        (pss_cons (ps_for PassesOwn.never rfl (pi_tup (pv 0)) (pg_name (i := 2) sc_l_scopes.nd rfl (Or.inl rfl)) (pss_one (ps_if (pt_cmpR op_eq (pe_ix ix_tup (pv 2) pe_int (fun _ _ => rfl)) pe_str (nomark _)) (pss_one (ps_set (i := 1) sc_l_scopes.nd rfl (.inl rfl) (pe_op op_cat (pv 1) (pe_call G_l_scopes (hr.mono (by omega)) (by rfl) T.g_l_scopes T.F_l_scopes.kp T.b_l_scopes .nil pass0 (pa_cons (pe_ix ix_tup (pv 2) pe_int (fun _ _ => rfl)) pa_nil))))) (pss_one (ps_if (pt_cmpR op_eq (pe_ix ix_tup (pv 2) pe_int (fun _ _ => rfl)) pe_str (nomark _)) (pss_one (ps_set (i := 1) sc_l_scopes.nd rfl (.inl rfl) (pe_op op_cat (pv 1) (pe_call G_l_scopes (hr.mono (by omega)) (by rfl) T.g_l_scopes T.F_l_scopes.kp T.b_l_scopes .nil pass0 (pa_cons (pe_ix ix_tup (pv 2) pe_int (fun _ _ => rfl)) pa_nil))))) (pss_one (ps_if (pt_cmpR op_eq (pe_ix ix_tup (pv 2) pe_int (fun _ _ => rfl)) pe_str (nomark _)) (pss_one (ps_for PassesOwn.never rfl (pi_tup (pe_ix ix_tup (pv 2) pe_int (fun _ _ => rfl))) (pg_name (i := 3) sc_l_scopes.nd rfl (Or.inl rfl)) (pss_one (ps_set (i := 1) sc_l_scopes.nd rfl (.inl rfl) (pe_op op_cat (pv 1) (pe_call G_l_scopes (hr.mono (by omega)) (by rfl) T.g_l_scopes T.F_l_scopes.kp T.b_l_scopes .nil pass0 (pa_cons (pe_ix ix_tup (pv 3) pe_int (fun _ _ => rfl)) pa_nil))))))) pss_nil)))))))
        (pss_one (ps_ret (pv 1))))), ?_⟩
    obtain ⟨a, ys, rfl, hs, hyl, hall, _⟩ := Rep.item hrep
    rw [encItems_len] at hyl
    refine ⟨_, rfl, (by show 1 ≤ sizeLine; decide), fun D hD => ?_⟩
    have r0 : RepAll K (upd H D (.lst [.ref a])) [.ref a] ((items :: scL (items.take 0)).map encScope) := .cons (hrep.up (Imm.new hD)) .nil
    refine ⟨_, rfl, a, rfl, ⟨_, (Imm.new hD) _ _ hs⟩, for_tup (K := K) (a := a) (xs := ys) (fun i σ H2 => ∃ (D : Addr) (xs : List V) (v2 v3 : Option V), σ = [some (.ref a), some (.ref D), v2, v3] ∧ Same H H2 ∧ H D = none ∧ H2 D = some (.lst xs) ∧ RepAll K H2 xs ((items :: scL (items.take i)).map encScope))
      ⟨D, [.ref a], none, none, rfl, same_upd hD, hD, upd_same, r0⟩ (fun i σ H2 _ ⟨_, _, _, _, _, s2, _⟩ => Imm.same s2 _ _ hs) ?_ ?_⟩
    · rintro i y σ H2 hi ⟨D, xs, v2, v3, rfl, s2, hD0, h2, rx⟩
      obtain ⟨d, hd, rd⟩ := hall.at hi
      obtain ⟨x, hx, rfl⟩ := encItems_get _ _ _ hd
      have hxm : x ∈ items := List.mem_of_getElem? hx
      have hxo : ItemOk x := itemsOk_mem hok.1 hxm
      have hxd := depthI_le hxm
      have hxs := scopesI_le hxm
      have hnext := scL_take_next hx
      have hxl : xs.length ≤ 5001 := by
        rw [rx.len, List.length_map, List.length_cons]
        have := scL_take_len (items := items) i
        omega
      have rd2 := rd.up (Imm.same (K := K) s2)
      have big : (10003 : Nat) ≤ sizeLine := by decide
      -- one item whose scopes are those of its
      have more : ∀ (its : List Item), scI x = its :: scL its → ∀ (q E : Addr) (H3 : Hp) (zs : List V), Same H2 H3 → H3 E = some (.lst zs) → RepAll K H3 zs ((its :: scL its).map encScope) → H3 q = none → ∃ (D' : Addr) (xs' : List V) (v2 v3' : Option V), [some (V.ref a), some (V.ref q), some y, v3] = [some (.ref a), some (.ref D'), v2, v3'] ∧ Same H (upd H3 q (.lst (xs ++ zs))) ∧ H D' = none ∧ (upd H3 q (.lst (xs ++ zs))) D' = some (.lst xs') ∧ RepAll K (upd H3 q (.lst (xs ++ zs))) xs' ((items :: scL (items.take (i + 1))).map encScope) := fun its e q E H3 zs s3 hE rz hq => by
        refine ⟨q, xs ++ zs, _, _, rfl, (s2.trans s3).trans (same_upd hq), (s2.trans s3).free hq, upd_same, ?_⟩
        rw [hnext, e, ← List.cons_append, List.map_append]
        exact (rx.up ((Imm.same s3).trans (Imm.new hq))).append (rz.up (Imm.new hq))
      have nomore : scI x = [] → ∃ (D' : Addr) (xs' : List V) (v2 v3' : Option V), [some (V.ref a), some (V.ref D), some y, v3] = [some (.ref a), some (.ref D'), v2, v3'] ∧ Same H H2 ∧ H D' = none ∧ H2 D' = some (.lst xs') ∧ RepAll K H2 xs' ((items :: scL (items.take (i + 1))).map encScope) := fun e => by
        refine ⟨D, xs, _, _, rfl, s2, hD0, h2, ?_⟩
        rw [hnext, e, List.append_nil]
        exact rx
      cases x with
      | list name c its =>
        obtain ⟨ia, ixs, rfl, isq, _, _, iget⟩ := Rep.item (ds := [.str "list", .str name, encCount c, .tuple (encItems its)]) rd2
        obtain ⟨u0, hu0, ru0⟩ := iget 0 _ rfl
        obtain ⟨u3, hu3, ru3⟩ := iget 3 _ rfl
        cases ru0.str_inv
        have hd1 : depthL its + 1 ≤ depthL items := hxd
        have hs1 : 1 + scopesL its ≤ scopesL items := hxs
        refine ⟨_, rfl, ia, _, _, _, rfl, rfl, isq, hu0, rfl, _, rfl, iteDT rfl ?_⟩
        refine ⟨_, rfl, _, rfl, ia, _, _, _, rfl, rfl, isq, hu3, u3, its, rfl, ru3, ⟨hxo.2.2, hxo.2.1⟩, by omega, by omega, fun H3 E zs s3 hE h3 rz => ?_⟩
        have hzl := rz.len
        rw [List.length_map, List.length_cons, scL_len] at hzl
        exact ⟨D, E, xs, zs, rfl, rfl, s3 _ _ h2, h3, by omega, fun q hq => more its rfl q E H3 zs s3 h3 rz hq⟩
      | record name its =>
        obtain ⟨ia, ixs, rfl, isq, _, _, iget⟩ := Rep.item (ds := [.str "record", .str name, .tuple (encItems its)]) rd2
        obtain ⟨u0, hu0, ru0⟩ := iget 0 _ rfl
        obtain ⟨u2, hu2, ru2⟩ := iget 2 _ rfl
        cases ru0.str_inv
        have hd1 : depthL its + 1 ≤ depthL items := hxd
        have hs1 : 1 + scopesL its ≤ scopesL items := hxs
        refine ⟨_, rfl, ia, _, _, _, rfl, rfl, isq, hu0, rfl, _, rfl, iteDF (by decide +kernel) ?_⟩
        refine ⟨_, rfl, ia, _, _, _, rfl, rfl, isq, hu0, rfl, _, rfl, iteDT rfl ?_⟩
        refine ⟨_, rfl, _, rfl, ia, _, _, _, rfl, rfl, isq, hu2, u2, its, rfl, ru2, ⟨hxo.2, hxo.1⟩, by omega, by omega, fun H3 E zs s3 hE h3 rz => ?_⟩
        have hzl := rz.len
        rw [List.length_map, List.length_cons, scL_len] at hzl
        exact ⟨D, E, xs, zs, rfl, rfl, s3 _ _ h2, h3, by omega, fun q hq => more its rfl q E H3 zs s3 h3 rz hq⟩
      | choice name wd cases =>
        obtain ⟨ia, ixs, rfl, isq, _, _, iget⟩ := Rep.item (ds := [.str "choice", .str name, .str wd, .tuple (encCases cases)]) rd2
        obtain ⟨u0, hu0, ru0⟩ := iget 0 _ rfl
        obtain ⟨u3, hu3, ru3⟩ := iget 3 _ rfl
        cases ru0.str_inv
        obtain ⟨ca, cxs, rfl, csq, cl, call, _⟩ := Rep.item ru3
        rw [encCases_len] at cl
        refine ⟨_, rfl, ia, _, _, _, rfl, rfl, isq, hu0, rfl, _, rfl, iteDF (by decide +kernel) ?_⟩
        refine ⟨_, rfl, ia, _, _, _, rfl, rfl, isq, hu0, rfl, _, rfl, iteDF (by decide +kernel) ?_⟩
        refine ⟨_, rfl, ia, _, _, _, rfl, rfl, isq, hu0, rfl, _, rfl, iteDT rfl ?_⟩
        refine ⟨_, rfl, ia, _, _, _, rfl, rfl, isq, hu3, ca, rfl, ⟨_, csq⟩, for_tup (K := K) (a := ca) (xs := cxs) (fun j σ H3 => ∃ (D : Addr) (xs : List V) (v3 : Option V), σ = [some (.ref a), some (.ref D), some (.ref ia), v3] ∧ Same H2 H3 ∧ H D = none ∧ H3 D = some (.lst xs) ∧ RepAll K H3 xs ((items :: (scL (items.take i) ++ scC (cases.take j))).map encScope))
          ⟨D, xs, v3, rfl, Same.refl _, hD0, h2, by rw [List.take_zero]; show RepAll K H2 xs ((items :: (_ ++ [])).map encScope); rw [List.append_nil]; exact rx⟩ (fun j σ H3 _ ⟨_, _, _, _, s3, _⟩ => Imm.same s3 _ _ csq) ?_ ?_⟩
        · rintro j y σ H3 hj ⟨D, xs, v3, rfl, s3, hD0, h3, rx⟩
          obtain ⟨d, hd, rd⟩ := call.at hj
          obtain ⟨cn, cz, its, hc, rfl⟩ := encCases_get _ _ _ hd
          obtain ⟨ea, exs, rfl, esq, _, _, eget⟩ := Rep.item (ds := [.int cn, .str cz, .tuple (encItems its)]) (rd.up (Imm.same (K := K) s3))
          obtain ⟨w2, hw2, rw2⟩ := eget 2 _ rfl
          have hcm := List.mem_of_getElem? hc
          have hle := case_le hcm
          have hd1 : depthC cases + 1 ≤ depthL items := hxd
          have hs1 : scopesC cases ≤ scopesL items := hxs
          have hn := scC_take_next hc
          have hxl2 : xs.length ≤ 10001 := by
            rw [rx.len, List.length_map, List.length_cons, List.length_append]
            have h1 := scL_take_len (items := items) i
            have e := congrArg List.length (scC_append (cases.take j) (cases.drop j))
            rw [List.take_append_drop, List.length_append, scC_len cases] at e
            omega
          refine ⟨_, rfl, _, rfl, ea, _, _, _, rfl, rfl, esq, hw2, w2, its, rfl, rw2, case_ok hxo.2.2.2 hcm, by omega, by omega, fun H4 E zs s4 hE h4 rz => ?_⟩
          have hzl := rz.len
          rw [List.length_map, List.length_cons, scL_len] at hzl
          have big2 : (20003 : Nat) ≤ sizeLine := by decide
          refine ⟨D, E, xs, zs, rfl, rfl, s4 _ _ h3, h4, by omega, fun q hq => ?_⟩
          refine ⟨q, xs ++ zs, _, rfl, (s3.trans s4).trans (same_upd hq), ((s2.trans s3).trans s4).free hq, upd_same, ?_⟩
          rw [hn, ← List.append_assoc, ← List.cons_append, List.map_append]
          exact (rx.up ((Imm.same s4).trans (Imm.new hq))).append (rz.up (Imm.new hq))
        · rintro σ H3 ⟨D, xs, v3, rfl, s3, hD0, h3, rx⟩
          rw [cl, List.take_length] at rx
          refine ⟨D, xs, _, _, rfl, s2.trans s3, hD0, h3, ?_⟩
          rw [hnext]
          exact rx
      | word wd ps =>
        obtain ⟨ia, ixs, rfl, isq, _, _, iget⟩ := Rep.item (ds := [.str "word", .str wd, .tuple (ps.map encPart)]) rd2
        obtain ⟨u0, hu0, ru0⟩ := iget 0 _ rfl
        cases ru0.str_inv
        refine ⟨_, rfl, ia, _, _, _, rfl, rfl, isq, hu0, rfl, _, rfl, iteDF (by decide +kernel) ?_⟩
        refine ⟨_, rfl, ia, _, _, _, rfl, rfl, isq, hu0, rfl, _, rfl, iteDF (by decide +kernel) ?_⟩
        refine ⟨_, rfl, ia, _, _, _, rfl, rfl, isq, hu0, rfl, _, rfl, iteDF (by decide +kernel) ?_⟩
        exact nomore rfl
      | array name wd b c r dflt =>
        obtain ⟨ia, ixs, rfl, isq, _, _, iget⟩ := Rep.item (ds := [.str "array", .str name, .str wd, .bool b, encCount c, encR r, encO dflt]) rd2
        obtain ⟨u0, hu0, ru0⟩ := iget 0 _ rfl
        cases ru0.str_inv
        refine ⟨_, rfl, ia, _, _, _, rfl, rfl, isq, hu0, rfl, _, rfl, iteDF (by decide +kernel) ?_⟩
        refine ⟨_, rfl, ia, _, _, _, rfl, rfl, isq, hu0, rfl, _, rfl, iteDF (by decide +kernel) ?_⟩
        refine ⟨_, rfl, ia, _, _, _, rfl, rfl, isq, hu0, rfl, _, rfl, iteDF (by decide +kernel) ?_⟩
        exact nomore rfl
      | literal z =>
        obtain ⟨ia, ixs, rfl, isq, _, _, iget⟩ := Rep.item (ds := [.str "literal", .tuple (z.map PyData.int)]) rd2
        obtain ⟨u0, hu0, ru0⟩ := iget 0 _ rfl
        cases ru0.str_inv
        refine ⟨_, rfl, ia, _, _, _, rfl, rfl, isq, hu0, rfl, _, rfl, iteDF (by decide +kernel) ?_⟩
        refine ⟨_, rfl, ia, _, _, _, rfl, rfl, isq, hu0, rfl, _, rfl, iteDF (by decide +kernel) ?_⟩
        refine ⟨_, rfl, ia, _, _, _, rfl, rfl, isq, hu0, rfl, _, rfl, iteDF (by decide +kernel) ?_⟩
        exact nomore rfl
      | reserved z =>
        obtain ⟨ia, ixs, rfl, isq, _, _, iget⟩ := Rep.item (ds := [.str "reserved", .int z]) rd2
        obtain ⟨u0, hu0, ru0⟩ := iget 0 _ rfl
        cases ru0.str_inv
        refine ⟨_, rfl, ia, _, _, _, rfl, rfl, isq, hu0, rfl, _, rfl, iteDF (by decide +kernel) ?_⟩
        refine ⟨_, rfl, ia, _, _, _, rfl, rfl, isq, hu0, rfl, _, rfl, iteDF (by decide +kernel) ?_⟩
        refine ⟨_, rfl, ia, _, _, _, rfl, rfl, isq, hu0, rfl, _, rfl, iteDF (by decide +kernel) ?_⟩
        exact nomore rfl
      | check z =>
        obtain ⟨ia, ixs, rfl, isq, _, _, iget⟩ := Rep.item (ds := [.str "check", .str z]) rd2
        obtain ⟨u0, hu0, ru0⟩ := iget 0 _ rfl
        cases ru0.str_inv
        refine ⟨_, rfl, ia, _, _, _, rfl, rfl, isq, hu0, rfl, _, rfl, iteDF (by decide +kernel) ?_⟩
        refine ⟨_, rfl, ia, _, _, _, rfl, rfl, isq, hu0, rfl, _, rfl, iteDF (by decide +kernel) ?_⟩
        refine ⟨_, rfl, ia, _, _, _, rfl, rfl, isq, hu0, rfl, _, rfl, iteDF (by decide +kernel) ?_⟩
        exact nomore rfl
    · rintro σ H2 ⟨D, xs, v2, v3, rfl, s2, hD0, h2, rx⟩
      rw [hyl, List.take_length] at rx
      exact ⟨_, rfl, k H2 D xs s2 hD0 h2 rx⟩
theorem all_scopes (T : Txt K w mg A) : ∀ n : Nat, FnOk P w K mg base CX0 (18 + n) A.l_scopes.f A.l_scopes.fd ["items"] (sp_scopes n K)
  | 0 => no_scopes T
  | n + 1 => st_scopes T (all_scopes T n)
theorem ok_l_scopes (T : Txt K w mg A) : FnOk P w K mg base CX0 22 A.l_scopes.f A.l_scopes.fd ["items"] (sp_l_scopes K) := all_scopes T 4


/-! def law -/
def sp_law (K : PySem.W.Frag) : Sp := fun vs H Q _ => ∃ (a : Addr) (ns : List Int), vs = [.ref a] ∧ SqL K H a (ns.map V.int) ∧ ns.length ≤ 63 ∧ ∀ H', Q (.bl true) H'
theorem small_size (p : Int × Int) : DSmall (encSz p) ∧ PyData.depth (encSz p) < 4 := by
  refine ⟨⟨by show 2 ≤ 100000; decide, trivial, trivial, trivial⟩, ?_⟩
  simp [encSz, PyData.depth, PyData.depthAll]
theorem ok_law (T : Txt K w mg A) : FnOk P w K mg base CX0 23 A.law.f A.law.fd ["script"] (sp_law K) := by
  have G_l_extent : FnOk P w K mg base CX0 17 A.l_extent.f A.l_extent.fd ["items"] (sp_l_extent K) := ok_l_extent T
  have G_l_rich : FnOk P w K mg base CX0 21 A.l_rich.f A.l_rich.fd ["tape", "depth", "room"] (sp_l_rich K) := ok_l_rich T
  have G_l_same : FnOk P w K mg base CX0 14 A.l_same.f A.l_same.fd ["told", "due"] (sp_l_same K) := ok_l_same T
  have G_l_scopes : FnOk P w K mg base CX0 22 A.l_scopes.f A.l_scopes.fd ["items"] (sp_l_scopes K) := ok_l_scopes T
  have G_l_tape : FnOk P w K mg base CX0 1 A.l_tape.f A.l_tape.fd ["script"] (sp_l_tape K) := ok_l_tape T
  have G_sizes : FnOk P w K mg base CX0 17 A.sizes.f A.sizes.fd ["layout"] (sp_sizes K) := ok_sizes T
  refine T.F_law.ok sc_law (fun vs H Q E h => ?_) (fun cdv Ar outer s H vs Q E hr h => ?_)
  · obtain ⟨a, ns, rfl, _⟩ := h; rfl
  · obtain ⟨a, ns, rfl, hS, hlen, k⟩ := h
    refine ⟨_, (pss_cons (ps_set (i := 1) sc_law.nd rfl (.inl rfl) (pe_call G_l_tape (hr.mono (by decide)) (by rfl) T.g_l_tape T.F_l_tape.kp T.b_l_tape .nil pass0 (pa_cons (pv 0) pa_nil)))
        (pss_cons (ps_set (i := 2) sc_law.nd rfl (.inl rfl) (pe_ix ix_tup (pe_call G_l_rich (hr.mono (by decide)) (by rfl) T.g_l_rich T.F_l_rich.kp T.b_l_rich .nil pass0 (pa_cons (pv 1) (pa_cons pe_int (pa_cons pe_int pa_nil)))) pe_int (fun _ _ => rfl)))
        (pss_cons (ps_for PassesOwn.never rfl (pi_list (pe_call G_l_scopes (hr.mono (by decide)) (by rfl) T.g_l_scopes T.F_l_scopes.kp T.b_l_scopes .nil pass0 (pa_cons (pv 2) pa_nil))) (pg_name (i := 3) sc_law.nd rfl (Or.inl rfl)) (pss_cons (ps_set (i := 4) sc_law.nd rfl (.inl rfl) (pe_call G_l_extent (hr.mono (by decide)) (by rfl) T.g_l_extent T.F_l_extent.kp T.b_l_extent .nil pass0 (pa_cons (pv 3) pa_nil)))
        (pss_one (ps_if (PW.pt (pw_or (pt_not (pt_val (pe_call G_l_same (hr.mono (by decide)) (by rfl) T.g_l_same T.F_l_same.kp T.b_l_same .nil pass0 (pa_cons (pe_call G_sizes (hr.mono (by decide)) (by rfl) T.g_sizes T.F_sizes.kp T.b_sizes .nil pass0 (pa_cons (pv 3) pa_nil)) (pa_cons (pv 4) pa_nil))))) (pw_or1 (pt_not (pt_val (pe_call G_l_same (hr.mono (by decide)) (by rfl) T.g_l_same T.F_l_same.kp T.b_l_same .nil pass0 (pa_cons (pe_call G_sizes (hr.mono (by decide)) (by rfl) T.g_sizes T.F_sizes.kp T.b_sizes .nil pass0 (pa_cons (pe_backT (pv 3)) pa_nil)) (pa_cons (pv 4) pa_nil)))))))) (pss_one (ps_ret pe_bl)) pss_nil))))
        (pss_one (ps_ret pe_bl))))), ?_⟩
    refine ⟨_, rfl, a, ns, rfl, hS, fun H1 t tq s1 ht htq hT => ?_⟩
    refine ⟨_, rfl, t, tq, 3, 390, rfl, by decide, hT, fun H2 v items spent hio hil hsc hs0 hsr hdp rv hT2 hK2 => ?_⟩
    obtain ⟨ra, rxs, rfl, rsq, _, _, rget⟩ := Rep.item rv
    obtain ⟨lv, hlv, rl⟩ := rget 0 _ rfl
    refine ⟨ra, _, _, _, rfl, rfl, rsq, hlv, ?_⟩
    have hso : ScopeOk items := ⟨hio, by omega⟩
    refine ⟨_, rfl, lv, items, rfl, rl, hso, by omega, by omega, fun H3 D xs s3 hD h3 rx => ?_⟩
    refine ⟨D, rfl, ⟨_, SqL.of h3⟩, for_list (K := K) (a := D) (xs := xs) (fun i σ H4 => ∃ (v3 v4 : Option V), σ = [some (.ref a), some (.ref t), some lv, v3, v4] ∧ Same H3 H4) ⟨none, none, rfl, Same.refl _⟩ (fun i σ H4 _ ⟨_, _, _, s4⟩ => s4.seq (SqL.of h3)) ?_ ?_⟩
    · rintro i y σ H4 hi ⟨v3, v4, rfl, s4⟩
      obtain ⟨d, hd, rd⟩ := rx.at hi
      obtain ⟨sc, hscm, rfl⟩ := List.mem_map.mp (List.mem_of_getElem? hd)
      have hsco : ScopeOk sc ∧ depthL sc < 4 := by
        rcases List.mem_cons.mp hscm with rfl | h
        · exact ⟨hso, by omega⟩
        · exact ⟨scL_ok items hio sc h, by have := scL_depth items sc h; omega⟩
      obtain ⟨hsco, hscd⟩ := hsco
      have hsm := small_size (sizeL sc)
      have ry : Rep K H4 y (.tuple (encItems sc)) := rd.up (Imm.same s4)
      refine ⟨_, rfl, y, sc, rfl, ry, hsco, hscd, fun H5 dv s5 r5 => ?_⟩
      refine ⟨_, rfl, y, sc, rfl, ry.up (Imm.same s5), hsco, hscd, fun H6 w6 s6 r6 => ⟨_, rfl, w6, dv, _, rfl, r6, r5.up (Imm.same s6), hsm.1, hsm.2, _, rfl, iteF ?_⟩⟩
      obtain ⟨ya, yxs, rfl, ysq, yall⟩ := Rep.inv (ry.up (Imm.same (s5.trans s6)))
      refine ⟨_, rfl, ya, yxs, rfl, ysq, fun p hp => ?_⟩
      have s7 : Same H6 (upd H6 p (.tup yxs.reverse)) := same_upd hp
      have rr : Rep K (upd H6 p (.tup yxs.reverse)) (.ref p) (.tuple (encItems sc.reverse)) := by
        rw [encItems_reverse]
        exact .tup (SqT.of upd_same) (yall.up (Imm.new hp)).reverse
      refine ⟨.ref p, sc.reverse, rfl, rr, ⟨itemsOk_reverse hsco.1, by rw [List.length_reverse]; exact hsco.2⟩, by rw [depthL_reverse]; exact hscd, fun H8 w8 s8 r8 => ?_⟩
      rw [sizeL_reverse] at r8
      refine ⟨_, rfl, w8, dv, _, rfl, r8, r5.up (Imm.same ((s6.trans s7).trans s8)), hsm.1, hsm.2, _, rfl, iteF ?_⟩
      exact ⟨_, _, rfl, (((s4.trans s5).trans s6).trans s7).trans s8⟩
    · rintro σ H4 ⟨v3, v4, rfl, s4⟩
      exact k _
end
theorem all_mk {l : PySem.W.OpenLaw} {w : World} {K : PySem.W.Frag} {h : Heap} {mg : Str → Option Value} {fa : Addr} (X : K.In h) (G : h.Ns mainGlobals mg) (hfa : mg "law" = some (.ref fa))
    {f0 : Addr} {od0 an0 : Option Addr} {sl0 : Array (Option Value)} {oc0 kV0 dc0 pm0 cd0 ct0 : Value}
    (a0 : PySem.W.nsIn K mainGlobals "word_size" = some (some (.ref f0))) (l0 : K.lookup f0 = some ⟨oc0, od0, .func (PySem.W.fnOf "word_size" "word_size" (defArgs s_word_size) (defBody s_word_size) (defScope s_word_size) .none kV0 dc0 pm0 an0 cd0 ct0), sl0⟩) (c0 : PySem.W.codeIn K cd0 "word_size" = true) (k0 : PySem.W.keepIn K (.ref f0) = true)
    {f1 : Addr} {od1 an1 : Option Addr} {sl1 : Array (Option Value)} {oc1 kV1 dc1 pm1 cd1 ct1 : Value}
    (a1 : PySem.W.nsIn K mainGlobals "choice_sizes" = some (some (.ref f1))) (l1 : K.lookup f1 = some ⟨oc1, od1, .func (PySem.W.fnOf "choice_sizes" "choice_sizes" (defArgs s_choice_sizes) (defBody s_choice_sizes) (defScope s_choice_sizes) .none kV1 dc1 pm1 an1 cd1 ct1), sl1⟩) (c1 : PySem.W.codeIn K cd1 "choice_sizes" = true) (k1 : PySem.W.keepIn K (.ref f1) = true)
    {f2 : Addr} {od2 an2 : Option Addr} {sl2 : Array (Option Value)} {oc2 kV2 dc2 pm2 cd2 ct2 : Value}
    (a2 : PySem.W.nsIn K mainGlobals "fixed_sizes" = some (some (.ref f2))) (l2 : K.lookup f2 = some ⟨oc2, od2, .func (PySem.W.fnOf "fixed_sizes" "fixed_sizes" (defArgs s_fixed_sizes) (defBody s_fixed_sizes) (defScope s_fixed_sizes) .none kV2 dc2 pm2 an2 cd2 ct2), sl2⟩) (c2 : PySem.W.codeIn K cd2 "fixed_sizes" = true) (k2 : PySem.W.keepIn K (.ref f2) = true)
    {f3 : Addr} {od3 an3 : Option Addr} {sl3 : Array (Option Value)} {oc3 kV3 dc3 pm3 cd3 ct3 : Value}
    (a3 : PySem.W.nsIn K mainGlobals "counted_sizes" = some (some (.ref f3))) (l3 : K.lookup f3 = some ⟨oc3, od3, .func (PySem.W.fnOf "counted_sizes" "counted_sizes" (defArgs s_counted_sizes) (defBody s_counted_sizes) (defScope s_counted_sizes) .none kV3 dc3 pm3 an3 cd3 ct3), sl3⟩) (c3 : PySem.W.codeIn K cd3 "counted_sizes" = true) (k3 : PySem.W.keepIn K (.ref f3) = true)
    {f4 : Addr} {od4 an4 : Option Addr} {sl4 : Array (Option Value)} {oc4 kV4 dc4 pm4 cd4 ct4 : Value}
    (a4 : PySem.W.nsIn K mainGlobals "plain_size" = some (some (.ref f4))) (l4 : K.lookup f4 = some ⟨oc4, od4, .func (PySem.W.fnOf "plain_size" "plain_size" (defArgs s_plain_size) (defBody s_plain_size) (defScope s_plain_size) .none kV4 dc4 pm4 an4 cd4 ct4), sl4⟩) (c4 : PySem.W.codeIn K cd4 "plain_size" = true) (k4 : PySem.W.keepIn K (.ref f4) = true)
    {f5 : Addr} {od5 an5 : Option Addr} {sl5 : Array (Option Value)} {oc5 kV5 dc5 pm5 cd5 ct5 : Value}
    (a5 : PySem.W.nsIn K mainGlobals "item_sizes" = some (some (.ref f5))) (l5 : K.lookup f5 = some ⟨oc5, od5, .func (PySem.W.fnOf "item_sizes" "item_sizes" (defArgs s_item_sizes) (defBody s_item_sizes) (defScope s_item_sizes) .none kV5 dc5 pm5 an5 cd5 ct5), sl5⟩) (c5 : PySem.W.codeIn K cd5 "item_sizes" = true) (k5 : PySem.W.keepIn K (.ref f5) = true)
    {f6 : Addr} {od6 an6 : Option Addr} {sl6 : Array (Option Value)} {oc6 kV6 dc6 pm6 cd6 ct6 : Value}
    (a6 : PySem.W.nsIn K mainGlobals "sizes" = some (some (.ref f6))) (l6 : K.lookup f6 = some ⟨oc6, od6, .func (PySem.W.fnOf "sizes" "sizes" (defArgs s_sizes) (defBody s_sizes) (defScope s_sizes) .none kV6 dc6 pm6 an6 cd6 ct6), sl6⟩) (c6 : PySem.W.codeIn K cd6 "sizes" = true) (k6 : PySem.W.keepIn K (.ref f6) = true)
    {f7 : Addr} {od7 an7 : Option Addr} {sl7 : Array (Option Value)} {oc7 kV7 dc7 pm7 cd7 ct7 : Value}
    (a7 : PySem.W.nsIn K mainGlobals "_law_tape" = some (some (.ref f7))) (l7 : K.lookup f7 = some ⟨oc7, od7, .func (PySem.W.fnOf "_law_tape" "_law_tape" (defArgs s_l_tape) (defBody s_l_tape) (defScope s_l_tape) .none kV7 dc7 pm7 an7 cd7 ct7), sl7⟩) (c7 : PySem.W.codeIn K cd7 "_law_tape" = true) (k7 : PySem.W.keepIn K (.ref f7) = true)
    {f8 : Addr} {od8 an8 : Option Addr} {sl8 : Array (Option Value)} {oc8 kV8 dc8 pm8 cd8 ct8 : Value}
    (a8 : PySem.W.nsIn K mainGlobals "_law_draw" = some (some (.ref f8))) (l8 : K.lookup f8 = some ⟨oc8, od8, .func (PySem.W.fnOf "_law_draw" "_law_draw" (defArgs s_l_draw) (defBody s_l_draw) (defScope s_l_draw) .none kV8 dc8 pm8 an8 cd8 ct8), sl8⟩) (c8 : PySem.W.codeIn K cd8 "_law_draw" = true) (k8 : PySem.W.keepIn K (.ref f8) = true)
    {f9 : Addr} {od9 an9 : Option Addr} {sl9 : Array (Option Value)} {oc9 kV9 dc9 pm9 cd9 ct9 : Value}
    (a9 : PySem.W.nsIn K mainGlobals "_law_name" = some (some (.ref f9))) (l9 : K.lookup f9 = some ⟨oc9, od9, .func (PySem.W.fnOf "_law_name" "_law_name" (defArgs s_l_name) (defBody s_l_name) (defScope s_l_name) .none kV9 dc9 pm9 an9 cd9 ct9), sl9⟩) (c9 : PySem.W.codeIn K cd9 "_law_name" = true) (k9 : PySem.W.keepIn K (.ref f9) = true)
    {f10 : Addr} {od10 an10 : Option Addr} {sl10 : Array (Option Value)} {oc10 kV10 dc10 pm10 cd10 ct10 : Value}
    (a10 : PySem.W.nsIn K mainGlobals "_law_runs" = some (some (.ref f10))) (l10 : K.lookup f10 = some ⟨oc10, od10, .func (PySem.W.fnOf "_law_runs" "_law_runs" (defArgs s_l_runs) (defBody s_l_runs) (defScope s_l_runs) .none kV10 dc10 pm10 an10 cd10 ct10), sl10⟩) (c10 : PySem.W.codeIn K cd10 "_law_runs" = true) (k10 : PySem.W.keepIn K (.ref f10) = true)
    {f11 : Addr} {od11 an11 : Option Addr} {sl11 : Array (Option Value)} {oc11 kV11 dc11 pm11 cd11 ct11 : Value}
    (a11 : PySem.W.nsIn K mainGlobals "_law_same" = some (some (.ref f11))) (l11 : K.lookup f11 = some ⟨oc11, od11, .func (PySem.W.fnOf "_law_same" "_law_same" (defArgs s_l_same) (defBody s_l_same) (defScope s_l_same) .none kV11 dc11 pm11 an11 cd11 ct11), sl11⟩) (c11 : PySem.W.codeIn K cd11 "_law_same" = true) (k11 : PySem.W.keepIn K (.ref f11) = true)
    {f12 : Addr} {od12 an12 : Option Addr} {sl12 : Array (Option Value)} {oc12 kV12 dc12 pm12 cd12 ct12 : Value}
    (a12 : PySem.W.nsIn K mainGlobals "_law_size" = some (some (.ref f12))) (l12 : K.lookup f12 = some ⟨oc12, od12, .func (PySem.W.fnOf "_law_size" "_law_size" (defArgs s_l_size) (defBody s_l_size) (defScope s_l_size) .none kV12 dc12 pm12 an12 cd12 ct12), sl12⟩) (c12 : PySem.W.codeIn K cd12 "_law_size" = true) (k12 : PySem.W.keepIn K (.ref f12) = true)
    {f13 : Addr} {od13 an13 : Option Addr} {sl13 : Array (Option Value)} {oc13 kV13 dc13 pm13 cd13 ct13 : Value}
    (a13 : PySem.W.nsIn K mainGlobals "_law_any_word" = some (some (.ref f13))) (l13 : K.lookup f13 = some ⟨oc13, od13, .func (PySem.W.fnOf "_law_any_word" "_law_any_word" (defArgs s_l_any_word) (defBody s_l_any_word) (defScope s_l_any_word) .none kV13 dc13 pm13 an13 cd13 ct13), sl13⟩) (c13 : PySem.W.codeIn K cd13 "_law_any_word" = true) (k13 : PySem.W.keepIn K (.ref f13) = true)
    {f14 : Addr} {od14 an14 : Option Addr} {sl14 : Array (Option Value)} {oc14 kV14 dc14 pm14 cd14 ct14 : Value}
    (a14 : PySem.W.nsIn K mainGlobals "_law_a_count" = some (some (.ref f14))) (l14 : K.lookup f14 = some ⟨oc14, od14, .func (PySem.W.fnOf "_law_a_count" "_law_a_count" (defArgs s_l_a_count) (defBody s_l_a_count) (defScope s_l_a_count) .none kV14 dc14 pm14 an14 cd14 ct14), sl14⟩) (c14 : PySem.W.codeIn K cd14 "_law_a_count" = true) (k14 : PySem.W.keepIn K (.ref f14) = true)
    {f15 : Addr} {od15 an15 : Option Addr} {sl15 : Array (Option Value)} {oc15 kV15 dc15 pm15 cd15 ct15 : Value}
    (a15 : PySem.W.nsIn K mainGlobals "_law_bounds" = some (some (.ref f15))) (l15 : K.lookup f15 = some ⟨oc15, od15, .func (PySem.W.fnOf "_law_bounds" "_law_bounds" (defArgs s_l_bounds) (defBody s_l_bounds) (defScope s_l_bounds) .none kV15 dc15 pm15 an15 cd15 ct15), sl15⟩) (c15 : PySem.W.codeIn K cd15 "_law_bounds" = true) (k15 : PySem.W.keepIn K (.ref f15) = true)
    {f16 : Addr} {od16 an16 : Option Addr} {sl16 : Array (Option Value)} {oc16 kV16 dc16 pm16 cd16 ct16 : Value}
    (a16 : PySem.W.nsIn K mainGlobals "_law_ranges" = some (some (.ref f16))) (l16 : K.lookup f16 = some ⟨oc16, od16, .func (PySem.W.fnOf "_law_ranges" "_law_ranges" (defArgs s_l_ranges) (defBody s_l_ranges) (defScope s_l_ranges) .none kV16 dc16 pm16 an16 cd16 ct16), sl16⟩) (c16 : PySem.W.codeIn K cd16 "_law_ranges" = true) (k16 : PySem.W.keepIn K (.ref f16) = true)
    {f17 : Addr} {od17 an17 : Option Addr} {sl17 : Array (Option Value)} {oc17 kV17 dc17 pm17 cd17 ct17 : Value}
    (a17 : PySem.W.nsIn K mainGlobals "_law_a_field" = some (some (.ref f17))) (l17 : K.lookup f17 = some ⟨oc17, od17, .func (PySem.W.fnOf "_law_a_field" "_law_a_field" (defArgs s_l_a_field) (defBody s_l_a_field) (defScope s_l_a_field) .none kV17 dc17 pm17 an17 cd17 ct17), sl17⟩) (c17 : PySem.W.codeIn K cd17 "_law_a_field" = true) (k17 : PySem.W.keepIn K (.ref f17) = true)
    {f18 : Addr} {od18 an18 : Option Addr} {sl18 : Array (Option Value)} {oc18 kV18 dc18 pm18 cd18 ct18 : Value}
    (a18 : PySem.W.nsIn K mainGlobals "_law_a_number" = some (some (.ref f18))) (l18 : K.lookup f18 = some ⟨oc18, od18, .func (PySem.W.fnOf "_law_a_number" "_law_a_number" (defArgs s_l_a_number) (defBody s_l_a_number) (defScope s_l_a_number) .none kV18 dc18 pm18 an18 cd18 ct18), sl18⟩) (c18 : PySem.W.codeIn K cd18 "_law_a_number" = true) (k18 : PySem.W.keepIn K (.ref f18) = true)
    {f19 : Addr} {od19 an19 : Option Addr} {sl19 : Array (Option Value)} {oc19 kV19 dc19 pm19 cd19 ct19 : Value}
    (a19 : PySem.W.nsIn K mainGlobals "_law_part" = some (some (.ref f19))) (l19 : K.lookup f19 = some ⟨oc19, od19, .func (PySem.W.fnOf "_law_part" "_law_part" (defArgs s_l_part) (defBody s_l_part) (defScope s_l_part) .none kV19 dc19 pm19 an19 cd19 ct19), sl19⟩) (c19 : PySem.W.codeIn K cd19 "_law_part" = true) (k19 : PySem.W.keepIn K (.ref f19) = true)
    {f20 : Addr} {od20 an20 : Option Addr} {sl20 : Array (Option Value)} {oc20 kV20 dc20 pm20 cd20 ct20 : Value}
    (a20 : PySem.W.nsIn K mainGlobals "_law_case_numbers" = some (some (.ref f20))) (l20 : K.lookup f20 = some ⟨oc20, od20, .func (PySem.W.fnOf "_law_case_numbers" "_law_case_numbers" (defArgs s_l_case_numbers) (defBody s_l_case_numbers) (defScope s_l_case_numbers) .none kV20 dc20 pm20 an20 cd20 ct20), sl20⟩) (c20 : PySem.W.codeIn K cd20 "_law_case_numbers" = true) (k20 : PySem.W.keepIn K (.ref f20) = true)
    {f21 : Addr} {od21 an21 : Option Addr} {sl21 : Array (Option Value)} {oc21 kV21 dc21 pm21 cd21 ct21 : Value}
    (a21 : PySem.W.nsIn K mainGlobals "_law_not_empty" = some (some (.ref f21))) (l21 : K.lookup f21 = some ⟨oc21, od21, .func (PySem.W.fnOf "_law_not_empty" "_law_not_empty" (defArgs s_l_not_empty) (defBody s_l_not_empty) (defScope s_l_not_empty) .none kV21 dc21 pm21 an21 cd21 ct21), sl21⟩) (c21 : PySem.W.codeIn K cd21 "_law_not_empty" = true) (k21 : PySem.W.keepIn K (.ref f21) = true)
    {f22 : Addr} {od22 an22 : Option Addr} {sl22 : Array (Option Value)} {oc22 kV22 dc22 pm22 cd22 ct22 : Value}
    (a22 : PySem.W.nsIn K mainGlobals "_law_fixed" = some (some (.ref f22))) (l22 : K.lookup f22 = some ⟨oc22, od22, .func (PySem.W.fnOf "_law_fixed" "_law_fixed" (defArgs s_l_fixed) (defBody s_l_fixed) (defScope s_l_fixed) .none kV22 dc22 pm22 an22 cd22 ct22), sl22⟩) (c22 : PySem.W.codeIn K cd22 "_law_fixed" = true) (k22 : PySem.W.keepIn K (.ref f22) = true)
    {f23 : Addr} {od23 an23 : Option Addr} {sl23 : Array (Option Value)} {oc23 kV23 dc23 pm23 cd23 ct23 : Value}
    (a23 : PySem.W.nsIn K mainGlobals "_law_rich_choice" = some (some (.ref f23))) (l23 : K.lookup f23 = some ⟨oc23, od23, .func (PySem.W.fnOf "_law_rich_choice" "_law_rich_choice" (defArgs s_l_rich_choice) (defBody s_l_rich_choice) (defScope s_l_rich_choice) .none kV23 dc23 pm23 an23 cd23 ct23), sl23⟩) (c23 : PySem.W.codeIn K cd23 "_law_rich_choice" = true) (k23 : PySem.W.keepIn K (.ref f23) = true)
    {f24 : Addr} {od24 an24 : Option Addr} {sl24 : Array (Option Value)} {oc24 kV24 dc24 pm24 cd24 ct24 : Value}
    (a24 : PySem.W.nsIn K mainGlobals "_law_rich_word" = some (some (.ref f24))) (l24 : K.lookup f24 = some ⟨oc24, od24, .func (PySem.W.fnOf "_law_rich_word" "_law_rich_word" (defArgs s_l_rich_word) (defBody s_l_rich_word) (defScope s_l_rich_word) .none kV24 dc24 pm24 an24 cd24 ct24), sl24⟩) (c24 : PySem.W.codeIn K cd24 "_law_rich_word" = true) (k24 : PySem.W.keepIn K (.ref f24) = true)
    {f25 : Addr} {od25 an25 : Option Addr} {sl25 : Array (Option Value)} {oc25 kV25 dc25 pm25 cd25 ct25 : Value}
    (a25 : PySem.W.nsIn K mainGlobals "_law_rich_item" = some (some (.ref f25))) (l25 : K.lookup f25 = some ⟨oc25, od25, .func (PySem.W.fnOf "_law_rich_item" "_law_rich_item" (defArgs s_l_rich_item) (defBody s_l_rich_item) (defScope s_l_rich_item) .none kV25 dc25 pm25 an25 cd25 ct25), sl25⟩) (c25 : PySem.W.codeIn K cd25 "_law_rich_item" = true) (k25 : PySem.W.keepIn K (.ref f25) = true)
    {f26 : Addr} {od26 an26 : Option Addr} {sl26 : Array (Option Value)} {oc26 kV26 dc26 pm26 cd26 ct26 : Value}
    (a26 : PySem.W.nsIn K mainGlobals "_law_rich" = some (some (.ref f26))) (l26 : K.lookup f26 = some ⟨oc26, od26, .func (PySem.W.fnOf "_law_rich" "_law_rich" (defArgs s_l_rich) (defBody s_l_rich) (defScope s_l_rich) .none kV26 dc26 pm26 an26 cd26 ct26), sl26⟩) (c26 : PySem.W.codeIn K cd26 "_law_rich" = true) (k26 : PySem.W.keepIn K (.ref f26) = true)
    {f27 : Addr} {od27 an27 : Option Addr} {sl27 : Array (Option Value)} {oc27 kV27 dc27 pm27 cd27 ct27 : Value}
    (a27 : PySem.W.nsIn K mainGlobals "_law_extent_of" = some (some (.ref f27))) (l27 : K.lookup f27 = some ⟨oc27, od27, .func (PySem.W.fnOf "_law_extent_of" "_law_extent_of" (defArgs s_l_extent_of) (defBody s_l_extent_of) (defScope s_l_extent_of) .none kV27 dc27 pm27 an27 cd27 ct27), sl27⟩) (c27 : PySem.W.codeIn K cd27 "_law_extent_of" = true) (k27 : PySem.W.keepIn K (.ref f27) = true)
    {f28 : Addr} {od28 an28 : Option Addr} {sl28 : Array (Option Value)} {oc28 kV28 dc28 pm28 cd28 ct28 : Value}
    (a28 : PySem.W.nsIn K mainGlobals "_law_extent" = some (some (.ref f28))) (l28 : K.lookup f28 = some ⟨oc28, od28, .func (PySem.W.fnOf "_law_extent" "_law_extent" (defArgs s_l_extent) (defBody s_l_extent) (defScope s_l_extent) .none kV28 dc28 pm28 an28 cd28 ct28), sl28⟩) (c28 : PySem.W.codeIn K cd28 "_law_extent" = true) (k28 : PySem.W.keepIn K (.ref f28) = true)
    {f29 : Addr} {od29 an29 : Option Addr} {sl29 : Array (Option Value)} {oc29 kV29 dc29 pm29 cd29 ct29 : Value}
    (a29 : PySem.W.nsIn K mainGlobals "_law_scopes" = some (some (.ref f29))) (l29 : K.lookup f29 = some ⟨oc29, od29, .func (PySem.W.fnOf "_law_scopes" "_law_scopes" (defArgs s_l_scopes) (defBody s_l_scopes) (defScope s_l_scopes) .none kV29 dc29 pm29 an29 cd29 ct29), sl29⟩) (c29 : PySem.W.codeIn K cd29 "_law_scopes" = true) (k29 : PySem.W.keepIn K (.ref f29) = true)
    {f30 : Addr} {od30 an30 : Option Addr} {sl30 : Array (Option Value)} {oc30 kV30 dc30 pm30 cd30 ct30 : Value}
    (a30 : PySem.W.nsIn K mainGlobals "law" = some (some (.ref f30))) (l30 : K.lookup f30 = some ⟨oc30, od30, .func (PySem.W.fnOf "law" "law" (defArgs s_law) (defBody s_law) (defScope s_law) .none kV30 dc30 pm30 an30 cd30 ct30), sl30⟩) (c30 : PySem.W.codeIn K cd30 "law" = true) (k30 : PySem.W.keepIn K (.ref f30) = true)
    (z_abs : PySem.W.nsIn K mainGlobals "abs" = some none)
    (z_bool : PySem.W.nsIn K mainGlobals "bool" = some none)
    (z_int : PySem.W.nsIn K mainGlobals "int" = some none)
    (z_isinstance : PySem.W.nsIn K mainGlobals "isinstance" = some none)
    (z_len : PySem.W.nsIn K mainGlobals "len" = some none)
    (z_list : PySem.W.nsIn K mainGlobals "list" = some none)
    (z_max : PySem.W.nsIn K mainGlobals "max" = some none)
    (z_min : PySem.W.nsIn K mainGlobals "min" = some none)
    (z_range : PySem.W.nsIn K mainGlobals "range" = some none)
    (z_sorted : PySem.W.nsIn K mainGlobals "sorted" = some none)
    (z_str : PySem.W.nsIn K mainGlobals "str" = some none)
    (z_sum : PySem.W.nsIn K mainGlobals "sum" = some none)
    (z_tuple : PySem.W.nsIn K mainGlobals "tuple" = some none)
    {a_WORD_SIZES : Addr} (y_WORD_SIZES : PySem.W.nsIn K mainGlobals "WORD_SIZES" = some (some (.ref a_WORD_SIZES)))
    {es_WORD_SIZES : Array DictEntry} {en_WORD_SIZES : Nat} (m_WORD_SIZES : K.lookup a_WORD_SIZES = some ⟨.type "dict", none, .dict es_WORD_SIZES en_WORD_SIZES, #[]⟩)
    (i_WORD_SIZES : PySem.W.KeysLit w.params es_WORD_SIZES.toList)
    {u_WORD_SIZES_0 : Tok} (v_WORD_SIZES_0 : PySem.W.nsIn K a_WORD_SIZES "u8" = some (some (.int 1 u_WORD_SIZES_0)))
    {u_WORD_SIZES_1 : Tok} (v_WORD_SIZES_1 : PySem.W.nsIn K a_WORD_SIZES "u16be" = some (some (.int 2 u_WORD_SIZES_1)))
    {u_WORD_SIZES_2 : Tok} (v_WORD_SIZES_2 : PySem.W.nsIn K a_WORD_SIZES "u16le" = some (some (.int 2 u_WORD_SIZES_2)))
    {u_WORD_SIZES_3 : Tok} (v_WORD_SIZES_3 : PySem.W.nsIn K a_WORD_SIZES "u32be" = some (some (.int 4 u_WORD_SIZES_3)))
    {u_WORD_SIZES_4 : Tok} (v_WORD_SIZES_4 : PySem.W.nsIn K a_WORD_SIZES "u32le" = some (some (.int 4 u_WORD_SIZES_4)))
    : ∃ fd : FuncData, (∀ (s : Shared) (v : Value), BindsTo s fd ⟨[v], []⟩ [("script", v)]) ∧ ∀ base : Heap, K.In base → base.Ns mainGlobals mg → FnOk l.prog w K mg base CX0 23 fa fd ["script"] (sp_law K) := by
  have e := hfa.symm.trans (PySem.W.mg_of X G a30)
  cases e
  have F0 := fun_mk (st := s_word_size) l0 c0 k0
  have b0 := F0.binds (ps := ["word"]) fun _ _ _ _ _ _ us hl => match us, hl with | [_], _ => rfl
  have F1 := fun_mk (st := s_choice_sizes) l1 c1 k1
  have b1 := F1.binds (ps := ["word", "cases"]) fun _ _ _ _ _ _ us hl => match us, hl with | [_, _], _ => rfl
  have F2 := fun_mk (st := s_fixed_sizes) l2 c2 k2
  have b2 := F2.binds (ps := ["size"]) fun _ _ _ _ _ _ us hl => match us, hl with | [_], _ => rfl
  have F3 := fun_mk (st := s_counted_sizes) l3 c3 k3
  have b3 := F3.binds (ps := ["count", "element_sizes"]) fun _ _ _ _ _ _ us hl => match us, hl with | [_, _], _ => rfl
  have F4 := fun_mk (st := s_plain_size) l4 c4 k4
  have b4 := F4.binds (ps := ["item"]) fun _ _ _ _ _ _ us hl => match us, hl with | [_], _ => rfl
  have F5 := fun_mk (st := s_item_sizes) l5 c5 k5
  have b5 := F5.binds (ps := ["item"]) fun _ _ _ _ _ _ us hl => match us, hl with | [_], _ => rfl
  have F6 := fun_mk (st := s_sizes) l6 c6 k6
  have b6 := F6.binds (ps := ["layout"]) fun _ _ _ _ _ _ us hl => match us, hl with | [_], _ => rfl
  have F7 := fun_mk (st := s_l_tape) l7 c7 k7
  have b7 := F7.binds (ps := ["script"]) fun _ _ _ _ _ _ us hl => match us, hl with | [_], _ => rfl
  have F8 := fun_mk (st := s_l_draw) l8 c8 k8
  have b8 := F8.binds (ps := ["tape", "many"]) fun _ _ _ _ _ _ us hl => match us, hl with | [_, _], _ => rfl
  have F9 := fun_mk (st := s_l_name) l9 c9 k9
  have b9 := F9.binds (ps := ["tape", "used"]) fun _ _ _ _ _ _ us hl => match us, hl with | [_, _], _ => rfl
  have F10 := fun_mk (st := s_l_runs) l10 c10 k10
  have b10 := F10.binds (ps := ["numbers"]) fun _ _ _ _ _ _ us hl => match us, hl with | [_], _ => rfl
  have F11 := fun_mk (st := s_l_same) l11 c11 k11
  have b11 := F11.binds (ps := ["told", "due"]) fun _ _ _ _ _ _ us hl => match us, hl with | [_, _], _ => rfl
  have F12 := fun_mk (st := s_l_size) l12 c12 k12
  have b12 := F12.binds (ps := ["word"]) fun _ _ _ _ _ _ us hl => match us, hl with | [_], _ => rfl
  have F13 := fun_mk (st := s_l_any_word) l13 c13 k13
  have b13 := F13.binds (ps := ["tape"]) fun _ _ _ _ _ _ us hl => match us, hl with | [_], _ => rfl
  have F14 := fun_mk (st := s_l_a_count) l14 c14 k14
  have b14 := F14.binds (ps := ["tape", "least", "greatest"]) fun _ _ _ _ _ _ us hl => match us, hl with | [_, _, _], _ => rfl
  have F15 := fun_mk (st := s_l_bounds) l15 c15 k15
  have b15 := F15.binds (ps := ["count"]) fun _ _ _ _ _ _ us hl => match us, hl with | [_], _ => rfl
  have F16 := fun_mk (st := s_l_ranges) l16 c16 k16
  have b16 := F16.binds (ps := ["tape", "width", "signed", "most"]) fun _ _ _ _ _ _ us hl => match us, hl with | [_, _, _, _], _ => rfl
  have F17 := fun_mk (st := s_l_a_field) l17 c17 k17
  have b17 := F17.binds (ps := ["tape", "widths", "most"]) fun _ _ _ _ _ _ us hl => match us, hl with | [_, _, _], _ => rfl
  have F18 := fun_mk (st := s_l_a_number) l18 c18 k18
  have b18 := F18.binds (ps := ["tape", "width", "signed", "ranges"]) fun _ _ _ _ _ _ us hl => match us, hl with | [_, _, _, _], _ => rfl
  have F19 := fun_mk (st := s_l_part) l19 c19 k19
  have b19 := F19.binds (ps := ["tape", "used", "field"]) fun _ _ _ _ _ _ us hl => match us, hl with | [_, _, _], _ => rfl
  have F20 := fun_mk (st := s_l_case_numbers) l20 c20 k20
  have b20 := F20.binds (ps := ["tape", "word", "many"]) fun _ _ _ _ _ _ us hl => match us, hl with | [_, _, _], _ => rfl
  have F21 := fun_mk (st := s_l_not_empty) l21 c21 k21
  have b21 := F21.binds (ps := ["tape", "items"]) fun _ _ _ _ _ _ us hl => match us, hl with | [_, _], _ => rfl
  have F22 := fun_mk (st := s_l_fixed) l22 c22 k22
  have b22 := F22.binds (ps := ["tape"]) fun _ _ _ _ _ _ us hl => match us, hl with | [_], _ => rfl
  have F23 := fun_mk (st := s_l_rich_choice) l23 c23 k23
  have b23 := F23.binds (ps := ["tape", "name", "depth", "room"]) fun _ _ _ _ _ _ us hl => match us, hl with | [_, _, _, _], _ => rfl
  have F24 := fun_mk (st := s_l_rich_word) l24 c24 k24
  have b24 := F24.binds (ps := ["tape", "used"]) fun _ _ _ _ _ _ us hl => match us, hl with | [_, _], _ => rfl
  have F25 := fun_mk (st := s_l_rich_item) l25 c25 k25
  have b25 := F25.binds (ps := ["tape", "used", "depth", "room"]) fun _ _ _ _ _ _ us hl => match us, hl with | [_, _, _, _], _ => rfl
  have F26 := fun_mk (st := s_l_rich) l26 c26 k26
  have b26 := F26.binds (ps := ["tape", "depth", "room"]) fun _ _ _ _ _ _ us hl => match us, hl with | [_, _, _], _ => rfl
  have F27 := fun_mk (st := s_l_extent_of) l27 c27 k27
  have b27 := F27.binds (ps := ["item"]) fun _ _ _ _ _ _ us hl => match us, hl with | [_], _ => rfl
  have F28 := fun_mk (st := s_l_extent) l28 c28 k28
  have b28 := F28.binds (ps := ["items"]) fun _ _ _ _ _ _ us hl => match us, hl with | [_], _ => rfl
  have F29 := fun_mk (st := s_l_scopes) l29 c29 k29
  have b29 := F29.binds (ps := ["items"]) fun _ _ _ _ _ _ us hl => match us, hl with | [_], _ => rfl
  have F30 := fun_mk (st := s_law) l30 c30 k30
  have b30 := F30.binds (ps := ["script"]) fun _ _ _ _ _ _ us hl => match us, hl with | [_], _ => rfl
  have T : Txt K w mg ⟨⟨f0, _⟩, ⟨f1, _⟩, ⟨f2, _⟩, ⟨f3, _⟩, ⟨f4, _⟩, ⟨f5, _⟩, ⟨f6, _⟩, ⟨f7, _⟩, ⟨f8, _⟩, ⟨f9, _⟩, ⟨f10, _⟩, ⟨f11, _⟩, ⟨f12, _⟩, ⟨f13, _⟩, ⟨f14, _⟩, ⟨f15, _⟩, ⟨f16, _⟩, ⟨f17, _⟩, ⟨f18, _⟩, ⟨f19, _⟩, ⟨f20, _⟩, ⟨f21, _⟩, ⟨f22, _⟩, ⟨f23, _⟩, ⟨f24, _⟩, ⟨f25, _⟩, ⟨f26, _⟩, ⟨f27, _⟩, ⟨f28, _⟩, ⟨f29, _⟩, ⟨fa, _⟩, a_WORD_SIZES⟩ := ⟨F0, PySem.W.mg_of X G a0, b0, F1, PySem.W.mg_of X G a1, b1, F2, PySem.W.mg_of X G a2, b2, F3, PySem.W.mg_of X G a3, b3, F4, PySem.W.mg_of X G a4, b4, F5, PySem.W.mg_of X G a5, b5, F6, PySem.W.mg_of X G a6, b6, F7, PySem.W.mg_of X G a7, b7, F8, PySem.W.mg_of X G a8, b8, F9, PySem.W.mg_of X G a9, b9, F10, PySem.W.mg_of X G a10, b10, F11, PySem.W.mg_of X G a11, b11, F12, PySem.W.mg_of X G a12, b12, F13, PySem.W.mg_of X G a13, b13, F14, PySem.W.mg_of X G a14, b14, F15, PySem.W.mg_of X G a15, b15, F16, PySem.W.mg_of X G a16, b16, F17, PySem.W.mg_of X G a17, b17, F18, PySem.W.mg_of X G a18, b18, F19, PySem.W.mg_of X G a19, b19, F20, PySem.W.mg_of X G a20, b20, F21, PySem.W.mg_of X G a21, b21, F22, PySem.W.mg_of X G a22, b22, F23, PySem.W.mg_of X G a23, b23, F24, PySem.W.mg_of X G a24, b24, F25, PySem.W.mg_of X G a25, b25, F26, PySem.W.mg_of X G a26, b26, F27, PySem.W.mg_of X G a27, b27, F28, PySem.W.mg_of X G a28, b28, F29, PySem.W.mg_of X G a29, b29, F30, PySem.W.mg_of X G a30, b30, PySem.W.mg_none_of X G z_abs, PySem.W.mg_none_of X G z_bool, PySem.W.mg_none_of X G z_int, PySem.W.mg_none_of X G z_isinstance, PySem.W.mg_none_of X G z_len, PySem.W.mg_none_of X G z_list, PySem.W.mg_none_of X G z_max, PySem.W.mg_none_of X G z_min, PySem.W.mg_none_of X G z_range, PySem.W.mg_none_of X G z_sorted, PySem.W.mg_none_of X G z_str, PySem.W.mg_none_of X G z_sum, PySem.W.mg_none_of X G z_tuple, PySem.W.mg_of X G y_WORD_SIZES, ⟨es_WORD_SIZES, en_WORD_SIZES, _, m_WORD_SIZES, i_WORD_SIZES, v_WORD_SIZES_0, ⟨_, rfl⟩⟩, ⟨es_WORD_SIZES, en_WORD_SIZES, _, m_WORD_SIZES, i_WORD_SIZES, v_WORD_SIZES_1, ⟨_, rfl⟩⟩, ⟨es_WORD_SIZES, en_WORD_SIZES, _, m_WORD_SIZES, i_WORD_SIZES, v_WORD_SIZES_2, ⟨_, rfl⟩⟩, ⟨es_WORD_SIZES, en_WORD_SIZES, _, m_WORD_SIZES, i_WORD_SIZES, v_WORD_SIZES_3, ⟨_, rfl⟩⟩, ⟨es_WORD_SIZES, en_WORD_SIZES, _, m_WORD_SIZES, i_WORD_SIZES, v_WORD_SIZES_4, ⟨_, rfl⟩⟩⟩
  exact ⟨PySem.W.fnOf "law" "law" (defArgs s_law) (defBody s_law) (defScope s_law) .none kV30 dc30 pm30 an30 cd30 ct30, fun s v => .of_eq rfl, fun base _ _ => ok_law T⟩
end My
open PySem PySem.W PyProof.Rows
set_option maxHeartbeats 0 in
theorem PySem.Challenge.cw_bytebridge_k07_sizes_of_a_layout_holds : PySem.Challenge.rw_bytebridge_k07_sizes_of_a_layout.Holds := by
  w_on; o_law; k_head; (case hw => w_witness2)
  k_fill
  refine L2.walk_of (l := PySem.Challenge.rw_bytebridge_k07_sizes_of_a_layout) (n := 63) (k := 23) (x := "script") (CX := fun _ => L2.CX0) (sp := fun w => My.sp_law _) rfl (by decide) rfl ⟨rfl, by decide, by decide⟩ (fun w h Y => PySem.W.kIn_of Y) ?F (fun _ _ a ns hl hO hS => ⟨a, ns, rfl, hS, hl, fun _ => rfl⟩) (fun _ _ _ _ _ h => h)
  case F =>
    intro w mg fa h KX G hmg
    refine' My.all_mk KX G hmg ?a0 ?l0 ?c0 ?k0 ?a1 ?l1 ?c1 ?k1 ?a2 ?l2 ?c2 ?k2 ?a3 ?l3 ?c3 ?k3 ?a4 ?l4 ?c4 ?k4 ?a5 ?l5 ?c5 ?k5 ?a6 ?l6 ?c6 ?k6 ?a7 ?l7 ?c7 ?k7 ?a8 ?l8 ?c8 ?k8 ?a9 ?l9 ?c9 ?k9 ?a10 ?l10 ?c10 ?k10 ?a11 ?l11 ?c11 ?k11 ?a12 ?l12 ?c12 ?k12 ?a13 ?l13 ?c13 ?k13 ?a14 ?l14 ?c14 ?k14 ?a15 ?l15 ?c15 ?k15 ?a16 ?l16 ?c16 ?k16 ?a17 ?l17 ?c17 ?k17 ?a18 ?l18 ?c18 ?k18 ?a19 ?l19 ?c19 ?k19 ?a20 ?l20 ?c20 ?k20 ?a21 ?l21 ?c21 ?k21 ?a22 ?l22 ?c22 ?k22 ?a23 ?l23 ?c23 ?k23 ?a24 ?l24 ?c24 ?k24 ?a25 ?l25 ?c25 ?k25 ?a26 ?l26 ?c26 ?k26 ?a27 ?l27 ?c27 ?k27 ?a28 ?l28 ?c28 ?k28 ?a29 ?l29 ?c29 ?k29 ?a30 ?l30 ?c30 ?k30 ?z_abs ?z_bool ?z_int ?z_isinstance ?z_len ?z_list ?z_max ?z_min ?z_range ?z_sorted ?z_str ?z_sum ?z_tuple ?y_WORD_SIZES ?m_WORD_SIZES ?i_WORD_SIZES ?v_WORD_SIZES_0 ?v_WORD_SIZES_1 ?v_WORD_SIZES_2 ?v_WORD_SIZES_3 ?v_WORD_SIZES_4
    (case a0 => k_is)
    (case l0 => k_is)
    (case c0 => k_is)
    (case k0 => k_is)
    (case a1 => k_is)
    (case l1 => k_is)
    (case c1 => k_is)
    (case k1 => k_is)
    (case a2 => k_is)
    (case l2 => k_is)
    (case c2 => k_is)
    (case k2 => k_is)
    (case a3 => k_is)
    (case l3 => k_is)
    (case c3 => k_is)
    (case k3 => k_is)
    (case a4 => k_is)
    (case l4 => k_is)
    (case c4 => k_is)
    (case k4 => k_is)
    (case a5 => k_is)
    (case l5 => k_is)
    (case c5 => k_is)
    (case k5 => k_is)
    (case a6 => k_is)
    (case l6 => k_is)
    (case c6 => k_is)
    (case k6 => k_is)
    (case a7 => k_is)
    (case l7 => k_is)
    (case c7 => k_is)
    (case k7 => k_is)
    (case a8 => k_is)
    (case l8 => k_is)
    (case c8 => k_is)
    (case k8 => k_is)
    (case a9 => k_is)
    (case l9 => k_is)
    (case c9 => k_is)
    (case k9 => k_is)
    (case a10 => k_is)
    (case l10 => k_is)
    (case c10 => k_is)
    (case k10 => k_is)
    (case a11 => k_is)
    (case l11 => k_is)
    (case c11 => k_is)
    (case k11 => k_is)
    (case a12 => k_is)
    (case l12 => k_is)
    (case c12 => k_is)
    (case k12 => k_is)
    (case a13 => k_is)
    (case l13 => k_is)
    (case c13 => k_is)
    (case k13 => k_is)
    (case a14 => k_is)
    (case l14 => k_is)
    (case c14 => k_is)
    (case k14 => k_is)
    (case a15 => k_is)
    (case l15 => k_is)
    (case c15 => k_is)
    (case k15 => k_is)
    (case a16 => k_is)
    (case l16 => k_is)
    (case c16 => k_is)
    (case k16 => k_is)
    (case a17 => k_is)
    (case l17 => k_is)
    (case c17 => k_is)
    (case k17 => k_is)
    (case a18 => k_is)
    (case l18 => k_is)
    (case c18 => k_is)
    (case k18 => k_is)
    (case a19 => k_is)
    (case l19 => k_is)
    (case c19 => k_is)
    (case k19 => k_is)
    (case a20 => k_is)
    (case l20 => k_is)
    (case c20 => k_is)
    (case k20 => k_is)
    (case a21 => k_is)
    (case l21 => k_is)
    (case c21 => k_is)
    (case k21 => k_is)
    (case a22 => k_is)
    (case l22 => k_is)
    (case c22 => k_is)
    (case k22 => k_is)
    (case a23 => k_is)
    (case l23 => k_is)
    (case c23 => k_is)
    (case k23 => k_is)
    (case a24 => k_is)
    (case l24 => k_is)
    (case c24 => k_is)
    (case k24 => k_is)
    (case a25 => k_is)
    (case l25 => k_is)
    (case c25 => k_is)
    (case k25 => k_is)
    (case a26 => k_is)
    (case l26 => k_is)
    (case c26 => k_is)
    (case k26 => k_is)
    (case a27 => k_is)
    (case l27 => k_is)
    (case c27 => k_is)
    (case k27 => k_is)
    (case a28 => k_is)
    (case l28 => k_is)
    (case c28 => k_is)
    (case k28 => k_is)
    (case a29 => k_is)
    (case l29 => k_is)
    (case c29 => k_is)
    (case k29 => k_is)
    (case a30 => k_is)
    (case l30 => k_is)
    (case c30 => k_is)
    (case k30 => k_is)
    (case z_abs => k_is)
    (case z_bool => k_is)
    (case z_int => k_is)
    (case z_isinstance => k_is)
    (case z_len => k_is)
    (case z_list => k_is)
    (case z_max => k_is)
    (case z_min => k_is)
    (case z_range => k_is)
    (case z_sorted => k_is)
    (case z_str => k_is)
    (case z_sum => k_is)
    (case z_tuple => k_is)
    (case y_WORD_SIZES => k_is)
    (case m_WORD_SIZES => k_is)
    (case i_WORD_SIZES => exact ⟨⟨_, _, rfl, rfl⟩, ⟨_, _, rfl, rfl⟩, ⟨_, _, rfl, rfl⟩, ⟨_, _, rfl, rfl⟩, ⟨_, _, rfl, rfl⟩, trivial⟩)
    (case v_WORD_SIZES_0 => k_is)
    (case v_WORD_SIZES_1 => k_is)
    (case v_WORD_SIZES_2 => k_is)
    (case v_WORD_SIZES_3 => k_is)
    (case v_WORD_SIZES_4 => k_is)
