import PyProof.Rows.All
import Wide.All
import OpenK.AllK
import Wide.FinOn
import HandS.ForExc
import HandS.IsInst
import HandS.Text
import HandS.WideBits
import HandS.Style
import HandS.ExcIs
import PySem.Challenge.RW_buddyyard_k01_the_fitting_size
set_option Elab.async false
set_option linter.all false
set_option maxRecDepth 100000

namespace BY
open PySem L2
/-- a def of the top's -/
structure DefAt (K : PySem.W.Frag) (mg : Str → Option Value) (x : Str) (st : Stmt) (ps : List Str) (f : Addr) (fd : FuncData) : Prop where
  mg : mg x = some (.ref f)
  fn : Fun K x x st f fd
  bd : Binds K fd ps []
/-- an own error class -/
structure ExcT (K : PySem.W.Frag) (mg : Str → Option Value) (x : Str) (C : Addr) : Prop where
  g : mg x = some (.ref C)
  x : PySem.W.excIn K C [.type "ValueError", .type "Exception", .type "BaseException", .type "object"] "ValueError.__new__" = true
  k : PySem.W.keepIn K (.ref C) = true
  t : PySem.W.typeIn K (.ref C) = some (.type "type")
  c : PySem.W.isClsIn K C = true
  is : ExcC K C
  ve : PySem.W.kitOne K (.ref C) (.type "ValueError") = some true
theorem kit_ve {K : PySem.W.Frag} {C : Addr} (h : PySem.W.subIn K (.ref C) (.type "ValueError") = some true) : PySem.W.kitOne K (.ref C) (.type "ValueError") = some true := by
  have e : PySem.W.kitMeta "ValueError" = true := by decide +kernel
  show (if (Value.ref C == Value.type "ValueError") = true then some true else if PySem.W.kitMeta "ValueError" = true then PySem.W.subIn K (.ref C) (.type "ValueError") else none) = some true
  rw [if_neg (by simp), if_pos e]
  exact h

def top (i : Nat) : Stmt := PySem.Challenge.pw_buddyyard_k01_the_fitting_size.main.body.getD i (.Pass ⟨0, 0, 0, 0⟩)
abbrev s_is_size : Stmt := top 9
abbrev s_size_for : Stmt := top 10
abbrev s_law_whole : Stmt := top 12
abbrev s_law_cell_at : Stmt := top 13
abbrev s_law_doubled : Stmt := top 14
abbrev s_law_want : Stmt := top 15
abbrev s_law_refused : Stmt := top 16
abbrev s_law_refused_by_any : Stmt := top 17
abbrev s_law_halved : Stmt := top 18
abbrev s_law : Stmt := top 19
theorem sc_is_size : FnScope ["number"] ["number"] (defScope s_is_size) := ⟨rfl, rfl, rfl, by decide +kernel, rfl, by decide +kernel, by decide +kernel⟩
theorem sc_size_for : FnScope ["want"] ["want"] (defScope s_size_for) := ⟨rfl, rfl, rfl, by decide +kernel, rfl, by decide +kernel, by decide +kernel⟩
theorem sc_law_whole : FnScope ["_law_found"] ["_law_found"] (defScope s_law_whole) := ⟨rfl, rfl, rfl, by decide +kernel, rfl, by decide +kernel, by decide +kernel⟩
theorem sc_law_cell_at : FnScope ["_law_script", "_law_k"] ["_law_script", "_law_k"] (defScope s_law_cell_at) := ⟨rfl, rfl, rfl, by decide +kernel, rfl, by decide +kernel, by decide +kernel⟩
theorem sc_law_doubled : FnScope ["_law_times", "_law_size", "_law_k"] ["_law_times"] (defScope s_law_doubled) := ⟨rfl, rfl, rfl, by decide +kernel, rfl, by decide +kernel, by decide +kernel⟩
theorem sc_law_want : FnScope ["_law_script", "_law_way", "_law_cell"] ["_law_script"] (defScope s_law_want) := ⟨rfl, rfl, rfl, by decide +kernel, rfl, by decide +kernel, by decide +kernel⟩
theorem sc_law_refused : FnScope ["_law_want_here"] ["_law_want_here"] (defScope s_law_refused) := ⟨rfl, rfl, rfl, by decide +kernel, rfl, by decide +kernel, by decide +kernel⟩
theorem sc_law_refused_by_any : FnScope ["_law_want_here", "e"] ["_law_want_here"] (defScope s_law_refused_by_any) := ⟨rfl, rfl, rfl, by decide +kernel, rfl, by decide +kernel, by decide +kernel⟩
theorem sc_law_halved : FnScope ["_law_size"] ["_law_size"] (defScope s_law_halved) := ⟨rfl, rfl, rfl, by decide +kernel, rfl, by decide +kernel, by decide +kernel⟩
theorem sc_law : FnScope ["_law_script", "_law_want_here", "_law_found"] ["_law_script"] (defScope s_law) := ⟨rfl, rfl, rfl, by decide +kernel, rfl, by decide +kernel, by decide +kernel⟩
structure Ad where
  f_is_size : Addr
  d_is_size : FuncData
  f_size_for : Addr
  d_size_for : FuncData
  f_law_whole : Addr
  d_law_whole : FuncData
  f_law_cell_at : Addr
  d_law_cell_at : FuncData
  f_law_doubled : Addr
  d_law_doubled : FuncData
  f_law_want : Addr
  d_law_want : FuncData
  f_law_refused : Addr
  d_law_refused : FuncData
  f_law_refused_by_any : Addr
  d_law_refused_by_any : FuncData
  f_law_halved : Addr
  d_law_halved : FuncData
  f_law : Addr
  d_law : FuncData
  c_YardError : Addr
  c_NoYard : Addr
  c_NoWish : Addr
  c_NoRoom : Addr
  c_NotOut : Addr
  c_NoNote : Addr
structure Txt (K : PySem.W.Frag) (mg : Str → Option Value) (a : Ad) : Prop where
  is_size : DefAt K mg "is_size" s_is_size ["number"] a.f_is_size a.d_is_size
  size_for : DefAt K mg "size_for" s_size_for ["want"] a.f_size_for a.d_size_for
  law_whole : DefAt K mg "_law_whole" s_law_whole ["_law_found"] a.f_law_whole a.d_law_whole
  law_cell_at : DefAt K mg "_law_cell_at" s_law_cell_at ["_law_script", "_law_k"] a.f_law_cell_at a.d_law_cell_at
  law_doubled : DefAt K mg "_law_doubled" s_law_doubled ["_law_times"] a.f_law_doubled a.d_law_doubled
  law_want : DefAt K mg "_law_want" s_law_want ["_law_script"] a.f_law_want a.d_law_want
  law_refused : DefAt K mg "_law_refused" s_law_refused ["_law_want_here"] a.f_law_refused a.d_law_refused
  law_refused_by_any : DefAt K mg "_law_refused_by_any" s_law_refused_by_any ["_law_want_here"] a.f_law_refused_by_any a.d_law_refused_by_any
  law_halved : DefAt K mg "_law_halved" s_law_halved ["_law_size"] a.f_law_halved a.d_law_halved
  law : DefAt K mg "law" s_law ["_law_script"] a.f_law a.d_law
  e_YardError : ExcT K mg "YardError" a.c_YardError
  e_NoYard : ExcT K mg "NoYard" a.c_NoYard
  e_NoWish : ExcT K mg "NoWish" a.c_NoWish
  e_NoRoom : ExcT K mg "NoRoom" a.c_NoRoom
  e_NotOut : ExcT K mg "NotOut" a.c_NotOut
  e_NoNote : ExcT K mg "NoNote" a.c_NoNote
  x_NoYard_YardError : PySem.W.exmOne K (.ref a.c_NoYard) (.ref a.c_YardError) = some true
  k_NoYard_YardError : PySem.W.kitOne K (.ref a.c_NoYard) (.ref a.c_YardError) = some true
  x_NoYard_NoYard : PySem.W.exmOne K (.ref a.c_NoYard) (.ref a.c_NoYard) = some true
  k_NoYard_NoYard : PySem.W.kitOne K (.ref a.c_NoYard) (.ref a.c_NoYard) = some true
  x_NoYard_NoWish : PySem.W.exmOne K (.ref a.c_NoYard) (.ref a.c_NoWish) = some false
  k_NoYard_NoWish : PySem.W.kitOne K (.ref a.c_NoYard) (.ref a.c_NoWish) = some false
  x_NoYard_NoRoom : PySem.W.exmOne K (.ref a.c_NoYard) (.ref a.c_NoRoom) = some false
  k_NoYard_NoRoom : PySem.W.kitOne K (.ref a.c_NoYard) (.ref a.c_NoRoom) = some false
  x_NoYard_NotOut : PySem.W.exmOne K (.ref a.c_NoYard) (.ref a.c_NotOut) = some false
  k_NoYard_NotOut : PySem.W.kitOne K (.ref a.c_NoYard) (.ref a.c_NotOut) = some false
  x_NoYard_NoNote : PySem.W.exmOne K (.ref a.c_NoYard) (.ref a.c_NoNote) = some false
  k_NoYard_NoNote : PySem.W.kitOne K (.ref a.c_NoYard) (.ref a.c_NoNote) = some false
  x_NoWish_YardError : PySem.W.exmOne K (.ref a.c_NoWish) (.ref a.c_YardError) = some true
  k_NoWish_YardError : PySem.W.kitOne K (.ref a.c_NoWish) (.ref a.c_YardError) = some true
  x_NoWish_NoYard : PySem.W.exmOne K (.ref a.c_NoWish) (.ref a.c_NoYard) = some false
  k_NoWish_NoYard : PySem.W.kitOne K (.ref a.c_NoWish) (.ref a.c_NoYard) = some false
  x_NoWish_NoWish : PySem.W.exmOne K (.ref a.c_NoWish) (.ref a.c_NoWish) = some true
  k_NoWish_NoWish : PySem.W.kitOne K (.ref a.c_NoWish) (.ref a.c_NoWish) = some true
  x_NoWish_NoRoom : PySem.W.exmOne K (.ref a.c_NoWish) (.ref a.c_NoRoom) = some false
  k_NoWish_NoRoom : PySem.W.kitOne K (.ref a.c_NoWish) (.ref a.c_NoRoom) = some false
  x_NoWish_NotOut : PySem.W.exmOne K (.ref a.c_NoWish) (.ref a.c_NotOut) = some false
  k_NoWish_NotOut : PySem.W.kitOne K (.ref a.c_NoWish) (.ref a.c_NotOut) = some false
  x_NoWish_NoNote : PySem.W.exmOne K (.ref a.c_NoWish) (.ref a.c_NoNote) = some false
  k_NoWish_NoNote : PySem.W.kitOne K (.ref a.c_NoWish) (.ref a.c_NoNote) = some false
  x_NoRoom_YardError : PySem.W.exmOne K (.ref a.c_NoRoom) (.ref a.c_YardError) = some true
  k_NoRoom_YardError : PySem.W.kitOne K (.ref a.c_NoRoom) (.ref a.c_YardError) = some true
  x_NoRoom_NoYard : PySem.W.exmOne K (.ref a.c_NoRoom) (.ref a.c_NoYard) = some false
  k_NoRoom_NoYard : PySem.W.kitOne K (.ref a.c_NoRoom) (.ref a.c_NoYard) = some false
  x_NoRoom_NoWish : PySem.W.exmOne K (.ref a.c_NoRoom) (.ref a.c_NoWish) = some false
  k_NoRoom_NoWish : PySem.W.kitOne K (.ref a.c_NoRoom) (.ref a.c_NoWish) = some false
  x_NoRoom_NoRoom : PySem.W.exmOne K (.ref a.c_NoRoom) (.ref a.c_NoRoom) = some true
  k_NoRoom_NoRoom : PySem.W.kitOne K (.ref a.c_NoRoom) (.ref a.c_NoRoom) = some true
  x_NoRoom_NotOut : PySem.W.exmOne K (.ref a.c_NoRoom) (.ref a.c_NotOut) = some false
  k_NoRoom_NotOut : PySem.W.kitOne K (.ref a.c_NoRoom) (.ref a.c_NotOut) = some false
  x_NoRoom_NoNote : PySem.W.exmOne K (.ref a.c_NoRoom) (.ref a.c_NoNote) = some false
  k_NoRoom_NoNote : PySem.W.kitOne K (.ref a.c_NoRoom) (.ref a.c_NoNote) = some false
  x_NotOut_YardError : PySem.W.exmOne K (.ref a.c_NotOut) (.ref a.c_YardError) = some true
  k_NotOut_YardError : PySem.W.kitOne K (.ref a.c_NotOut) (.ref a.c_YardError) = some true
  x_NotOut_NoYard : PySem.W.exmOne K (.ref a.c_NotOut) (.ref a.c_NoYard) = some false
  k_NotOut_NoYard : PySem.W.kitOne K (.ref a.c_NotOut) (.ref a.c_NoYard) = some false
  x_NotOut_NoWish : PySem.W.exmOne K (.ref a.c_NotOut) (.ref a.c_NoWish) = some false
  k_NotOut_NoWish : PySem.W.kitOne K (.ref a.c_NotOut) (.ref a.c_NoWish) = some false
  x_NotOut_NoRoom : PySem.W.exmOne K (.ref a.c_NotOut) (.ref a.c_NoRoom) = some false
  k_NotOut_NoRoom : PySem.W.kitOne K (.ref a.c_NotOut) (.ref a.c_NoRoom) = some false
  x_NotOut_NotOut : PySem.W.exmOne K (.ref a.c_NotOut) (.ref a.c_NotOut) = some true
  k_NotOut_NotOut : PySem.W.kitOne K (.ref a.c_NotOut) (.ref a.c_NotOut) = some true
  x_NotOut_NoNote : PySem.W.exmOne K (.ref a.c_NotOut) (.ref a.c_NoNote) = some false
  k_NotOut_NoNote : PySem.W.kitOne K (.ref a.c_NotOut) (.ref a.c_NoNote) = some false
  x_NoNote_YardError : PySem.W.exmOne K (.ref a.c_NoNote) (.ref a.c_YardError) = some true
  k_NoNote_YardError : PySem.W.kitOne K (.ref a.c_NoNote) (.ref a.c_YardError) = some true
  x_NoNote_NoYard : PySem.W.exmOne K (.ref a.c_NoNote) (.ref a.c_NoYard) = some false
  k_NoNote_NoYard : PySem.W.kitOne K (.ref a.c_NoNote) (.ref a.c_NoYard) = some false
  x_NoNote_NoWish : PySem.W.exmOne K (.ref a.c_NoNote) (.ref a.c_NoWish) = some false
  k_NoNote_NoWish : PySem.W.kitOne K (.ref a.c_NoNote) (.ref a.c_NoWish) = some false
  x_NoNote_NoRoom : PySem.W.exmOne K (.ref a.c_NoNote) (.ref a.c_NoRoom) = some false
  k_NoNote_NoRoom : PySem.W.kitOne K (.ref a.c_NoNote) (.ref a.c_NoRoom) = some false
  x_NoNote_NotOut : PySem.W.exmOne K (.ref a.c_NoNote) (.ref a.c_NotOut) = some false
  k_NoNote_NotOut : PySem.W.kitOne K (.ref a.c_NoNote) (.ref a.c_NotOut) = some false
  x_NoNote_NoNote : PySem.W.exmOne K (.ref a.c_NoNote) (.ref a.c_NoNote) = some true
  k_NoNote_NoNote : PySem.W.kitOne K (.ref a.c_NoNote) (.ref a.c_NoNote) = some true
  z_ValueError : mg "ValueError" = none
  z_bool : mg "bool" = none
  z_int : mg "int" = none
  z_isinstance : mg "isinstance" = none
  z_len : mg "len" = none
  z_range : mg "range" = none
  v_MOST : ∃ t, mg "MOST" = some (.int 1152921504606846976 t)
/-! ### isinstance of a caught error (its class is known where the reading is answered) -/
def rIsX (K : PySem.W.Frag) (a : Addr) (cls : Value) (d : Option Addr) : List V → Hp → VK → Prop := fun xs H Q => ∃ D, cls = .ref D ∧ d = none ∧ ExcC K D ∧ rIsE K D a xs H Q
def rIsXT (K : PySem.W.Frag) (a : Addr) (cls : Value) (d : Option Addr) : List V → Hp → VK → Prop := fun xs H Q => ∃ (D tp : Addr) (cs : List V) (us : List Value) (b : Bool), cls = .ref D ∧ d = none ∧ ExcC K D ∧
  xs = [.ref a, .ref tp] ∧ H tp = some (.tup cs) ∧ Paired ClsV cs us ∧ PySem.W.kitAny K (.ref D) us = some b ∧ Q (.bl b) H
section
variable {X : Cx} {a : Addr} {oe : Obj} {pn : List (Addr × Obj)} {cls : Value} {d : Option Addr}
theorem call_isX (hz : Zc cls d oe) (hf : ∃ vs, oe.data = .fields vs) : CallR (X.suite a ((a, oe) :: pn)) (.builtin "isinstance") (rIsX X.K a cls d) := by
  intro pins s σ H xs us Q I r h
  obtain ⟨D, rfl, rfl, C, h⟩ := h
  exact call_isE C hz hf pins s σ H xs us Q I r h
theorem call_isXT (hz : Zc cls d oe) (hf : ∃ vs, oe.data = .fields vs) : CallR (X.suite a ((a, oe) :: pn)) (.builtin "isinstance") (rIsXT X.K a cls d) := by
  intro pins s σ H vals args Q inv rel ask
  rcases ask with ⟨D, tp, cs, want, b, rfl, rfl, ok, rfl, htup, pairs, ans, fin⟩
  rcases vals2 rel with ⟨x1, x2, rfl, rel1, rel2⟩
  have ex1 : x1 = Value.ref a := rel1
  have ex2 : x2 = Value.ref tp := rel2
  subst ex1 ex2
  have pinned := (inv.pin (a, oe) (List.mem_append.mpr (.inl List.mem_cons_self))).1
  have inst : PySem.W.InstAt s.heap a oe D none := by
    rcases oe with ⟨kind, dct, body, slots⟩
    rcases hz with ⟨z1, z2⟩
    rcases hf with ⟨fs, z3⟩
    simp only at z1 z2 z3
    subst z1; subst z2; subst z3
    exact ⟨pinned, rfl, rfl, trivial⟩
  have tup : ObjOk X.prog X.w H s.heap tp (.tup cs) := inv.hok tp _ htup
  rcases tup with ⟨_, members, each, obj, at1, kind1, size1, body1⟩
  have same := ClsV.all pairs each
  subst same
  rcases obj with ⟨kind, dct, body, slots⟩
  dsimp only at kind1 body1
  subst kind1; subst body1
  refine PySem.W.kia_tup (PySem.W.handS_kitx_exc ok.hg ok.hk ok.hs ok.hd ok.ha ok.hn ok.ht ok.hm) inv.kIn inst at1 ans (fun z => nomatch z) (fun tk => ?_)
  exact ⟨.bl b, H, inv.kept (t' := tk) (fun _ _ same => same), rfl, fin⟩
end
theorem iteTof {c : Bool} {A B : Prop} (hc : c = true) (h : A) : if c = true then A else B := by
  rw [if_pos hc]
  exact h
theorem iteFof {c : Bool} {A B : Prop} (hc : c = false) (h : B) : if c = true then A else B := by
  rw [hc, if_neg Bool.false_ne_true]
  exact h
/-! ### the mathematics -/
/-- how often 1 is doubled to fit w -/
def fit (w : Int) : Nat := Builtin.Int.intBits (w - 1)
theorem fit_spec {w : Int} (h1 : 1 ≤ w) (h2 : w ≤ 2 ^ 60) : fit w ≤ 60 ∧ w ≤ ((2 ^ fit w : Nat) : Int) ∧ ((2 ^ fit w : Nat) : Int) / 2 < w := by
  obtain ⟨n, rfl⟩ : ∃ n : Nat, w = (n : Int) + 1 := ⟨(w - 1).toNat, by omega⟩
  have e0 : (n : Int) + 1 - 1 = (n : Int) := by omega
  unfold fit Builtin.Int.intBits
  rw [e0]
  by_cases hn : n = 0
  · subst hn
    decide
  · rw [if_neg (by simpa using hn), Int.natAbs_natCast]
    have hlt : n < 2 ^ (n.log2 + 1) := Nat.lt_log2_self
    have hle : 2 ^ n.log2 ≤ n := Nat.log2_self_le hn
    have h60 : n < 2 ^ 60 := by
      have : (2 : Int) ^ 60 = ((2 ^ 60 : Nat) : Int) := by decide
      omega
    refine ⟨?_, by omega, ?_⟩
    · have : n.log2 < 60 := (Nat.log2_lt hn).mpr h60
      omega
    · rw [Nat.pow_succ]
      generalize 2 ^ n.log2 = z at hle
      omega
theorem pow_and_pred (k : Nat) : Builtin.bitAnd ((2 ^ k : Nat) : Int) (((2 ^ k : Nat) : Int) - 1) = 0 := by
  have hp : 0 < 2 ^ k := Nat.pow_pos (by decide)
  have e : ((2 ^ k : Nat) : Int) - 1 = ((2 ^ k - 1 : Nat) : Int) := by omega
  rw [e, PyProof.Rows.bitAnd_pp (Int.natCast_nonneg _) (Int.natCast_nonneg _), Int.toNat_natCast, Int.toNat_natCast, Nat.and_two_pow_sub_one_eq_mod, Nat.mod_self]
  rfl
/-- the script's cell at k -/
def cell (ns : List Int) (k : Nat) : Int := ns.getD k 0
abbrev MOST : Int := 1152921504606846976
/-! ### the promises -/
def spLaw (K : PySem.W.Frag) : Sp := fun vs H Q _ => ∃ (a : Addr) (ns : List Int), vs = [.ref a] ∧ SqL K H a (ns.map V.int) ∧ ns.length ≤ 63 ∧ ∀ H', Q (.bl true) H'
def spCell (K : PySem.W.Frag) : Sp := fun vs H Q _ => ∃ (a : Addr) (ns : List Int) (k : Nat), vs = [.ref a, .int k] ∧ SqL K H a (ns.map V.int) ∧ ns.length ≤ 63 ∧ Q (.int (cell ns k)) H
def spWhole : Sp := fun vs H Q _ => ∃ i : Int, vs = [.int i] ∧ Q (.bl true) H
def spDoubled : Sp := fun vs H Q _ => ∃ n : Nat, vs = [.int n] ∧ n ≤ 1000 ∧ Q (.int ((2 ^ n : Nat) : Int)) H
def spWant (K : PySem.W.Frag) : Sp := fun vs H Q _ => ∃ (a : Addr) (ns : List Int), vs = [.ref a] ∧ SqL K H a (ns.map V.int) ∧ ns.length ≤ 63 ∧ ∀ x : Int, Q (.int x) H
def spIsSize : Sp := fun vs H Q _ => ∃ k : Nat, vs = [.int ((2 ^ k : Nat) : Int)] ∧ k ≤ 60 ∧ Q (.bl true) H
def spSizeFor (a : Ad) : Sp := fun vs H Q E => ∃ w : Int, vs = [.int w] ∧ ((w < 1 ∨ w > MOST) → E (.ref a.c_NoWish) none H) ∧ (1 ≤ w → w ≤ MOST → Q (.int ((2 ^ fit w : Nat) : Int)) H)
def spRefused : Sp := fun vs H Q _ => ∃ w : Int, vs = [.int w] ∧ (w < 1 ∨ w > MOST) ∧ ∀ H', Q (.bl true) H'
def spHalved : Sp := fun vs H Q _ => ∃ k : Nat, vs = [.int ((2 ^ k : Nat) : Int)] ∧ Q (.int 1) H
section
variable {P : Program} {w : World} {K : PySem.W.Frag} {mg : Str → Option Value} {base : Heap} {a : Ad}
theorem ok_cell (T : Txt K mg a) : FnOk P w K mg base CX0 1 a.f_law_cell_at a.d_law_cell_at ["_law_script", "_law_k"] (spCell K) := by
  refine T.law_cell_at.fn.ok sc_law_cell_at (fun vs H Q E h => ?_) (fun cdv A outer s H vs Q E hr h => ?_)
  · obtain ⟨l, ns, k, rfl, _⟩ := h
    rfl
  · obtain ⟨l, ns, k, rfl, hS, hl, q⟩ := h
    refine ⟨_, pss_cons (ps_if (pt_cmpR op_lt (pv 1) (pe_callB call_len_seq (by rfl) T.z_len PySem.boot_len (pa_cons (pv 0) pa_nil)) (nomark _)) (pss_one (ps_ret (pe_ix ix_list (pv 0) (pv 1) (fun _ _ => rfl)))) pss_nil)
      (pss_one (ps_ret pe_int)), ?_⟩
    refine ⟨_, rfl, _, rfl, l, _, rfl, .inl hS, _, _, rfl, rfl, _, rfl, ?_⟩
    by_cases h : k < ns.length
    · have hd : decide ((k : Int) < ((ns.map V.int).length : Int)) = true := by
        rw [List.length_map]
        exact decide_eq_true (by omega)
      rw [hd]
      refine iteT ?_
      refine ⟨_, rfl, _, rfl, l, _, _, _, rfl, rfl, hS, atI_nat (by rw [List.getElem?_map, List.getElem?_eq_getElem h]; rfl), ?_⟩
      have e : cell ns k = ns[k] := by simp [cell, List.getD, List.getElem?_eq_getElem h]
      rw [e] at q
      exact q
    · have hd : decide ((k : Int) < ((ns.map V.int).length : Int)) = false := by
        rw [List.length_map]
        exact decide_eq_false (by omega)
      rw [hd]
      refine iteF ?_
      have e : cell ns k = 0 := by simp [cell, List.getD, List.getElem?_eq_none (Nat.le_of_not_lt h)]
      rw [e] at q
      exact q
theorem ok_whole (T : Txt K mg a) : FnOk P w K mg base CX0 1 a.f_law_whole a.d_law_whole ["_law_found"] spWhole := by
  refine T.law_whole.fn.ok sc_law_whole (fun vs H Q E h => ?_) (fun cdv A outer s H vs Q E hr h => ?_)
  · obtain ⟨i, rfl, _⟩ := h
    rfl
  · obtain ⟨i, rfl, q⟩ := h
    refine ⟨_, pss_one (ps_ret (pe_and (pe_callB call_isi (by rfl) T.z_isinstance PyProof.Rows.boot_isinstance (pa_cons (pv 0) (pa_cons (pe_bltn (v := .ty "int") (by rfl) T.z_int PyProof.Rows.boot_int rfl) pa_nil)))
      (pe_one (pe_not (pe_callB call_isi (by rfl) T.z_isinstance PyProof.Rows.boot_isinstance (pa_cons (pv 0) (pa_cons (pe_bltn (v := .ty "bool") (by rfl) T.z_bool PyProof.Rows.boot_bool rfl) pa_nil))))))), ?_⟩
    refine ⟨_, rfl, _, _, _, _, true, rfl, .ty _, .base (.int _), kit_ty (by decide +kernel), true, rfl, iteT ?_⟩
    refine ⟨_, rfl, _, _, _, _, false, rfl, .ty _, .base (.int _), kit_ty (by decide +kernel), false, rfl, ?_⟩
    exact q
theorem ok_doubled (T : Txt K mg a) : FnOk P w K mg base CX0 1 a.f_law_doubled a.d_law_doubled ["_law_times"] spDoubled := by
  refine T.law_doubled.fn.ok sc_law_doubled (fun vs H Q E h => ?_) (fun cdv A outer s H vs Q E hr h => ?_)
  · obtain ⟨i, rfl, _⟩ := h
    rfl
  · obtain ⟨n, rfl, hn, q⟩ := h
    refine ⟨_, pss_cons (ps_set (i := 1) sc_law_doubled.nd rfl (Or.inl rfl) pe_int)
      (pss_cons (ps_for PassesOwn.never rfl (pi_range1 rfl T.z_range (pa_cons (pv 0) pa_nil)) (pg_name (i := 2) sc_law_doubled.nd rfl (Or.inl rfl))
        (pss_one (ps_set (i := 1) sc_law_doubled.nd rfl (Or.inl rfl) (pe_op op_mulX (pv 1) pe_int))))
      (pss_one (ps_ret (pv 1)))), ?_⟩
    refine ⟨_, rfl, n, rfl, by omega, by omega, ?_⟩
    refine for_range (n := n) (fun i σ H' => i ≤ n ∧ H' = H ∧ ∃ x, σ = [some (.int n), some (.int ((2 ^ i : Nat) : Int)), x]) ⟨Nat.zero_le _, rfl, none, rfl⟩ ?_ ?_
    · rintro i σ H' hi ⟨_, rfl, x, rfl⟩
      refine ⟨_, rfl, _, _, rfl, rfl, mulx_ok (a := i + 1) (b := 3) ?_ (by decide) (by omega), ?_⟩
      · rw [Int.natAbs_natCast]
        exact Nat.pow_lt_pow_right (by decide) (by omega)
      · refine ⟨hi, rfl, some (.int (0 + i)), ?_⟩
        rw [Nat.pow_succ, Int.natCast_mul]
        rfl
    · rintro σ H' ⟨_, rfl, x, rfl⟩
      exact ⟨_, rfl, q⟩
theorem emod_nat (x : Int) {n : Nat} (h : 0 < n) : ∃ m : Nat, x % (n : Int) = (m : Int) ∧ m < n := by
  have h1 := Int.emod_nonneg x (show (n : Int) ≠ 0 by omega)
  have h2 := Int.emod_lt_of_pos x (show (0 : Int) < n by omega)
  exact ⟨(x % (n : Int)).toNat, by omega, by omega⟩
theorem ok_is_size (T : Txt K mg a) : FnOk P w K mg base CX0 1 a.f_is_size a.d_is_size ["number"] spIsSize := by
  obtain ⟨tM, mM⟩ := T.v_MOST
  refine T.is_size.fn.ok sc_is_size (fun vs H Q E h => ?_) (fun cdv A outer s H vs Q E hr h => ?_)
  · obtain ⟨i, rfl, _⟩ := h
    rfl
  · obtain ⟨k, rfl, hk, q⟩ := h
    refine ⟨_, pss_one (ps_ret (pe_and (pe_chain op_le op_le pe_int (pv 0) (pe_glob (v := .int MOST) rfl mM ⟨_, rfl⟩))
      (pe_one (pe_cmpR op_eq (pe_op op_and (pv 0) (pe_op op_sub (pv 0) pe_int)) pe_int (nomark _))))), ?_⟩
    have hp : 0 < 2 ^ k := Nat.pow_pos (by decide)
    have h60 : 2 ^ k ≤ 2 ^ 60 := Nat.pow_le_pow_right (by decide) hk
    refine ⟨_, rfl, _, _, rfl, rfl, _, rfl, iteTof (decide_eq_true (by omega)) ?_⟩
    refine ⟨_, _, rfl, rfl, _, rfl, iteTof (decide_eq_true (by show ((2 ^ k : Nat) : Int) ≤ 1152921504606846976; omega)) ?_⟩
    refine ⟨_, rfl, _, rfl, _, _, rfl, rfl, _, _, rfl, rfl, rfl, ?_⟩
    show Q (.bl (decide (V.int (Builtin.bitAnd _ _) = V.int 0))) _
    rw [pow_and_pred, decide_eq_true rfl]
    exact q
theorem ok_halved (T : Txt K mg a) : FnOk P w K mg base CX0 1 a.f_law_halved a.d_law_halved ["_law_size"] spHalved := by
  refine T.law_halved.fn.ok sc_law_halved (fun vs H Q E h => ?_) (fun cdv A outer s H vs Q E hr h => ?_)
  · obtain ⟨i, rfl, _⟩ := h
    rfl
  · obtain ⟨k, rfl, q⟩ := h
    refine ⟨_, pss_cons (ps_while PassesOwn.never (PW.pt (pw_and (pt_cmpR op_gt (pv 0) pe_int (nomark _)) (pw_and1 (pt_cmpR op_eq (pe_op op_mod (pv 0) pe_int) pe_int (nomark _)))))
        (pss_one (ps_set (i := 0) sc_law_halved.nd rfl (Or.inl rfl) (pe_op op_fdiv (pv 0) pe_int))))
      (pss_one (ps_ret (pv 0))), ?_⟩
    refine while_by (fun σ H' => H' = H ∧ ∃ j : Nat, σ = [some (.int ((2 ^ j : Nat) : Int))]) (fun σ H' => match σ with | [some (.int x)] => x.toNat | _ => 0) ⟨rfl, k, rfl⟩ ?_ ?_
    · rintro σ H' ⟨rfl, j, rfl⟩
      refine ⟨_, rfl, _, _, rfl, rfl, _, rfl, ?_⟩
      cases j with
      | zero =>
        refine iteFof (by decide) (iteF ?_)
        exact ⟨_, rfl, q⟩
      | succ j =>
        have hp : 0 < 2 ^ j := Nat.pow_pos (by decide)
        have e2 : ((2 ^ (j + 1) : Nat) : Int) = ((2 ^ j : Nat) : Int) * 2 := by rw [Nat.pow_succ, Int.natCast_mul]; rfl
        refine iteTof (decide_eq_true (by omega)) ?_
        refine ⟨_, rfl, _, _, rfl, rfl, by show (0 : Int) < 2; decide, rfl, _, rfl, ?_⟩
        refine iteTof ?_ ?_
        · show decide (V.int (_ % 2) = V.int 0) = true
          rw [e2, Int.mul_emod_left]
          rfl
        · refine ⟨_, rfl, _, _, rfl, rfl, ⟨by decide, by decide⟩, ?_⟩
          have e3 : ((2 ^ (j + 1) : Nat) : Int) / 2 = ((2 ^ j : Nat) : Int) := by omega
          refine ⟨⟨rfl, j, ?_⟩, ?_⟩
          · show [some (V.int (((2 ^ (j + 1) : Nat) : Int) / 2))] = _
            rw [e3]
          · show (((2 ^ (j + 1) : Nat) : Int) / 2).toNat < ((2 ^ (j + 1) : Nat) : Int).toNat
            rw [e3]
            omega
    · rintro σ H' Q1 Q2 hQ ⟨v, hv, i, j, e1, e2, k, ek, h⟩
      refine ⟨v, hv, i, j, e1, e2, k, ek, ?_⟩
      cases k with
      | false => exact iteF (hQ _ _ (by simpa using h))
      | true =>
        refine iteT ?_
        rw [if_pos rfl] at h
        obtain ⟨v, hv, i, j, e1, e2, h0, h1, k, ek, h⟩ := h
        exact ⟨v, hv, i, j, e1, e2, h0, h1, k, ek, by cases k <;> exact hQ _ _ (by simpa using h)⟩
theorem ok_size_for (T : Txt K mg a) : FnOk P w K mg base (L2.CX P w) 1 a.f_size_for a.d_size_for ["want"] (spSizeFor a) := by
  obtain ⟨tM, mM⟩ := T.v_MOST
  refine T.size_for.fn.okX sc_size_for (fun vs H Q E h => ?_) (fun cdv A outer s H vs Q E hr h => ?_)
  · obtain ⟨i, rfl, _⟩ := h
    rfl
  · obtain ⟨x, rfl, kE, kQ⟩ := h
    refine ⟨_, pss_cons (ps_if (PW.pt (pw_or (pt_cmpR op_lt (pv 0) pe_int (nomark _)) (pw_or1 (pt_cmpR op_gt (pv 0) (pe_glob (v := .int MOST) rfl mM ⟨_, rfl⟩) (nomark _)))))
        (pss_one (ps_raise rfl (takes_of rfl rfl rfl rfl) (pmk_own PySem.F.excBase_ValueError T.e_NoWish.x T.e_NoWish.g T.e_NoWish.k (raises_own T.e_NoWish.is.hs T.e_NoWish.t) (by exact rfl)))) pss_nil)
      (pss_one (ps_ret (pe_op op_shlN pe_int (pe_bits (pe_op op_sub (pv 0) pe_int))))), ?_⟩
    refine ⟨_, rfl, _, _, rfl, rfl, _, rfl, ?_⟩
    by_cases h1 : x < 1
    · exact iteTof (decide_eq_true h1) (iteTof rfl (kE (.inl h1)))
    · refine iteFof (decide_eq_false h1) ?_
      refine ⟨_, rfl, _, _, rfl, rfl, _, rfl, ?_⟩
      by_cases h2 : x > MOST
      · exact iteTof (decide_eq_true h2) (kE (.inr h2))
      · refine iteFof (decide_eq_false h2) ?_
        have f := fit_spec (w := x) (by omega) (by have h3 : ¬ x > 1152921504606846976 := h2; omega)
        refine ⟨_, rfl, _, _, rfl, rfl, _, rfl, 1, fit x, rfl, rfl, shl_ok (n := 1) (by decide) (by omega), ?_⟩
        have e : (1 : Int) * 2 ^ fit x = ((2 ^ fit x : Nat) : Int) := by
          rw [Int.one_mul]
          exact PySem.W.kbt_cast _
        rw [e]
        exact kQ (by omega) (by have h3 : ¬ x > 1152921504606846976 := h2; show x ≤ 1152921504606846976; omega)
theorem ok_refused (T : Txt K mg a) : FnOk P w K mg base CX0 2 a.f_law_refused a.d_law_refused ["_law_want_here"] spRefused := by
  have GS : FnOk P w K mg base (L2.CX P w) 1 a.f_size_for a.d_size_for ["want"] (spSizeFor a) := ok_size_for T
  refine T.law_refused.fn.ok sc_law_refused (fun vs H Q E h => ?_) (fun cdv A outer s H vs Q E hr h => ?_)
  · obtain ⟨i, rfl, _⟩ := h
    rfl
  · obtain ⟨x, rfl, hx, q⟩ := h
    refine ⟨_, pss_cons (ps_try_only (tb := fun W => tDrop (tCallS (spSizeFor a) (WE W) (tCons (tVar 0) tNil))) (ts := fun _ _ _ => tRet (tC (.bl true))) (Wout := fun _ _ _ _ => False) rfl rfl ⟨rfl, by decide, Or.inl T.e_NoWish.g⟩ takes0
        (fun W pn xe tk _ => pss_one (ps_expr (pe_callS GS hr rfl T.size_for.mg T.size_for.fn.kp T.size_for.bd (fun σ => passAt tk σ) (by exact (pa_cons (pv 0) pa_nil)))))
        (fun _ _ _ _ _ _ _ => pss_one (ps_ret pe_bl)))
      (pss_one (ps_ret pe_bl)), ?_⟩
    refine ⟨_, rfl, x, rfl, fun _ => ?_, fun h1 h2 => ?_⟩
    · exact ⟨true, T.x_NoWish_NoWish, fun _ a0 _ => q _, fun z => Bool.noConfusion z⟩
    · exfalso
      omega
theorem ok_refused_by_any (T : Txt K mg a) : FnOk P w K mg base CX0 2 a.f_law_refused_by_any a.d_law_refused_by_any ["_law_want_here"] spRefused := by
  have GS : FnOk P w K mg base (L2.CX P w) 1 a.f_size_for a.d_size_for ["want"] (spSizeFor a) := ok_size_for T
  refine T.law_refused_by_any.fn.ok sc_law_refused_by_any (fun vs H Q E h => ?_) (fun cdv A outer s H vs Q E hr h => ?_)
  · obtain ⟨i, rfl, _⟩ := h
    rfl
  · obtain ⟨x, rfl, hx, q⟩ := h
    refine ⟨_, pss_cons (ps_try_as (i := 1) (tb := fun W => tDrop (tCallS (spSizeFor a) (WE W) (tCons (tVar 0) tNil)))
          (ts := fun a0 cls d => tRet (tAndV (tCB (rIsX K a0 cls d) (tCons (tVar 1) (tCons (tC (.ty "ValueError")) tNil))) (tNotV (tCB (rIsXT K a0 cls d) (tCons (tVar 1) (tCons (tTup (tCons (tC (.ref a.c_NoNote)) (tCons (tC (.ref a.c_NoRoom)) (tCons (tC (.ref a.c_NotOut)) (tCons (tC (.ref a.c_NoYard)) tNil))))) tNil))))))
          (Wout := fun _ _ _ _ => False) rfl rfl sc_law_refused_by_any.nd rfl rfl ⟨rfl, by decide, Or.inl T.e_YardError.g⟩ takes0
        (fun W pn xe tk _ => pss_one (ps_expr (pe_callS GS hr rfl T.size_for.mg T.size_for.fn.kp T.size_for.bd (fun σ => passAt tk σ) (by exact (pa_cons (pv 0) pa_nil)))))
        (fun a0 oe cls d pn hz hf => pss_one (ps_ret (pe_and (pe_callB (call_isX hz hf) (by rfl) T.z_isinstance PyProof.Rows.boot_isinstance (pa_cons (pv 1) (pa_cons (pe_bltn (v := .ty "ValueError") (by rfl) T.z_ValueError (by decide +kernel) rfl) pa_nil)))
          (pe_one (pe_not (pe_callB (call_isXT hz hf) (by rfl) T.z_isinstance PyProof.Rows.boot_isinstance (pa_cons (pv 1) (pa_cons (pe_tup (pa_cons (pe_glob rfl T.e_NoNote.g rfl) (pa_cons (pe_glob rfl T.e_NoRoom.g rfl) (pa_cons (pe_glob rfl T.e_NotOut.g rfl) (pa_cons (pe_glob rfl T.e_NoYard.g rfl) pa_nil))))) pa_nil)))))))))
      (pss_one (ps_ret pe_bl)), ?_⟩
    refine ⟨_, rfl, x, rfl, fun _ => ?_, fun h1 h2 => ?_⟩
    · refine ⟨true, T.x_NoWish_YardError, fun _ a0 _ => ?_, fun z => Bool.noConfusion z⟩
      refine ⟨_, rfl, _, rfl, rfl, T.e_NoWish.is, _, _, true, rfl, fun u hu => hu, T.e_NoWish.ve, true, rfl, iteT ?_⟩
      refine ⟨_, rfl, by show 4 ≤ sizeLine; decide, fun t ht => ?_⟩
      refine ⟨_, t, _, _, false, rfl, rfl, T.e_NoWish.is, rfl, upd_same, .cons (.own _) (.cons (.own _) (.cons (.own _) (.cons (.own _) .nil))), ?_, false, rfl, q _⟩
      exact kitAny_cons T.k_NoWish_NoNote (fun _ => kitAny_cons T.k_NoWish_NoRoom (fun _ => kitAny_cons T.k_NoWish_NotOut (fun _ => kitAny_cons T.k_NoWish_NoYard (fun _ => rfl) (fun z => nomatch z)) (fun z => nomatch z)) (fun z => nomatch z)) (fun z => nomatch z)
    · exfalso
      omega
theorem ok_want (T : Txt K mg a) : FnOk P w K mg base CX0 2 a.f_law_want a.d_law_want ["_law_script"] (spWant K) := by
  have GC : FnOk P w K mg base CX0 1 a.f_law_cell_at a.d_law_cell_at ["_law_script", "_law_k"] (spCell K) := ok_cell T
  have GD : FnOk P w K mg base CX0 1 a.f_law_doubled a.d_law_doubled ["_law_times"] spDoubled := ok_doubled T
  refine T.law_want.fn.ok sc_law_want (fun vs H Q E h => ?_) (fun cdv A outer s H vs Q E hr h => ?_)
  · obtain ⟨l, ns, rfl, _⟩ := h
    rfl
  · obtain ⟨l, ns, rfl, hS, hl, q⟩ := h
    refine ⟨_, pss_cons (ps_set (i := 1) sc_law_want.nd rfl (Or.inl rfl) (pe_op op_mod (pe_call GC hr rfl T.law_cell_at.mg T.law_cell_at.fn.kp T.law_cell_at.bd .nil pass0 (pa_cons (pv 0) (pa_cons pe_int pa_nil))) pe_int))
      (pss_cons (ps_set (i := 2) sc_law_want.nd rfl (Or.inl rfl) (pe_call GC hr rfl T.law_cell_at.mg T.law_cell_at.fn.kp T.law_cell_at.bd .nil pass0 (pa_cons (pv 0) (pa_cons pe_int pa_nil))))
      (pss_cons (ps_if (pt_cmpR op_lt (pv 1) pe_int (nomark _)) (pss_one (ps_ret (pe_op op_sub (pe_op op_add (pe_call GD hr rfl T.law_doubled.mg T.law_doubled.fn.kp T.law_doubled.bd .nil pass0 (pa_cons (pe_op op_mod (pv 2) pe_int) pa_nil))
          (pe_op op_mod (pe_call GC hr rfl T.law_cell_at.mg T.law_cell_at.fn.kp T.law_cell_at.bd .nil pass0 (pa_cons (pv 0) (pa_cons pe_int pa_nil))) pe_int)) pe_int))) pss_nil)
      (pss_cons (ps_if (pt_cmpR op_lt (pv 1) pe_int (nomark _)) (pss_one (ps_ret (pe_op op_add pe_int (pe_op op_mod (pv 2) (pe_op op_pow pe_int pe_int))))) pss_nil)
      (pss_cons (ps_if (pt_cmpR op_lt (pv 1) pe_int (nomark _)) (pss_one (ps_ret (pe_op op_sub (pe_un un_neg pe_int) (pe_op op_mod (pv 2) (pe_op op_pow pe_int pe_int))))) pss_nil)
      (pss_cons (ps_if (pt_cmpR op_lt (pv 1) pe_int (nomark _)) (pss_one (ps_ret (pe_op op_add (pe_op op_add (pe_op op_pow pe_int pe_int) pe_int) (pe_op op_mod (pv 2) (pe_op op_pow pe_int pe_int))))) pss_nil)
      (pss_one (ps_ret (pe_op op_mod (pv 2) pe_int)))))))), ?_⟩
    obtain ⟨n, en, hn⟩ := emod_nat (cell ns 1) (n := 62) (by decide)
    refine ⟨_, rfl, l, ns, 0, rfl, hS, hl, _, _, rfl, rfl, by show (0 : Int) < 8; decide, ?_⟩
    refine ⟨_, rfl, l, ns, 1, rfl, hS, hl, ?_⟩
    refine ⟨_, rfl, _, _, rfl, rfl, _, rfl, ite2 (fun _ => ?_) (fun _ => ?_)⟩
    · refine ⟨_, rfl, _, _, rfl, rfl, by show (0 : Int) < 62; decide, n, by rw [← en]; rfl, by omega, ?_⟩
      exact ⟨_, rfl, l, ns, 2, rfl, hS, hl, _, _, rfl, rfl, by show (0 : Int) < 3; decide, _, _, rfl, rfl, _, _, rfl, rfl, q _⟩
    refine ⟨_, rfl, _, _, rfl, rfl, _, rfl, ite2 (fun _ => ?_) (fun _ => ?_)⟩
    · exact ⟨_, rfl, _, _, rfl, rfl, ⟨by decide, by decide, by decide⟩, _, _, rfl, rfl, by show (0 : Int) < 2 ^ 60; decide, _, _, rfl, rfl, q _⟩
    refine ⟨_, rfl, _, _, rfl, rfl, _, rfl, ite2 (fun _ => ?_) (fun _ => ?_)⟩
    · exact ⟨_, rfl, _, rfl, _, _, rfl, rfl, ⟨by decide, by decide, by decide⟩, _, _, rfl, rfl, by show (0 : Int) < 10 ^ 30; decide, _, _, rfl, rfl, q _⟩
    refine ⟨_, rfl, _, _, rfl, rfl, _, rfl, ite2 (fun _ => ?_) (fun _ => ?_)⟩
    · exact ⟨_, _, rfl, rfl, ⟨by decide, by decide, by decide⟩, _, _, rfl, rfl, _, rfl, _, _, rfl, rfl, ⟨by decide, by decide, by decide⟩, _, _, rfl, rfl, by show (0 : Int) < 10 ^ 30; decide, _, _, rfl, rfl, q _⟩
    · exact ⟨_, rfl, _, _, rfl, rfl, by show (0 : Int) < 41; decide, q _⟩
theorem ok_law (T : Txt K mg a) : FnOk P w K mg base CX0 3 a.f_law a.d_law ["_law_script"] (spLaw K) := by
  have GW : FnOk P w K mg base CX0 1 a.f_law_whole a.d_law_whole ["_law_found"] spWhole := ok_whole T
  have GA : FnOk P w K mg base CX0 2 a.f_law_want a.d_law_want ["_law_script"] (spWant K) := ok_want T
  have GS : FnOk P w K mg base (L2.CX P w) 1 a.f_size_for a.d_size_for ["want"] (spSizeFor a) := ok_size_for T
  have GI : FnOk P w K mg base CX0 1 a.f_is_size a.d_is_size ["number"] spIsSize := ok_is_size T
  have GH : FnOk P w K mg base CX0 1 a.f_law_halved a.d_law_halved ["_law_size"] spHalved := ok_halved T
  have GR : FnOk P w K mg base CX0 2 a.f_law_refused a.d_law_refused ["_law_want_here"] spRefused := ok_refused T
  have GB : FnOk P w K mg base CX0 2 a.f_law_refused_by_any a.d_law_refused_by_any ["_law_want_here"] spRefused := ok_refused_by_any T
  obtain ⟨tM, mM⟩ := T.v_MOST
  refine T.law.fn.ok sc_law (fun vs H Q E h => ?_) (fun cdv A outer s H vs Q E hr h => ?_)
  · obtain ⟨l, ns, rfl, _⟩ := h
    rfl
  · obtain ⟨l, ns, rfl, hS, hl, q⟩ := h
    have hr1 : Room 1 _ := hr.mono (by decide)
    refine ⟨_, pss_cons (ps_set (i := 1) sc_law.nd rfl (Or.inl rfl) (pe_call GA hr rfl T.law_want.mg T.law_want.fn.kp T.law_want.bd .nil pass0 (pa_cons (pv 0) pa_nil)))
      (pss_cons (ps_if (PW.pt (pw_or (pt_cmpR op_lt (pv 1) pe_int (nomark _)) (pw_or1 (pt_cmpR op_gt (pv 1) (pe_op op_pow pe_int pe_int) (nomark _)))))
        (pss_one (ps_ret (pe_and (pe_call GR hr rfl T.law_refused.mg T.law_refused.fn.kp T.law_refused.bd .nil pass0 (pa_cons (pv 1) pa_nil)) (pe_one (pe_call GB hr rfl T.law_refused_by_any.mg T.law_refused_by_any.fn.kp T.law_refused_by_any.bd .nil pass0 (pa_cons (pv 1) pa_nil)))))) pss_nil)
      (pss_cons (ps_set (i := 2) sc_law.nd rfl (Or.inl rfl) (pe_call GS hr1 rfl T.size_for.mg T.size_for.fn.kp T.size_for.bd .nil passL (pa_cons (pv 1) pa_nil)))
      (pss_cons (ps_if (PW.pt (pw_or (pt_not (pt_val (pe_call GW hr1 rfl T.law_whole.mg T.law_whole.fn.kp T.law_whole.bd .nil pass0 (pa_cons (pv 2) pa_nil))))
          (pw_or (pt_cmpR op_lt (pv 2) (pv 1) (nomark _)) (pw_or1 (pt_cmpR op_ge (pe_op op_fdiv (pv 2) pe_int) (pv 1) (nomark _)))))) (pss_one (ps_ret pe_bl)) pss_nil)
      (pss_one (ps_ret (pe_and (pe_cmpR op_eq (pe_call GH hr1 rfl T.law_halved.mg T.law_halved.fn.kp T.law_halved.bd .nil pass0 (pa_cons (pv 2) pa_nil)) pe_int (nomark _))
        (pe_and (pe_cmpR op_isBl (pe_call GI hr1 rfl T.is_size.mg T.is_size.fn.kp T.is_size.bd .nil pass0 (pa_cons (pv 2) pa_nil)) pe_bl (nomark _))
        (pe_one (pe_cmpR op_eq (pe_glob (v := .int MOST) rfl mM ⟨_, rfl⟩) (pe_op op_pow pe_int pe_int) (nomark _)))))))))), ?_⟩
    refine ⟨_, rfl, l, ns, rfl, hS, hl, fun x => ?_⟩
    refine ⟨_, rfl, _, _, rfl, rfl, _, rfl, ?_⟩
    by_cases h1 : x < 1
    · refine iteTof (decide_eq_true h1) (iteTof rfl ?_)
      exact ⟨_, rfl, x, rfl, .inl h1, fun H1 => ⟨true, rfl, iteT ⟨_, rfl, x, rfl, .inl h1, fun H2 => q _⟩⟩⟩
    refine iteFof (decide_eq_false h1) ?_
    refine ⟨_, rfl, _, _, rfl, rfl, ⟨by decide, by decide, by decide⟩, _, _, rfl, rfl, _, rfl, ?_⟩
    by_cases h2 : x > 2 ^ 60
    · have h3 : x > MOST := h2
      refine iteTof (decide_eq_true h2) ?_
      exact ⟨_, rfl, x, rfl, .inr h3, fun H1 => ⟨true, rfl, iteT ⟨_, rfl, x, rfl, .inr h3, fun H2 => q _⟩⟩⟩
    refine iteFof (decide_eq_false h2) ?_
    have h3 : x ≤ 1152921504606846976 := Int.not_lt.mp h2
    obtain ⟨f1, f2, f3⟩ := fit_spec (w := x) (by omega) h3
    refine ⟨_, rfl, x, rfl, fun z => ?_, fun _ _ => ?_⟩
    · exfalso
      have : x < 1 ∨ x > 1152921504606846976 := z
      omega
    refine ⟨_, rfl, _, rfl, true, rfl, iteF ?_⟩
    refine ⟨_, rfl, _, rfl, _, _, rfl, rfl, _, rfl, iteFof (decide_eq_false (by omega)) ?_⟩
    refine ⟨_, rfl, _, _, rfl, rfl, ⟨by decide, by decide⟩, _, rfl, _, _, rfl, rfl, _, rfl, iteFof (decide_eq_false (by omega)) ?_⟩
    refine ⟨_, rfl, _, rfl, rfl, _, rfl, iteT ?_⟩
    refine ⟨_, rfl, _, rfl, f1, _, _, rfl, rfl, _, rfl, iteT ?_⟩
    refine ⟨_, _, rfl, rfl, ⟨by decide, by decide, by decide⟩, rfl, ?_⟩
    exact q _
end
theorem all_mk {P : Program} {w : World} {K : PySem.W.Frag} {h : Heap} {mg : Str → Option Value} {fa : Addr} (X : K.In h) (G : h.Ns mainGlobals mg) (hfa : mg "law" = some (.ref fa))
    {c_YardError : Addr}
    {c_NoYard : Addr}
    {c_NoWish : Addr}
    {c_NoRoom : Addr}
    {c_NotOut : Addr}
    {c_NoNote : Addr}
    {f_is_size : Addr} {od_is_size an_is_size : Option Addr} {sl_is_size : Array (Option Value)} {oc_is_size kV_is_size dc_is_size pm_is_size cd_is_size ct_is_size : Value}
    {f_size_for : Addr} {od_size_for an_size_for : Option Addr} {sl_size_for : Array (Option Value)} {oc_size_for kV_size_for dc_size_for pm_size_for cd_size_for ct_size_for : Value}
    {f_law_whole : Addr} {od_law_whole an_law_whole : Option Addr} {sl_law_whole : Array (Option Value)} {oc_law_whole kV_law_whole dc_law_whole pm_law_whole cd_law_whole ct_law_whole : Value}
    {f_law_cell_at : Addr} {od_law_cell_at an_law_cell_at : Option Addr} {sl_law_cell_at : Array (Option Value)} {oc_law_cell_at kV_law_cell_at dc_law_cell_at pm_law_cell_at cd_law_cell_at ct_law_cell_at : Value}
    {f_law_doubled : Addr} {od_law_doubled an_law_doubled : Option Addr} {sl_law_doubled : Array (Option Value)} {oc_law_doubled kV_law_doubled dc_law_doubled pm_law_doubled cd_law_doubled ct_law_doubled : Value}
    {f_law_want : Addr} {od_law_want an_law_want : Option Addr} {sl_law_want : Array (Option Value)} {oc_law_want kV_law_want dc_law_want pm_law_want cd_law_want ct_law_want : Value}
    {f_law_refused : Addr} {od_law_refused an_law_refused : Option Addr} {sl_law_refused : Array (Option Value)} {oc_law_refused kV_law_refused dc_law_refused pm_law_refused cd_law_refused ct_law_refused : Value}
    {f_law_refused_by_any : Addr} {od_law_refused_by_any an_law_refused_by_any : Option Addr} {sl_law_refused_by_any : Array (Option Value)} {oc_law_refused_by_any kV_law_refused_by_any dc_law_refused_by_any pm_law_refused_by_any cd_law_refused_by_any ct_law_refused_by_any : Value}
    {f_law_halved : Addr} {od_law_halved an_law_halved : Option Addr} {sl_law_halved : Array (Option Value)} {oc_law_halved kV_law_halved dc_law_halved pm_law_halved cd_law_halved ct_law_halved : Value}
    {f_law : Addr} {od_law an_law : Option Addr} {sl_law : Array (Option Value)} {oc_law kV_law dc_law pm_law cd_law ct_law : Value}
    {t_MOST : Nat}
    (g_YardError : PySem.W.nsIn K mainGlobals "YardError" = some (some (.ref c_YardError)))
    (g_NoYard : PySem.W.nsIn K mainGlobals "NoYard" = some (some (.ref c_NoYard)))
    (g_NoWish : PySem.W.nsIn K mainGlobals "NoWish" = some (some (.ref c_NoWish)))
    (g_NoRoom : PySem.W.nsIn K mainGlobals "NoRoom" = some (some (.ref c_NoRoom)))
    (g_NotOut : PySem.W.nsIn K mainGlobals "NotOut" = some (some (.ref c_NotOut)))
    (g_NoNote : PySem.W.nsIn K mainGlobals "NoNote" = some (some (.ref c_NoNote)))
    (a_is_size : PySem.W.nsIn K mainGlobals "is_size" = some (some (.ref f_is_size)))
    (l_is_size : K.lookup f_is_size = some ⟨oc_is_size, od_is_size, .func (PySem.W.fnOf "is_size" "is_size" (defArgs s_is_size) (defBody s_is_size) (defScope s_is_size) .none kV_is_size dc_is_size pm_is_size an_is_size cd_is_size ct_is_size), sl_is_size⟩)
    (c_is_size : PySem.W.codeIn K cd_is_size "is_size" = true)
    (k_is_size : PySem.W.keepIn K (.ref f_is_size) = true)
    (a_size_for : PySem.W.nsIn K mainGlobals "size_for" = some (some (.ref f_size_for)))
    (l_size_for : K.lookup f_size_for = some ⟨oc_size_for, od_size_for, .func (PySem.W.fnOf "size_for" "size_for" (defArgs s_size_for) (defBody s_size_for) (defScope s_size_for) .none kV_size_for dc_size_for pm_size_for an_size_for cd_size_for ct_size_for), sl_size_for⟩)
    (c_size_for : PySem.W.codeIn K cd_size_for "size_for" = true)
    (k_size_for : PySem.W.keepIn K (.ref f_size_for) = true)
    (a_law_whole : PySem.W.nsIn K mainGlobals "_law_whole" = some (some (.ref f_law_whole)))
    (l_law_whole : K.lookup f_law_whole = some ⟨oc_law_whole, od_law_whole, .func (PySem.W.fnOf "_law_whole" "_law_whole" (defArgs s_law_whole) (defBody s_law_whole) (defScope s_law_whole) .none kV_law_whole dc_law_whole pm_law_whole an_law_whole cd_law_whole ct_law_whole), sl_law_whole⟩)
    (c_law_whole : PySem.W.codeIn K cd_law_whole "_law_whole" = true)
    (k_law_whole : PySem.W.keepIn K (.ref f_law_whole) = true)
    (a_law_cell_at : PySem.W.nsIn K mainGlobals "_law_cell_at" = some (some (.ref f_law_cell_at)))
    (l_law_cell_at : K.lookup f_law_cell_at = some ⟨oc_law_cell_at, od_law_cell_at, .func (PySem.W.fnOf "_law_cell_at" "_law_cell_at" (defArgs s_law_cell_at) (defBody s_law_cell_at) (defScope s_law_cell_at) .none kV_law_cell_at dc_law_cell_at pm_law_cell_at an_law_cell_at cd_law_cell_at ct_law_cell_at), sl_law_cell_at⟩)
    (c_law_cell_at : PySem.W.codeIn K cd_law_cell_at "_law_cell_at" = true)
    (k_law_cell_at : PySem.W.keepIn K (.ref f_law_cell_at) = true)
    (a_law_doubled : PySem.W.nsIn K mainGlobals "_law_doubled" = some (some (.ref f_law_doubled)))
    (l_law_doubled : K.lookup f_law_doubled = some ⟨oc_law_doubled, od_law_doubled, .func (PySem.W.fnOf "_law_doubled" "_law_doubled" (defArgs s_law_doubled) (defBody s_law_doubled) (defScope s_law_doubled) .none kV_law_doubled dc_law_doubled pm_law_doubled an_law_doubled cd_law_doubled ct_law_doubled), sl_law_doubled⟩)
    (c_law_doubled : PySem.W.codeIn K cd_law_doubled "_law_doubled" = true)
    (k_law_doubled : PySem.W.keepIn K (.ref f_law_doubled) = true)
    (a_law_want : PySem.W.nsIn K mainGlobals "_law_want" = some (some (.ref f_law_want)))
    (l_law_want : K.lookup f_law_want = some ⟨oc_law_want, od_law_want, .func (PySem.W.fnOf "_law_want" "_law_want" (defArgs s_law_want) (defBody s_law_want) (defScope s_law_want) .none kV_law_want dc_law_want pm_law_want an_law_want cd_law_want ct_law_want), sl_law_want⟩)
    (c_law_want : PySem.W.codeIn K cd_law_want "_law_want" = true)
    (k_law_want : PySem.W.keepIn K (.ref f_law_want) = true)
    (a_law_refused : PySem.W.nsIn K mainGlobals "_law_refused" = some (some (.ref f_law_refused)))
    (l_law_refused : K.lookup f_law_refused = some ⟨oc_law_refused, od_law_refused, .func (PySem.W.fnOf "_law_refused" "_law_refused" (defArgs s_law_refused) (defBody s_law_refused) (defScope s_law_refused) .none kV_law_refused dc_law_refused pm_law_refused an_law_refused cd_law_refused ct_law_refused), sl_law_refused⟩)
    (c_law_refused : PySem.W.codeIn K cd_law_refused "_law_refused" = true)
    (k_law_refused : PySem.W.keepIn K (.ref f_law_refused) = true)
    (a_law_refused_by_any : PySem.W.nsIn K mainGlobals "_law_refused_by_any" = some (some (.ref f_law_refused_by_any)))
    (l_law_refused_by_any : K.lookup f_law_refused_by_any = some ⟨oc_law_refused_by_any, od_law_refused_by_any, .func (PySem.W.fnOf "_law_refused_by_any" "_law_refused_by_any" (defArgs s_law_refused_by_any) (defBody s_law_refused_by_any) (defScope s_law_refused_by_any) .none kV_law_refused_by_any dc_law_refused_by_any pm_law_refused_by_any an_law_refused_by_any cd_law_refused_by_any ct_law_refused_by_any), sl_law_refused_by_any⟩)
    (c_law_refused_by_any : PySem.W.codeIn K cd_law_refused_by_any "_law_refused_by_any" = true)
    (k_law_refused_by_any : PySem.W.keepIn K (.ref f_law_refused_by_any) = true)
    (a_law_halved : PySem.W.nsIn K mainGlobals "_law_halved" = some (some (.ref f_law_halved)))
    (l_law_halved : K.lookup f_law_halved = some ⟨oc_law_halved, od_law_halved, .func (PySem.W.fnOf "_law_halved" "_law_halved" (defArgs s_law_halved) (defBody s_law_halved) (defScope s_law_halved) .none kV_law_halved dc_law_halved pm_law_halved an_law_halved cd_law_halved ct_law_halved), sl_law_halved⟩)
    (c_law_halved : PySem.W.codeIn K cd_law_halved "_law_halved" = true)
    (k_law_halved : PySem.W.keepIn K (.ref f_law_halved) = true)
    (a_law : PySem.W.nsIn K mainGlobals "law" = some (some (.ref f_law)))
    (l_law : K.lookup f_law = some ⟨oc_law, od_law, .func (PySem.W.fnOf "law" "law" (defArgs s_law) (defBody s_law) (defScope s_law) .none kV_law dc_law pm_law an_law cd_law ct_law), sl_law⟩)
    (c_law : PySem.W.codeIn K cd_law "law" = true)
    (k_law : PySem.W.keepIn K (.ref f_law) = true)
    (sp1 : PySem.W.specialIn K (.builtin "object.__class__") "__get__" = some (some (.builtin "getset_descriptor.__get__")))
    (sp2 : PySem.W.takesIn K (.builtin "object.__class__") = some true)
    (xx_YardError : PySem.W.excIn K c_YardError [.type "ValueError", .type "Exception", .type "BaseException", .type "object"] "ValueError.__new__" = true)
    (xk_YardError : PySem.W.keepIn K (.ref c_YardError) = true)
    (xt_YardError : PySem.W.typeIn K (.ref c_YardError) = some (.type "type"))
    (xc_YardError : PySem.W.isClsIn K c_YardError = true)
    (xg_YardError : PySem.W.findIn K (.ref c_YardError) "__getattribute__" = some (some (.builtin "BaseException.__getattribute__")))
    (xh_YardError : PySem.W.findIn K (.ref c_YardError) "__getattr__" = some none)
    (xs_YardError : PySem.W.subIn K (.ref c_YardError) (.type "BaseException") = some true)
    (xd_YardError : PySem.W.hasDictIn K c_YardError = true)
    (xa_YardError : PySem.W.findIn K (.ref c_YardError) "__class__" = some (some (.builtin "object.__class__")))
    (xm_YardError : PySem.W.mroIn K c_YardError (.type "object") = some true)
    (xv_YardError : PySem.W.subIn K (.ref c_YardError) (.type "ValueError") = some true)
    (xx_NoYard : PySem.W.excIn K c_NoYard [.type "ValueError", .type "Exception", .type "BaseException", .type "object"] "ValueError.__new__" = true)
    (xk_NoYard : PySem.W.keepIn K (.ref c_NoYard) = true)
    (xt_NoYard : PySem.W.typeIn K (.ref c_NoYard) = some (.type "type"))
    (xc_NoYard : PySem.W.isClsIn K c_NoYard = true)
    (xg_NoYard : PySem.W.findIn K (.ref c_NoYard) "__getattribute__" = some (some (.builtin "BaseException.__getattribute__")))
    (xh_NoYard : PySem.W.findIn K (.ref c_NoYard) "__getattr__" = some none)
    (xs_NoYard : PySem.W.subIn K (.ref c_NoYard) (.type "BaseException") = some true)
    (xd_NoYard : PySem.W.hasDictIn K c_NoYard = true)
    (xa_NoYard : PySem.W.findIn K (.ref c_NoYard) "__class__" = some (some (.builtin "object.__class__")))
    (xm_NoYard : PySem.W.mroIn K c_NoYard (.type "object") = some true)
    (xv_NoYard : PySem.W.subIn K (.ref c_NoYard) (.type "ValueError") = some true)
    (xx_NoWish : PySem.W.excIn K c_NoWish [.type "ValueError", .type "Exception", .type "BaseException", .type "object"] "ValueError.__new__" = true)
    (xk_NoWish : PySem.W.keepIn K (.ref c_NoWish) = true)
    (xt_NoWish : PySem.W.typeIn K (.ref c_NoWish) = some (.type "type"))
    (xc_NoWish : PySem.W.isClsIn K c_NoWish = true)
    (xg_NoWish : PySem.W.findIn K (.ref c_NoWish) "__getattribute__" = some (some (.builtin "BaseException.__getattribute__")))
    (xh_NoWish : PySem.W.findIn K (.ref c_NoWish) "__getattr__" = some none)
    (xs_NoWish : PySem.W.subIn K (.ref c_NoWish) (.type "BaseException") = some true)
    (xd_NoWish : PySem.W.hasDictIn K c_NoWish = true)
    (xa_NoWish : PySem.W.findIn K (.ref c_NoWish) "__class__" = some (some (.builtin "object.__class__")))
    (xm_NoWish : PySem.W.mroIn K c_NoWish (.type "object") = some true)
    (xv_NoWish : PySem.W.subIn K (.ref c_NoWish) (.type "ValueError") = some true)
    (xx_NoRoom : PySem.W.excIn K c_NoRoom [.type "ValueError", .type "Exception", .type "BaseException", .type "object"] "ValueError.__new__" = true)
    (xk_NoRoom : PySem.W.keepIn K (.ref c_NoRoom) = true)
    (xt_NoRoom : PySem.W.typeIn K (.ref c_NoRoom) = some (.type "type"))
    (xc_NoRoom : PySem.W.isClsIn K c_NoRoom = true)
    (xg_NoRoom : PySem.W.findIn K (.ref c_NoRoom) "__getattribute__" = some (some (.builtin "BaseException.__getattribute__")))
    (xh_NoRoom : PySem.W.findIn K (.ref c_NoRoom) "__getattr__" = some none)
    (xs_NoRoom : PySem.W.subIn K (.ref c_NoRoom) (.type "BaseException") = some true)
    (xd_NoRoom : PySem.W.hasDictIn K c_NoRoom = true)
    (xa_NoRoom : PySem.W.findIn K (.ref c_NoRoom) "__class__" = some (some (.builtin "object.__class__")))
    (xm_NoRoom : PySem.W.mroIn K c_NoRoom (.type "object") = some true)
    (xv_NoRoom : PySem.W.subIn K (.ref c_NoRoom) (.type "ValueError") = some true)
    (xx_NotOut : PySem.W.excIn K c_NotOut [.type "ValueError", .type "Exception", .type "BaseException", .type "object"] "ValueError.__new__" = true)
    (xk_NotOut : PySem.W.keepIn K (.ref c_NotOut) = true)
    (xt_NotOut : PySem.W.typeIn K (.ref c_NotOut) = some (.type "type"))
    (xc_NotOut : PySem.W.isClsIn K c_NotOut = true)
    (xg_NotOut : PySem.W.findIn K (.ref c_NotOut) "__getattribute__" = some (some (.builtin "BaseException.__getattribute__")))
    (xh_NotOut : PySem.W.findIn K (.ref c_NotOut) "__getattr__" = some none)
    (xs_NotOut : PySem.W.subIn K (.ref c_NotOut) (.type "BaseException") = some true)
    (xd_NotOut : PySem.W.hasDictIn K c_NotOut = true)
    (xa_NotOut : PySem.W.findIn K (.ref c_NotOut) "__class__" = some (some (.builtin "object.__class__")))
    (xm_NotOut : PySem.W.mroIn K c_NotOut (.type "object") = some true)
    (xv_NotOut : PySem.W.subIn K (.ref c_NotOut) (.type "ValueError") = some true)
    (xx_NoNote : PySem.W.excIn K c_NoNote [.type "ValueError", .type "Exception", .type "BaseException", .type "object"] "ValueError.__new__" = true)
    (xk_NoNote : PySem.W.keepIn K (.ref c_NoNote) = true)
    (xt_NoNote : PySem.W.typeIn K (.ref c_NoNote) = some (.type "type"))
    (xc_NoNote : PySem.W.isClsIn K c_NoNote = true)
    (xg_NoNote : PySem.W.findIn K (.ref c_NoNote) "__getattribute__" = some (some (.builtin "BaseException.__getattribute__")))
    (xh_NoNote : PySem.W.findIn K (.ref c_NoNote) "__getattr__" = some none)
    (xs_NoNote : PySem.W.subIn K (.ref c_NoNote) (.type "BaseException") = some true)
    (xd_NoNote : PySem.W.hasDictIn K c_NoNote = true)
    (xa_NoNote : PySem.W.findIn K (.ref c_NoNote) "__class__" = some (some (.builtin "object.__class__")))
    (xm_NoNote : PySem.W.mroIn K c_NoNote (.type "object") = some true)
    (xv_NoNote : PySem.W.subIn K (.ref c_NoNote) (.type "ValueError") = some true)
    (s_NoYard_YardError : PySem.W.subIn K (.ref c_NoYard) (.ref c_YardError) = some true)
    (t_NoYard_YardError : PySem.W.kitOne K (.ref c_NoYard) (.ref c_YardError) = some true)
    (s_NoYard_NoYard : PySem.W.subIn K (.ref c_NoYard) (.ref c_NoYard) = some true)
    (t_NoYard_NoYard : PySem.W.kitOne K (.ref c_NoYard) (.ref c_NoYard) = some true)
    (s_NoYard_NoWish : PySem.W.subIn K (.ref c_NoYard) (.ref c_NoWish) = some false)
    (t_NoYard_NoWish : PySem.W.kitOne K (.ref c_NoYard) (.ref c_NoWish) = some false)
    (s_NoYard_NoRoom : PySem.W.subIn K (.ref c_NoYard) (.ref c_NoRoom) = some false)
    (t_NoYard_NoRoom : PySem.W.kitOne K (.ref c_NoYard) (.ref c_NoRoom) = some false)
    (s_NoYard_NotOut : PySem.W.subIn K (.ref c_NoYard) (.ref c_NotOut) = some false)
    (t_NoYard_NotOut : PySem.W.kitOne K (.ref c_NoYard) (.ref c_NotOut) = some false)
    (s_NoYard_NoNote : PySem.W.subIn K (.ref c_NoYard) (.ref c_NoNote) = some false)
    (t_NoYard_NoNote : PySem.W.kitOne K (.ref c_NoYard) (.ref c_NoNote) = some false)
    (s_NoWish_YardError : PySem.W.subIn K (.ref c_NoWish) (.ref c_YardError) = some true)
    (t_NoWish_YardError : PySem.W.kitOne K (.ref c_NoWish) (.ref c_YardError) = some true)
    (s_NoWish_NoYard : PySem.W.subIn K (.ref c_NoWish) (.ref c_NoYard) = some false)
    (t_NoWish_NoYard : PySem.W.kitOne K (.ref c_NoWish) (.ref c_NoYard) = some false)
    (s_NoWish_NoWish : PySem.W.subIn K (.ref c_NoWish) (.ref c_NoWish) = some true)
    (t_NoWish_NoWish : PySem.W.kitOne K (.ref c_NoWish) (.ref c_NoWish) = some true)
    (s_NoWish_NoRoom : PySem.W.subIn K (.ref c_NoWish) (.ref c_NoRoom) = some false)
    (t_NoWish_NoRoom : PySem.W.kitOne K (.ref c_NoWish) (.ref c_NoRoom) = some false)
    (s_NoWish_NotOut : PySem.W.subIn K (.ref c_NoWish) (.ref c_NotOut) = some false)
    (t_NoWish_NotOut : PySem.W.kitOne K (.ref c_NoWish) (.ref c_NotOut) = some false)
    (s_NoWish_NoNote : PySem.W.subIn K (.ref c_NoWish) (.ref c_NoNote) = some false)
    (t_NoWish_NoNote : PySem.W.kitOne K (.ref c_NoWish) (.ref c_NoNote) = some false)
    (s_NoRoom_YardError : PySem.W.subIn K (.ref c_NoRoom) (.ref c_YardError) = some true)
    (t_NoRoom_YardError : PySem.W.kitOne K (.ref c_NoRoom) (.ref c_YardError) = some true)
    (s_NoRoom_NoYard : PySem.W.subIn K (.ref c_NoRoom) (.ref c_NoYard) = some false)
    (t_NoRoom_NoYard : PySem.W.kitOne K (.ref c_NoRoom) (.ref c_NoYard) = some false)
    (s_NoRoom_NoWish : PySem.W.subIn K (.ref c_NoRoom) (.ref c_NoWish) = some false)
    (t_NoRoom_NoWish : PySem.W.kitOne K (.ref c_NoRoom) (.ref c_NoWish) = some false)
    (s_NoRoom_NoRoom : PySem.W.subIn K (.ref c_NoRoom) (.ref c_NoRoom) = some true)
    (t_NoRoom_NoRoom : PySem.W.kitOne K (.ref c_NoRoom) (.ref c_NoRoom) = some true)
    (s_NoRoom_NotOut : PySem.W.subIn K (.ref c_NoRoom) (.ref c_NotOut) = some false)
    (t_NoRoom_NotOut : PySem.W.kitOne K (.ref c_NoRoom) (.ref c_NotOut) = some false)
    (s_NoRoom_NoNote : PySem.W.subIn K (.ref c_NoRoom) (.ref c_NoNote) = some false)
    (t_NoRoom_NoNote : PySem.W.kitOne K (.ref c_NoRoom) (.ref c_NoNote) = some false)
    (s_NotOut_YardError : PySem.W.subIn K (.ref c_NotOut) (.ref c_YardError) = some true)
    (t_NotOut_YardError : PySem.W.kitOne K (.ref c_NotOut) (.ref c_YardError) = some true)
    (s_NotOut_NoYard : PySem.W.subIn K (.ref c_NotOut) (.ref c_NoYard) = some false)
    (t_NotOut_NoYard : PySem.W.kitOne K (.ref c_NotOut) (.ref c_NoYard) = some false)
    (s_NotOut_NoWish : PySem.W.subIn K (.ref c_NotOut) (.ref c_NoWish) = some false)
    (t_NotOut_NoWish : PySem.W.kitOne K (.ref c_NotOut) (.ref c_NoWish) = some false)
    (s_NotOut_NoRoom : PySem.W.subIn K (.ref c_NotOut) (.ref c_NoRoom) = some false)
    (t_NotOut_NoRoom : PySem.W.kitOne K (.ref c_NotOut) (.ref c_NoRoom) = some false)
    (s_NotOut_NotOut : PySem.W.subIn K (.ref c_NotOut) (.ref c_NotOut) = some true)
    (t_NotOut_NotOut : PySem.W.kitOne K (.ref c_NotOut) (.ref c_NotOut) = some true)
    (s_NotOut_NoNote : PySem.W.subIn K (.ref c_NotOut) (.ref c_NoNote) = some false)
    (t_NotOut_NoNote : PySem.W.kitOne K (.ref c_NotOut) (.ref c_NoNote) = some false)
    (s_NoNote_YardError : PySem.W.subIn K (.ref c_NoNote) (.ref c_YardError) = some true)
    (t_NoNote_YardError : PySem.W.kitOne K (.ref c_NoNote) (.ref c_YardError) = some true)
    (s_NoNote_NoYard : PySem.W.subIn K (.ref c_NoNote) (.ref c_NoYard) = some false)
    (t_NoNote_NoYard : PySem.W.kitOne K (.ref c_NoNote) (.ref c_NoYard) = some false)
    (s_NoNote_NoWish : PySem.W.subIn K (.ref c_NoNote) (.ref c_NoWish) = some false)
    (t_NoNote_NoWish : PySem.W.kitOne K (.ref c_NoNote) (.ref c_NoWish) = some false)
    (s_NoNote_NoRoom : PySem.W.subIn K (.ref c_NoNote) (.ref c_NoRoom) = some false)
    (t_NoNote_NoRoom : PySem.W.kitOne K (.ref c_NoNote) (.ref c_NoRoom) = some false)
    (s_NoNote_NotOut : PySem.W.subIn K (.ref c_NoNote) (.ref c_NotOut) = some false)
    (t_NoNote_NotOut : PySem.W.kitOne K (.ref c_NoNote) (.ref c_NotOut) = some false)
    (s_NoNote_NoNote : PySem.W.subIn K (.ref c_NoNote) (.ref c_NoNote) = some true)
    (t_NoNote_NoNote : PySem.W.kitOne K (.ref c_NoNote) (.ref c_NoNote) = some true)
    (z_ValueError : PySem.W.nsIn K mainGlobals "ValueError" = some none)
    (z_bool : PySem.W.nsIn K mainGlobals "bool" = some none)
    (z_int : PySem.W.nsIn K mainGlobals "int" = some none)
    (z_isinstance : PySem.W.nsIn K mainGlobals "isinstance" = some none)
    (z_len : PySem.W.nsIn K mainGlobals "len" = some none)
    (z_range : PySem.W.nsIn K mainGlobals "range" = some none)
    (v_MOST : PySem.W.nsIn K mainGlobals "MOST" = some (some (.int 1152921504606846976 t_MOST))) :
    ∃ fd : FuncData, (∀ (s : Shared) (u : Value), BindsTo s fd ⟨[u], []⟩ [("_law_script", u)]) ∧ ∀ base : Heap, K.In base → base.Ns mainGlobals mg → FnOk P w K mg base CX0 3 fa fd ["_law_script"] (spLaw K) := by
  have e := hfa.symm.trans (PySem.W.mg_of X G a_law)
  cases e
  have F_is_size := fun_mk (st := s_is_size) l_is_size c_is_size k_is_size
  have B_is_size := F_is_size.binds (ps := ["number"]) fun _ _ _ _ _ _ us hl => match us, hl with | [_], _ => rfl
  have F_size_for := fun_mk (st := s_size_for) l_size_for c_size_for k_size_for
  have B_size_for := F_size_for.binds (ps := ["want"]) fun _ _ _ _ _ _ us hl => match us, hl with | [_], _ => rfl
  have F_law_whole := fun_mk (st := s_law_whole) l_law_whole c_law_whole k_law_whole
  have B_law_whole := F_law_whole.binds (ps := ["_law_found"]) fun _ _ _ _ _ _ us hl => match us, hl with | [_], _ => rfl
  have F_law_cell_at := fun_mk (st := s_law_cell_at) l_law_cell_at c_law_cell_at k_law_cell_at
  have B_law_cell_at := F_law_cell_at.binds (ps := ["_law_script", "_law_k"]) fun _ _ _ _ _ _ us hl => match us, hl with | [_, _], _ => rfl
  have F_law_doubled := fun_mk (st := s_law_doubled) l_law_doubled c_law_doubled k_law_doubled
  have B_law_doubled := F_law_doubled.binds (ps := ["_law_times"]) fun _ _ _ _ _ _ us hl => match us, hl with | [_], _ => rfl
  have F_law_want := fun_mk (st := s_law_want) l_law_want c_law_want k_law_want
  have B_law_want := F_law_want.binds (ps := ["_law_script"]) fun _ _ _ _ _ _ us hl => match us, hl with | [_], _ => rfl
  have F_law_refused := fun_mk (st := s_law_refused) l_law_refused c_law_refused k_law_refused
  have B_law_refused := F_law_refused.binds (ps := ["_law_want_here"]) fun _ _ _ _ _ _ us hl => match us, hl with | [_], _ => rfl
  have F_law_refused_by_any := fun_mk (st := s_law_refused_by_any) l_law_refused_by_any c_law_refused_by_any k_law_refused_by_any
  have B_law_refused_by_any := F_law_refused_by_any.binds (ps := ["_law_want_here"]) fun _ _ _ _ _ _ us hl => match us, hl with | [_], _ => rfl
  have F_law_halved := fun_mk (st := s_law_halved) l_law_halved c_law_halved k_law_halved
  have B_law_halved := F_law_halved.binds (ps := ["_law_size"]) fun _ _ _ _ _ _ us hl => match us, hl with | [_], _ => rfl
  have F_law := fun_mk (st := s_law) l_law c_law k_law
  have B_law := F_law.binds (ps := ["_law_script"]) fun _ _ _ _ _ _ us hl => match us, hl with | [_], _ => rfl
  have T : Txt K mg ⟨f_is_size, _, f_size_for, _, f_law_whole, _, f_law_cell_at, _, f_law_doubled, _, f_law_want, _, f_law_refused, _, f_law_refused_by_any, _, f_law_halved, _, fa, _, c_YardError, c_NoYard, c_NoWish, c_NoRoom, c_NotOut, c_NoNote⟩ := {
    is_size := ⟨PySem.W.mg_of X G a_is_size, F_is_size, B_is_size⟩
    size_for := ⟨PySem.W.mg_of X G a_size_for, F_size_for, B_size_for⟩
    law_whole := ⟨PySem.W.mg_of X G a_law_whole, F_law_whole, B_law_whole⟩
    law_cell_at := ⟨PySem.W.mg_of X G a_law_cell_at, F_law_cell_at, B_law_cell_at⟩
    law_doubled := ⟨PySem.W.mg_of X G a_law_doubled, F_law_doubled, B_law_doubled⟩
    law_want := ⟨PySem.W.mg_of X G a_law_want, F_law_want, B_law_want⟩
    law_refused := ⟨PySem.W.mg_of X G a_law_refused, F_law_refused, B_law_refused⟩
    law_refused_by_any := ⟨PySem.W.mg_of X G a_law_refused_by_any, F_law_refused_by_any, B_law_refused_by_any⟩
    law_halved := ⟨PySem.W.mg_of X G a_law_halved, F_law_halved, B_law_halved⟩
    law := ⟨PySem.W.mg_of X G a_law, F_law, B_law⟩
    e_YardError := ⟨PySem.W.mg_of X G g_YardError, xx_YardError, xk_YardError, xt_YardError, xc_YardError, ⟨xg_YardError, xh_YardError, xs_YardError, xd_YardError, xa_YardError, sp1, sp2, xm_YardError⟩, kit_ve xv_YardError⟩
    e_NoYard := ⟨PySem.W.mg_of X G g_NoYard, xx_NoYard, xk_NoYard, xt_NoYard, xc_NoYard, ⟨xg_NoYard, xh_NoYard, xs_NoYard, xd_NoYard, xa_NoYard, sp1, sp2, xm_NoYard⟩, kit_ve xv_NoYard⟩
    e_NoWish := ⟨PySem.W.mg_of X G g_NoWish, xx_NoWish, xk_NoWish, xt_NoWish, xc_NoWish, ⟨xg_NoWish, xh_NoWish, xs_NoWish, xd_NoWish, xa_NoWish, sp1, sp2, xm_NoWish⟩, kit_ve xv_NoWish⟩
    e_NoRoom := ⟨PySem.W.mg_of X G g_NoRoom, xx_NoRoom, xk_NoRoom, xt_NoRoom, xc_NoRoom, ⟨xg_NoRoom, xh_NoRoom, xs_NoRoom, xd_NoRoom, xa_NoRoom, sp1, sp2, xm_NoRoom⟩, kit_ve xv_NoRoom⟩
    e_NotOut := ⟨PySem.W.mg_of X G g_NotOut, xx_NotOut, xk_NotOut, xt_NotOut, xc_NotOut, ⟨xg_NotOut, xh_NotOut, xs_NotOut, xd_NotOut, xa_NotOut, sp1, sp2, xm_NotOut⟩, kit_ve xv_NotOut⟩
    e_NoNote := ⟨PySem.W.mg_of X G g_NoNote, xx_NoNote, xk_NoNote, xt_NoNote, xc_NoNote, ⟨xg_NoNote, xh_NoNote, xs_NoNote, xd_NoNote, xa_NoNote, sp1, sp2, xm_NoNote⟩, kit_ve xv_NoNote⟩
    x_NoYard_YardError := PySem.W.exm_ref xs_YardError xd_YardError xt_YardError s_NoYard_YardError
    k_NoYard_YardError := t_NoYard_YardError
    x_NoYard_NoYard := PySem.W.exm_ref xs_NoYard xd_NoYard xt_NoYard s_NoYard_NoYard
    k_NoYard_NoYard := t_NoYard_NoYard
    x_NoYard_NoWish := PySem.W.exm_ref xs_NoWish xd_NoWish xt_NoWish s_NoYard_NoWish
    k_NoYard_NoWish := t_NoYard_NoWish
    x_NoYard_NoRoom := PySem.W.exm_ref xs_NoRoom xd_NoRoom xt_NoRoom s_NoYard_NoRoom
    k_NoYard_NoRoom := t_NoYard_NoRoom
    x_NoYard_NotOut := PySem.W.exm_ref xs_NotOut xd_NotOut xt_NotOut s_NoYard_NotOut
    k_NoYard_NotOut := t_NoYard_NotOut
    x_NoYard_NoNote := PySem.W.exm_ref xs_NoNote xd_NoNote xt_NoNote s_NoYard_NoNote
    k_NoYard_NoNote := t_NoYard_NoNote
    x_NoWish_YardError := PySem.W.exm_ref xs_YardError xd_YardError xt_YardError s_NoWish_YardError
    k_NoWish_YardError := t_NoWish_YardError
    x_NoWish_NoYard := PySem.W.exm_ref xs_NoYard xd_NoYard xt_NoYard s_NoWish_NoYard
    k_NoWish_NoYard := t_NoWish_NoYard
    x_NoWish_NoWish := PySem.W.exm_ref xs_NoWish xd_NoWish xt_NoWish s_NoWish_NoWish
    k_NoWish_NoWish := t_NoWish_NoWish
    x_NoWish_NoRoom := PySem.W.exm_ref xs_NoRoom xd_NoRoom xt_NoRoom s_NoWish_NoRoom
    k_NoWish_NoRoom := t_NoWish_NoRoom
    x_NoWish_NotOut := PySem.W.exm_ref xs_NotOut xd_NotOut xt_NotOut s_NoWish_NotOut
    k_NoWish_NotOut := t_NoWish_NotOut
    x_NoWish_NoNote := PySem.W.exm_ref xs_NoNote xd_NoNote xt_NoNote s_NoWish_NoNote
    k_NoWish_NoNote := t_NoWish_NoNote
    x_NoRoom_YardError := PySem.W.exm_ref xs_YardError xd_YardError xt_YardError s_NoRoom_YardError
    k_NoRoom_YardError := t_NoRoom_YardError
    x_NoRoom_NoYard := PySem.W.exm_ref xs_NoYard xd_NoYard xt_NoYard s_NoRoom_NoYard
    k_NoRoom_NoYard := t_NoRoom_NoYard
    x_NoRoom_NoWish := PySem.W.exm_ref xs_NoWish xd_NoWish xt_NoWish s_NoRoom_NoWish
    k_NoRoom_NoWish := t_NoRoom_NoWish
    x_NoRoom_NoRoom := PySem.W.exm_ref xs_NoRoom xd_NoRoom xt_NoRoom s_NoRoom_NoRoom
    k_NoRoom_NoRoom := t_NoRoom_NoRoom
    x_NoRoom_NotOut := PySem.W.exm_ref xs_NotOut xd_NotOut xt_NotOut s_NoRoom_NotOut
    k_NoRoom_NotOut := t_NoRoom_NotOut
    x_NoRoom_NoNote := PySem.W.exm_ref xs_NoNote xd_NoNote xt_NoNote s_NoRoom_NoNote
    k_NoRoom_NoNote := t_NoRoom_NoNote
    x_NotOut_YardError := PySem.W.exm_ref xs_YardError xd_YardError xt_YardError s_NotOut_YardError
    k_NotOut_YardError := t_NotOut_YardError
    x_NotOut_NoYard := PySem.W.exm_ref xs_NoYard xd_NoYard xt_NoYard s_NotOut_NoYard
    k_NotOut_NoYard := t_NotOut_NoYard
    x_NotOut_NoWish := PySem.W.exm_ref xs_NoWish xd_NoWish xt_NoWish s_NotOut_NoWish
    k_NotOut_NoWish := t_NotOut_NoWish
    x_NotOut_NoRoom := PySem.W.exm_ref xs_NoRoom xd_NoRoom xt_NoRoom s_NotOut_NoRoom
    k_NotOut_NoRoom := t_NotOut_NoRoom
    x_NotOut_NotOut := PySem.W.exm_ref xs_NotOut xd_NotOut xt_NotOut s_NotOut_NotOut
    k_NotOut_NotOut := t_NotOut_NotOut
    x_NotOut_NoNote := PySem.W.exm_ref xs_NoNote xd_NoNote xt_NoNote s_NotOut_NoNote
    k_NotOut_NoNote := t_NotOut_NoNote
    x_NoNote_YardError := PySem.W.exm_ref xs_YardError xd_YardError xt_YardError s_NoNote_YardError
    k_NoNote_YardError := t_NoNote_YardError
    x_NoNote_NoYard := PySem.W.exm_ref xs_NoYard xd_NoYard xt_NoYard s_NoNote_NoYard
    k_NoNote_NoYard := t_NoNote_NoYard
    x_NoNote_NoWish := PySem.W.exm_ref xs_NoWish xd_NoWish xt_NoWish s_NoNote_NoWish
    k_NoNote_NoWish := t_NoNote_NoWish
    x_NoNote_NoRoom := PySem.W.exm_ref xs_NoRoom xd_NoRoom xt_NoRoom s_NoNote_NoRoom
    k_NoNote_NoRoom := t_NoNote_NoRoom
    x_NoNote_NotOut := PySem.W.exm_ref xs_NotOut xd_NotOut xt_NotOut s_NoNote_NotOut
    k_NoNote_NotOut := t_NoNote_NotOut
    x_NoNote_NoNote := PySem.W.exm_ref xs_NoNote xd_NoNote xt_NoNote s_NoNote_NoNote
    k_NoNote_NoNote := t_NoNote_NoNote
    z_ValueError := PySem.W.mg_none_of X G z_ValueError
    z_bool := PySem.W.mg_none_of X G z_bool
    z_int := PySem.W.mg_none_of X G z_int
    z_isinstance := PySem.W.mg_none_of X G z_isinstance
    z_len := PySem.W.mg_none_of X G z_len
    z_range := PySem.W.mg_none_of X G z_range
    v_MOST := ⟨_, PySem.W.mg_of X G v_MOST⟩ }
  exact ⟨_, fun s v => .of_eq rfl, fun base _ _ => ok_law T⟩
end BY
open PySem PySem.W PyProof.Rows
set_option maxRecDepth 100000 in
set_option maxHeartbeats 0 in
theorem PySem.Challenge.cw_buddyyard_k01_the_fitting_size_holds : PySem.Challenge.rw_buddyyard_k01_the_fitting_size.Holds := by
  w_on; o_law; k_head; (case hw => w_witness2)
  k_fill
  refine L2.walk_ofK (l := PySem.Challenge.rw_buddyyard_k01_the_fitting_size) (n := 63) (k := 3) (x := "_law_script") (CX := L2.CX0) (sp := BY.spLaw) rfl (by decide) rfl ⟨rfl, by decide, by decide⟩ (fun w h Y => PySem.W.kIn_of Y) ?F (fun K H a ns hl _ hS => ⟨a, ns, rfl, hS, hl, fun _ => rfl⟩) (fun _ _ _ _ h => h)
  case F =>
    intro w mg fa h KX G hmg
    refine' BY.all_mk KX G hmg ?g_YardError ?g_NoYard ?g_NoWish ?g_NoRoom ?g_NotOut ?g_NoNote ?a_is_size ?l_is_size ?c_is_size ?k_is_size ?a_size_for ?l_size_for ?c_size_for ?k_size_for ?a_law_whole ?l_law_whole ?c_law_whole ?k_law_whole ?a_law_cell_at ?l_law_cell_at ?c_law_cell_at ?k_law_cell_at ?a_law_doubled ?l_law_doubled ?c_law_doubled ?k_law_doubled ?a_law_want ?l_law_want ?c_law_want ?k_law_want ?a_law_refused ?l_law_refused ?c_law_refused ?k_law_refused ?a_law_refused_by_any ?l_law_refused_by_any ?c_law_refused_by_any ?k_law_refused_by_any ?a_law_halved ?l_law_halved ?c_law_halved ?k_law_halved ?a_law ?l_law ?c_law ?k_law ?sp1 ?sp2 ?xx_YardError ?xk_YardError ?xt_YardError ?xc_YardError ?xg_YardError ?xh_YardError ?xs_YardError ?xd_YardError ?xa_YardError ?xm_YardError ?xv_YardError ?xx_NoYard ?xk_NoYard ?xt_NoYard ?xc_NoYard ?xg_NoYard ?xh_NoYard ?xs_NoYard ?xd_NoYard ?xa_NoYard ?xm_NoYard ?xv_NoYard ?xx_NoWish ?xk_NoWish ?xt_NoWish ?xc_NoWish ?xg_NoWish ?xh_NoWish ?xs_NoWish ?xd_NoWish ?xa_NoWish ?xm_NoWish ?xv_NoWish ?xx_NoRoom ?xk_NoRoom ?xt_NoRoom ?xc_NoRoom ?xg_NoRoom ?xh_NoRoom ?xs_NoRoom ?xd_NoRoom ?xa_NoRoom ?xm_NoRoom ?xv_NoRoom ?xx_NotOut ?xk_NotOut ?xt_NotOut ?xc_NotOut ?xg_NotOut ?xh_NotOut ?xs_NotOut ?xd_NotOut ?xa_NotOut ?xm_NotOut ?xv_NotOut ?xx_NoNote ?xk_NoNote ?xt_NoNote ?xc_NoNote ?xg_NoNote ?xh_NoNote ?xs_NoNote ?xd_NoNote ?xa_NoNote ?xm_NoNote ?xv_NoNote ?s_NoYard_YardError ?t_NoYard_YardError ?s_NoYard_NoYard ?t_NoYard_NoYard ?s_NoYard_NoWish ?t_NoYard_NoWish ?s_NoYard_NoRoom ?t_NoYard_NoRoom ?s_NoYard_NotOut ?t_NoYard_NotOut ?s_NoYard_NoNote ?t_NoYard_NoNote ?s_NoWish_YardError ?t_NoWish_YardError ?s_NoWish_NoYard ?t_NoWish_NoYard ?s_NoWish_NoWish ?t_NoWish_NoWish ?s_NoWish_NoRoom ?t_NoWish_NoRoom ?s_NoWish_NotOut ?t_NoWish_NotOut ?s_NoWish_NoNote ?t_NoWish_NoNote ?s_NoRoom_YardError ?t_NoRoom_YardError ?s_NoRoom_NoYard ?t_NoRoom_NoYard ?s_NoRoom_NoWish ?t_NoRoom_NoWish ?s_NoRoom_NoRoom ?t_NoRoom_NoRoom ?s_NoRoom_NotOut ?t_NoRoom_NotOut ?s_NoRoom_NoNote ?t_NoRoom_NoNote ?s_NotOut_YardError ?t_NotOut_YardError ?s_NotOut_NoYard ?t_NotOut_NoYard ?s_NotOut_NoWish ?t_NotOut_NoWish ?s_NotOut_NoRoom ?t_NotOut_NoRoom ?s_NotOut_NotOut ?t_NotOut_NotOut ?s_NotOut_NoNote ?t_NotOut_NoNote ?s_NoNote_YardError ?t_NoNote_YardError ?s_NoNote_NoYard ?t_NoNote_NoYard ?s_NoNote_NoWish ?t_NoNote_NoWish ?s_NoNote_NoRoom ?t_NoNote_NoRoom ?s_NoNote_NotOut ?t_NoNote_NotOut ?s_NoNote_NoNote ?t_NoNote_NoNote ?z_ValueError ?z_bool ?z_int ?z_isinstance ?z_len ?z_range ?v_MOST
    (case g_YardError => k_is)
    (case g_NoYard => k_is)
    (case g_NoWish => k_is)
    (case g_NoRoom => k_is)
    (case g_NotOut => k_is)
    (case g_NoNote => k_is)
    (case a_is_size => k_is)
    (case l_is_size => k_is)
    (case c_is_size => k_is)
    (case k_is_size => k_is)
    (case a_size_for => k_is)
    (case l_size_for => k_is)
    (case c_size_for => k_is)
    (case k_size_for => k_is)
    (case a_law_whole => k_is)
    (case l_law_whole => k_is)
    (case c_law_whole => k_is)
    (case k_law_whole => k_is)
    (case a_law_cell_at => k_is)
    (case l_law_cell_at => k_is)
    (case c_law_cell_at => k_is)
    (case k_law_cell_at => k_is)
    (case a_law_doubled => k_is)
    (case l_law_doubled => k_is)
    (case c_law_doubled => k_is)
    (case k_law_doubled => k_is)
    (case a_law_want => k_is)
    (case l_law_want => k_is)
    (case c_law_want => k_is)
    (case k_law_want => k_is)
    (case a_law_refused => k_is)
    (case l_law_refused => k_is)
    (case c_law_refused => k_is)
    (case k_law_refused => k_is)
    (case a_law_refused_by_any => k_is)
    (case l_law_refused_by_any => k_is)
    (case c_law_refused_by_any => k_is)
    (case k_law_refused_by_any => k_is)
    (case a_law_halved => k_is)
    (case l_law_halved => k_is)
    (case c_law_halved => k_is)
    (case k_law_halved => k_is)
    (case a_law => k_is)
    (case l_law => k_is)
    (case c_law => k_is)
    (case k_law => k_is)
    (case sp1 => k_is)
    (case sp2 => k_is)
    (case xx_YardError => k_exc)
    (case xk_YardError => k_is)
    (case xt_YardError => k_is)
    (case xc_YardError => k_is)
    (case xg_YardError => k_is)
    (case xh_YardError => k_is)
    (case xs_YardError => k_is)
    (case xd_YardError => k_is)
    (case xa_YardError => k_is)
    (case xm_YardError => k_is)
    (case xv_YardError => k_is)
    (case xx_NoYard => k_exc)
    (case xk_NoYard => k_is)
    (case xt_NoYard => k_is)
    (case xc_NoYard => k_is)
    (case xg_NoYard => k_is)
    (case xh_NoYard => k_is)
    (case xs_NoYard => k_is)
    (case xd_NoYard => k_is)
    (case xa_NoYard => k_is)
    (case xm_NoYard => k_is)
    (case xv_NoYard => k_is)
    (case xx_NoWish => k_exc)
    (case xk_NoWish => k_is)
    (case xt_NoWish => k_is)
    (case xc_NoWish => k_is)
    (case xg_NoWish => k_is)
    (case xh_NoWish => k_is)
    (case xs_NoWish => k_is)
    (case xd_NoWish => k_is)
    (case xa_NoWish => k_is)
    (case xm_NoWish => k_is)
    (case xv_NoWish => k_is)
    (case xx_NoRoom => k_exc)
    (case xk_NoRoom => k_is)
    (case xt_NoRoom => k_is)
    (case xc_NoRoom => k_is)
    (case xg_NoRoom => k_is)
    (case xh_NoRoom => k_is)
    (case xs_NoRoom => k_is)
    (case xd_NoRoom => k_is)
    (case xa_NoRoom => k_is)
    (case xm_NoRoom => k_is)
    (case xv_NoRoom => k_is)
    (case xx_NotOut => k_exc)
    (case xk_NotOut => k_is)
    (case xt_NotOut => k_is)
    (case xc_NotOut => k_is)
    (case xg_NotOut => k_is)
    (case xh_NotOut => k_is)
    (case xs_NotOut => k_is)
    (case xd_NotOut => k_is)
    (case xa_NotOut => k_is)
    (case xm_NotOut => k_is)
    (case xv_NotOut => k_is)
    (case xx_NoNote => k_exc)
    (case xk_NoNote => k_is)
    (case xt_NoNote => k_is)
    (case xc_NoNote => k_is)
    (case xg_NoNote => k_is)
    (case xh_NoNote => k_is)
    (case xs_NoNote => k_is)
    (case xd_NoNote => k_is)
    (case xa_NoNote => k_is)
    (case xm_NoNote => k_is)
    (case xv_NoNote => k_is)
    (case s_NoYard_YardError => first | rfl | k_is)
    (case t_NoYard_YardError => first | rfl | k_is)
    (case s_NoYard_NoYard => first | rfl | k_is)
    (case t_NoYard_NoYard => first | rfl | k_is)
    (case s_NoYard_NoWish => first | rfl | k_is)
    (case t_NoYard_NoWish => first | rfl | k_is)
    (case s_NoYard_NoRoom => first | rfl | k_is)
    (case t_NoYard_NoRoom => first | rfl | k_is)
    (case s_NoYard_NotOut => first | rfl | k_is)
    (case t_NoYard_NotOut => first | rfl | k_is)
    (case s_NoYard_NoNote => first | rfl | k_is)
    (case t_NoYard_NoNote => first | rfl | k_is)
    (case s_NoWish_YardError => first | rfl | k_is)
    (case t_NoWish_YardError => first | rfl | k_is)
    (case s_NoWish_NoYard => first | rfl | k_is)
    (case t_NoWish_NoYard => first | rfl | k_is)
    (case s_NoWish_NoWish => first | rfl | k_is)
    (case t_NoWish_NoWish => first | rfl | k_is)
    (case s_NoWish_NoRoom => first | rfl | k_is)
    (case t_NoWish_NoRoom => first | rfl | k_is)
    (case s_NoWish_NotOut => first | rfl | k_is)
    (case t_NoWish_NotOut => first | rfl | k_is)
    (case s_NoWish_NoNote => first | rfl | k_is)
    (case t_NoWish_NoNote => first | rfl | k_is)
    (case s_NoRoom_YardError => first | rfl | k_is)
    (case t_NoRoom_YardError => first | rfl | k_is)
    (case s_NoRoom_NoYard => first | rfl | k_is)
    (case t_NoRoom_NoYard => first | rfl | k_is)
    (case s_NoRoom_NoWish => first | rfl | k_is)
    (case t_NoRoom_NoWish => first | rfl | k_is)
    (case s_NoRoom_NoRoom => first | rfl | k_is)
    (case t_NoRoom_NoRoom => first | rfl | k_is)
    (case s_NoRoom_NotOut => first | rfl | k_is)
    (case t_NoRoom_NotOut => first | rfl | k_is)
    (case s_NoRoom_NoNote => first | rfl | k_is)
    (case t_NoRoom_NoNote => first | rfl | k_is)
    (case s_NotOut_YardError => first | rfl | k_is)
    (case t_NotOut_YardError => first | rfl | k_is)
    (case s_NotOut_NoYard => first | rfl | k_is)
    (case t_NotOut_NoYard => first | rfl | k_is)
    (case s_NotOut_NoWish => first | rfl | k_is)
    (case t_NotOut_NoWish => first | rfl | k_is)
    (case s_NotOut_NoRoom => first | rfl | k_is)
    (case t_NotOut_NoRoom => first | rfl | k_is)
    (case s_NotOut_NotOut => first | rfl | k_is)
    (case t_NotOut_NotOut => first | rfl | k_is)
    (case s_NotOut_NoNote => first | rfl | k_is)
    (case t_NotOut_NoNote => first | rfl | k_is)
    (case s_NoNote_YardError => first | rfl | k_is)
    (case t_NoNote_YardError => first | rfl | k_is)
    (case s_NoNote_NoYard => first | rfl | k_is)
    (case t_NoNote_NoYard => first | rfl | k_is)
    (case s_NoNote_NoWish => first | rfl | k_is)
    (case t_NoNote_NoWish => first | rfl | k_is)
    (case s_NoNote_NoRoom => first | rfl | k_is)
    (case t_NoNote_NoRoom => first | rfl | k_is)
    (case s_NoNote_NotOut => first | rfl | k_is)
    (case t_NoNote_NotOut => first | rfl | k_is)
    (case s_NoNote_NoNote => first | rfl | k_is)
    (case t_NoNote_NoNote => first | rfl | k_is)
    (case z_ValueError => k_is)
    (case z_bool => k_is)
    (case z_int => k_is)
    (case z_isinstance => k_is)
    (case z_len => k_is)
    (case z_range => k_is)
    (case v_MOST => k_is)
