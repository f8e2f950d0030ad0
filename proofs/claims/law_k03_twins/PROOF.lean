import PyProof.Rows.All
import Wide.All
import OpenK.AllK
import Wide.FinOn
import HandS.ForList
import HandS.IsInst
import HandS.Text
import HandS.WideBits
import HandS.ExcIs
import PySem.Challenge.RW_buddyyard_k03_twins
set_option Elab.async false
set_option linter.all false
set_option maxRecDepth 100000

namespace BY
open PySem L2
/-- a def of the top's -/
structure DefAt (K : PySem.W.Frag) (mg : Str → Option Value) (x : Str) (st : Stmt) (ps : List Str) (f : Addr) (fd : FuncData) : Prop where
  mg : mg x = some (.ref f)
  fn : Fun K x x st f fd
  bd : Binds K fd ps []
/-- an own error class -/
structure ExcT (K : PySem.W.Frag) (mg : Str → Option Value) (x : Str) (C : Addr) : Prop where
  g : mg x = some (.ref C)
  x : PySem.W.excIn K C [.type "ValueError", .type "Exception", .type "BaseException", .type "object"] "ValueError.__new__" = true
  k : PySem.W.keepIn K (.ref C) = true
  t : PySem.W.typeIn K (.ref C) = some (.type "type")
  c : PySem.W.isClsIn K C = true
  is : ExcC K C
  ve : PySem.W.kitOne K (.ref C) (.type "ValueError") = some true

def top (i : Nat) : Stmt := PySem.Challenge.pw_buddyyard_k03_twins.main.body.getD i (.Pass ⟨0, 0, 0, 0⟩)
abbrev s_twin_of : Stmt := top 1
abbrev s_law_whole : Stmt := top 3
abbrev s_law_cell_at : Stmt := top 4
abbrev s_law_doubled : Stmt := top 5
abbrev s_law : Stmt := top 6
theorem sc_twin_of : FnScope ["at", "size"] ["at", "size"] (defScope s_twin_of) := ⟨rfl, rfl, rfl, by decide +kernel, rfl, by decide +kernel, by decide +kernel⟩
theorem sc_law_whole : FnScope ["_law_found"] ["_law_found"] (defScope s_law_whole) := ⟨rfl, rfl, rfl, by decide +kernel, rfl, by decide +kernel, by decide +kernel⟩
theorem sc_law_cell_at : FnScope ["_law_script", "_law_k"] ["_law_script", "_law_k"] (defScope s_law_cell_at) := ⟨rfl, rfl, rfl, by decide +kernel, rfl, by decide +kernel, by decide +kernel⟩
theorem sc_law_doubled : FnScope ["_law_times", "_law_size", "_law_k"] ["_law_times"] (defScope s_law_doubled) := ⟨rfl, rfl, rfl, by decide +kernel, rfl, by decide +kernel, by decide +kernel⟩
theorem sc_law : FnScope ["_law_script", "_law_size", "_law_many", "_law_at", "_law_found", "_law_back"] ["_law_script"] (defScope s_law) := ⟨rfl, rfl, rfl, by decide +kernel, rfl, by decide +kernel, by decide +kernel⟩
structure Ad where
  f_twin_of : Addr
  d_twin_of : FuncData
  f_law_whole : Addr
  d_law_whole : FuncData
  f_law_cell_at : Addr
  d_law_cell_at : FuncData
  f_law_doubled : Addr
  d_law_doubled : FuncData
  f_law : Addr
  d_law : FuncData
structure Txt (K : PySem.W.Frag) (mg : Str → Option Value) (a : Ad) : Prop where
  twin_of : DefAt K mg "twin_of" s_twin_of ["at", "size"] a.f_twin_of a.d_twin_of
  law_whole : DefAt K mg "_law_whole" s_law_whole ["_law_found"] a.f_law_whole a.d_law_whole
  law_cell_at : DefAt K mg "_law_cell_at" s_law_cell_at ["_law_script", "_law_k"] a.f_law_cell_at a.d_law_cell_at
  law_doubled : DefAt K mg "_law_doubled" s_law_doubled ["_law_times"] a.f_law_doubled a.d_law_doubled
  law : DefAt K mg "law" s_law ["_law_script"] a.f_law a.d_law
  z_bool : mg "bool" = none
  z_int : mg "int" = none
  z_isinstance : mg "isinstance" = none
  z_len : mg "len" = none
  z_min : mg "min" = none
  z_range : mg "range" = none
/-! ### the mathematics -/
theorem nat_xor_one (m : Nat) : m ^^^ 1 = if m % 2 = 0 then m + 1 else m - 1 := by
  have h1 : (m ^^^ 1) / 2 = m / 2 := by
    have := Nat.xor_div_two (a := m) (b := 1)
    simpa using this
  have h2 : (m ^^^ 1) % 2 = (m + 1) % 2 := by
    have h := Nat.testBit_xor m 1 0
    simp only [Nat.testBit_zero] at h
    simp only [decide_true, Bool.xor_true] at h
    rcases Nat.mod_two_eq_zero_or_one m with q | q <;> rcases Nat.mod_two_eq_zero_or_one (m ^^^ 1) with r | r <;> simp [q, r] at h <;> omega
  split <;> omega
theorem nat_xor_pow (m j : Nat) : (m * 2 ^ j) ^^^ 2 ^ j = (m ^^^ 1) * 2 ^ j := by
  have := Nat.shiftLeft_xor_distrib (a := m) (b := 1) (i := j)
  rw [Nat.shiftLeft_eq, Nat.shiftLeft_eq, Nat.shiftLeft_eq] at this
  rw [this, Nat.one_mul]
theorem int_xor_pow (m j : Nat) : Builtin.bitXor (((m * 2 ^ j : Nat) : Int)) ((2 ^ j : Nat) : Int) = (((m ^^^ 1) * 2 ^ j : Nat) : Int) := by
  rw [Bits.bitXor_pp (Int.natCast_nonneg _) (Int.natCast_nonneg _), Int.toNat_natCast, Int.toNat_natCast, nat_xor_pow]
/-- the script's cell at k -/
def cell (ns : List Int) (k : Nat) : Int := ns.getD k 0
/-! ### the promises -/
def spLaw (K : PySem.W.Frag) : Sp := fun vs H Q _ => ∃ (a : Addr) (ns : List Int), vs = [.ref a] ∧ SqL K H a (ns.map V.int) ∧ ns.length ≤ 63 ∧ ∀ H', Q (.bl true) H'
def spCell (K : PySem.W.Frag) : Sp := fun vs H Q _ => ∃ (a : Addr) (ns : List Int) (k : Nat), vs = [.ref a, .int k] ∧ SqL K H a (ns.map V.int) ∧ ns.length ≤ 63 ∧ Q (.int (cell ns k)) H
def spWhole : Sp := fun vs H Q _ => ∃ i : Int, vs = [.int i] ∧ Q (.bl true) H
def spDoubled : Sp := fun vs H Q _ => ∃ n : Nat, vs = [.int n] ∧ n ≤ 1000 ∧ Q (.int ((2 ^ n : Nat) : Int)) H
def spTwin : Sp := fun vs H Q _ => ∃ (x : Int) (m j : Nat), vs = [.int x, .int ((2 ^ j : Nat) : Int)] ∧ x = ((m * 2 ^ j : Nat) : Int) ∧ Q (.int (((m ^^^ 1) * 2 ^ j : Nat) : Int)) H
section
variable {P : Program} {w : World} {K : PySem.W.Frag} {mg : Str → Option Value} {base : Heap} {a : Ad}
theorem ok_cell (T : Txt K mg a) : FnOk P w K mg base CX0 1 a.f_law_cell_at a.d_law_cell_at ["_law_script", "_law_k"] (spCell K) := by
  refine T.law_cell_at.fn.ok sc_law_cell_at (fun vs H Q E h => ?_) (fun cdv A outer s H vs Q E hr h => ?_)
  · obtain ⟨l, ns, k, rfl, _⟩ := h
    rfl
  · obtain ⟨l, ns, k, rfl, hS, hl, q⟩ := h
    refine ⟨_, pss_cons (ps_if (pt_cmpR op_lt (pv 1) (pe_callB call_len_seq (by rfl) T.z_len PySem.boot_len (pa_cons (pv 0) pa_nil)) (nomark _)) (pss_one (ps_ret (pe_ix ix_list (pv 0) (pv 1) (fun _ _ => rfl)))) pss_nil)
      (pss_one (ps_ret pe_int)), ?_⟩
    refine ⟨_, rfl, _, rfl, l, _, rfl, .inl hS, _, _, rfl, rfl, _, rfl, ?_⟩
    by_cases h : k < ns.length
    · have hd : decide ((k : Int) < ((ns.map V.int).length : Int)) = true := by
        rw [List.length_map]
        exact decide_eq_true (by omega)
      rw [hd]
      refine iteT ?_
      refine ⟨_, rfl, _, rfl, l, _, _, _, rfl, rfl, hS, atI_nat (by rw [List.getElem?_map, List.getElem?_eq_getElem h]; rfl), ?_⟩
      have e : cell ns k = ns[k] := by simp [cell, List.getD, List.getElem?_eq_getElem h]
      rw [e] at q
      exact q
    · have hd : decide ((k : Int) < ((ns.map V.int).length : Int)) = false := by
        rw [List.length_map]
        exact decide_eq_false (by omega)
      rw [hd]
      refine iteF ?_
      have e : cell ns k = 0 := by simp [cell, List.getD, List.getElem?_eq_none (Nat.le_of_not_lt h)]
      rw [e] at q
      exact q
theorem ok_whole (T : Txt K mg a) : FnOk P w K mg base CX0 1 a.f_law_whole a.d_law_whole ["_law_found"] spWhole := by
  refine T.law_whole.fn.ok sc_law_whole (fun vs H Q E h => ?_) (fun cdv A outer s H vs Q E hr h => ?_)
  · obtain ⟨i, rfl, _⟩ := h
    rfl
  · obtain ⟨i, rfl, q⟩ := h
    refine ⟨_, pss_one (ps_ret (pe_and (pe_callB call_isi (by rfl) T.z_isinstance PyProof.Rows.boot_isinstance (pa_cons (pv 0) (pa_cons (pe_bltn (v := .ty "int") (by rfl) T.z_int PyProof.Rows.boot_int rfl) pa_nil)))
      (pe_one (pe_not (pe_callB call_isi (by rfl) T.z_isinstance PyProof.Rows.boot_isinstance (pa_cons (pv 0) (pa_cons (pe_bltn (v := .ty "bool") (by rfl) T.z_bool PyProof.Rows.boot_bool rfl) pa_nil))))))), ?_⟩
    refine ⟨_, rfl, _, _, _, _, true, rfl, .ty _, .base (.int _), kit_ty (by decide +kernel), true, rfl, iteT ?_⟩
    refine ⟨_, rfl, _, _, _, _, false, rfl, .ty _, .base (.int _), kit_ty (by decide +kernel), false, rfl, ?_⟩
    exact q
theorem ok_doubled (T : Txt K mg a) : FnOk P w K mg base CX0 1 a.f_law_doubled a.d_law_doubled ["_law_times"] spDoubled := by
  refine T.law_doubled.fn.ok sc_law_doubled (fun vs H Q E h => ?_) (fun cdv A outer s H vs Q E hr h => ?_)
  · obtain ⟨i, rfl, _⟩ := h
    rfl
  · obtain ⟨n, rfl, hn, q⟩ := h
    refine ⟨_, pss_cons (ps_set (i := 1) sc_law_doubled.nd rfl (Or.inl rfl) pe_int)
      (pss_cons (ps_for PassesOwn.never rfl (pi_range1 rfl T.z_range (pa_cons (pv 0) pa_nil)) (pg_name (i := 2) sc_law_doubled.nd rfl (Or.inl rfl))
        (pss_one (ps_set (i := 1) sc_law_doubled.nd rfl (Or.inl rfl) (pe_op op_mulX (pv 1) pe_int))))
      (pss_one (ps_ret (pv 1)))), ?_⟩
    refine ⟨_, rfl, n, rfl, by omega, by omega, ?_⟩
    refine for_range (n := n) (fun i σ H' => i ≤ n ∧ H' = H ∧ ∃ x, σ = [some (.int n), some (.int ((2 ^ i : Nat) : Int)), x]) ⟨Nat.zero_le _, rfl, none, rfl⟩ ?_ ?_
    · rintro i σ H' hi ⟨_, rfl, x, rfl⟩
      refine ⟨_, rfl, _, _, rfl, rfl, mulx_ok (a := i + 1) (b := 3) ?_ (by decide) (by omega), ?_⟩
      · rw [Int.natAbs_natCast]
        exact Nat.pow_lt_pow_right (by decide) (by omega)
      · refine ⟨hi, rfl, some (.int (0 + i)), ?_⟩
        rw [Nat.pow_succ, Int.natCast_mul]
        rfl
    · rintro σ H' ⟨_, rfl, x, rfl⟩
      exact ⟨_, rfl, q⟩
theorem ok_twin (T : Txt K mg a) : FnOk P w K mg base CX0 1 a.f_twin_of a.d_twin_of ["at", "size"] spTwin := by
  refine T.twin_of.fn.ok sc_twin_of (fun vs H Q E h => ?_) (fun cdv A outer s H vs Q E hr h => ?_)
  · obtain ⟨x, m, j, rfl, _⟩ := h
    rfl
  · obtain ⟨x, m, j, rfl, rfl, q⟩ := h
    refine ⟨_, pss_one (ps_ret (pe_op op_xor (pv 0) (pv 1))), ?_⟩
    refine ⟨_, rfl, _, rfl, _, _, rfl, rfl, ?_⟩
    show Q (.int (Builtin.bitXor _ _)) _
    rw [int_xor_pow]
    exact q
theorem emod_nat (x : Int) {n : Nat} (h : 0 < n) : ∃ m : Nat, x % (n : Int) = (m : Int) ∧ m < n := by
  have h1 := Int.emod_nonneg x (show (n : Int) ≠ 0 by omega)
  have h2 := Int.emod_lt_of_pos x (show (0 : Int) < n by omega)
  exact ⟨(x % (n : Int)).toNat, by omega, by omega⟩
theorem two_pow_le {j : Nat} (h : j ≤ 60) : 2 ^ j ≤ 2 ^ 60 := Nat.pow_le_pow_right (by decide) h
/-- at, found: one size on or back; the lesser is a multiple of twice the size -/
theorem twin_facts (m j : Nat) : ((((m ^^^ 1) * 2 ^ j : Nat) : Int) = ((m * 2 ^ j : Nat) : Int) + ((2 ^ j : Nat) : Int) ∨ (((m ^^^ 1) * 2 ^ j : Nat) : Int) = ((m * 2 ^ j : Nat) : Int) - ((2 ^ j : Nat) : Int)) ∧
    (if (((m ^^^ 1) * 2 ^ j : Nat) : Int) < ((m * 2 ^ j : Nat) : Int) then (((m ^^^ 1) * 2 ^ j : Nat) : Int) else ((m * 2 ^ j : Nat) : Int)) % (2 * ((2 ^ j : Nat) : Int)) = 0 := by
  have hp : 0 < 2 ^ j := Nat.pow_pos (by decide)
  rw [nat_xor_one]
  generalize 2 ^ j = z at hp
  by_cases h : m % 2 = 0
  · rw [if_pos h]
    have e : (m + 1) * z = m * z + z := by rw [Nat.add_mul, Nat.one_mul]
    rw [e]
    refine ⟨.inl (by omega), ?_⟩
    rw [if_neg (by omega)]
    obtain ⟨k, rfl⟩ : ∃ k, m = 2 * k := ⟨m / 2, by omega⟩
    have e2 : ((2 * k * z : Nat) : Int) = (k : Int) * (2 * (z : Int)) := by
      rw [Int.natCast_mul, Int.natCast_mul]
      show 2 * (k : Int) * z = _
      rw [Int.mul_comm 2 (k : Int), Int.mul_assoc]
    rw [e2]
    exact Int.mul_emod_left _ _
  · rw [if_neg h]
    obtain ⟨k, rfl⟩ : ∃ k, m = 2 * k + 1 := ⟨m / 2, by omega⟩
    have e : (2 * k + 1) * z = 2 * k * z + z := by rw [Nat.add_mul, Nat.one_mul]
    have e1 : 2 * k + 1 - 1 = 2 * k := by omega
    rw [e, e1]
    refine ⟨.inr (by omega), ?_⟩
    rw [if_pos (by omega)]
    have e2 : ((2 * k * z : Nat) : Int) = (k : Int) * (2 * (z : Int)) := by
      rw [Int.natCast_mul, Int.natCast_mul]
      show 2 * (k : Int) * z = _
      rw [Int.mul_comm 2 (k : Int), Int.mul_assoc]
    rw [e2]
    exact Int.mul_emod_left _ _
theorem iteTof {c : Bool} {A B : Prop} (hc : c = true) (h : A) : if c = true then A else B := by
  rw [if_pos hc]
  exact h
theorem iteFof {c : Bool} {A B : Prop} (hc : c = false) (h : B) : if c = true then A else B := by
  rw [hc, if_neg Bool.false_ne_true]
  exact h
theorem xor_back (m : Nat) : (m ^^^ 1) ^^^ 1 = m := by rw [Nat.xor_assoc, Nat.xor_self, Nat.xor_zero]
theorem ok_law (T : Txt K mg a) : FnOk P w K mg base CX0 2 a.f_law a.d_law ["_law_script"] (spLaw K) := by
  have GC : FnOk P w K mg base CX0 1 a.f_law_cell_at a.d_law_cell_at ["_law_script", "_law_k"] (spCell K) := ok_cell T
  have GW : FnOk P w K mg base CX0 1 a.f_law_whole a.d_law_whole ["_law_found"] spWhole := ok_whole T
  have GD : FnOk P w K mg base CX0 1 a.f_law_doubled a.d_law_doubled ["_law_times"] spDoubled := ok_doubled T
  have GT : FnOk P w K mg base CX0 1 a.f_twin_of a.d_twin_of ["at", "size"] spTwin := ok_twin T
  refine T.law.fn.ok sc_law (fun vs H Q E h => ?_) (fun cdv A outer s H vs Q E hr h => ?_)
  · obtain ⟨l, ns, rfl, _⟩ := h
    rfl
  · obtain ⟨l, ns, rfl, hS, hl, q⟩ := h
    obtain ⟨j, ej, hj⟩ := emod_nat (cell ns 0) (n := 61) (by decide)
    have hp : 0 < 2 ^ j := Nat.pow_pos (by decide)
    have hp60 : 2 ^ j ≤ 2 ^ 60 := two_pow_le (by omega)
    obtain ⟨tr, hp3, hk3⟩ : ∃ t, PSs (cxOf CX0 P w K mg base ["_law_script", "_law_size", "_law_many", "_law_at", "_law_found", "_law_back"] "law" (defScope s_law) a.f_law cdv A outer s H E).nox ((defBody s_law).drop 3) t ∧
        ∀ m : Nat, m < 10 ^ 30 → t { nx := fun _ H' => Q .non H', rt := Q } [some (.ref l), some (.int ((2 ^ j : Nat) : Int)), some (.int (m : Int)), none, none, none] H := by
      refine ⟨_, pss_cons (ps_set (i := 3) sc_law.nd rfl (Or.inl rfl) (pe_op op_mulX (pv 2) (pv 1)))
        (pss_cons (ps_set (i := 4) sc_law.nd rfl (Or.inl rfl) (pe_call GT hr rfl T.twin_of.mg T.twin_of.fn.kp T.twin_of.bd .nil pass0 (pa_cons (pv 3) (pa_cons (pv 1) pa_nil))))
        (pss_cons (ps_if (PW.pt (pw_or (pt_not (pt_val (pe_call GW hr rfl T.law_whole.mg T.law_whole.fn.kp T.law_whole.bd .nil pass0 (pa_cons (pv 4) pa_nil))))
            (pw_or1 (pt_cmpR op_notIn_seq (pv 4) (pe_tup (pa_cons (pe_op op_add (pv 3) (pv 1)) (pa_cons (pe_op op_sub (pv 3) (pv 1)) pa_nil))) (by rfl))))) (pss_one (ps_ret pe_bl)) pss_nil)
        (pss_cons (ps_if (pt_cmpR op_ne (pe_op op_mod (pe_callB (call_min2 rfl) (by rfl) T.z_min PyProof.Rows.boot_min (pa_cons (pv 3) (pa_cons (pv 4) pa_nil))) (pe_op op_mul pe_int (pv 1))) pe_int (nomark _)) (pss_one (ps_ret pe_bl)) pss_nil)
        (pss_cons (ps_set (i := 5) sc_law.nd rfl (Or.inl rfl) (pe_call GT hr rfl T.twin_of.mg T.twin_of.fn.kp T.twin_of.bd .nil pass0 (pa_cons (pv 4) (pa_cons (pv 1) pa_nil))))
        (pss_one (ps_ret (pe_and (pe_call GW hr rfl T.law_whole.mg T.law_whole.fn.kp T.law_whole.bd .nil pass0 (pa_cons (pv 5) pa_nil)) (pe_one (pe_cmpR op_eq (pv 5) (pv 3) (nomark _)))))))))), fun m hm => ?_⟩
      have hm2 : m < 2 ^ 100 := Nat.lt_trans hm (by decide)
      have hj2 : 2 ^ j < 2 ^ 61 := Nat.lt_of_le_of_lt hp60 (by decide)
      -- at
      refine ⟨_, rfl, _, rfl, _, _, rfl, rfl, mulx_ok (a := 100) (b := 61) (by rw [Int.natAbs_natCast]; exact hm2) (by rw [Int.natAbs_natCast]; exact hj2) (by decide), ?_⟩
      -- found
      refine ⟨_, rfl, _, rfl, _, m, j, rfl, (Int.natCast_mul _ _).symm, ?_⟩
      obtain ⟨h1, h2⟩ := twin_facts m j
      -- whole, in
      refine ⟨_, rfl, _, rfl, true, rfl, iteF ?_⟩
      refine ⟨_, rfl, _, rfl, _, rfl, _, _, rfl, rfl, _, rfl, _, rfl, _, _, rfl, rfl, by show 2 ≤ sizeLine; decide, fun t ht => ?_⟩
      refine ⟨_, _, rfl, .inr (SqT.of upd_same), rfl, rfl, _, rfl, ?_⟩
      rw [Int.natCast_mul m] at h1 h2
      refine iteFof ?_ ?_
      · show (!inV (V.int _) [V.int ((m : Int) * ((2 ^ j : Nat) : Int) + ((2 ^ j : Nat) : Int)), V.int ((m : Int) * ((2 ^ j : Nat) : Int) - ((2 ^ j : Nat) : Int))]) = false
        rcases h1 with h1 | h1 <;> rw [h1] <;> simp [inV, eqV]
      -- min
      refine ⟨_, rfl, _, rfl, _, _, rfl, _, rfl, _, _, rfl, rfl, .inl (by decide), _, _, rfl, rfl, by show (0 : Int) < 2 * ((2 ^ j : Nat) : Int); omega, rfl, _, rfl, ?_⟩
      refine iteFof ?_ ?_
      · show (!decide (V.int (_ % _) = V.int 0)) = false
        rw [h2]
        rfl
      -- back
      refine ⟨_, rfl, _, rfl, _, m ^^^ 1, j, rfl, rfl, ?_⟩
      rw [xor_back]
      refine ⟨_, rfl, _, rfl, true, rfl, iteT ?_⟩
      refine ⟨_, rfl, _, rfl, rfl, ?_⟩
      show Q (.bl (decide (V.int ((m * 2 ^ j : Nat) : Int) = V.int ((m : Int) * ((2 ^ j : Nat) : Int))))) _
      rw [decide_eq_true (by rw [Int.natCast_mul])]
      exact q _
    refine ⟨_, pss_cons (ps_set (i := 1) sc_law.nd rfl (Or.inl rfl) (pe_call GD hr rfl T.law_doubled.mg T.law_doubled.fn.kp T.law_doubled.bd .nil pass0 (pa_cons (pe_op op_mod (pe_call GC hr rfl T.law_cell_at.mg T.law_cell_at.fn.kp T.law_cell_at.bd .nil pass0 (pa_cons (pv 0) (pa_cons pe_int pa_nil))) pe_int) pa_nil)))
      (pss_cons (ps_set (i := 2) sc_law.nd rfl (Or.inl rfl) (pe_op op_mod (pe_call GC hr rfl T.law_cell_at.mg T.law_cell_at.fn.kp T.law_cell_at.bd .nil pass0 (pa_cons (pv 0) (pa_cons pe_int pa_nil))) pe_int))
      (pss_cons (ps_if (pt_cmpR op_eq (pe_op op_mod (pe_call GC hr rfl T.law_cell_at.mg T.law_cell_at.fn.kp T.law_cell_at.bd .nil pass0 (pa_cons (pv 0) (pa_cons pe_int pa_nil))) pe_int) pe_int (nomark _))
        (pss_one (ps_set (i := 2) sc_law.nd rfl (Or.inl rfl) (pe_op op_mod (pe_call GC hr rfl T.law_cell_at.mg T.law_cell_at.fn.kp T.law_cell_at.bd .nil pass0 (pa_cons (pv 0) (pa_cons pe_int pa_nil))) (pe_op op_pow pe_int pe_int)))) pss_nil) hp3)), ?_⟩
    refine ⟨_, rfl, l, ns, 0, rfl, hS, hl, _, _, rfl, rfl, by show (0 : Int) < 61; decide, j, by rw [← ej]; rfl, by omega, ?_⟩
    refine ⟨_, rfl, l, ns, 1, rfl, hS, hl, _, _, rfl, rfl, by show (0 : Int) < 10; decide, ?_⟩
    refine ⟨_, rfl, l, ns, 2, rfl, hS, hl, _, _, rfl, rfl, by show (0 : Int) < 2; decide, rfl, ?_⟩
    refine ⟨_, rfl, ?_⟩
    obtain ⟨m1, e1, hm1⟩ := emod_nat (cell ns 1) (n := 10) (by decide)
    obtain ⟨m2, e2, hm2⟩ := emod_nat (cell ns 1) (n := 10 ^ 30) (by decide)
    refine ite2 (fun _ => ?_) (fun _ => ?_)
    · refine ⟨_, rfl, l, ns, 1, rfl, hS, hl, _, _, rfl, rfl, ⟨by decide, by decide, by decide⟩, _, _, rfl, rfl, by show (0 : Int) < 10 ^ 30; decide, ?_⟩
      have := hk3 m2 hm2
      rw [← e2] at this
      exact this
    · have := hk3 m1 (Nat.lt_trans hm1 (by decide))
      rw [← e1] at this
      exact this
end
theorem all_mk {P : Program} {w : World} {K : PySem.W.Frag} {h : Heap} {mg : Str → Option Value} {fa : Addr} (X : K.In h) (G : h.Ns mainGlobals mg) (hfa : mg "law" = some (.ref fa))
    {f_twin_of : Addr} {od_twin_of an_twin_of : Option Addr} {sl_twin_of : Array (Option Value)} {oc_twin_of kV_twin_of dc_twin_of pm_twin_of cd_twin_of ct_twin_of : Value}
    {f_law_whole : Addr} {od_law_whole an_law_whole : Option Addr} {sl_law_whole : Array (Option Value)} {oc_law_whole kV_law_whole dc_law_whole pm_law_whole cd_law_whole ct_law_whole : Value}
    {f_law_cell_at : Addr} {od_law_cell_at an_law_cell_at : Option Addr} {sl_law_cell_at : Array (Option Value)} {oc_law_cell_at kV_law_cell_at dc_law_cell_at pm_law_cell_at cd_law_cell_at ct_law_cell_at : Value}
    {f_law_doubled : Addr} {od_law_doubled an_law_doubled : Option Addr} {sl_law_doubled : Array (Option Value)} {oc_law_doubled kV_law_doubled dc_law_doubled pm_law_doubled cd_law_doubled ct_law_doubled : Value}
    {f_law : Addr} {od_law an_law : Option Addr} {sl_law : Array (Option Value)} {oc_law kV_law dc_law pm_law cd_law ct_law : Value}
    (a_twin_of : PySem.W.nsIn K mainGlobals "twin_of" = some (some (.ref f_twin_of)))
    (l_twin_of : K.lookup f_twin_of = some ⟨oc_twin_of, od_twin_of, .func (PySem.W.fnOf "twin_of" "twin_of" (defArgs s_twin_of) (defBody s_twin_of) (defScope s_twin_of) .none kV_twin_of dc_twin_of pm_twin_of an_twin_of cd_twin_of ct_twin_of), sl_twin_of⟩)
    (c_twin_of : PySem.W.codeIn K cd_twin_of "twin_of" = true)
    (k_twin_of : PySem.W.keepIn K (.ref f_twin_of) = true)
    (a_law_whole : PySem.W.nsIn K mainGlobals "_law_whole" = some (some (.ref f_law_whole)))
    (l_law_whole : K.lookup f_law_whole = some ⟨oc_law_whole, od_law_whole, .func (PySem.W.fnOf "_law_whole" "_law_whole" (defArgs s_law_whole) (defBody s_law_whole) (defScope s_law_whole) .none kV_law_whole dc_law_whole pm_law_whole an_law_whole cd_law_whole ct_law_whole), sl_law_whole⟩)
    (c_law_whole : PySem.W.codeIn K cd_law_whole "_law_whole" = true)
    (k_law_whole : PySem.W.keepIn K (.ref f_law_whole) = true)
    (a_law_cell_at : PySem.W.nsIn K mainGlobals "_law_cell_at" = some (some (.ref f_law_cell_at)))
    (l_law_cell_at : K.lookup f_law_cell_at = some ⟨oc_law_cell_at, od_law_cell_at, .func (PySem.W.fnOf "_law_cell_at" "_law_cell_at" (defArgs s_law_cell_at) (defBody s_law_cell_at) (defScope s_law_cell_at) .none kV_law_cell_at dc_law_cell_at pm_law_cell_at an_law_cell_at cd_law_cell_at ct_law_cell_at), sl_law_cell_at⟩)
    (c_law_cell_at : PySem.W.codeIn K cd_law_cell_at "_law_cell_at" = true)
    (k_law_cell_at : PySem.W.keepIn K (.ref f_law_cell_at) = true)
    (a_law_doubled : PySem.W.nsIn K mainGlobals "_law_doubled" = some (some (.ref f_law_doubled)))
    (l_law_doubled : K.lookup f_law_doubled = some ⟨oc_law_doubled, od_law_doubled, .func (PySem.W.fnOf "_law_doubled" "_law_doubled" (defArgs s_law_doubled) (defBody s_law_doubled) (defScope s_law_doubled) .none kV_law_doubled dc_law_doubled pm_law_doubled an_law_doubled cd_law_doubled ct_law_doubled), sl_law_doubled⟩)
    (c_law_doubled : PySem.W.codeIn K cd_law_doubled "_law_doubled" = true)
    (k_law_doubled : PySem.W.keepIn K (.ref f_law_doubled) = true)
    (a_law : PySem.W.nsIn K mainGlobals "law" = some (some (.ref f_law)))
    (l_law : K.lookup f_law = some ⟨oc_law, od_law, .func (PySem.W.fnOf "law" "law" (defArgs s_law) (defBody s_law) (defScope s_law) .none kV_law dc_law pm_law an_law cd_law ct_law), sl_law⟩)
    (c_law : PySem.W.codeIn K cd_law "law" = true)
    (k_law : PySem.W.keepIn K (.ref f_law) = true)
    (z_bool : PySem.W.nsIn K mainGlobals "bool" = some none)
    (z_int : PySem.W.nsIn K mainGlobals "int" = some none)
    (z_isinstance : PySem.W.nsIn K mainGlobals "isinstance" = some none)
    (z_len : PySem.W.nsIn K mainGlobals "len" = some none)
    (z_min : PySem.W.nsIn K mainGlobals "min" = some none)
    (z_range : PySem.W.nsIn K mainGlobals "range" = some none) :
    ∃ fd : FuncData, (∀ (s : Shared) (u : Value), BindsTo s fd ⟨[u], []⟩ [("_law_script", u)]) ∧ ∀ base : Heap, K.In base → base.Ns mainGlobals mg → FnOk P w K mg base CX0 2 fa fd ["_law_script"] (spLaw K) := by
  have e := hfa.symm.trans (PySem.W.mg_of X G a_law)
  cases e
  have F_twin_of := fun_mk (st := s_twin_of) l_twin_of c_twin_of k_twin_of
  have B_twin_of := F_twin_of.binds (ps := ["at", "size"]) fun _ _ _ _ _ _ us hl => match us, hl with | [_, _], _ => rfl
  have F_law_whole := fun_mk (st := s_law_whole) l_law_whole c_law_whole k_law_whole
  have B_law_whole := F_law_whole.binds (ps := ["_law_found"]) fun _ _ _ _ _ _ us hl => match us, hl with | [_], _ => rfl
  have F_law_cell_at := fun_mk (st := s_law_cell_at) l_law_cell_at c_law_cell_at k_law_cell_at
  have B_law_cell_at := F_law_cell_at.binds (ps := ["_law_script", "_law_k"]) fun _ _ _ _ _ _ us hl => match us, hl with | [_, _], _ => rfl
  have F_law_doubled := fun_mk (st := s_law_doubled) l_law_doubled c_law_doubled k_law_doubled
  have B_law_doubled := F_law_doubled.binds (ps := ["_law_times"]) fun _ _ _ _ _ _ us hl => match us, hl with | [_], _ => rfl
  have F_law := fun_mk (st := s_law) l_law c_law k_law
  have B_law := F_law.binds (ps := ["_law_script"]) fun _ _ _ _ _ _ us hl => match us, hl with | [_], _ => rfl
  have T : Txt K mg ⟨f_twin_of, _, f_law_whole, _, f_law_cell_at, _, f_law_doubled, _, fa, _⟩ := {
    twin_of := ⟨PySem.W.mg_of X G a_twin_of, F_twin_of, B_twin_of⟩
    law_whole := ⟨PySem.W.mg_of X G a_law_whole, F_law_whole, B_law_whole⟩
    law_cell_at := ⟨PySem.W.mg_of X G a_law_cell_at, F_law_cell_at, B_law_cell_at⟩
    law_doubled := ⟨PySem.W.mg_of X G a_law_doubled, F_law_doubled, B_law_doubled⟩
    law := ⟨PySem.W.mg_of X G a_law, F_law, B_law⟩
    z_bool := PySem.W.mg_none_of X G z_bool
    z_int := PySem.W.mg_none_of X G z_int
    z_isinstance := PySem.W.mg_none_of X G z_isinstance
    z_len := PySem.W.mg_none_of X G z_len
    z_min := PySem.W.mg_none_of X G z_min
    z_range := PySem.W.mg_none_of X G z_range }
  exact ⟨_, fun s v => .of_eq rfl, fun base _ _ => ok_law T⟩
end BY
open PySem PySem.W PyProof.Rows
set_option maxRecDepth 100000 in
set_option maxHeartbeats 0 in
theorem PySem.Challenge.cw_buddyyard_k03_twins_holds : PySem.Challenge.rw_buddyyard_k03_twins.Holds := by
  w_on; o_law; k_head; (case hw => w_witness2)
  k_fill
  refine L2.walk_ofK (l := PySem.Challenge.rw_buddyyard_k03_twins) (n := 63) (k := 2) (x := "_law_script") (CX := L2.CX0) (sp := BY.spLaw) rfl (by decide) rfl ⟨rfl, by decide, by decide⟩ (fun w h Y => PySem.W.kIn_of Y) ?F (fun K H a ns hl _ hS => ⟨a, ns, rfl, hS, hl, fun _ => rfl⟩) (fun _ _ _ _ h => h)
  case F =>
    intro w mg fa h KX G hmg
    refine' BY.all_mk KX G hmg ?a_twin_of ?l_twin_of ?c_twin_of ?k_twin_of ?a_law_whole ?l_law_whole ?c_law_whole ?k_law_whole ?a_law_cell_at ?l_law_cell_at ?c_law_cell_at ?k_law_cell_at ?a_law_doubled ?l_law_doubled ?c_law_doubled ?k_law_doubled ?a_law ?l_law ?c_law ?k_law ?z_bool ?z_int ?z_isinstance ?z_len ?z_min ?z_range
    (case a_twin_of => k_is)
    (case l_twin_of => k_is)
    (case c_twin_of => k_is)
    (case k_twin_of => k_is)
    (case a_law_whole => k_is)
    (case l_law_whole => k_is)
    (case c_law_whole => k_is)
    (case k_law_whole => k_is)
    (case a_law_cell_at => k_is)
    (case l_law_cell_at => k_is)
    (case c_law_cell_at => k_is)
    (case k_law_cell_at => k_is)
    (case a_law_doubled => k_is)
    (case l_law_doubled => k_is)
    (case c_law_doubled => k_is)
    (case k_law_doubled => k_is)
    (case a_law => k_is)
    (case l_law => k_is)
    (case c_law => k_is)
    (case k_law => k_is)
    (case z_bool => k_is)
    (case z_int => k_is)
    (case z_isinstance => k_is)
    (case z_len => k_is)
    (case z_min => k_is)
    (case z_range => k_is)
