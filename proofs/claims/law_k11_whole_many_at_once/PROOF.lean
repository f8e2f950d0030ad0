import PyProof.Rows.All
import Wide.All
import OpenK.AllK
import Wide.FinOn
import HandS.ForMost
import HandS.StrMore
import HandS.DictComp
import KE.KIntText
import KE.IntTextText
import HandS.ForExc
import HandS.ExcIs
import HandS.IsInst
import HandS.WideBits
import HandS.WideMore
import HandS.Style
import HandS.SortRule
import HandS.SortInts
import HandS.DictTup
import HandS.ListItems
import HandS.More
import HandS.Flow
import HandS.TryMany
import HandS.Strs
import HandS.Walk
import HandS.Rev
import HandS.SortKw
import HandS.FStr
import HandS.Lambda
import HandS.SuiteRaise
import HandS.RaiseFrom
import HandS.Deep
import HandS.HotCalls
import KE.SortKeyHeap
import KE.KSortKeyAny
import HandS.Conv
import HandS.EndTab
import HandS.Finally
import HandS.NestedHot
import HandS.FStrTup
import KE.DatumOrd
import PySem.Challenge.RW_buddyyard_k11_whole_many_at_once
set_option Elab.async false
set_option linter.all false
set_option maxRecDepth 100000
set_option maxHeartbeats 1000000
namespace BY
open PySem L2
/-! ### the mathematics of a yard: cells that are out, blocks of 2 ^ j cells -/
theorem blk_mono {x y j m : Nat} (h : j ≤ m) (e : x / 2 ^ j = y / 2 ^ j) : x / 2 ^ m = y / 2 ^ m := by
  obtain ⟨t, rfl⟩ : ∃ t, m = j + t := ⟨m - j, by omega⟩
  rw [Nat.pow_add, ← Nat.div_div_eq_div_mul, ← Nat.div_div_eq_div_mul, e]
theorem blk_succ (x j : Nat) : x / 2 ^ (j + 1) = x / 2 ^ j / 2 := by
  rw [Nat.pow_succ, ← Nat.div_div_eq_div_mul]
theorem blk_of (i j : Nat) : i * 2 ^ j / 2 ^ j = i := Nat.mul_div_cancel _ (Nat.pow_pos (by decide))
/-- no cell of block i of size 2 ^ j is out -/
def Fr (O : Nat → Prop) (j i : Nat) : Prop := ∀ c, c / 2 ^ j = i → ¬ O c
/-- block i of size 2 ^ j is a whole free piece -/
def Mx (O : Nat → Prop) (d j i : Nat) : Prop := j ≤ d ∧ i < 2 ^ (d - j) ∧ Fr O j i ∧ (j < d → ¬ Fr O (j + 1) (i / 2))
def sib (i : Nat) : Nat := if i % 2 = 0 then i + 1 else i - 1
theorem sib_half (i : Nat) : sib i / 2 = i / 2 := by
  unfold sib
  split <;> omega
theorem sib_ne (i : Nat) : sib i ≠ i := by
  unfold sib
  split <;> omega
theorem sib_of {i m : Nat} (h : i / 2 = m / 2) (n : i ≠ m) : i = sib m := by
  unfold sib
  split <;> omega
theorem sib_sib (i : Nat) : sib (sib i) = i := by
  unfold sib
  split <;> split <;> omega
theorem fr_down {O : Nat → Prop} {j m c : Nat} (h : Fr O m (c / 2 ^ m)) (l : j ≤ m) : Fr O j (c / 2 ^ j) := fun x e => h x (blk_mono l e)
theorem fr_half {O : Nat → Prop} {j i : Nat} (h1 : Fr O j i) (h2 : Fr O j (sib i)) : Fr O (j + 1) (i / 2) := by
  intro c e
  rw [blk_succ] at e
  by_cases h : c / 2 ^ j = i
  · exact h1 c h
  · exact h2 c (sib_of e h)
theorem fr_at {O : Nat → Prop} {j i : Nat} (h : Fr O (j + 1) (i / 2)) : Fr O j i := fun c e => h c (by rw [blk_succ, e])
theorem mx_le {O : Nat → Prop} {d j m c : Nat} (h : Mx O d j (c / 2 ^ j)) (hm : m ≤ d) (f : Fr O m (c / 2 ^ m)) : m ≤ j := by
  by_cases l : m ≤ j
  · exact l
  · exfalso
    refine h.2.2.2 (by omega) ?_
    rw [← blk_succ]
    exact fr_down f (by omega)
theorem mx_uniq {O : Nat → Prop} {d j m c : Nat} (h : Mx O d j (c / 2 ^ j)) (g : Mx O d m (c / 2 ^ m)) : j = m :=
  Nat.le_antisymm (mx_le g h.1 h.2.2.1) (mx_le h g.1 g.2.2.1)
theorem blk_lt {c d j : Nat} (h : c < 2 ^ d) (l : j ≤ d) : c / 2 ^ j < 2 ^ (d - j) := by
  apply Nat.div_lt_of_lt_mul
  rw [← Nat.pow_add, show j + (d - j) = d by omega]
  exact h
theorem mx_exists {O : Nat → Prop} {d c : Nat} (hc : c < 2 ^ d) : ∀ (n k : Nat), d - k = n → k ≤ d → Fr O k (c / 2 ^ k) → ∃ m, k ≤ m ∧ Mx O d m (c / 2 ^ m)
  | 0, k, e, l, f => ⟨k, Nat.le_refl _, l, blk_lt hc l, f, fun z => by omega⟩
  | n + 1, k, e, l, f => by
    by_cases g : Fr O (k + 1) (c / 2 ^ (k + 1))
    · obtain ⟨m, h1, h2⟩ := mx_exists hc n (k + 1) (by omega) (by omega) g
      exact ⟨m, by omega, h2⟩
    · exact ⟨k, Nat.le_refl _, l, blk_lt hc l, f, fun _ z => g (by rw [blk_succ]; exact z)⟩
/-- the block of size 2 ^ k that has the cell a is given out of the whole free piece of size 2 ^ m that has it -/
theorem mx_add {O O' : Nat → Prop} {d k m a : Nat} (hk : k ≤ m) (hM : Mx O' d m (a / 2 ^ m)) (hO : ∀ c, O c ↔ O' c ∨ c / 2 ^ k = a / 2 ^ k) (j i : Nat) :
    Mx O d j i ↔ (Mx O' d j i ∧ ¬ (j = m ∧ i = a / 2 ^ m)) ∨ (k ≤ j ∧ j < m ∧ i = sib (a / 2 ^ j)) := by
  have hp : ∀ n : Nat, 0 < 2 ^ n := fun n => Nat.pow_pos (by decide)
  have sub : ∀ {j i : Nat}, Fr O j i → Fr O' j i := fun f c e z => f c e ((hO c).mpr (.inl z))
  -- a cell of the block that is given, in a block that is free: no
  have no : ∀ {j i : Nat}, Fr O j i → i * 2 ^ j / 2 ^ k ≠ a / 2 ^ k := fun f z => f _ (blk_of _ _) ((hO _).mpr (.inr z))
  constructor
  · rintro ⟨jd, il, f, mx⟩
    have f' := sub f
    by_cases hin : i * 2 ^ j / 2 ^ m = a / 2 ^ m ∧ j < m
    · obtain ⟨hin, jm⟩ := hin
      right
      -- its parent is free in O', so what is out there is the new block
      have mm := hM.1
      have pf : Fr O' (j + 1) (i / 2) := by
        have z : Fr O' m (i * 2 ^ j / 2 ^ m) := by rw [hin]; exact hM.2.2.1
        have y := fr_down z (show j + 1 ≤ m by omega)
        rw [blk_succ, blk_of] at y
        exact y
      have nf := mx (by omega)
      have ⟨c, e, oc⟩ : ∃ c, c / 2 ^ (j + 1) = i / 2 ∧ O c := by
        apply Classical.byContradiction
        intro z
        exact nf fun c e oc => z ⟨c, e, oc⟩
      have ec : c / 2 ^ k = a / 2 ^ k := ((hO c).mp oc).resolve_left (pf c e)
      have kj : k ≤ j := by
        apply Classical.byContradiction
        intro z
        refine no f ?_
        rw [← ec]
        refine blk_mono (j := j + 1) (by omega) ?_
        rw [e, blk_succ, blk_of]
      have e2 : c / 2 ^ j = a / 2 ^ j := blk_mono kj ec
      refine ⟨kj, jm, sib_of ?_ ?_⟩
      · rw [← e2, ← blk_succ]
        exact e.symm
      · intro z
        refine f c ?_ oc
        rw [e2, z]
    · left
      have hne : ¬ (j = m ∧ i = a / 2 ^ m) := by
        rintro ⟨rfl, rfl⟩
        refine f a rfl ((hO a).mpr (.inr rfl))
      refine ⟨⟨jd, il, f', fun l pf => ?_⟩, hne⟩
      have nf := mx l
      have ⟨c, e, oc⟩ : ∃ c, c / 2 ^ (j + 1) = i / 2 ∧ O c := by
        apply Classical.byContradiction
        intro z
        exact nf fun c e oc => z ⟨c, e, oc⟩
      have ec : c / 2 ^ k = a / 2 ^ k := ((hO c).mp oc).resolve_left (pf c e)
      have kj : k ≤ j := by
        apply Classical.byContradiction
        intro z
        refine no f ?_
        rw [← ec]
        refine blk_mono (j := j + 1) (by omega) ?_
        rw [e, blk_succ, blk_of]
      have e2 : c / 2 ^ j = a / 2 ^ j := blk_mono kj ec
      have e3 : a / 2 ^ (j + 1) = i / 2 := by rw [blk_succ, ← e2, ← blk_succ]; exact e
      have y : j + 1 ≤ m := mx_le hM (by omega) (by rw [e3]; exact pf)
      refine hin ⟨?_, by omega⟩
      refine blk_mono y ?_
      rw [e3, blk_succ, blk_of]
  · rintro (⟨⟨jd, il, f, mx⟩, ne⟩ | ⟨kj, jm, rfl⟩)
    · -- it has no cell of the new block: else it were the piece itself
      have away : ∀ c, c / 2 ^ j = i → c / 2 ^ k ≠ a / 2 ^ k := by
        intro c e z
        have e2 : c / 2 ^ m = a / 2 ^ m := blk_mono hk z
        have hM' : Mx O' d m (c / 2 ^ m) := by rw [e2]; exact hM
        have := mx_uniq (c := c) (j := j) (m := m) (by rw [e]; exact ⟨jd, il, f, mx⟩) hM'
        subst this
        exact ne ⟨rfl, by rw [← e2]; exact e.symm⟩
      refine ⟨jd, il, fun c e oc => ?_, fun l pf => mx l (sub pf)⟩
      rcases (hO c).mp oc with z | z
      · exact f c e z
      · exact away c e z
    · have mm := hM.1
      have hf : Fr O' j (sib (a / 2 ^ j)) := by
        have z := fr_down hM.2.2.1 (show j + 1 ≤ m by omega)
        rw [blk_succ, ← sib_half] at z
        exact fr_at z
      refine ⟨by omega, ?_, fun c e oc => ?_, fun l pf => ?_⟩
      · have y := hM.2.1
        have y2 : a / 2 ^ (j + 1) < 2 ^ (d - (j + 1)) := by
          have e : a / 2 ^ m = a / 2 ^ (j + 1) / 2 ^ (m - (j + 1)) := by
            rw [Nat.div_div_eq_div_mul, ← Nat.pow_add, show j + 1 + (m - (j + 1)) = m by omega]
          rw [e] at y
          have y3 := Nat.lt_mul_of_div_lt y (hp _)
          rw [← Nat.pow_add, show d - m + (m - (j + 1)) = d - (j + 1) by omega] at y3
          exact y3
        have e4 : 2 ^ (d - j) = 2 * 2 ^ (d - (j + 1)) := by
          rw [show d - j = d - (j + 1) + 1 by omega, Nat.pow_succ]
          omega
        rw [blk_succ, ← sib_half] at y2
        omega
      · rcases (hO c).mp oc with z | z
        · exact hf c e z
        · have z2 := blk_mono kj z
          rw [e] at z2
          exact sib_ne _ z2
      · refine pf a ?_ ((hO a).mpr (.inr rfl))
        rw [blk_succ, sib_half]
/-- going down the same way: while the sibling is a whole free piece, the piece grows -/
theorem mx_stop {O O' : Nat → Prop} {d k m a : Nat} (hk : k ≤ m) (hM : Mx O' d m (a / 2 ^ m)) (hO : ∀ c, O c ↔ O' c ∨ c / 2 ^ k = a / 2 ^ k) (j : Nat) (kj : k ≤ j) (jm : j ≤ m) : Mx O d j (sib (a / 2 ^ j)) ↔ j < m := by
  rw [mx_add hk hM hO]
  constructor
  · rintro (⟨h, _⟩ | ⟨_, h, _⟩)
    · apply Classical.byContradiction
      intro z
      have e : j = m := by omega
      subst e
      by_cases l : j < d
      · refine hM.2.2.2 l (fr_half hM.2.2.1 h.2.2.1)
      · have jd : j = d := by have := h.1; omega
        have h2 := h.2.1
        have h3 := hM.2.1
        rw [jd, Nat.sub_self, Nat.pow_zero] at h2 h3
        have h4 := sib_ne (a / 2 ^ d)
        generalize a / 2 ^ d = z at h2 h3 h4
        omega
    · exact h
  · intro h
    exact .inr ⟨kj, h, rfl⟩
/-! lists that rise -/
theorem rise_ext : ∀ {l m : List Nat}, l.Pairwise (· < ·) → m.Pairwise (· < ·) → (∀ x, x ∈ l ↔ x ∈ m) → l = m
  | [], [], _, _, _ => rfl
  | [], y :: m, _, _, h => absurd ((h y).mpr List.mem_cons_self) (by simp)
  | x :: l, [], _, _, h => absurd ((h x).mp List.mem_cons_self) (by simp)
  | x :: l, y :: m, h1, h2, h => by
    obtain ⟨a1, a2⟩ := List.pairwise_cons.mp h1
    obtain ⟨b1, b2⟩ := List.pairwise_cons.mp h2
    have e : x = y := by
      rcases List.mem_cons.mp ((h x).mp List.mem_cons_self) with e | e
      · exact e
      · rcases List.mem_cons.mp ((h y).mpr List.mem_cons_self) with e' | e'
        · exact e'.symm
        · have := b1 x e
          have := a1 y e'
          omega
    subst e
    rw [rise_ext a2 b2 fun z => ?_]
    constructor
    · intro hz
      rcases List.mem_cons.mp ((h z).mp (List.mem_cons_of_mem _ hz)) with e | e
      · have := a1 z hz; omega
      · exact e
    · intro hz
      rcases List.mem_cons.mp ((h z).mpr (List.mem_cons_of_mem _ hz)) with e | e
      · have := b1 z hz; omega
      · exact e
/-- the places of the whole free pieces of size 2 ^ j, rising -/
noncomputable def frl (O : Nat → Prop) (d j : Nat) : List Nat := ((List.range (2 ^ (d - j))).filter fun i => @decide (Mx O d j i) (Classical.propDecidable _)).map (· * 2 ^ j)
theorem frl_rise (O : Nat → Prop) (d j : Nat) : (frl O d j).Pairwise (· < ·) := by
  unfold frl
  refine List.pairwise_map.mpr ((List.pairwise_lt_range.filter _).imp fun {x y} h => ?_)
  exact Nat.mul_lt_mul_of_pos_right h (Nat.pow_pos (by decide))
theorem frl_mem {O : Nat → Prop} {d j x : Nat} : x ∈ frl O d j ↔ ∃ i, x = i * 2 ^ j ∧ Mx O d j i := by
  unfold frl
  constructor
  · intro h
    obtain ⟨i, hi, rfl⟩ := List.mem_map.mp h
    exact ⟨i, rfl, by simpa using (List.mem_filter.mp hi).2⟩
  · rintro ⟨i, rfl, h⟩
    exact List.mem_map.mpr ⟨i, List.mem_filter.mpr ⟨List.mem_range.mpr h.2.1, by simpa using h⟩, rfl⟩
theorem frl_mem' {O : Nat → Prop} {d j i : Nat} : i * 2 ^ j ∈ frl O d j ↔ Mx O d j i := by
  rw [frl_mem]
  constructor
  · rintro ⟨m, e, h⟩
    have := Nat.eq_of_mul_eq_mul_right (Nat.pow_pos (by decide)) e
    rw [this]
    exact h
  · exact fun h => ⟨i, rfl, h⟩
theorem mx_congr {O O' : Nat → Prop} (h : ∀ c, O c ↔ O' c) : O = O' := funext fun c => propext (h c)
/-- put among the rising ones -/
def ins (x : Nat) (l : List Nat) : List Nat := l.filter (· < x) ++ x :: l.filter (x < ·)
theorem ins_mem {x y : Nat} {l : List Nat} : y ∈ ins x l ↔ y = x ∨ y ∈ l := by
  unfold ins
  simp only [List.mem_append, List.mem_filter, List.mem_cons, decide_eq_true_eq]
  constructor
  · rintro (⟨h, _⟩ | rfl | ⟨h, _⟩)
    · exact .inr h
    · exact .inl rfl
    · exact .inr h
  · rintro (rfl | h)
    · exact .inr (.inl rfl)
    · by_cases h1 : y < x
      · exact .inl ⟨h, h1⟩
      · by_cases h2 : y = x
        · exact .inr (.inl h2)
        · exact .inr (.inr ⟨h, by omega⟩)
theorem ins_rise {x : Nat} {l : List Nat} (h : l.Pairwise (· < ·)) : (ins x l).Pairwise (· < ·) := by
  unfold ins
  refine List.pairwise_append.mpr ⟨h.filter _, List.pairwise_cons.mpr ⟨fun y hy => by simpa using (List.mem_filter.mp hy).2, h.filter _⟩, fun y hy z hz => ?_⟩
  have h1 : y < x := by simpa using (List.mem_filter.mp hy).2
  rcases List.mem_cons.mp hz with rfl | hz
  · exact h1
  · have h2 : x < z := by simpa using (List.mem_filter.mp hz).2
    omega
/-- how many lie ahead -/
def rk (x : Nat) (l : List Nat) : Nat := (l.filter (· < x)).length
theorem rk_le (x : Nat) (l : List Nat) : rk x l ≤ l.length := List.length_filter_le _ _
theorem split_at (x : Nat) : ∀ {l : List Nat}, l.Pairwise (· < ·) → l = l.filter (· < x) ++ l.filter (x ≤ ·)
  | [], _ => rfl
  | y :: l, h => by
    obtain ⟨h1, h2⟩ := List.pairwise_cons.mp h
    have ih := split_at x h2
    by_cases c : y < x
    · rw [List.filter_cons_of_pos (by simpa using c), List.filter_cons_of_neg (by simp; omega), List.cons_append, ← ih]
    · have e : l.filter (· < x) = [] := List.filter_eq_nil_iff.mpr fun z hz => by have := h1 z hz; simp; omega
      have e2 : l.filter (x ≤ ·) = l := List.filter_eq_self.mpr fun z hz => by have := h1 z hz; simp; omega
      rw [List.filter_cons_of_neg (by simpa using c), List.filter_cons_of_pos (by simp; omega), e, e2]
      rfl
theorem rk_take {x : Nat} {l : List Nat} (h : l.Pairwise (· < ·)) : l.take (rk x l) = l.filter (· < x) := by
  exact (congrArg (List.take (rk x l)) (split_at x h)).trans (List.take_left' rfl)
theorem rk_drop {x : Nat} {l : List Nat} (h : l.Pairwise (· < ·)) : l.drop (rk x l) = l.filter (x ≤ ·) := by
  exact (congrArg (List.drop (rk x l)) (split_at x h)).trans (List.drop_left' rfl)
theorem rk_lt {x i : Nat} {l : List Nat} (h : l.Pairwise (· < ·)) {y : Nat} (e : l[i]? = some y) : y < x ↔ i < rk x l := by
  constructor
  · intro hy
    apply Classical.byContradiction
    intro z
    have m : y ∈ l.drop (rk x l) := by
      refine List.mem_iff_getElem?.mpr ⟨i - rk x l, ?_⟩
      rw [List.getElem?_drop, show rk x l + (i - rk x l) = i by omega]
      exact e
    rw [rk_drop h] at m
    have : x ≤ y := by simpa using (List.mem_filter.mp m).2
    omega
  · intro hi
    have m : y ∈ l.take (rk x l) := by
      refine List.mem_iff_getElem?.mpr ⟨i, ?_⟩
      rw [List.getElem?_take, if_pos hi]
      exact e
    rw [rk_take h] at m
    simpa using (List.mem_filter.mp m).2
theorem rk_at {x : Nat} {l : List Nat} (h : l.Pairwise (· < ·)) : l[rk x l]? = some x ↔ x ∈ l := by
  constructor
  · exact fun e => List.mem_of_getElem? e
  · intro m
    obtain ⟨i, hi⟩ := List.mem_iff_getElem?.mp m
    have h1 := rk_lt (x := x) h hi
    have h2 : ¬ i < rk x l := fun z => Nat.lt_irrefl x (h1.mpr z)
    have lt := (List.getElem?_eq_some_iff.mp hi).1
    by_cases e : i = rk x l
    · rw [← e]; exact hi
    · exfalso
      have : rk x l < l.length := by omega
      obtain ⟨y, hy⟩ : ∃ y, l[rk x l]? = some y := ⟨_, List.getElem?_eq_getElem this⟩
      have a1 : ¬ y < x := fun z => Nat.lt_irrefl _ ((rk_lt h hy).mp z)
      obtain ⟨q1, q2⟩ := List.getElem?_eq_some_iff.mp hi
      obtain ⟨q3, q4⟩ := List.getElem?_eq_some_iff.mp hy
      have := List.pairwise_iff_getElem.mp h _ _ q3 q1 (by omega)
      omega
theorem ins_eq {x : Nat} {l : List Nat} (h : l.Pairwise (· < ·)) (n : x ∉ l) : l.take (rk x l) ++ [x] ++ l.drop (rk x l) = ins x l := by
  rw [rk_take h, rk_drop h]
  unfold ins
  rw [List.append_assoc]
  congr 1
  show x :: l.filter (x ≤ ·) = x :: l.filter (x < ·)
  congr 1
  refine List.filter_congr fun y hy => ?_
  have : y ≠ x := fun e => n (e ▸ hy)
  simp only [decide_eq_decide]
  omega
def del (x : Nat) (l : List Nat) : List Nat := l.filter (· ≠ x)
theorem del_eq {x : Nat} {l : List Nat} (h : l.Pairwise (· < ·)) (m : x ∈ l) : l.eraseIdx (rk x l) = del x l := by
  have e1 := (rk_at (x := x) h).mpr m
  obtain ⟨lt, e2⟩ := List.getElem?_eq_some_iff.mp e1
  refine rise_ext (h.sublist (List.eraseIdx_sublist ..)) (h.filter _) fun y => ?_
  unfold del
  rw [List.mem_filter, List.mem_eraseIdx_iff_getElem?]
  constructor
  · rintro ⟨i, ne, hi⟩
    refine ⟨List.mem_of_getElem? hi, ?_⟩
    simp only [ne_eq, decide_not, Bool.not_eq_true', decide_eq_false_iff_not]
    rintro rfl
    obtain ⟨q1, q2⟩ := List.getElem?_eq_some_iff.mp hi
    rcases Nat.lt_or_gt_of_ne ne with z | z
    · have := List.pairwise_iff_getElem.mp h _ _ q1 lt z; omega
    · have := List.pairwise_iff_getElem.mp h _ _ lt q1 z; omega
  · rintro ⟨hy, ne⟩
    obtain ⟨i, hi⟩ := List.mem_iff_getElem?.mp hy
    refine ⟨i, fun z => ?_, hi⟩
    rw [z, e1] at hi
    simp only [ne_eq, decide_not, Bool.not_eq_true', decide_eq_false_iff_not] at ne
    exact ne (Option.some.inj hi).symm
theorem del_mem {x y : Nat} {l : List Nat} : y ∈ del x l ↔ y ∈ l ∧ y ≠ x := by
  unfold del
  rw [List.mem_filter]
  simp
theorem del_rise {x : Nat} {l : List Nat} (h : l.Pairwise (· < ·)) : (del x l).Pairwise (· < ·) := h.filter _
/-! ### what is out, and what is free by it -/
abbrev PN := Nat × Nat
/-- the cell c is out: a piece (place, exponent of its size) has it -/
def Oc (os : List PN) (c : Nat) : Prop := ∃ q ∈ os, c / 2 ^ q.2 = q.1 / 2 ^ q.2
def Apart (p q : PN) : Prop := ∀ c, c / 2 ^ p.2 = p.1 / 2 ^ p.2 → c / 2 ^ q.2 ≠ q.1 / 2 ^ q.2
structure Good (d : Nat) (os : List PN) : Prop where
  each : ∀ q ∈ os, q.2 ≤ d ∧ q.1 / 2 ^ q.2 * 2 ^ q.2 = q.1 ∧ q.1 < 2 ^ d
  disj : os.Pairwise Apart
theorem Apart.symm {p q : PN} (h : Apart p q) : Apart q p := fun c e z => h c z e
theorem Good.nil (d : Nat) : Good d [] := ⟨fun q h => absurd h (by simp), List.Pairwise.nil⟩
theorem Good.sub {d : Nat} {os os' : List PN} (h : Good d os) (s : os'.Sublist os) : Good d os' := ⟨fun q m => h.each q (s.subset m), h.disj.sublist s⟩
theorem Good.perm {d : Nat} {os os' : List PN} (h : Good d os) (s : os'.Perm os) : Good d os' := ⟨fun q m => h.each q (s.mem_iff.mp m), (s.pairwise_iff (fun {_ _} z => z.symm)).mpr h.disj⟩
theorem Oc.perm {os os' : List PN} (s : os'.Perm os) : Oc os' = Oc os := mx_congr fun c => ⟨fun ⟨q, m, e⟩ => ⟨q, s.mem_iff.mp m, e⟩, fun ⟨q, m, e⟩ => ⟨q, s.mem_iff.mpr m, e⟩⟩
theorem Good.one {d : Nat} {os : List PN} (h : Good d os) {p q : PN} (hp : p ∈ os) (hq : q ∈ os) {c : Nat} (e1 : c / 2 ^ p.2 = p.1 / 2 ^ p.2) (e2 : c / 2 ^ q.2 = q.1 / 2 ^ q.2) : p = q := by
  apply Classical.byContradiction
  intro ne
  have aux : ∀ l : List PN, l.Pairwise Apart → p ∈ l → q ∈ l → False := by
    intro l
    induction l with
    | nil => intro _ z; cases z
    | cons x l ih =>
      intro hd h1 h2
      obtain ⟨a1, a2⟩ := List.pairwise_cons.mp hd
      rcases List.mem_cons.mp h1 with e | m1
      · rcases List.mem_cons.mp h2 with e' | m2
        · exact ne (e.trans e'.symm)
        · rw [← e] at a1
          exact a1 q m2 c e1 e2
      · rcases List.mem_cons.mp h2 with e' | m2
        · rw [← e'] at a1
          exact a1 p m1 c e2 e1
        · exact ih a2 m1 m2
  exact aux os h.disj hp hq
/-- no two pieces begin at one place -/
theorem Good.key {d : Nat} {os : List PN} (h : Good d os) {p q : PN} (hp : p ∈ os) (hq : q ∈ os) (e : p.1 = q.1) : p = q := h.one hp hq (c := p.1) rfl (by rw [e])
theorem Oc_snoc {os : List PN} {x k c : Nat} : Oc (os ++ [(x, k)]) c ↔ Oc os c ∨ c / 2 ^ k = x / 2 ^ k := by
  unfold Oc
  constructor
  · rintro ⟨q, m, e⟩
    rcases List.mem_append.mp m with m | m
    · exact .inl ⟨q, m, e⟩
    · have := List.mem_singleton.mp m
      subst this
      exact .inr e
  · rintro (⟨q, m, e⟩ | e)
    · exact ⟨q, List.mem_append.mpr (.inl m), e⟩
    · exact ⟨(x, k), List.mem_append.mpr (.inr List.mem_cons_self), e⟩
/-- without the piece that begins at x -/
def outs (os : List PN) (x : Nat) : List PN := os.filter fun q => decide (q.1 ≠ x)
theorem Oc_outs {d : Nat} {os : List PN} {x k c : Nat} (g : Good d os) (m : (x, k) ∈ os) : Oc os c ↔ Oc (outs os x) c ∨ c / 2 ^ k = x / 2 ^ k := by
  constructor
  · rintro ⟨q, hq, e⟩
    by_cases z : q.1 = x
    · have := g.key hq m z
      subst this
      exact .inr e
    · exact .inl ⟨q, List.mem_filter.mpr ⟨hq, by simpa using z⟩, e⟩
  · rintro (⟨q, hq, e⟩ | e)
    · exact ⟨q, (List.mem_filter.mp hq).1, e⟩
    · exact ⟨(x, k), m, e⟩
theorem fr_outs {d : Nat} {os : List PN} {x k : Nat} (g : Good d os) (m : (x, k) ∈ os) : Fr (Oc (outs os x)) k (x / 2 ^ k) := by
  rintro c e ⟨q, hq, e2⟩
  have hq' := List.mem_filter.mp hq
  have := g.one hq'.1 m (c := c) e2 e
  subst this
  simp at hq'
/-- the piece at x has the exponent k from now on -/
def outr (os : List PN) (x k : Nat) : List PN := os.map fun q => if q.1 = x then (x, k) else q
theorem outr_mem {d : Nat} {os : List PN} {x h k : Nat} (g : Good d os) (m : (x, h) ∈ os) {q : PN} : q ∈ outr os x k ↔ q ∈ outs os x ∨ q = (x, k) := by
  unfold outr outs
  constructor
  · intro z
    obtain ⟨p, hp, rfl⟩ := List.mem_map.mp z
    by_cases e : p.1 = x
    · rw [if_pos e]; exact .inr rfl
    · rw [if_neg e]; exact .inl (List.mem_filter.mpr ⟨hp, by simpa using e⟩)
  · rintro (z | rfl)
    · have z := List.mem_filter.mp z
      refine List.mem_map.mpr ⟨q, z.1, if_neg (by simpa using z.2)⟩
    · exact List.mem_map.mpr ⟨(x, h), m, if_pos rfl⟩
theorem Oc_outr {d : Nat} {os : List PN} {x h k c : Nat} (g : Good d os) (m : (x, h) ∈ os) : Oc (outr os x k) c ↔ Oc (outs os x) c ∨ c / 2 ^ k = x / 2 ^ k := by
  unfold Oc
  constructor
  · rintro ⟨q, hq, e⟩
    rcases (outr_mem g m).mp hq with z | rfl
    · exact .inl ⟨q, z, e⟩
    · exact .inr e
  · rintro (⟨q, hq, e⟩ | e)
    · exact ⟨q, (outr_mem g m).mpr (.inl hq), e⟩
    · exact ⟨(x, k), (outr_mem g m).mpr (.inr rfl), e⟩
theorem Good.snoc {d : Nat} {os : List PN} (g : Good d os) {x k : Nat} (hk : k ≤ d) (ha : x / 2 ^ k * 2 ^ k = x) (hx : x < 2 ^ d) (f : Fr (Oc os) k (x / 2 ^ k)) : Good d (os ++ [(x, k)]) := by
  refine ⟨fun q m => ?_, ?_⟩
  · rcases List.mem_append.mp m with m | m
    · exact g.each q m
    · have := List.mem_singleton.mp m
      subst this
      exact ⟨hk, ha, hx⟩
  · refine List.pairwise_append.mpr ⟨g.disj, List.pairwise_singleton _ _, fun p hp q hq c e1 e2 => ?_⟩
    have := List.mem_singleton.mp hq
    subst this
    exact f c e2 ⟨p, hp, e1⟩
theorem Good.outr {d : Nat} {os : List PN} (g : Good d os) {x h k : Nat} (m : (x, h) ∈ os) (hk : k ≤ d) (ha : x / 2 ^ k * 2 ^ k = x) (f : Fr (Oc (outs os x)) k (x / 2 ^ k)) : Good d (outr os x k) := by
  refine ⟨fun q z => ?_, ?_⟩
  · rcases (outr_mem g m).mp z with z | rfl
    · exact g.each q (List.mem_filter.mp z).1
    · exact ⟨hk, ha, (g.each _ m).2.2⟩
  · unfold BY.outr
    refine List.pairwise_map.mpr (g.disj.imp_of_mem fun {p q} hp hq ap => ?_)
    by_cases e1 : p.1 = x
    · by_cases e2 : q.1 = x
      · have e3 := g.key hp hq (e1.trans e2.symm)
        subst e3
        exact absurd rfl (ap p.1 rfl)
      · rw [if_pos e1, if_neg e2]
        intro c z1 z2
        exact f c z1 ⟨q, List.mem_filter.mpr ⟨hq, by simpa using e2⟩, z2⟩
    · by_cases e2 : q.1 = x
      · rw [if_neg e1, if_pos e2]
        intro c z1 z2
        exact f c z2 ⟨p, List.mem_filter.mpr ⟨hp, by simpa using e1⟩, z1⟩
      · rw [if_neg e1, if_neg e2]
        exact ap
/-! the free lists behind a deed -/
def setF (F : Nat → List Nat) (k : Nat) (l : List Nat) : Nat → List Nat := fun j => if j = k then l else F j
def remF (F : Nat → List Nat) (x k m : Nat) : Nat → List Nat := fun j => if k ≤ j ∧ j < m then del (sib (x / 2 ^ j) * 2 ^ j) (F j) else F j
def addF (F : Nat → List Nat) (x k m : Nat) : Nat → List Nat := fun j => if k ≤ j ∧ j < m then ins (sib (x / 2 ^ j) * 2 ^ j) (F j) else F j
theorem mul_inj {i m j : Nat} (e : i * 2 ^ j = m * 2 ^ j) : i = m := Nat.eq_of_mul_eq_mul_right (Nat.pow_pos (by decide)) e
theorem frl_ext {O : Nat → Prop} {d j : Nat} {l : List Nat} (r : l.Pairwise (· < ·)) (h : ∀ y, y ∈ l ↔ ∃ i, y = i * 2 ^ j ∧ Mx O d j i) : l = frl O d j := rise_ext r (frl_rise O d j) fun y => by rw [h, frl_mem]
/-- a piece is given out of the whole free one of exponent m -/
theorem can_give {O O' : Nat → Prop} {d k m a : Nat} (hk : k ≤ m) (hM : Mx O' d m (a / 2 ^ m)) (hO : ∀ c, O c ↔ O' c ∨ c / 2 ^ k = a / 2 ^ k) (j : Nat) :
    addF (setF (frl O' d) m (del (a / 2 ^ m * 2 ^ m) (frl O' d m))) a k m j = frl O d j := by
  unfold addF setF
  show (if k ≤ j ∧ j < m then ins (sib (a / 2 ^ j) * 2 ^ j) (if j = m then del (a / 2 ^ m * 2 ^ m) (frl O' d m) else frl O' d j) else (if j = m then del (a / 2 ^ m * 2 ^ m) (frl O' d m) else frl O' d j)) = frl O d j
  refine frl_ext ?_ fun y => ?_
  · split
    · refine ins_rise ?_
      split
      · exact del_rise (frl_rise _ _ _)
      · exact frl_rise _ _ _
    · split
      · exact del_rise (frl_rise _ _ _)
      · exact frl_rise _ _ _
  · have key : (∃ i, y = i * 2 ^ j ∧ Mx O d j i) ↔ (∃ i, y = i * 2 ^ j ∧ Mx O' d j i ∧ ¬ (j = m ∧ i = a / 2 ^ m)) ∨ (k ≤ j ∧ j < m ∧ y = sib (a / 2 ^ j) * 2 ^ j) := by
      constructor
      · rintro ⟨i, e, h⟩
        rcases (mx_add hk hM hO j i).mp h with ⟨h1, h2⟩ | ⟨h1, h2, rfl⟩
        · exact .inl ⟨i, e, h1, h2⟩
        · exact .inr ⟨h1, h2, e⟩
      · rintro (⟨i, e, h1, h2⟩ | ⟨h1, h2, e⟩)
        · exact ⟨i, e, (mx_add hk hM hO j i).mpr (.inl ⟨h1, h2⟩)⟩
        · exact ⟨_, e, (mx_add hk hM hO j _).mpr (.inr ⟨h1, h2, rfl⟩)⟩
    have base : y ∈ (if j = m then del (a / 2 ^ m * 2 ^ m) (frl O' d m) else frl O' d j) ↔ ∃ i, y = i * 2 ^ j ∧ Mx O' d j i ∧ ¬ (j = m ∧ i = a / 2 ^ m) := by
      by_cases e : j = m
      · subst e
        rw [if_pos rfl, del_mem, frl_mem]
        constructor
        · rintro ⟨⟨i, e, h⟩, ne⟩
          exact ⟨i, e, h, fun z => ne (by rw [e, z.2])⟩
        · rintro ⟨i, e, h, ne⟩
          exact ⟨⟨i, e, h⟩, fun z => ne ⟨rfl, mul_inj (e.symm.trans z)⟩⟩
      · rw [if_neg e, frl_mem]
        constructor
        · rintro ⟨i, e2, h⟩
          exact ⟨i, e2, h, fun z => e z.1⟩
        · rintro ⟨i, e2, h, _⟩
          exact ⟨i, e2, h⟩
    rw [key]
    by_cases c : k ≤ j ∧ j < m
    · rw [if_pos c, ins_mem, base]
      constructor
      · rintro (h | h)
        · exact .inr ⟨c.1, c.2, h⟩
        · exact .inl h
      · rintro (h | ⟨_, _, h⟩)
        · exact .inr h
        · exact .inl h
    · rw [if_neg c, base]
      constructor
      · exact .inl
      · rintro (h | ⟨h1, h2, _⟩)
        · exact h
        · exact absurd ⟨h1, h2⟩ c
/-- a piece comes back, and joins to the whole free one of exponent m -/
theorem can_back {O O' : Nat → Prop} {d k m a : Nat} (hk : k ≤ m) (hM : Mx O' d m (a / 2 ^ m)) (hO : ∀ c, O c ↔ O' c ∨ c / 2 ^ k = a / 2 ^ k) (j : Nat) :
    setF (remF (frl O d) a k m) m (ins (a / 2 ^ m * 2 ^ m) (remF (frl O d) a k m m)) j = frl O' d j := by
  unfold setF
  have hrem : ∀ j, (remF (frl O d) a k m j).Pairwise (· < ·) := fun j => by
    unfold remF
    split
    · exact del_rise (frl_rise _ _ _)
    · exact frl_rise _ _ _
  have mem : ∀ j y, y ∈ remF (frl O d) a k m j ↔ ∃ i, y = i * 2 ^ j ∧ Mx O' d j i ∧ ¬ (j = m ∧ i = a / 2 ^ m) := by
    intro j y
    unfold remF
    by_cases c : k ≤ j ∧ j < m
    · rw [if_pos c, del_mem, frl_mem]
      constructor
      · rintro ⟨⟨i, e, h⟩, ne⟩
        rcases (mx_add hk hM hO j i).mp h with ⟨h1, h2⟩ | ⟨h1, h2, rfl⟩
        · exact ⟨i, e, h1, h2⟩
        · exact absurd e ne
      · rintro ⟨i, e, h1, h2⟩
        refine ⟨⟨i, e, (mx_add hk hM hO j i).mpr (.inl ⟨h1, h2⟩)⟩, fun z => ?_⟩
        have e3 : i = sib (a / 2 ^ j) := mul_inj (e.symm.trans z)
        -- the sibling lies in the whole free piece of exponent m
        have hj := h1
        rw [e3] at hj
        have e4 : (sib (a / 2 ^ j) * 2 ^ j) / 2 ^ m = a / 2 ^ m := by
          refine blk_mono (j := j + 1) (by omega) ?_
          rw [blk_succ, blk_of, sib_half, ← blk_succ]
        have := mx_uniq (c := sib (a / 2 ^ j) * 2 ^ j) (j := j) (m := m) (by rw [blk_of]; exact hj) (by rw [e4]; exact hM)
        omega
    · rw [if_neg c, frl_mem]
      constructor
      · rintro ⟨i, e, h⟩
        rcases (mx_add hk hM hO j i).mp h with ⟨h1, h2⟩ | ⟨h1, h2, _⟩
        · exact ⟨i, e, h1, h2⟩
        · exact absurd ⟨h1, h2⟩ c
      · rintro ⟨i, e, h1, h2⟩
        exact ⟨i, e, (mx_add hk hM hO j i).mpr (.inl ⟨h1, h2⟩)⟩
  by_cases e : j = m
  · subst e
    rw [if_pos rfl]
    refine frl_ext (ins_rise (hrem _)) fun y => ?_
    rw [ins_mem, mem]
    constructor
    · rintro (rfl | ⟨i, e, h, _⟩)
      · exact ⟨_, rfl, hM⟩
      · exact ⟨i, e, h⟩
    · rintro ⟨i, e, h⟩
      by_cases z : i = a / 2 ^ j
      · exact .inl (by rw [e, z])
      · exact .inr ⟨i, e, h, fun q => z q.2⟩
  · rw [if_neg e]
    refine frl_ext (hrem _) fun y => ?_
    rw [mem]
    constructor
    · rintro ⟨i, e2, h, _⟩
      exact ⟨i, e2, h⟩
    · rintro ⟨i, e2, h⟩
      exact ⟨i, e2, h, fun q => e q.1⟩
/-- a piece gets another size: the exponents h and k, within the same whole free piece -/
theorem mx_size {O1 O2 O' : Nat → Prop} {d h k m a : Nat} (hh : h ≤ m) (hk : k ≤ m) (hM : Mx O' d m (a / 2 ^ m)) (h1 : ∀ c, O1 c ↔ O' c ∨ c / 2 ^ h = a / 2 ^ h) (h2 : ∀ c, O2 c ↔ O' c ∨ c / 2 ^ k = a / 2 ^ k) (l : k ≤ h) (j i : Nat) :
    (Mx O2 d j i ↔ Mx O1 d j i ∨ (k ≤ j ∧ j < h ∧ i = sib (a / 2 ^ j))) ∧ (k ≤ j → j < h → ¬ Mx O1 d j (sib (a / 2 ^ j))) := by
  constructor
  · rw [mx_add hk hM h2, mx_add hh hM h1]
    constructor
    · rintro (z | ⟨z1, z2, z3⟩)
      · exact .inl (.inl z)
      · by_cases c : j < h
        · exact .inr ⟨z1, c, z3⟩
        · exact .inl (.inr ⟨by omega, z2, z3⟩)
    · rintro ((z | ⟨z1, z2, z3⟩) | ⟨z1, z2, z3⟩)
      · exact .inl z
      · exact .inr ⟨by omega, z2, z3⟩
      · exact .inr ⟨z1, by omega, z3⟩
  · intro kj jh z
    rw [mx_add hh hM h1] at z
    rcases z with ⟨z, _⟩ | ⟨z, _⟩
    · have e4 : (sib (a / 2 ^ j) * 2 ^ j) / 2 ^ m = a / 2 ^ m := by
        refine blk_mono (j := j + 1) (by omega) ?_
        rw [blk_succ, blk_of, sib_half, ← blk_succ]
      have := mx_uniq (c := sib (a / 2 ^ j) * 2 ^ j) (j := j) (m := m) (by rw [blk_of]; exact z) (by rw [e4]; exact hM)
      omega
    · omega
theorem can_shrink {O1 O2 : Nat → Prop} {d h k a : Nat} (q : ∀ j i, Mx O2 d j i ↔ Mx O1 d j i ∨ (k ≤ j ∧ j < h ∧ i = sib (a / 2 ^ j))) (j : Nat) : addF (frl O1 d) a k h j = frl O2 d j := by
  unfold addF
  refine frl_ext ?_ fun y => ?_
  · split
    · exact ins_rise (frl_rise _ _ _)
    · exact frl_rise _ _ _
  · by_cases c : k ≤ j ∧ j < h
    · rw [if_pos c, ins_mem, frl_mem]
      constructor
      · rintro (rfl | ⟨i, e, z⟩)
        · exact ⟨_, rfl, (q j _).mpr (.inr ⟨c.1, c.2, rfl⟩)⟩
        · exact ⟨i, e, (q j i).mpr (.inl z)⟩
      · rintro ⟨i, e, z⟩
        rcases (q j i).mp z with z | ⟨_, _, z⟩
        · exact .inr ⟨i, e, z⟩
        · exact .inl (by rw [e, z])
    · rw [if_neg c, frl_mem]
      constructor
      · rintro ⟨i, e, z⟩
        exact ⟨i, e, (q j i).mpr (.inl z)⟩
      · rintro ⟨i, e, z⟩
        rcases (q j i).mp z with z | ⟨z1, z2, _⟩
        · exact ⟨i, e, z⟩
        · exact absurd ⟨z1, z2⟩ c
theorem can_grow {O1 O2 : Nat → Prop} {d h k a : Nat} (q : ∀ j i, Mx O2 d j i ↔ Mx O1 d j i ∨ (k ≤ j ∧ j < h ∧ i = sib (a / 2 ^ j))) (n : ∀ j, k ≤ j → j < h → ¬ Mx O1 d j (sib (a / 2 ^ j))) (j : Nat) : remF (frl O2 d) a k h j = frl O1 d j := by
  unfold remF
  refine frl_ext ?_ fun y => ?_
  · split
    · exact del_rise (frl_rise _ _ _)
    · exact frl_rise _ _ _
  · by_cases c : k ≤ j ∧ j < h
    · rw [if_pos c, del_mem, frl_mem]
      constructor
      · rintro ⟨⟨i, e, z⟩, ne⟩
        rcases (q j i).mp z with z | ⟨_, _, z⟩
        · exact ⟨i, e, z⟩
        · exact absurd (by rw [e, z]) ne
      · rintro ⟨i, e, z⟩
        refine ⟨⟨i, e, (q j i).mpr (.inl z)⟩, fun w => n j c.1 c.2 ?_⟩
        have e3 : i = sib (a / 2 ^ j) := mul_inj (e.symm.trans w)
        rw [← e3]
        exact z
    · rw [if_neg c, frl_mem]
      constructor
      · rintro ⟨i, e, z⟩
        rcases (q j i).mp z with z | ⟨z1, z2, _⟩
        · exact ⟨i, e, z⟩
        · exact absurd ⟨z1, z2⟩ c
      · rintro ⟨i, e, z⟩
        exact ⟨i, e, (q j i).mpr (.inl z)⟩
/-! how many there can be -/
theorem nodup_le {α β : Type} {R : α → β → Prop} : ∀ {l : List α} {m : List β}, l.Nodup → (∀ x ∈ l, ∃ y ∈ m, R x y) → (∀ x x' y, x ∈ l → x' ∈ l → R x y → R x' y → x = x') → l.length ≤ m.length
  | [], _, _, _, _ => Nat.zero_le _
  | x :: l, m, nd, h, inj => by
    classical
    obtain ⟨n1, n2⟩ := List.nodup_cons.mp nd
    obtain ⟨y, hy, r⟩ := h x List.mem_cons_self
    have ih := nodup_le (R := R) (l := l) (m := m.filter fun z => decide (z ≠ y)) n2 (fun x' hx' => by
      obtain ⟨y', hy', r'⟩ := h x' (List.mem_cons_of_mem _ hx')
      refine ⟨y', List.mem_filter.mpr ⟨hy', decide_eq_true fun e => ?_⟩, r'⟩
      subst e
      have := inj x x' y' List.mem_cons_self (List.mem_cons_of_mem _ hx') r r'
      exact n1 (this ▸ hx')) (fun a b c ha hb => inj a b c (List.mem_cons_of_mem _ ha) (List.mem_cons_of_mem _ hb))
    have lt : (m.filter fun z => decide (z ≠ y)).length < m.length := by
      have aux : ∀ m : List β, y ∈ m → (m.filter fun z => decide (z ≠ y)).length < m.length := by
        intro m
        induction m with
        | nil => intro z; cases z
        | cons w m ih =>
          intro z
          by_cases e : w = y
          · rw [List.filter_cons_of_neg (by simpa using e), List.length_cons]
            exact Nat.lt_succ_of_le (List.length_filter_le _ _)
          · rw [List.filter_cons_of_pos (by simpa using e), List.length_cons, List.length_cons]
            exact Nat.succ_lt_succ (ih ((List.mem_cons.mp z).resolve_left fun q => e q.symm))
      exact aux m hy
    rw [List.length_cons]
    omega
theorem frl_len {d j : Nat} {os : List PN} : (frl (Oc os) d j).length ≤ os.length + 1 := by
  rcases Nat.lt_or_ge j d with lt | ge
  · refine Nat.le_succ_of_le (nodup_le (R := fun y (q : PN) => ∃ i, y = i * 2 ^ j ∧ Mx (Oc os) d j i ∧ q.2 ≤ j ∧ q.1 / 2 ^ j = sib i) ((frl_rise _ _ _).imp fun h => Nat.ne_of_lt h) (fun y hy => ?_) ?_)
    · obtain ⟨i, e, h⟩ := frl_mem.mp hy
      have nf := h.2.2.2 lt
      have ⟨c, ec, oc⟩ : ∃ c, c / 2 ^ (j + 1) = i / 2 ∧ Oc os c := by
        apply Classical.byContradiction
        intro z
        exact nf fun c e oc => z ⟨c, e, oc⟩
      obtain ⟨q, hq, eq⟩ := oc
      rw [blk_succ] at ec
      have ne : c / 2 ^ j ≠ i := fun z => h.2.2.1 c z ⟨q, hq, eq⟩
      have le : q.2 ≤ j := by
        apply Classical.byContradiction
        intro z
        refine h.2.2.1 (i * 2 ^ j) (blk_of _ _) ⟨q, hq, ?_⟩
        rw [← eq]
        refine blk_mono (j := j + 1) (by omega) ?_
        rw [blk_succ, blk_of, blk_succ]
        exact ec.symm
      refine ⟨q, hq, i, e, h, le, ?_⟩
      rw [← blk_mono le eq]
      exact sib_of ec ne
    · rintro y y' q _ _ ⟨i, e, _, _, h⟩ ⟨i', e', _, _, h'⟩
      have : i = i' := by rw [← sib_sib i, ← h, h', sib_sib]
      rw [e, e', this]
  · -- the whole yard at most
    unfold frl
    rw [List.length_map, show d - j = 0 by omega]
    have := List.length_filter_le (fun i => @decide (Mx (Oc os) d j i) (Classical.propDecidable _)) (List.range (2 ^ 0))
    rw [List.length_range] at this
    omega
/-! ### own rules of the layer -/
theorem passX {X : Cx} {E : XK} (tk : Takes X (fun cls d _ H => E cls d H)) : Passes (L2.CX X.prog X.w) X E := passes_call tk fun _ _ _ _ h => h
/-- a method's call within a try -/
def tMethS (C : Addr) (m : Str) (sp : Sp) (E : L2.St → XK) (ta : TE) (t : TA) : TE :=
  fun σ H Q => ta σ H fun x H1 => ∃ a dx fs, x = .ref a ∧ H1 a = some (.ins C dx fs) ∧ fs.lookup m = none ∧
    t σ H1 fun vs H2 => sp (x :: vs) H2 Q (E σ)
theorem pe_methS {X : Cx} {XT : CXT} {lv : Nat} {g C : Addr} {fdg : FuncData} {prm : List Str} {sg : Sp} {wish : L2.St → XK} {m : Str} {pos apos : Pos} {arg0 ob : Expr} {rest : List Expr} {tob : TE} {targ : TA} {pl : Sem Bool}
    (hob : PE X ob tob) (cl : Cls X.K C) (me : Meth X.K C m g) (ok : FnOk X.prog X.w X.K X.mg X.base XT lv g fdg prm sg) (room : Room lv X.A) (bd : Binds X.K fdg prm []) (pass : ∀ σ, PassesAt XT X σ (wish σ)) (harg : PA X (arg0 :: rest) targ)
    (st1 : starEach (arg0 :: rest) X.env = (false, eval arg0 X.env) :: starEach rest X.env := by rfl) (st2 : (backTo pos (starEach rest X.env)).any (·.1) = false := by rfl)
    (shape : eval (.Call (.Attribute ob m apos) (arg0 :: rest) [] pos) X.env = (do
      let recv ← eval ob X.env
      standAt apos.atName
      let (fn, fst) ← holding [recv] (getMethod recv m pl)
      callWith pos fn fst (backTo pos (starEach (arg0 :: rest) X.env)) (backToKw pos (keywordEach [] X.env))) := by rfl) :
    PE X (.Call (.Attribute ob m apos) (arg0 :: rest) [] pos) (tMethS C m sg wish tob targ) := by
  constructor
  intro pins s0 τ H0 Q I0 ask
  refine PySem.W.methodCall_KW (pl := pl) (thn (hob.run pins s0 τ H0 _ I0 ask) fun rv s1 got => ?_) shape
  obtain ⟨xv, H1, I1, rel1, ad, dx, fs, rfl, there, look, more⟩ := got
  have erv : rv = Value.ref ad := rel1
  subst erv
  refine getmeth_ok I1 there cl me look ?_
  refine PySem.W.callWith_K (first := [.ref ad]) (h₀ := X.base) I1.ok.mod.kin me.kp (thn (harg.run pos pins s1 τ H1 _ I1 more) fun ws s2 got2 => ?_) st1 st2
  obtain ⟨vs, H2, I2, rel2, fin⟩ := got2
  exact ⟨I2.kIn, run_fnS (us := .ref ad :: ws) (vs := .ref ad :: vs) ok room bd (pass τ) I2 (.cons rfl rel2) fin⟩
/-- a making within a try -/
def tMakeS (C : Addr) (sp : Sp) (E : L2.St → XK) (t : TA) : TE :=
  fun σ H Q => t σ H fun vs H1 => ∀ x dx, H1 x = none → H1 dx = none → dx ≠ x →
    sp (.ref x :: vs) (upd (upd H1 dx (.own x)) x (.ins C dx [])) (fun v H2 => v = .non ∧ Q (.ref x) H2) (E σ)
section
variable {X : Cx} {XT : CXT} {lv : Nat} {g C : Addr} {fdg : FuncData} {prm : List Str} {sg : Sp}
theorem run_makeS {pins : List (Addr × Obj)} {τ : L2.St} {H0 : Hp} {s0 : Shared} {Q : VK} {us : List Value} {vs : List V} {wish : XK} (mk : Mk X.K C g) (ok : FnOk X.prog X.w X.K X.mg X.base XT lv g fdg prm sg) (room : Room (lv + 1) X.A) (bd : Binds X.K fdg prm [])
    (pass : PassesAt XT X τ wish) (I0 : Inv X pins τ H0 s0) (rel : Vals vs us)
    (ask : ∀ x dx, H0 x = none → H0 dx = none → dx ≠ x → sg (.ref x :: vs) (upd (upd H0 dx (.own x)) x (.ins C dx [])) (fun v H2 => v = .non ∧ Q (.ref x) H2) wish) :
    wpAny (model X.prog X.w) X.A (call (.ref C) us) (EP X pins τ Q) X.xe s0 := by
  have asked := ask (s0.heap.objs.size + 1) s0.heap.objs.size (I0.hok.fresh (Nat.le_succ _)) (I0.hok.fresh (Nat.le_refl _)) (Nat.ne_of_lt (Nat.lt_succ_self _))
  have I1 := Inv.made (C := C) I0
  have rel1 : Vals (V.ref (s0.heap.objs.size + 1) :: vs) (Value.ref (s0.heap.objs.size + 1) :: us) := .cons rfl rel
  have count : (Value.ref (s0.heap.objs.size + 1) :: us ++ []).length = prm.length := by
    have e := rel1.length
    rw [ok.len _ _ _ _ asked] at e
    rw [List.append_nil]
    exact e.symm
  have b := bd _ (Value.ref (s0.heap.objs.size + 1) :: us) I1.kIn count
  rw [List.append_nil] at b
  refine wpAny_call (make_map (f := g) I0.kIn mk.makes mk.init (beq_iff_eq.mp mk.fn) (codeAny_mono (ok.run _ X.stack _ _ ⟨Value.ref (s0.heap.objs.size + 1) :: us, []⟩ (Value.ref (s0.heap.objs.size + 1) :: us) _ _ wish (room.make C us [])
    (I1.env0.make C us []) b rel1 asked) fun out s1 end1 => ?_))
  cases out with
  | error err => exact pass pins _ _ err s1 I1 end1
  | ok flow =>
    cases flow with
    | ret u =>
      obtain ⟨v, H2, I2, rv, hv, fin⟩ := I1.after end1
      subst hv
      exact ⟨rv, V.ref (s0.heap.objs.size + 1), H2, I2, rfl, fin⟩
    | next => exact end1.elim
    | brk => exact end1.elim
    | cont => exact end1.elim
theorem pe_makeS {wish : L2.St → XK} {x : Str} {p pos : Pos} {arg0 : Expr} {rest : List Expr} {targ : TA} (mk : Mk X.K C g) (ok : FnOk X.prog X.w X.K X.mg X.base XT lv g fdg prm sg) (room : Room (lv + 1) X.A) (gl : Gl X x) (at_ : X.mg x = some (.ref C)) (bd : Binds X.K fdg prm []) (pass : ∀ σ, PassesAt XT X σ (wish σ))
    (harg : PA X (arg0 :: rest) targ) (nd : (x == ("__debug__" : Str)) = false := by decide) (st1 : starEach (arg0 :: rest) X.env = (false, eval arg0 X.env) :: starEach rest X.env := by rfl) (st2 : (backTo pos (starEach rest X.env)).any (·.1) = false := by rfl) :
    PE X (.Call (.Name x p) (arg0 :: rest) [] pos) (tMakeS C sg wish targ) := by
  constructor
  intro pins s0 τ H0 Q I0 ask
  refine wpAny_Call_Name_kw (ld_glob I0 gl at_ ?_ nd)
  refine PySem.W.callWith_K (h₀ := X.base) I0.ok.mod.kin mk.kp (thn (harg.run pos pins s0 τ H0 _ I0 ask) fun us s1 got => ?_) st1 st2
  obtain ⟨vs, H1, I1, rel, fin⟩ := got
  exact ⟨I1.kIn, run_makeS mk ok room bd (pass τ) I1 rel fin⟩
/-- x *= j, x //= j -/
theorem ip_mulX : PIp X .Mult (rI CMulX fun i j => .int (i * j)) := by
  intro pins s0 τ H0 x y v u Q I0 r1 r2 ask
  obtain ⟨i, j, rfl, rfl, small, fin⟩ := ask
  obtain ⟨t1, rfl⟩ := r1
  obtain ⟨t2, rfl⟩ := r2
  have got : (Made.int (i * j)).post (EP X pins τ Q) s0 := ⟨.int _, H0, I0.tok _, ⟨_, rfl⟩, fin⟩
  exact AutoIntOps.imul_0 got small.ok
theorem ip_fdivW : PIp X .FloorDiv (rI CDivW fun i j => .int (i / j)) := iop_fdivW
/-- d.items(), as a value -/
def rItemsK : V → List V → Hp → VK → Prop := fun x xs H Q => ∃ (d : Addr) (kvs : List (Key × V)), x = .ref d ∧ xs = [] ∧ H d = some (.dK kvs) ∧ ∀ p, H p = none → Q (.ref p) (upd H p (L2.DX.itemsO p d))
theorem mt_itemsK : MtR X "dict.items" rItemsK := by
  intro pins s0 τ H0 x xs v us Q I0 rx rxs ask
  obtain ⟨d, kvs, rfl, rfl, there, fin⟩ := ask
  cases rx
  cases rxs
  obtain ⟨_, notSys, ents, _, ob, es, ep, at0, exact0, body0, _⟩ := I0.hok d _ there
  refine DT.callItems (es := es) (ep := ep) notSys ⟨ob, at0, exact0, body0⟩ ?_
  refine ⟨.ref s0.heap.objs.size, upd H0 s0.heap.objs.size (L2.DX.itemsO s0.heap.objs.size d), ?_, rfl, fin _ (I0.hok.fresh (Nat.le_refl _))⟩
  exact I0.laid (t' := s0.toks) (fun b u e => Heap.get?_push_of_some _ e) (Nat.le_refl _) (L2.DX.itemsO_ok (Heap.get?_push_size _ rfl))
end
/-! ### pairs of ints in their order -/
abbrev PI2 := Int × Int
/-- x is not behind y -/
def leP (x y : PI2) : Bool := !SrtO.lexB y x
theorem leP_iff {x y : PI2} : leP x y = true ↔ x.1 < y.1 ∨ (x.1 = y.1 ∧ x.2 ≤ y.2) := by
  unfold leP
  rw [Bool.not_eq_true', SrtO.lexB_no]
  omega
def srt (l : List PI2) : List PI2 := l.mergeSort leP
theorem srt_perm (l : List PI2) : (srt l).Perm l := List.mergeSort_perm l leP
theorem srt_sorted (l : List PI2) : (srt l).Pairwise (fun x y => leP x y = true) := by
  refine List.pairwise_mergeSort (fun x y z h1 h2 => ?_) (fun x y => ?_) l
  · rw [leP_iff] at h1 h2 ⊢
    omega
  · rw [Bool.or_eq_true, leP_iff, leP_iff]
    omega
theorem leP_anti {x y : PI2} (h1 : leP x y = true) (h2 : leP y x = true) : x = y := by
  rw [leP_iff] at h1 h2
  have e1 : x.1 = y.1 := by omega
  have e2 : x.2 = y.2 := by omega
  exact Prod.ext e1 e2
theorem sorted_uniq : ∀ {l m : List PI2}, l.Perm m → l.Pairwise (fun x y => leP x y = true) → m.Pairwise (fun x y => leP x y = true) → l = m
  | [], m, p, _, _ => p.symm.eq_nil.symm
  | x :: l, [], p, _, _ => by cases p.eq_nil
  | x :: l, y :: m, p, h1, h2 => by
    obtain ⟨a1, a2⟩ := List.pairwise_cons.mp h1
    obtain ⟨b1, b2⟩ := List.pairwise_cons.mp h2
    have e : x = y := by
      rcases List.mem_cons.mp (p.mem_iff.mp List.mem_cons_self) with e | e
      · exact e
      · rcases List.mem_cons.mp (p.mem_iff.mpr List.mem_cons_self) with e' | e'
        · exact e'.symm
        · exact leP_anti (a1 y e') (b1 x e)
    subst e
    rw [sorted_uniq p.cons_inv a2 b2]
theorem srt_of {l m : List PI2} (p : l.Perm m) (h : l.Pairwise (fun x y => SrtO.lexB y x = false)) : l = srt m := by
  refine sorted_uniq (p.trans (srt_perm m).symm) (h.imp fun {x y} z => ?_) (srt_sorted m)
  unfold leP
  rw [z]
  rfl
theorem srt_eq {l m : List PI2} (p : l.Perm m) : srt l = srt m := sorted_uniq ((srt_perm l).trans (p.trans (srt_perm m).symm)) (srt_sorted l) (srt_sorted m)
theorem srt_mem {l : List PI2} {q : PI2} : q ∈ srt l ↔ q ∈ l := (srt_perm l).mem_iff
/-! tuples in the heap -/
def Tups (H : Hp) (ts : List Addr) (zs : List PI2) : Prop := Paired (fun (t : Addr) (q : PI2) => H t = some (.tup [.int q.1, .int q.2])) ts zs
theorem Tups.len {H : Hp} : ∀ {ts : List Addr} {zs : List PI2}, Tups H ts zs → ts.length = zs.length
  | _, _, .nil => rfl
  | _, _, .cons _ r => congrArg Nat.succ (Tups.len r)
theorem Tups.get {H : Hp} : ∀ {ts : List Addr} {zs : List PI2}, Tups H ts zs → ∀ {i : Nat} {q : PI2}, zs[i]? = some q → ∃ t, ts[i]? = some t ∧ H t = some (.tup [.int q.1, .int q.2])
  | _, _, .cons h _, 0, q, e => by
    cases e
    exact ⟨_, rfl, h⟩
  | _, _, .cons _ r, i + 1, q, e => Tups.get r e
theorem Tups.keep {H H' : Hp} (k : ∀ t xs, H t = some (.tup xs) → H' t = some (.tup xs)) : ∀ {ts : List Addr} {zs : List PI2}, Tups H ts zs → Tups H' ts zs
  | _, _, .nil => .nil
  | _, _, .cons h r => .cons (k _ _ h) (Tups.keep k r)
theorem Tups.snoc {H : Hp} {t : Addr} {q : PI2} (h : H t = some (.tup [.int q.1, .int q.2])) : ∀ {ts : List Addr} {zs : List PI2}, Tups H ts zs → Tups H (ts ++ [t]) (zs ++ [q])
  | _, _, .nil => .cons h .nil
  | _, _, .cons g r => .cons g (Tups.snoc h r)
theorem Tups.append {H : Hp} : ∀ {ts us : List Addr} {zs ws : List PI2}, Tups H ts zs → Tups H us ws → Tups H (ts ++ us) (zs ++ ws)
  | _, _, _, _, .nil, g => g
  | _, _, _, _, .cons h r, g => .cons h (Tups.append r g)
/-- what pair stands at the object -/
def tupK (H : Hp) : V → PI2
  | .ref t => match H t with
    | some (.tup [.int i, .int j]) => (i, j)
    | _ => (0, 0)
  | _ => (0, 0)
theorem tupK_at {H : Hp} {t : Addr} {q : PI2} (h : H t = some (.tup [.int q.1, .int q.2])) : tupK H (.ref t) = q := by
  show (match H t with | some (.tup [.int i, .int j]) => (i, j) | _ => (0, 0)) = q
  rw [h]
theorem Tups.map {H : Hp} : ∀ {ts : List Addr} {zs : List PI2}, Tups H ts zs → zs = ts.map fun t => tupK H (.ref t)
  | _, _, .nil => rfl
  | _, _, .cons h r => by rw [List.map_cons, tupK_at h, ← Tups.map r]
theorem refs_inj {l m : List Addr} (h : (l.map V.ref).Perm (m.map V.ref)) : l.Perm m := by
  have e2 := h.map fun v => match v with | V.ref b => b | _ => 0
  rw [List.map_map, List.map_map] at e2
  have f : ∀ l : List Addr, l.map ((fun v => match v with | V.ref b => b | _ => 0) ∘ V.ref) = l := fun l => by
    induction l with
    | nil => rfl
    | cons x l ih => rw [List.map_cons, ih]; rfl
  rw [f, f] at e2
  exact e2
theorem refs_of : ∀ {ys : List V}, (∀ y ∈ ys, ∃ t, y = V.ref t) → ∃ ts : List Addr, ys = ts.map V.ref
  | [], _ => ⟨[], rfl⟩
  | y :: ys, h => by
    obtain ⟨t, rfl⟩ := h y List.mem_cons_self
    obtain ⟨ts, rfl⟩ := refs_of fun z hz => h z (List.mem_cons_of_mem _ hz)
    exact ⟨t :: ts, rfl⟩
/-- sorted(xs), xs a list of pairs of ints -/
def rSortTups (K : PySem.W.Frag) : List V → Hp → VK → Prop := fun vs H Q => ∃ (l : Addr) (ts : List Addr) (zs : List PI2), vs = [.ref l] ∧ SqL K H l (ts.map V.ref) ∧ Tups H ts zs ∧
  ∀ (p : Addr) (us : List Addr), H p = none → Tups (upd H p (.lst (us.map V.ref))) us (srt zs) → Q (.ref p) (upd H p (.lst (us.map V.ref)))
theorem cr_sortedTups {X : Cx} : CallR X (.builtin "sorted") (rSortTups X.K) := by
  intro pins s0 τ H0 vs us Q I0 rel ask
  obtain ⟨l, ts, zs, rfl, hl, ht, fin⟩ := ask
  have each : ∀ x ∈ ts.map V.ref, ∃ t, x = V.ref t ∧ H0 t = some (.tup [.int (tupK H0 x).1, .int (tupK H0 x).2]) := by
    intro x hx
    obtain ⟨t, m, rfl⟩ := List.mem_map.mp hx
    obtain ⟨i, hi⟩ := List.mem_iff_getElem?.mp m
    obtain ⟨lt, _⟩ := List.getElem?_eq_some_iff.mp hi
    obtain ⟨q, hq⟩ : ∃ q, zs[i]? = some q := ⟨_, List.getElem?_eq_getElem (by rw [← ht.len]; exact lt)⟩
    obtain ⟨t', h1, h2⟩ := ht.get hq
    have e := Option.some.inj (h1.symm.trans hi)
    subst e
    exact ⟨_, rfl, by rw [tupK_at h2]; exact h2⟩
  refine cr_sortedPO pins s0 τ H0 [V.ref l] us Q I0 rel ⟨l, _, tupK H0, rfl, hl, each, fun ys p ordered stable new => ?_⟩
  obtain ⟨us, rfl⟩ := refs_of fun y hy => by
    obtain ⟨t, e, _⟩ := each y (stable.perm.mem_iff.mp hy)
    exact ⟨t, e⟩
  have pm := refs_inj stable.perm
  have ez : us.map (fun t => tupK H0 (.ref t)) = srt zs := by
    refine srt_of ?_ ?_
    · rw [ht.map]
      exact pm.map _
    · exact List.pairwise_map.mpr (List.pairwise_map.mp ordered)
  refine fin p us new ?_
  rw [← ez]
  have aux : ∀ l : List Addr, (∀ t ∈ l, t ∈ ts) → Tups (upd H0 p (.lst (us.map V.ref))) l (l.map fun t => tupK H0 (.ref t)) := fun l => by
    induction l with
    | nil => exact fun _ => .nil
    | cons t l ih =>
      intro h
      refine .cons ?_ (ih fun z hz => h z (List.mem_cons_of_mem _ hz))
      obtain ⟨t', e, e2⟩ := each (.ref t) (List.mem_map.mpr ⟨t, h t List.mem_cons_self, rfl⟩)
      have e3 : t = t' := V.ref.inj e
      rw [← e3] at e2
      show upd H0 p (.lst (us.map V.ref)) t = some (.tup [.int (tupK H0 (.ref t)).1, .int (tupK H0 (.ref t)).2])
      rw [upd_ne (ne_of_none e2 new)]
      exact e2
  exact aux us fun t m => pm.mem_iff.mp m
/-! ### sorted(d.items()): keys and values are ints -/
abbrev entI (q : Int × Int) : Key × V := (Sum.inl q.1, V.int q.2)
def rSortView : List V → Hp → VK → Prop := fun vs H Q => ∃ (p d : Addr) (ps : List (Int × Int)), vs = [.ref p] ∧ H p = some (L2.DX.itemsO p d) ∧ H d = some (.dK (ps.map entI)) ∧
  ∀ (H' : Hp) (l : Addr) (ts : List Addr), (∀ b o, H b = some o → H' b = some o) → H l = none → H' l = some (.lst (ts.map V.ref)) → Tups H' ts (srt ps) → Q (.ref l) H'
theorem pairs_at {P : Program} {w : World} : ∀ {es : List DictEntry} {kvs : List (Key × Value)}, Pairs (mixKind P w) es kvs → ∀ (j : Nat) (en : DictEntry), es[j]? = some en → ∃ k : Key, kvs[j]? = some (k, en.val) ∧ keyIs k en.key = true
  | _, _, .nil, j, en, h => by cases h
  | _, kv :: _, .cons hk hv r, 0, en, h => by
    have e := Option.some.inj h
    subst e
    exact ⟨kv.1, by rw [hv]; rfl, hk⟩
  | _, _, .cons hk hv r, j + 1, en, h => pairs_at r j en h
/-- the pair that the place j of the new tuples stands for -/
def pairOf (as : List Addr) (ps : List (Int × Int)) : Value → Int × Int
  | .ref b => ps.getD (as.idxOf b) (0, 0)
  | _ => (0, 0)
theorem pairOf_at {as : List Addr} {ps : List (Int × Int)} (nd : as.Nodup) {j : Nat} {b : Addr} {q : Int × Int} (h1 : as[j]? = some b) (h2 : ps[j]? = some q) : pairOf as ps (.ref b) = q := by
  obtain ⟨lt, e⟩ := List.getElem?_eq_some_iff.mp h1
  have e2 : as.idxOf b = j := by rw [← e]; exact nd.idxOf_getElem j lt
  show ps.getD (as.idxOf b) (0, 0) = q
  rw [e2, List.getD, h2]
  rfl
section
variable {X : Cx}
theorem cr_sortedView (calm : X.calm = true) : CallR X (.builtin "sorted") rSortView := by
  intro pins s0 τ H0 xs us Q I0 rel ask
  obtain ⟨p, d, ps, rfl, hp, hd, fin⟩ := ask
  obtain rfl := Vals.ref1 rel
  have view : s0.heap.IsItemsView p d := (show ObjOk X.prog X.w H0 s0.heap p (L2.DX.itemsO p d) from I0.hok p _ hp).1
  obtain ⟨few, _, ents, kv, ob, es, ep, at0, exact0, body0, _, prs, _⟩ := I0.hok d _ hd
  have n1 : (ps.map entI).length = ents.length := Paired.length kv
  have n2 : es.toList.length = ents.length := prs.length
  rw [List.length_map] at n1 few
  rw [Array.length_toList] at n2
  refine DT.sortedI (es := es) (ep := ep) (I0.ok.hd calm) view ⟨ob, at0, exact0, body0⟩ (by omega) fun h' tk as keep above count made => ?_
  have nd : as.Nodup := made.rise.imp fun l => Nat.ne_of_lt l
  -- each new tuple is its pair
  have tup : ∀ (j : Nat) (b : Addr), as[j]? = some b → ∃ (q : Int × Int) (t1 t2 : Tok), ps[j]? = some q ∧ h'.get? b = some { cls := .type "tuple", data := .seq #[Value.int q.1 t1, Value.int q.2 t2] } := by
    intro j b hj
    obtain ⟨en, he, hg⟩ := made.pairs j b hj
    rw [← Array.getElem?_toList] at he
    obtain ⟨key, hk, isk⟩ := pairs_at prs j en he
    obtain ⟨kvq, g1, g2, g3⟩ := L2.DX.pget kv hk
    rw [List.getElem?_map] at g1
    cases hq : ps[j]? with
    | none =>
      rw [hq] at g1
      cases g1
    | some q =>
      rw [hq] at g1
      cases g1
      have ek : Sum.inl q.1 = key := g2
      subst ek
      obtain ⟨t1, e1⟩ := Value.isInt_shape (k := q.1) (v := en.key) isk
      obtain ⟨t2, e2⟩ : ∃ t2, en.val = Value.int q.2 t2 := g3
      refine ⟨q, t1, t2, rfl, ?_⟩
      rw [hg, e1, e2]
  have hob : (h'.push { cls := .type "list", data := .seq (as.map Value.ref).toArray }).get? h'.objs.size = some (PyProof.Rows.seqObj "list" (as.map Value.ref).toArray 0) := Heap.get?_push_size _ rfl
  have kb : ∀ b o, s0.heap.get? b = some o → (h'.push { cls := .type "list", data := .seq (as.map Value.ref).toArray }).get? b = some o := fun b o e => Heap.get?_push_of_some _ (keep b o e)
  have apart : ∀ b o, h'.get? b = some o → b ≠ h'.objs.size := fun b o e => Nat.ne_of_lt (Heap.lt_size e)
  generalize hh2 : h'.push { cls := .type "list", data := .seq (as.map Value.ref).toArray } = h2 at hob kb ⊢
  have ka : ∀ b o, h'.get? b = some o → h2.get? b = some o := fun b o e => by rw [← hh2]; exact Heap.get?_push_of_some _ e
  have isp : ∀ v ∈ as.map Value.ref, Srt.IsPair h2 v (pairOf as ps v).1 (pairOf as ps v).2 := by
    intro v hv
    obtain ⟨b, hb, rfl⟩ := List.mem_map.mp hv
    obtain ⟨j, hj⟩ := List.mem_iff_getElem?.mp hb
    obtain ⟨q, t1, t2, hq, hg⟩ := tup j b hj
    rw [pairOf_at nd hj hq]
    exact ⟨b, _, t1, t2, 0, rfl, ka _ _ hg, rfl, rfl⟩
  refine wpAny_call_entry PyProof.Rows.slot_list_sort ⟨_, hob, rfl⟩ PyProof.Rows.entry_list_sort
    (SrtO.list_sort_ord (s := { s0 with heap := h2, toks := tk }) (SrtO.swo_lex (pairOf as ps)) hob (by rw [List.length_map]; omega) (fun two => SrtO.pairs_sortableO (by omega) isp fun o e => ?_) fun out ordered stable => ⟨.none, rfl, ?_⟩) (PyProof.Rows.args_list_sort _)
  · have e' : some o = some (PyProof.Rows.seqObj "list" (as.map Value.ref).toArray 0) := e.symm.trans hob
    cases e'
    intro c
    exact absurd (Value.type.inj c) (by decide)
  · show EP X pins τ Q (.ref h'.objs.size) { s0 with heap := PyProof.Rows.sortedHeap h2 h'.objs.size (as.map Value.ref) out.toArray, toks := tk }
    -- the addresses in their order
    have outs : ∃ ts : List Addr, out = ts.map Value.ref ∧ ∀ t ∈ ts, t ∈ as := by
      have each : ∀ u ∈ out, ∃ t, u = Value.ref t ∧ t ∈ as := fun u hu => by
        obtain ⟨t, ht, e⟩ := List.mem_map.mp (stable.perm.mem_iff.mp hu)
        exact ⟨t, e.symm, ht⟩
      clear stable ordered
      induction out with
      | nil => exact ⟨[], rfl, fun t h => by cases h⟩
      | cons u out ih =>
        obtain ⟨t, e, ht⟩ := each u List.mem_cons_self
        obtain ⟨ts, e2, h2⟩ := ih fun v hv => each v (List.mem_cons_of_mem _ hv)
        refine ⟨t :: ts, by rw [e, e2]; rfl, fun z hz => ?_⟩
        rcases List.mem_cons.mp hz with rfl | hz
        · exact ht
        · exact h2 z hz
    obtain ⟨ts, eo, mem⟩ := outs
    have k2 : ∀ b o, b ≠ h'.objs.size → h2.get? b = some o → (PyProof.Rows.sortedHeap h2 h'.objs.size (as.map Value.ref) out.toArray).get? b = some o := fun b o hb e => (PyProof.Rows.sortedHeap_old hb (Heap.lt_size e)).trans e
    have k0 : ∀ b o, s0.heap.get? b = some o → (PyProof.Rows.sortedHeap h2 h'.objs.size (as.map Value.ref) out.toArray).get? b = some o := fun b o e => k2 b o (apart b o (keep b o e)) (kb b o e)
    obtain ⟨ep2, there⟩ := PyProof.Rows.sortedHeap_at (vs := as.map Value.ref) (out := out.toArray) hob
    have I1 : Inv X pins τ H0 { s0 with heap := PyProof.Rows.sortedHeap h2 h'.objs.size (as.map Value.ref) out.toArray, toks := tk } := I0.kept (t' := tk) k0
    have new0 : H0 h'.objs.size = none := I0.hok.fresh (Nat.le_of_lt above)
    have lts : ts.length = as.length := by
      have e := stable.perm.length_eq
      rw [eo, List.length_map, List.length_map] at e
      exact e
    have I2 : Inv X pins τ (upd H0 h'.objs.size (.lst (ts.map V.ref))) { s0 with heap := PyProof.Rows.sortedHeap h2 h'.objs.size (as.map Value.ref) out.toArray, toks := tk } := by
      refine I1.take (h' := PyProof.Rows.sortedHeap h2 h'.objs.size (as.map Value.ref) out.toArray) (t' := tk) (fun b ob _ e => e) (I0.fpOk (Nat.le_of_lt above) new0) ⟨?_, out, ep2, ?_, there⟩
      · rw [List.length_map]
        omega
      · rw [eo]
        exact LiI.vals_refs ts
    obtain ⟨H2, I3, grow, each⟩ := L2.DX.takeT (P := fun b vs => ∃ q : Int × Int, pairOf as ps (.ref b) = q ∧ vs = [.int q.1, .int q.2]) I0 as _ I2 nd fun b hb => by
      obtain ⟨j, hj⟩ := List.mem_iff_getElem?.mp hb
      obtain ⟨q, t1, t2, hq, hg⟩ := tup j b hj
      have low : s0.heap.objs.size ≤ b := Nat.le_of_lt (made.above b hb)
      refine ⟨low, ?_, _, ⟨q, pairOf_at nd hj hq, rfl⟩, fun H3 => ⟨by show 2 ≤ sizeLine; decide, [Value.int q.1 t1, Value.int q.2 t2], .cons ⟨t1, rfl⟩ (.cons ⟨t2, rfl⟩ .nil), ⟨_, k2 _ _ (apart _ _ hg) (ka _ _ hg), rfl, 0, rfl⟩⟩⟩
      rw [upd_ne (apart _ _ hg)]
      exact I0.hok.fresh low
    have ez : ts.map (fun t => pairOf as ps (.ref t)) = srt ps := srt_of (by
      have pm : ts.Perm as := by
        have e := stable.perm
        rw [eo] at e
        have e2 := e.map fun v => match v with | Value.ref b => b | _ => 0
        rw [List.map_map, List.map_map] at e2
        have f : ∀ l : List Addr, l.map ((fun v => match v with | Value.ref b => b | _ => 0) ∘ Value.ref) = l := fun l => by
          induction l with
          | nil => rfl
          | cons x l ih => rw [List.map_cons, ih]; rfl
        rw [f, f] at e2
        exact e2
      have em : as.map (fun t => pairOf as ps (.ref t)) = ps := by
        refine List.ext_getElem? fun j => ?_
        rw [List.getElem?_map]
        cases hj : as[j]? with
        | none =>
          have := List.getElem?_eq_none_iff.mp hj
          rw [List.getElem?_eq_none (by omega)]
          rfl
        | some b =>
          obtain ⟨q, _, _, hq, _⟩ := tup j b hj
          rw [hq]
          show some (pairOf as ps (.ref b)) = some q
          rw [pairOf_at nd hj hq]
      have e := pm.map fun t => pairOf as ps (.ref t)
      rw [em] at e
      exact e
      ) (by
      rw [eo] at ordered
      exact List.pairwise_map.mpr (List.pairwise_map.mp ordered))
    have aux : ∀ l : List Addr, (∀ t ∈ l, t ∈ as) → Tups H2 l (l.map fun t => pairOf as ps (.ref t)) := fun l => by
      induction l with
      | nil => exact fun _ => .nil
      | cons t l ih =>
        intro h
        refine .cons ?_ (ih fun z hz => h z (List.mem_cons_of_mem _ hz))
        obtain ⟨vs, ⟨q, e1, rfl⟩, e2⟩ := each t (h t List.mem_cons_self)
        show H2 t = some (.tup [.int (pairOf as ps (.ref t)).1, .int (pairOf as ps (.ref t)).2])
        rw [e1]
        exact e2
    refine ⟨.ref h'.objs.size, H2, I3, rfl, fin H2 h'.objs.size ts (fun b o e => grow b o (by rw [upd_ne (ne_of_none e new0)]; exact e)) new0 (grow _ _ upd_same) ?_⟩
    rw [← ez]
    exact aux ts mem
end
/-! ### isinstance of a caught error (its class is known where the reading is answered) -/
def rIsX (K : PySem.W.Frag) (a : Addr) (cls : Value) (d : Option Addr) : List V → Hp → VK → Prop := fun xs H Q => ∃ D, cls = .ref D ∧ d = none ∧ ExcC K D ∧ rIsE K D a xs H Q
def rIsXT (K : PySem.W.Frag) (a : Addr) (cls : Value) (d : Option Addr) : List V → Hp → VK → Prop := fun xs H Q => ∃ (D tp : Addr) (cs : List V) (us : List Value) (b : Bool), cls = .ref D ∧ d = none ∧ ExcC K D ∧
  xs = [.ref a, .ref tp] ∧ H tp = some (.tup cs) ∧ Paired ClsV cs us ∧ PySem.W.kitAny K (.ref D) us = some b ∧ Q (.bl b) H
section
variable {X : Cx} {a : Addr} {oe : Obj} {pn : List (Addr × Obj)} {cls : Value} {d : Option Addr}
theorem call_isX (hz : Zc cls d oe) (hf : ∃ vs, oe.data = .fields vs) : CallR (X.suite a ((a, oe) :: pn)) (.builtin "isinstance") (rIsX X.K a cls d) := by
  intro pins s σ H xs us Q I r h
  obtain ⟨D, rfl, rfl, C, h⟩ := h
  exact call_isE C hz hf pins s σ H xs us Q I r h
theorem call_isXT (hz : Zc cls d oe) (hf : ∃ vs, oe.data = .fields vs) : CallR (X.suite a ((a, oe) :: pn)) (.builtin "isinstance") (rIsXT X.K a cls d) := by
  intro pins s σ H vals args Q inv rel ask
  rcases ask with ⟨D, tp, cs, want, b, rfl, rfl, ok, rfl, htup, pairs, ans, fin⟩
  rcases vals2 rel with ⟨x1, x2, rfl, rel1, rel2⟩
  have ex1 : x1 = Value.ref a := rel1
  have ex2 : x2 = Value.ref tp := rel2
  subst ex1 ex2
  have pinned := (inv.pin (a, oe) (List.mem_append.mpr (.inl List.mem_cons_self))).1
  have inst : PySem.W.InstAt s.heap a oe D none := by
    rcases oe with ⟨kind, dct, body, slots⟩
    rcases hz with ⟨z1, z2⟩
    rcases hf with ⟨fs, z3⟩
    simp only at z1 z2 z3
    subst z1; subst z2; subst z3
    exact ⟨pinned, rfl, rfl, trivial⟩
  have tup : ObjOk X.prog X.w H s.heap tp (.tup cs) := inv.hok tp _ htup
  rcases tup with ⟨_, members, each, obj, at1, kind1, size1, body1⟩
  have same := ClsV.all pairs each
  subst same
  rcases obj with ⟨kind, dct, body, slots⟩
  dsimp only at kind1 body1
  subst kind1; subst body1
  refine PySem.W.kia_tup (PySem.W.handS_kitx_exc ok.hg ok.hk ok.hs ok.hd ok.ha ok.hn ok.ht ok.hm) inv.kIn inst at1 ans (fun z => nomatch z) (fun tk => ?_)
  exact ⟨.bl b, H, inv.kept (t' := tk) (fun _ _ same => same), rfl, fin⟩
end
theorem iteTof {c : Bool} {A B : Prop} (hc : c = true) (h : A) : if c = true then A else B := by
  rw [if_pos hc]
  exact h
theorem iteFof {c : Bool} {A B : Prop} (hc : c = false) (h : B) : if c = true then A else B := by
  rw [hc, if_neg Bool.false_ne_true]
  exact h
end BY
namespace BY
open PySem L2
/-- a def of the top's -/
structure DefAt (K : PySem.W.Frag) (mg : Str → Option Value) (x : Str) (st : Stmt) (ps : List Str) (f : Addr) (fd : FuncData) : Prop where
  mg : mg x = some (.ref f)
  fn : Fun K x x st f fd
  bd : Binds K fd ps []
/-- an own error class -/
structure ExcT (K : PySem.W.Frag) (mg : Str → Option Value) (x : Str) (C : Addr) : Prop where
  g : mg x = some (.ref C)
  x : PySem.W.excIn K C [.type "ValueError", .type "Exception", .type "BaseException", .type "object"] "ValueError.__new__" = true
  k : PySem.W.keepIn K (.ref C) = true
  t : PySem.W.typeIn K (.ref C) = some (.type "type")
  c : PySem.W.isClsIn K C = true
  is : ExcC K C
  ve : PySem.W.kitOne K (.ref C) (.type "ValueError") = some true
theorem kit_ve {K : PySem.W.Frag} {C : Addr} (h : PySem.W.subIn K (.ref C) (.type "ValueError") = some true) : PySem.W.kitOne K (.ref C) (.type "ValueError") = some true := by
  have e : PySem.W.kitMeta "ValueError" = true := by decide +kernel
  show (if (Value.ref C == Value.type "ValueError") = true then some true else if PySem.W.kitMeta "ValueError" = true then PySem.W.subIn K (.ref C) (.type "ValueError") else none) = some true
  rw [if_neg (by simp), if_pos e]
  exact h

/-- a def whose code object is known -/
structure FunAt (K : PySem.W.Frag) (x qual : Str) (st : Stmt) (f : Addr) (fd : FuncData) (q : Addr) : Prop where
  ex : ∃ (oc : Value) (od : Option Addr) (kV doc pm : Value) (an : Option Addr) (ct : Value) (osl : Array (Option Value)),
    fd = PySem.W.fnOf x qual (defArgs st) (defBody st) (defScope st) .none kV doc pm an (.ref q) ct ∧ K.lookup f = some ⟨oc, od, .func fd, osl⟩ ∧ PySem.W.codeIn K (.ref q) qual = true
def top (i : Nat) : Stmt := PySem.Challenge.pw_buddyyard_k11_whole_many_at_once.main.body.getD i (.Pass ⟨0, 0, 0, 0⟩)
abbrev s_is_size : Stmt := top 8
abbrev s_size_for : Stmt := top 9
abbrev s_twin_of : Stmt := top 10
abbrev s_fitting_sizes : Stmt := top 12
abbrev s_give_all : Stmt := top 13
abbrev s_rank : Stmt := top 15
abbrev s_Pool_init : Stmt := inClass (top 16) 0
abbrev s_Pool_put : Stmt := inClass (top 16) 1
abbrev s_Pool_drop : Stmt := inClass (top 16) 2
abbrev s_Pool_has : Stmt := inClass (top 16) 3
abbrev s_Pool_best : Stmt := inClass (top 16) 4
abbrev s_Pool_pieces : Stmt := inClass (top 16) 5
abbrev s_upper_halves : Stmt := top 18
abbrev s_Yard_init : Stmt := inClass (top 19) 0
abbrev s_Yard_give : Stmt := inClass (top 19) 1
abbrev s_Yard_take_back : Stmt := inClass (top 19) 2
abbrev s_Yard_resize : Stmt := inClass (top 19) 3
abbrev s_Yard_free : Stmt := inClass (top 19) 4
abbrev s_Yard_out : Stmt := inClass (top 19) 5
abbrev s_Yard_owner : Stmt := inClass (top 19) 6
abbrev s_Yard_fitting : Stmt := inClass (top 19) 7
abbrev s_Yard_size_of : Stmt := inClass (top 19) 8
abbrev s_Yard_cut : Stmt := inClass (top 19) 9
abbrev s_Yard_grow : Stmt := inClass (top 19) 10
abbrev s_Yard_join : Stmt := inClass (top 19) 11
abbrev s_law_whole : Stmt := top 21
abbrev s_law_cell_at : Stmt := top 22
abbrev s_law_doubled : Stmt := top 23
abbrev s_law_fitting : Stmt := top 24
abbrev s_law_yard_size : Stmt := top 25
abbrev s_law_want : Stmt := top 26
abbrev s_law_done : Stmt := top 27
abbrev s_law_touched : Stmt := top 28
abbrev s_law_due : Stmt := top 29
abbrev s_law_told : Stmt := top 30
abbrev s_law_halves : Stmt := top 31
abbrev s_law_wishes : Stmt := top 32
abbrev s_law_in_turn : Stmt := top 33
abbrev s_law_owner : Stmt := top 34
abbrev s_law_owners : Stmt := top 35
abbrev s_law_behind : Stmt := top 36
abbrev s_law : Stmt := top 37
theorem sc_is_size : FnScope ["number"] ["number"] (defScope s_is_size) := ⟨rfl, rfl, rfl, by decide +kernel, rfl, by decide +kernel, by decide +kernel⟩
theorem sc_size_for : FnScope ["want"] ["want"] (defScope s_size_for) := ⟨rfl, rfl, rfl, by decide +kernel, rfl, by decide +kernel, by decide +kernel⟩
theorem sc_twin_of : FnScope ["at", "size"] ["at", "size"] (defScope s_twin_of) := ⟨rfl, rfl, rfl, by decide +kernel, rfl, by decide +kernel, by decide +kernel⟩
theorem sc_fitting_sizes : FnScope ["yard", "wants", "want"] ["yard", "wants"] (defScope s_fitting_sizes) := ⟨rfl, rfl, rfl, by decide +kernel, rfl, by decide +kernel, by decide +kernel⟩
theorem sc_give_all : FnScope ["yard", "wants", "order", "places", "turn", "at", "sizes"] ["yard", "wants"] (defScope s_give_all) := ⟨rfl, rfl, rfl, by decide +kernel, rfl, by decide +kernel, by decide +kernel⟩
theorem sc_rank : FnScope ["places", "at", "low", "high", "middle"] ["places", "at"] (defScope s_rank) := ⟨rfl, rfl, rfl, by decide +kernel, rfl, by decide +kernel, by decide +kernel⟩
theorem sc_Pool_init : FnScope ["self", "cells", "size"] ["self", "cells"] (defScope s_Pool_init) := ⟨rfl, rfl, rfl, by decide +kernel, rfl, by decide +kernel, by decide +kernel⟩
theorem sc_Pool_put : FnScope ["self", "at", "size", "places"] ["self", "at", "size"] (defScope s_Pool_put) := ⟨rfl, rfl, rfl, by decide +kernel, rfl, by decide +kernel, by decide +kernel⟩
theorem sc_Pool_drop : FnScope ["self", "at", "size", "places"] ["self", "at", "size"] (defScope s_Pool_drop) := ⟨rfl, rfl, rfl, by decide +kernel, rfl, by decide +kernel, by decide +kernel⟩
theorem sc_Pool_has : FnScope ["self", "at", "size", "places", "ahead"] ["self", "at", "size"] (defScope s_Pool_has) := ⟨rfl, rfl, rfl, by decide +kernel, rfl, by decide +kernel, by decide +kernel⟩
theorem sc_Pool_best : FnScope ["self", "size", "large", "places"] ["self", "size"] (defScope s_Pool_best) := ⟨rfl, rfl, rfl, by decide +kernel, rfl, by decide +kernel, by decide +kernel⟩
theorem sc_Pool_pieces : FnScope ["self", "size", "places", "at"] ["self"] (defScope s_Pool_pieces) := ⟨rfl, rfl, rfl, by decide +kernel, rfl, by decide +kernel, by decide +kernel⟩
theorem sc_upper_halves : FnScope ["at", "size", "least", "halves"] ["at", "size", "least"] (defScope s_upper_halves) := ⟨rfl, rfl, rfl, by decide +kernel, rfl, by decide +kernel, by decide +kernel⟩
theorem sc_Yard_init : FnScope ["self", "cells"] ["self", "cells"] (defScope s_Yard_init) := ⟨rfl, rfl, rfl, by decide +kernel, rfl, by decide +kernel, by decide +kernel⟩
theorem sc_Yard_give : FnScope ["self", "want", "size", "found", "at", "large"] ["self", "want"] (defScope s_Yard_give) := ⟨rfl, rfl, rfl, by decide +kernel, rfl, by decide +kernel, by decide +kernel⟩
theorem sc_Yard_take_back : FnScope ["self", "at", "size"] ["self", "at"] (defScope s_Yard_take_back) := ⟨rfl, rfl, rfl, by decide +kernel, rfl, by decide +kernel, by decide +kernel⟩
theorem sc_Yard_resize : FnScope ["self", "at", "want", "had", "size"] ["self", "at", "want"] (defScope s_Yard_resize) := ⟨rfl, rfl, rfl, by decide +kernel, rfl, by decide +kernel, by decide +kernel⟩
theorem sc_Yard_free : FnScope ["self"] ["self"] (defScope s_Yard_free) := ⟨rfl, rfl, rfl, by decide +kernel, rfl, by decide +kernel, by decide +kernel⟩
theorem sc_Yard_out : FnScope ["self"] ["self"] (defScope s_Yard_out) := ⟨rfl, rfl, rfl, by decide +kernel, rfl, by decide +kernel, by decide +kernel⟩
theorem sc_Yard_owner : FnScope ["self", "cell", "size", "at"] ["self", "cell"] (defScope s_Yard_owner) := ⟨rfl, rfl, rfl, by decide +kernel, rfl, by decide +kernel, by decide +kernel⟩
theorem sc_Yard_fitting : FnScope ["self", "want"] ["self", "want"] (defScope s_Yard_fitting) := ⟨rfl, rfl, rfl, by decide +kernel, rfl, by decide +kernel, by decide +kernel⟩
theorem sc_Yard_size_of : FnScope ["self", "at"] ["self", "at"] (defScope s_Yard_size_of) := ⟨rfl, rfl, rfl, by decide +kernel, rfl, by decide +kernel, by decide +kernel⟩
theorem sc_Yard_cut : FnScope ["self", "at", "size", "least", "half", "half_size"] ["self", "at", "size", "least"] (defScope s_Yard_cut) := ⟨rfl, rfl, rfl, by decide +kernel, rfl, by decide +kernel, by decide +kernel⟩
theorem sc_Yard_grow : FnScope ["self", "at", "had", "size", "halves", "half", "half_size"] ["self", "at", "had", "size"] (defScope s_Yard_grow) := ⟨rfl, rfl, rfl, by decide +kernel, rfl, by decide +kernel, by decide +kernel⟩
theorem sc_Yard_join : FnScope ["self", "at", "size", "twin"] ["self", "at", "size"] (defScope s_Yard_join) := ⟨rfl, rfl, rfl, by decide +kernel, rfl, by decide +kernel, by decide +kernel⟩
theorem sc_law_whole : FnScope ["_law_found"] ["_law_found"] (defScope s_law_whole) := ⟨rfl, rfl, rfl, by decide +kernel, rfl, by decide +kernel, by decide +kernel⟩
theorem sc_law_cell_at : FnScope ["_law_script", "_law_k"] ["_law_script", "_law_k"] (defScope s_law_cell_at) := ⟨rfl, rfl, rfl, by decide +kernel, rfl, by decide +kernel, by decide +kernel⟩
theorem sc_law_doubled : FnScope ["_law_times", "_law_size", "_law_k"] ["_law_times"] (defScope s_law_doubled) := ⟨rfl, rfl, rfl, by decide +kernel, rfl, by decide +kernel, by decide +kernel⟩
theorem sc_law_fitting : FnScope ["_law_want_here", "_law_size"] ["_law_want_here"] (defScope s_law_fitting) := ⟨rfl, rfl, rfl, by decide +kernel, rfl, by decide +kernel, by decide +kernel⟩
theorem sc_law_yard_size : FnScope ["_law_script", "_law_way", "_law_cell"] ["_law_script"] (defScope s_law_yard_size) := ⟨rfl, rfl, rfl, by decide +kernel, rfl, by decide +kernel, by decide +kernel⟩
theorem sc_law_want : FnScope ["_law_cell", "_law_cells", "_law_way", "_law_rest"] ["_law_cell", "_law_cells"] (defScope s_law_want) := ⟨rfl, rfl, rfl, by decide +kernel, rfl, by decide +kernel, by decide +kernel⟩
theorem sc_law_done : FnScope ["_law_yard", "_law_held", "_law_cell", "_law_cells", "_law_rest", "_law_want_here", "_law_at", "_law_piece", "_law_left", "_law_size", "_law_one"] ["_law_yard", "_law_held", "_law_cell", "_law_cells"] (defScope s_law_done) := ⟨rfl, rfl, rfl, by decide +kernel, rfl, by decide +kernel, by decide +kernel⟩
theorem sc_law_touched : FnScope ["_law_held", "_law_size", "_law_covered", "_law_piece"] ["_law_held", "_law_size"] (defScope s_law_touched) := ⟨rfl, rfl, rfl, by decide +kernel, rfl, by decide +kernel, by decide +kernel⟩
theorem sc_law_due : FnScope ["_law_held", "_law_wants", "_law_cells", "_law_fitting_here", "_law_size", "_law_needed", "_law_want_here", "_law_part"] ["_law_held", "_law_wants", "_law_cells"] (defScope s_law_due) := ⟨rfl, rfl, rfl, by decide +kernel, rfl, by decide +kernel, by decide +kernel⟩
theorem sc_law_told : FnScope ["_law_yard", "_law_wants", "_law_places"] ["_law_yard", "_law_wants"] (defScope s_law_told) := ⟨rfl, rfl, rfl, by decide +kernel, rfl, by decide +kernel, by decide +kernel⟩
theorem sc_law_halves : FnScope ["_law_cells", "_law_row", "_law_wants", "_law_cell", "_law_place", "_law_half", "_law_at"] ["_law_cells", "_law_row"] (defScope s_law_halves) := ⟨rfl, rfl, rfl, by decide +kernel, rfl, by decide +kernel, by decide +kernel⟩
theorem sc_law_wishes : FnScope ["_law_script", "_law_held", "_law_cells", "_law_draw", "_law_behind_here", "_law_wants", "_law_cell", "_law_k", "_law_want_here"] ["_law_script", "_law_held", "_law_cells"] (defScope s_law_wishes) := ⟨rfl, rfl, rfl, by decide +kernel, rfl, by decide +kernel, by decide +kernel⟩
theorem sc_law_in_turn : FnScope ["_law_wants", "_law_order", "_law_places", "_law_behind_here", "_law_pair", "_law_want_here", "_law_k"] ["_law_wants"] (defScope s_law_in_turn) := ⟨rfl, rfl, rfl, by decide +kernel, rfl, by decide +kernel, by decide +kernel⟩
theorem sc_law_owner : FnScope ["_law_held", "_law_cell", "_law_piece"] ["_law_held", "_law_cell"] (defScope s_law_owner) := ⟨rfl, rfl, rfl, by decide +kernel, rfl, by decide +kernel, by decide +kernel⟩
theorem sc_law_owners : FnScope ["_law_yard", "_law_held", "_law_cells", "_law_wants", "_law_cell"] ["_law_yard", "_law_held", "_law_cells", "_law_wants"] (defScope s_law_owners) := ⟨rfl, rfl, rfl, by decide +kernel, rfl, by decide +kernel, by decide +kernel⟩
theorem sc_law_behind : FnScope ["_law_yard", "_law_places", "_law_held", "_law_kept", "_law_piece", "_law_one"] ["_law_yard", "_law_places", "_law_held"] (defScope s_law_behind) := ⟨rfl, rfl, rfl, by decide +kernel, rfl, by decide +kernel, by decide +kernel⟩
theorem sc_law : FnScope ["_law_script", "_law_cells", "_law_yard", "_law_held", "_law_cell", "_law_wants", "_law_due_here", "_law_before", "_law_handed", "_law_told_here", "_law_k", "_law_more", "_law_copies"] ["_law_script"] (defScope s_law) := ⟨rfl, rfl, rfl, by decide +kernel, rfl, by decide +kernel, by decide +kernel⟩
structure Ad where
  f_is_size : Addr
  d_is_size : FuncData
  f_size_for : Addr
  d_size_for : FuncData
  f_twin_of : Addr
  d_twin_of : FuncData
  f_fitting_sizes : Addr
  d_fitting_sizes : FuncData
  f_give_all : Addr
  d_give_all : FuncData
  q_give_all : Addr
  p_give_all : Addr
  f_rank : Addr
  d_rank : FuncData
  f_Pool_init : Addr
  d_Pool_init : FuncData
  f_Pool_put : Addr
  d_Pool_put : FuncData
  f_Pool_drop : Addr
  d_Pool_drop : FuncData
  f_Pool_has : Addr
  d_Pool_has : FuncData
  f_Pool_best : Addr
  d_Pool_best : FuncData
  f_Pool_pieces : Addr
  d_Pool_pieces : FuncData
  f_upper_halves : Addr
  d_upper_halves : FuncData
  f_Yard_init : Addr
  d_Yard_init : FuncData
  f_Yard_give : Addr
  d_Yard_give : FuncData
  f_Yard_take_back : Addr
  d_Yard_take_back : FuncData
  f_Yard_resize : Addr
  d_Yard_resize : FuncData
  f_Yard_free : Addr
  d_Yard_free : FuncData
  f_Yard_out : Addr
  d_Yard_out : FuncData
  f_Yard_owner : Addr
  d_Yard_owner : FuncData
  f_Yard_fitting : Addr
  d_Yard_fitting : FuncData
  f_Yard_size_of : Addr
  d_Yard_size_of : FuncData
  f_Yard_cut : Addr
  d_Yard_cut : FuncData
  f_Yard_grow : Addr
  d_Yard_grow : FuncData
  f_Yard_join : Addr
  d_Yard_join : FuncData
  f_law_whole : Addr
  d_law_whole : FuncData
  f_law_cell_at : Addr
  d_law_cell_at : FuncData
  f_law_doubled : Addr
  d_law_doubled : FuncData
  f_law_fitting : Addr
  d_law_fitting : FuncData
  f_law_yard_size : Addr
  d_law_yard_size : FuncData
  f_law_want : Addr
  d_law_want : FuncData
  f_law_done : Addr
  d_law_done : FuncData
  f_law_touched : Addr
  d_law_touched : FuncData
  f_law_due : Addr
  d_law_due : FuncData
  f_law_told : Addr
  d_law_told : FuncData
  f_law_halves : Addr
  d_law_halves : FuncData
  f_law_wishes : Addr
  d_law_wishes : FuncData
  f_law_in_turn : Addr
  d_law_in_turn : FuncData
  f_law_owner : Addr
  d_law_owner : FuncData
  f_law_owners : Addr
  d_law_owners : FuncData
  f_law_behind : Addr
  d_law_behind : FuncData
  f_law : Addr
  d_law : FuncData
  c_YardError : Addr
  c_NoYard : Addr
  c_NoWish : Addr
  c_NoRoom : Addr
  c_NotOut : Addr
  c_Pool : Addr
  c_Yard : Addr
structure Txt (K : PySem.W.Frag) (mg : Str → Option Value) (a : Ad) : Prop where
  is_size : DefAt K mg "is_size" s_is_size ["number"] a.f_is_size a.d_is_size
  size_for : DefAt K mg "size_for" s_size_for ["want"] a.f_size_for a.d_size_for
  twin_of : DefAt K mg "twin_of" s_twin_of ["at", "size"] a.f_twin_of a.d_twin_of
  fitting_sizes : DefAt K mg "fitting_sizes" s_fitting_sizes ["yard", "wants"] a.f_fitting_sizes a.d_fitting_sizes
  give_all : DefAt K mg "give_all" s_give_all ["yard", "wants"] a.f_give_all a.d_give_all
  rank : DefAt K mg "rank" s_rank ["places", "at"] a.f_rank a.d_rank
  Pool_init : Fun K "__init__" "Pool.__init__" s_Pool_init a.f_Pool_init a.d_Pool_init
  b_Pool_init : Binds K a.d_Pool_init ["self", "cells"] []
  m_Pool_init : Mk K a.c_Pool a.f_Pool_init
  Pool_put : Fun K "put" "Pool.put" s_Pool_put a.f_Pool_put a.d_Pool_put
  b_Pool_put : Binds K a.d_Pool_put ["self", "at", "size"] []
  m_Pool_put : Meth K a.c_Pool "put" a.f_Pool_put
  Pool_drop : Fun K "drop" "Pool.drop" s_Pool_drop a.f_Pool_drop a.d_Pool_drop
  b_Pool_drop : Binds K a.d_Pool_drop ["self", "at", "size"] []
  m_Pool_drop : Meth K a.c_Pool "drop" a.f_Pool_drop
  Pool_has : Fun K "has" "Pool.has" s_Pool_has a.f_Pool_has a.d_Pool_has
  b_Pool_has : Binds K a.d_Pool_has ["self", "at", "size"] []
  m_Pool_has : Meth K a.c_Pool "has" a.f_Pool_has
  Pool_best : Fun K "best" "Pool.best" s_Pool_best a.f_Pool_best a.d_Pool_best
  b_Pool_best : Binds K a.d_Pool_best ["self", "size"] []
  m_Pool_best : Meth K a.c_Pool "best" a.f_Pool_best
  Pool_pieces : Fun K "pieces" "Pool.pieces" s_Pool_pieces a.f_Pool_pieces a.d_Pool_pieces
  b_Pool_pieces : Binds K a.d_Pool_pieces ["self"] []
  m_Pool_pieces : Meth K a.c_Pool "pieces" a.f_Pool_pieces
  upper_halves : DefAt K mg "upper_halves" s_upper_halves ["at", "size", "least"] a.f_upper_halves a.d_upper_halves
  Yard_init : Fun K "__init__" "Yard.__init__" s_Yard_init a.f_Yard_init a.d_Yard_init
  b_Yard_init : Binds K a.d_Yard_init ["self", "cells"] []
  m_Yard_init : Mk K a.c_Yard a.f_Yard_init
  Yard_give : Fun K "give" "Yard.give" s_Yard_give a.f_Yard_give a.d_Yard_give
  b_Yard_give : Binds K a.d_Yard_give ["self", "want"] []
  m_Yard_give : Meth K a.c_Yard "give" a.f_Yard_give
  Yard_take_back : Fun K "take_back" "Yard.take_back" s_Yard_take_back a.f_Yard_take_back a.d_Yard_take_back
  b_Yard_take_back : Binds K a.d_Yard_take_back ["self", "at"] []
  m_Yard_take_back : Meth K a.c_Yard "take_back" a.f_Yard_take_back
  Yard_resize : Fun K "resize" "Yard.resize" s_Yard_resize a.f_Yard_resize a.d_Yard_resize
  b_Yard_resize : Binds K a.d_Yard_resize ["self", "at", "want"] []
  m_Yard_resize : Meth K a.c_Yard "resize" a.f_Yard_resize
  Yard_free : Fun K "free" "Yard.free" s_Yard_free a.f_Yard_free a.d_Yard_free
  b_Yard_free : Binds K a.d_Yard_free ["self"] []
  m_Yard_free : Meth K a.c_Yard "free" a.f_Yard_free
  Yard_out : Fun K "out" "Yard.out" s_Yard_out a.f_Yard_out a.d_Yard_out
  b_Yard_out : Binds K a.d_Yard_out ["self"] []
  m_Yard_out : Meth K a.c_Yard "out" a.f_Yard_out
  Yard_owner : Fun K "owner" "Yard.owner" s_Yard_owner a.f_Yard_owner a.d_Yard_owner
  b_Yard_owner : Binds K a.d_Yard_owner ["self", "cell"] []
  m_Yard_owner : Meth K a.c_Yard "owner" a.f_Yard_owner
  Yard_fitting : Fun K "_fitting" "Yard._fitting" s_Yard_fitting a.f_Yard_fitting a.d_Yard_fitting
  b_Yard_fitting : Binds K a.d_Yard_fitting ["self", "want"] []
  m_Yard_fitting : Meth K a.c_Yard "_fitting" a.f_Yard_fitting
  Yard_size_of : Fun K "_size_of" "Yard._size_of" s_Yard_size_of a.f_Yard_size_of a.d_Yard_size_of
  b_Yard_size_of : Binds K a.d_Yard_size_of ["self", "at"] []
  m_Yard_size_of : Meth K a.c_Yard "_size_of" a.f_Yard_size_of
  Yard_cut : Fun K "_cut" "Yard._cut" s_Yard_cut a.f_Yard_cut a.d_Yard_cut
  b_Yard_cut : Binds K a.d_Yard_cut ["self", "at", "size", "least"] []
  m_Yard_cut : Meth K a.c_Yard "_cut" a.f_Yard_cut
  Yard_grow : Fun K "_grow" "Yard._grow" s_Yard_grow a.f_Yard_grow a.d_Yard_grow
  b_Yard_grow : Binds K a.d_Yard_grow ["self", "at", "had", "size"] []
  m_Yard_grow : Meth K a.c_Yard "_grow" a.f_Yard_grow
  Yard_join : Fun K "_join" "Yard._join" s_Yard_join a.f_Yard_join a.d_Yard_join
  b_Yard_join : Binds K a.d_Yard_join ["self", "at", "size"] []
  m_Yard_join : Meth K a.c_Yard "_join" a.f_Yard_join
  law_whole : DefAt K mg "_law_whole" s_law_whole ["_law_found"] a.f_law_whole a.d_law_whole
  law_cell_at : DefAt K mg "_law_cell_at" s_law_cell_at ["_law_script", "_law_k"] a.f_law_cell_at a.d_law_cell_at
  law_doubled : DefAt K mg "_law_doubled" s_law_doubled ["_law_times"] a.f_law_doubled a.d_law_doubled
  law_fitting : DefAt K mg "_law_fitting" s_law_fitting ["_law_want_here"] a.f_law_fitting a.d_law_fitting
  law_yard_size : DefAt K mg "_law_yard_size" s_law_yard_size ["_law_script"] a.f_law_yard_size a.d_law_yard_size
  law_want : DefAt K mg "_law_want" s_law_want ["_law_cell", "_law_cells"] a.f_law_want a.d_law_want
  law_done : DefAt K mg "_law_done" s_law_done ["_law_yard", "_law_held", "_law_cell", "_law_cells"] a.f_law_done a.d_law_done
  law_touched : DefAt K mg "_law_touched" s_law_touched ["_law_held", "_law_size"] a.f_law_touched a.d_law_touched
  law_due : DefAt K mg "_law_due" s_law_due ["_law_held", "_law_wants", "_law_cells"] a.f_law_due a.d_law_due
  law_told : DefAt K mg "_law_told" s_law_told ["_law_yard", "_law_wants"] a.f_law_told a.d_law_told
  law_halves : DefAt K mg "_law_halves" s_law_halves ["_law_cells", "_law_row"] a.f_law_halves a.d_law_halves
  law_wishes : DefAt K mg "_law_wishes" s_law_wishes ["_law_script", "_law_held", "_law_cells"] a.f_law_wishes a.d_law_wishes
  law_in_turn : DefAt K mg "_law_in_turn" s_law_in_turn ["_law_wants"] a.f_law_in_turn a.d_law_in_turn
  law_owner : DefAt K mg "_law_owner" s_law_owner ["_law_held", "_law_cell"] a.f_law_owner a.d_law_owner
  law_owners : DefAt K mg "_law_owners" s_law_owners ["_law_yard", "_law_held", "_law_cells", "_law_wants"] a.f_law_owners a.d_law_owners
  law_behind : DefAt K mg "_law_behind" s_law_behind ["_law_yard", "_law_places", "_law_held"] a.f_law_behind a.d_law_behind
  law : DefAt K mg "law" s_law ["_law_script"] a.f_law a.d_law
  at_give_all : FunAt K "give_all" "give_all" s_give_all a.f_give_all a.d_give_all a.q_give_all
  g_Pool : mg "Pool" = some (.ref a.c_Pool)
  cl_Pool : Cls K a.c_Pool
  n_Pool__places : NoAttr K a.c_Pool "_places"
  g_Yard : mg "Yard" = some (.ref a.c_Yard)
  cl_Yard : Cls K a.c_Yard
  n_Yard_cells : NoAttr K a.c_Yard "cells"
  n_Yard__sizes : NoAttr K a.c_Yard "_sizes"
  n_Yard__pool : NoAttr K a.c_Yard "_pool"
  e_YardError : ExcT K mg "YardError" a.c_YardError
  e_NoYard : ExcT K mg "NoYard" a.c_NoYard
  e_NoWish : ExcT K mg "NoWish" a.c_NoWish
  e_NoRoom : ExcT K mg "NoRoom" a.c_NoRoom
  e_NotOut : ExcT K mg "NotOut" a.c_NotOut
  x_NoYard_YardError : PySem.W.exmOne K (.ref a.c_NoYard) (.ref a.c_YardError) = some true
  k_NoYard_YardError : PySem.W.kitOne K (.ref a.c_NoYard) (.ref a.c_YardError) = some true
  x_NoYard_NoYard : PySem.W.exmOne K (.ref a.c_NoYard) (.ref a.c_NoYard) = some true
  k_NoYard_NoYard : PySem.W.kitOne K (.ref a.c_NoYard) (.ref a.c_NoYard) = some true
  x_NoYard_NoWish : PySem.W.exmOne K (.ref a.c_NoYard) (.ref a.c_NoWish) = some false
  k_NoYard_NoWish : PySem.W.kitOne K (.ref a.c_NoYard) (.ref a.c_NoWish) = some false
  x_NoYard_NoRoom : PySem.W.exmOne K (.ref a.c_NoYard) (.ref a.c_NoRoom) = some false
  k_NoYard_NoRoom : PySem.W.kitOne K (.ref a.c_NoYard) (.ref a.c_NoRoom) = some false
  x_NoYard_NotOut : PySem.W.exmOne K (.ref a.c_NoYard) (.ref a.c_NotOut) = some false
  k_NoYard_NotOut : PySem.W.kitOne K (.ref a.c_NoYard) (.ref a.c_NotOut) = some false
  x_NoWish_YardError : PySem.W.exmOne K (.ref a.c_NoWish) (.ref a.c_YardError) = some true
  k_NoWish_YardError : PySem.W.kitOne K (.ref a.c_NoWish) (.ref a.c_YardError) = some true
  x_NoWish_NoYard : PySem.W.exmOne K (.ref a.c_NoWish) (.ref a.c_NoYard) = some false
  k_NoWish_NoYard : PySem.W.kitOne K (.ref a.c_NoWish) (.ref a.c_NoYard) = some false
  x_NoWish_NoWish : PySem.W.exmOne K (.ref a.c_NoWish) (.ref a.c_NoWish) = some true
  k_NoWish_NoWish : PySem.W.kitOne K (.ref a.c_NoWish) (.ref a.c_NoWish) = some true
  x_NoWish_NoRoom : PySem.W.exmOne K (.ref a.c_NoWish) (.ref a.c_NoRoom) = some false
  k_NoWish_NoRoom : PySem.W.kitOne K (.ref a.c_NoWish) (.ref a.c_NoRoom) = some false
  x_NoWish_NotOut : PySem.W.exmOne K (.ref a.c_NoWish) (.ref a.c_NotOut) = some false
  k_NoWish_NotOut : PySem.W.kitOne K (.ref a.c_NoWish) (.ref a.c_NotOut) = some false
  x_NoRoom_YardError : PySem.W.exmOne K (.ref a.c_NoRoom) (.ref a.c_YardError) = some true
  k_NoRoom_YardError : PySem.W.kitOne K (.ref a.c_NoRoom) (.ref a.c_YardError) = some true
  x_NoRoom_NoYard : PySem.W.exmOne K (.ref a.c_NoRoom) (.ref a.c_NoYard) = some false
  k_NoRoom_NoYard : PySem.W.kitOne K (.ref a.c_NoRoom) (.ref a.c_NoYard) = some false
  x_NoRoom_NoWish : PySem.W.exmOne K (.ref a.c_NoRoom) (.ref a.c_NoWish) = some false
  k_NoRoom_NoWish : PySem.W.kitOne K (.ref a.c_NoRoom) (.ref a.c_NoWish) = some false
  x_NoRoom_NoRoom : PySem.W.exmOne K (.ref a.c_NoRoom) (.ref a.c_NoRoom) = some true
  k_NoRoom_NoRoom : PySem.W.kitOne K (.ref a.c_NoRoom) (.ref a.c_NoRoom) = some true
  x_NoRoom_NotOut : PySem.W.exmOne K (.ref a.c_NoRoom) (.ref a.c_NotOut) = some false
  k_NoRoom_NotOut : PySem.W.kitOne K (.ref a.c_NoRoom) (.ref a.c_NotOut) = some false
  x_NotOut_YardError : PySem.W.exmOne K (.ref a.c_NotOut) (.ref a.c_YardError) = some true
  k_NotOut_YardError : PySem.W.kitOne K (.ref a.c_NotOut) (.ref a.c_YardError) = some true
  x_NotOut_NoYard : PySem.W.exmOne K (.ref a.c_NotOut) (.ref a.c_NoYard) = some false
  k_NotOut_NoYard : PySem.W.kitOne K (.ref a.c_NotOut) (.ref a.c_NoYard) = some false
  x_NotOut_NoWish : PySem.W.exmOne K (.ref a.c_NotOut) (.ref a.c_NoWish) = some false
  k_NotOut_NoWish : PySem.W.kitOne K (.ref a.c_NotOut) (.ref a.c_NoWish) = some false
  x_NotOut_NoRoom : PySem.W.exmOne K (.ref a.c_NotOut) (.ref a.c_NoRoom) = some false
  k_NotOut_NoRoom : PySem.W.kitOne K (.ref a.c_NotOut) (.ref a.c_NoRoom) = some false
  x_NotOut_NotOut : PySem.W.exmOne K (.ref a.c_NotOut) (.ref a.c_NotOut) = some true
  k_NotOut_NotOut : PySem.W.kitOne K (.ref a.c_NotOut) (.ref a.c_NotOut) = some true
  z_all : mg "all" = none
  z_any : mg "any" = none
  z_bool : mg "bool" = none
  z_int : mg "int" = none
  z_isinstance : mg "isinstance" = none
  z_len : mg "len" = none
  z_list : mg "list" = none
  z_max : mg "max" = none
  z_min : mg "min" = none
  z_range : mg "range" = none
  z_set : mg "set" = none
  z_sorted : mg "sorted" = none
  z_sum : mg "sum" = none
  v_MOST : ∃ t, mg "MOST" = some (.int 1152921504606846976 t)
/-! ### a yard in the heap -/
def nI (n : Nat) : V := .int (n : Int)
abbrev sI (k : Nat) : V := .int ((2 ^ k : Nat) : Int)
def Only (S : List Addr) (H H' : Hp) : Prop := ∀ b o, H b = some o → b ∉ S → H' b = some o
theorem Only.refl (S : List Addr) (H : Hp) : Only S H H := fun _ _ e _ => e
theorem Only.trans {S : List Addr} {H1 H2 H3 : Hp} (h : Only S H1 H2) (g : Only S H2 H3) : Only S H1 H3 := fun b o e n => g b o (h b o e n) n
theorem Only.mono {S S' : List Addr} {H H' : Hp} (h : Only S H H') (l : ∀ b, b ∈ S → b ∈ S') : Only S' H H' := fun b o e n => h b o e fun z => n (l b z)
theorem Only.upd {S : List Addr} {H : Hp} {b : Addr} (o : HO) (h : b ∈ S) : Only S H (upd H b o) := fun c u e n => by
  rw [upd_ne (fun z => n (by rw [z]; exact h))]
  exact e
theorem Only.new {S : List Addr} {H : Hp} {b : Addr} (o : HO) (h : H b = none) : Only S H (L2.upd H b o) := fun c u e n => by
  rw [upd_ne (ne_of_none e h)]
  exact e
theorem Only.same {S : List Addr} {H H' : Hp} (h : ∀ b o, H b = some o → H' b = some o) : Only S H H' := fun b o e _ => h b o e
structure YA where
  y : Addr
  sd : Addr
  p : Addr
  pd : Addr
  dy : Addr
  dp : Addr
  ls : Nat → Addr
def pdK (d : Nat) (ls : Nat → Addr) : List (Key × V) := (List.range (d + 1)).map fun j => (Sum.inl ((2 ^ j : Nat) : Int), V.ref (ls j))
def pFs (Y : YA) : List (Str × V) := putF "_places" (.ref Y.pd) []
structure PoolAt (a : Ad) (Y : YA) (d : Nat) (F : Nat → List Nat) (H : Hp) : Prop where
  ob : H Y.p = some (.ins a.c_Pool Y.dp (pFs Y))
  dk : H Y.pd = some (.dK (pdK d Y.ls))
  at_ : ∀ j, j ≤ d → H (Y.ls j) = some (.lst ((F j).map nI))
  inj : ∀ i j, i ≤ d → j ≤ d → Y.ls i = Y.ls j → i = j
  rise : ∀ j, j ≤ d → (F j).Pairwise (· < ·)
  len : ∀ j, j ≤ d → (F j).length ≤ 200000
  d60 : d ≤ 60
theorem pow_inj {i j : Nat} (h : ((2 ^ i : Nat) : Int) = ((2 ^ j : Nat) : Int)) : i = j := by
  have e : 2 ^ i = 2 ^ j := Int.ofNat.inj h
  exact (Nat.pow_right_inj (by decide)).mp e
theorem PoolAt.upd {a : Ad} {Y : YA} {d k : Nat} {F : Nat → List Nat} {H : Hp} {l : List Nat} (h : PoolAt a Y d F H) (hk : k ≤ d) (hl : l.Pairwise (· < ·)) (hz : l.length ≤ 200000) : PoolAt a Y d (setF F k l) (L2.upd H (Y.ls k) (.lst (l.map nI))) := by
  have hk' := h.at_ k hk
  refine ⟨?_, ?_, fun j hj => ?_, h.inj, fun j hj => ?_, fun j hj => ?_, h.d60⟩
  · rw [upd_ne (ne_of h.ob hk' (by intro z; cases z))]
    exact h.ob
  · rw [upd_ne (ne_of h.dk hk' (by intro z; cases z))]
    exact h.dk
  · unfold setF
    by_cases e : j = k
    · subst e
      rw [if_pos rfl]
      exact upd_same
    · rw [if_neg e, upd_ne (fun z => e (h.inj j k hj hk z))]
      exact h.at_ j hj
  · unfold setF
    split
    · exact hl
    · exact h.rise j hj
  · unfold setF
    split
    · exact hz
    · exact h.len j hj
theorem PoolAt.keep {a : Ad} {Y : YA} {d : Nat} {F : Nat → List Nat} {H H' : Hp} (h : PoolAt a Y d F H) (k : ∀ b o, H b = some o → H' b = some o) : PoolAt a Y d F H' :=
  ⟨k _ _ h.ob, k _ _ h.dk, fun j hj => k _ _ (h.at_ j hj), h.inj, h.rise, h.len, h.d60⟩
theorem pdK_get {d k : Nat} {ls : Nat → Addr} (h : k ≤ d) : valV (pdK d ls) (Sum.inl ((2 ^ k : Nat) : Int)) = some (.ref (ls k)) := by
  unfold pdK
  have aux : ∀ l : List Nat, k ∈ l → valV (l.map fun j => ((Sum.inl ((2 ^ j : Nat) : Int) : Key), V.ref (ls j))) (Sum.inl ((2 ^ k : Nat) : Int)) = some (.ref (ls k)) := by
    intro l
    induction l with
    | nil => intro z; cases z
    | cons x l ih =>
      intro z
      unfold valV
      rw [List.map_cons, List.find?_cons]
      by_cases e : x = k
      · subst e
        simp
      · have ne : ¬ (Sum.inl ((2 ^ x : Nat) : Int) : Key) = Sum.inl ((2 ^ k : Nat) : Int) := fun q => e (pow_inj (Sum.inl.inj q))
        rw [decide_eq_false ne]
        exact ih ((List.mem_cons.mp z).resolve_left fun q => e q.symm)
  exact aux _ (List.mem_range.mpr (by omega))
theorem pFs_at (Y : YA) : (pFs Y).lookup ("_places" : Str) = some (.ref Y.pd) := by
  unfold pFs
  rw [lookup_putF, if_pos rfl]
theorem pFs_no (Y : YA) {m : Str} (h : ¬ m = "_places") : (pFs Y).lookup m = none := by
  unfold pFs
  rw [lookup_putF, if_neg h]
  rfl
theorem map_nI_get {l : List Nat} {i x : Nat} (h : l[i]? = some x) : (l.map nI)[i]? = some (nI x) := by rw [List.getElem?_map, h]; rfl
theorem dget_of {H : Hp} {b : Addr} {kvs : List (Key × V)} {i : Int} {v : V} (h : H b = some (.dK kvs)) (e : valV kvs (Sum.inl i) = some v) : DGet H b (.int i) (some v) := by
  have z := DGet.k (k := Sum.inl i) h
  rw [e] at z
  exact z
/-! ### rank, Pool -/
def sp_rank (K : PySem.W.Frag) (a : Ad) : Sp := fun vs H Q _ => ∃ (l : Addr) (x : Nat) (ns : List Nat), vs = [.ref l, nI x] ∧ SqL K H l (ns.map nI) ∧ ns.Pairwise (· < ·) ∧ ns.length ≤ 200000 ∧ Q (nI (rk x ns)) H
def sp_Pool_put (K : PySem.W.Frag) (a : Ad) : Sp := fun vs H Q _ => ∃ (Y : YA) (d x k : Nat) (F : Nat → List Nat), vs = [.ref Y.p, nI x, sI k] ∧ PoolAt a Y d F H ∧ k ≤ d ∧ x ∉ F k ∧ (F k).length < 200000 ∧
  Q .non (L2.upd H (Y.ls k) (.lst ((ins x (F k)).map nI)))
def sp_Pool_drop (K : PySem.W.Frag) (a : Ad) : Sp := fun vs H Q _ => ∃ (Y : YA) (d x k : Nat) (F : Nat → List Nat), vs = [.ref Y.p, nI x, sI k] ∧ PoolAt a Y d F H ∧ k ≤ d ∧ x ∈ F k ∧
  Q .non (L2.upd H (Y.ls k) (.lst ((del x (F k)).map nI)))
def sp_Pool_has (K : PySem.W.Frag) (a : Ad) : Sp := fun vs H Q _ => ∃ (Y : YA) (d x k : Nat) (F : Nat → List Nat), vs = [.ref Y.p, nI x, sI k] ∧ PoolAt a Y d F H ∧ k ≤ d ∧
  Q (.bl (decide (x ∈ F k))) H
section
variable {P : Program} {w : World} {K : PySem.W.Frag} {mg : Str → Option Value} {base : Heap} {a : Ad}
theorem ok_rank (T : Txt K mg a) : FnOk P w K mg base CX0 1 a.f_rank a.d_rank ["places", "at"] (sp_rank K a) := by
  refine T.rank.fn.ok sc_rank (fun vs H Q E h => by first | (obtain ⟨rfl, _⟩ := h; rfl) | (obtain ⟨_, rfl, _⟩ := h; rfl) | (obtain ⟨_, _, rfl, _⟩ := h; rfl) | (obtain ⟨_, _, _, rfl, _⟩ := h; rfl) | (obtain ⟨_, _, _, _, rfl, _⟩ := h; rfl) | (obtain ⟨_, _, _, _, _, rfl, _⟩ := h; rfl) | (obtain ⟨_, _, _, _, _, _, rfl, _⟩ := h; rfl) | (obtain ⟨_, _, _, _, _, _, _, rfl, _⟩ := h; rfl) | (obtain ⟨_, _, _, _, _, _, _, _, rfl, _⟩ := h; rfl) | (obtain ⟨_, _, _, _, _, _, _, _, _, rfl, _⟩ := h; rfl) | (obtain ⟨_, _, _, _, _, _, _, _, _, _, rfl, _⟩ := h; rfl) | (obtain ⟨_, _, _, _, _, _, _, _, _, _, _, rfl, _⟩ := h; rfl)) (fun cdv A outer s H vs Q E hr h => ?_)
  refine ⟨_, pss_cons (ps_set (i := 2) sc_rank.nd rfl (Or.inl rfl) pe_int)
      (pss_cons (ps_set (i := 3) sc_rank.nd rfl (Or.inl rfl) (pe_callB call_len_seq (by rfl) T.z_len PySem.boot_len (pa_cons (pv 0) pa_nil)))
      (pss_cons (ps_while PassesOwn.never (pt_cmpR op_lt (pv 2) (pv 3) (nomark _)) (pss_cons (ps_set (i := 4) sc_rank.nd rfl (Or.inl rfl) (pe_op op_fdiv (pe_op op_add (pv 2) (pv 3)) pe_int))
      (pss_one (ps_if (pt_cmpR op_lt (pe_ix ix_list (pv 0) (pv 4) (fun _ _ => rfl)) (pv 1) (nomark _)) (pss_one (ps_set (i := 2) sc_rank.nd rfl (Or.inl rfl) (pe_op op_add (pv 4) pe_int))) (pss_one (ps_set (i := 3) sc_rank.nd rfl (Or.inl rfl) (pv 4)))))))
      (pss_one (ps_ret (pv 2))))), ?_⟩
  obtain ⟨l, x, ns, rfl, hS, rise, hz, q⟩ := h
  refine ⟨_, rfl, l, _, rfl, .inl hS, ?_⟩
  refine while_by (fun σ H' => H' = H ∧ ∃ (lo hi : Nat) (m : Option V), lo ≤ rk x ns ∧ rk x ns ≤ hi ∧ hi ≤ ns.length ∧ σ = [some (.ref l), some (nI x), some (nI lo), some (nI hi), m])
    (fun σ H' => match σ with | [_, _, some (.int lo), some (.int hi), _] => (hi - lo).toNat | _ => 0) ⟨rfl, 0, ns.length, none, Nat.zero_le _, rk_le _ _, Nat.le_refl _, ?_⟩ ?_ ?_
  · rw [List.length_map]
    rfl
  · rintro σ H' ⟨rfl, lo, hi, m, h1, h2, h3, rfl⟩
    refine ⟨_, rfl, _, rfl, _, _, rfl, rfl, _, rfl, ?_⟩
    by_cases c : lo < hi
    · refine iteTof (decide_eq_true (by omega)) ?_
      refine ⟨_, rfl, _, rfl, _, _, rfl, rfl, _, _, rfl, rfl, ⟨by decide, by decide⟩, ?_⟩
      have em : ((lo : Int) + (hi : Int)) / 2 = (((lo + hi) / 2 : Nat) : Int) := by omega
      generalize hmid : (lo + hi) / 2 = mid at em
      have mlt : mid < ns.length := by omega
      obtain ⟨v, hv⟩ : ∃ v, ns[mid]? = some v := ⟨_, List.getElem?_eq_getElem mlt⟩
      refine ⟨_, rfl, _, rfl, l, _, _, nI v, rfl, rfl, hS, at_of (j := mid) em (map_nI_get hv), _, rfl, _, _, rfl, rfl, _, rfl, ?_⟩
      have cmp := rk_lt (x := x) rise hv
      by_cases c2 : v < x
      · refine iteTof (decide_eq_true (by omega)) ?_
        have := cmp.mp c2
        refine ⟨_, rfl, _, _, rfl, rfl, ?_⟩
        refine ⟨⟨rfl, mid + 1, hi, some (.int (((lo : Int) + (hi : Int)) / 2)), by omega, h2, h3, ?_⟩, ?_⟩
        · show [some (V.ref l), some (nI x), some (V.int (((lo : Int) + (hi : Int)) / 2 + 1)), some (nI hi), some (V.int (((lo : Int) + (hi : Int)) / 2))] = _
          rw [em]
          rfl
        · show ((hi : Int) - (((lo : Int) + (hi : Int)) / 2 + 1)).toNat < ((hi : Int) - (lo : Int)).toNat
          omega
      · refine iteFof (decide_eq_false (by omega)) ?_
        have : ¬ mid < rk x ns := fun z => c2 (cmp.mpr z)
        refine ⟨_, rfl, ?_⟩
        refine ⟨⟨rfl, lo, mid, some (.int (((lo : Int) + (hi : Int)) / 2)), h1, by omega, by omega, ?_⟩, ?_⟩
        · show [some (V.ref l), some (nI x), some (nI lo), some (V.int (((lo : Int) + (hi : Int)) / 2)), some (V.int (((lo : Int) + (hi : Int)) / 2))] = _
          rw [em]
          rfl
        · show ((((lo : Int) + (hi : Int)) / 2) - (lo : Int)).toNat < ((hi : Int) - (lo : Int)).toNat
          omega
    · refine iteFof (decide_eq_false (by omega)) ?_
      have e : lo = rk x ns := by omega
      subst e
      exact ⟨_, rfl, q⟩
  · rintro σ H' Q1 Q2 hQ ⟨v, hv, y, hy, i, j, e1, e2, k, ek, h⟩
    exact ⟨v, hv, y, hy, i, j, e1, e2, k, ek, by cases k <;> exact hQ _ _ (by simpa using h)⟩
end
section
variable {P : Program} {w : World} {K : PySem.W.Frag} {mg : Str → Option Value} {base : Heap} {a : Ad}
theorem ok_Pool_put (T : Txt K mg a) : FnOk P w K mg base CX0 2 a.f_Pool_put a.d_Pool_put ["self", "at", "size"] (sp_Pool_put K a) := by
  have G_rank : FnOk P w K mg base CX0 1 a.f_rank a.d_rank ["places", "at"] (sp_rank K a) := ok_rank T
  refine T.Pool_put.ok sc_Pool_put (fun vs H Q E h => by first | (obtain ⟨rfl, _⟩ := h; rfl) | (obtain ⟨_, rfl, _⟩ := h; rfl) | (obtain ⟨_, _, rfl, _⟩ := h; rfl) | (obtain ⟨_, _, _, rfl, _⟩ := h; rfl) | (obtain ⟨_, _, _, _, rfl, _⟩ := h; rfl) | (obtain ⟨_, _, _, _, _, rfl, _⟩ := h; rfl) | (obtain ⟨_, _, _, _, _, _, rfl, _⟩ := h; rfl) | (obtain ⟨_, _, _, _, _, _, _, rfl, _⟩ := h; rfl) | (obtain ⟨_, _, _, _, _, _, _, _, rfl, _⟩ := h; rfl) | (obtain ⟨_, _, _, _, _, _, _, _, _, rfl, _⟩ := h; rfl) | (obtain ⟨_, _, _, _, _, _, _, _, _, _, rfl, _⟩ := h; rfl) | (obtain ⟨_, _, _, _, _, _, _, _, _, _, _, rfl, _⟩ := h; rfl)) (fun cdv A outer s H vs Q E hr h => ?_)
  refine ⟨_, pss_cons (ps_set (i := 3) sc_Pool_put.nd rfl (Or.inl rfl) (pe_dget (hu_of hr) (pe_fld (pv 0) rfl) (pv 2) (fun _ _ => rfl)))
      (pss_one (ps_expr (pe_bm PySem.F.plainAttrs_list PySem.F.slot_list_insert PySem.F.type_list_insert mt_insert (pv 3) (pa_cons (pe_call G_rank (hr.mono (by decide)) rfl T.rank.mg T.rank.fn.kp T.rank.bd .nil pass0 (pa_cons (pv 3) (pa_cons (pv 1) pa_nil))) (pa_cons (pv 1) pa_nil))))), ?_⟩
  obtain ⟨Y, d, x, k, F, rfl, po, hk, hx, hlen, q⟩ := h
  have hl := po.at_ k hk
  have lk : ((F k).map nI).length < sizeLine := by
    rw [List.length_map, sizeLine_eq]
    omega
  refine ⟨_, rfl, Y.p, a.c_Pool, Y.dp, _, _, rfl, po.ob, T.cl_Pool, T.n_Pool__places, pFs_at Y, _, rfl, Y.pd, _, rfl, dget_of po.dk (pdK_get hk), ?_⟩
  refine ⟨_, rfl, .inl ⟨rfl, _, SqL.of hl⟩, _, rfl, _, rfl, Y.ls k, x, F k, rfl, SqL.of hl, po.rise k hk, by omega, _, rfl, Y.ls k, _, _, _, rfl, rfl, hl, lk, by omega, ?_, ?_⟩
  · have := rk_le x (F k)
    have : (rk x (F k) : Int) < 2 ^ 63 := by
      show (rk x (F k) : Int) < 9223372036854775808
      omega
    exact this
  · rw [Int.toNat_natCast, ← List.map_take, ← List.map_drop]
    rw [← ins_eq (po.rise k hk) hx, List.map_append, List.map_append] at q
    exact q
theorem ok_Pool_drop (T : Txt K mg a) : FnOk P w K mg base CX0 2 a.f_Pool_drop a.d_Pool_drop ["self", "at", "size"] (sp_Pool_drop K a) := by
  have G_rank : FnOk P w K mg base CX0 1 a.f_rank a.d_rank ["places", "at"] (sp_rank K a) := ok_rank T
  refine T.Pool_drop.ok sc_Pool_drop (fun vs H Q E h => by first | (obtain ⟨rfl, _⟩ := h; rfl) | (obtain ⟨_, rfl, _⟩ := h; rfl) | (obtain ⟨_, _, rfl, _⟩ := h; rfl) | (obtain ⟨_, _, _, rfl, _⟩ := h; rfl) | (obtain ⟨_, _, _, _, rfl, _⟩ := h; rfl) | (obtain ⟨_, _, _, _, _, rfl, _⟩ := h; rfl) | (obtain ⟨_, _, _, _, _, _, rfl, _⟩ := h; rfl) | (obtain ⟨_, _, _, _, _, _, _, rfl, _⟩ := h; rfl) | (obtain ⟨_, _, _, _, _, _, _, _, rfl, _⟩ := h; rfl) | (obtain ⟨_, _, _, _, _, _, _, _, _, rfl, _⟩ := h; rfl) | (obtain ⟨_, _, _, _, _, _, _, _, _, _, rfl, _⟩ := h; rfl) | (obtain ⟨_, _, _, _, _, _, _, _, _, _, _, rfl, _⟩ := h; rfl)) (fun cdv A outer s H vs Q E hr h => ?_)
  refine ⟨_, pss_cons (ps_set (i := 3) sc_Pool_drop.nd rfl (Or.inl rfl) (pe_dget (hu_of hr) (pe_fld (pv 0) rfl) (pv 2) (fun _ _ => rfl)))
      (pss_one (ps_delL (pv 3) (pe_call G_rank (hr.mono (by decide)) rfl T.rank.mg T.rank.fn.kp T.rank.bd .nil pass0 (pa_cons (pv 3) (pa_cons (pv 1) pa_nil))))), ?_⟩
  obtain ⟨Y, d, x, k, F, rfl, po, hk, hx, q⟩ := h
  have hl := po.at_ k hk
  have rl : rk x (F k) < (F k).length := (List.getElem?_eq_some_iff.mp ((rk_at (po.rise k hk)).mpr hx)).1
  have lm := po.len k hk
  refine ⟨_, rfl, Y.p, a.c_Pool, Y.dp, _, _, rfl, po.ob, T.cl_Pool, T.n_Pool__places, pFs_at Y, _, rfl, Y.pd, _, rfl, dget_of po.dk (pdK_get hk), ?_⟩
  refine ⟨_, rfl, _, rfl, _, rfl, Y.ls k, x, F k, rfl, SqL.of hl, po.rise k hk, lm, Y.ls k, _, _, rk x (F k), rfl, rfl, hl, ?_, ?_, ?_, ?_⟩
  · show -9223372036854775808 ≤ (rk x (F k) : Int)
    omega
  · show (rk x (F k) : Int) < 9223372036854775808
    omega
  · rw [List.length_map]
    unfold seqIndex?
    simp
    omega
  · rw [← del_eq (po.rise k hk) hx, DT.map_erase] at q
    exact q
theorem ok_Pool_has (T : Txt K mg a) : FnOk P w K mg base CX0 2 a.f_Pool_has a.d_Pool_has ["self", "at", "size"] (sp_Pool_has K a) := by
  have G_rank : FnOk P w K mg base CX0 1 a.f_rank a.d_rank ["places", "at"] (sp_rank K a) := ok_rank T
  refine T.Pool_has.ok sc_Pool_has (fun vs H Q E h => by first | (obtain ⟨rfl, _⟩ := h; rfl) | (obtain ⟨_, rfl, _⟩ := h; rfl) | (obtain ⟨_, _, rfl, _⟩ := h; rfl) | (obtain ⟨_, _, _, rfl, _⟩ := h; rfl) | (obtain ⟨_, _, _, _, rfl, _⟩ := h; rfl) | (obtain ⟨_, _, _, _, _, rfl, _⟩ := h; rfl) | (obtain ⟨_, _, _, _, _, _, rfl, _⟩ := h; rfl) | (obtain ⟨_, _, _, _, _, _, _, rfl, _⟩ := h; rfl) | (obtain ⟨_, _, _, _, _, _, _, _, rfl, _⟩ := h; rfl) | (obtain ⟨_, _, _, _, _, _, _, _, _, rfl, _⟩ := h; rfl) | (obtain ⟨_, _, _, _, _, _, _, _, _, _, rfl, _⟩ := h; rfl) | (obtain ⟨_, _, _, _, _, _, _, _, _, _, _, rfl, _⟩ := h; rfl)) (fun cdv A outer s H vs Q E hr h => ?_)
  refine ⟨_, pss_cons (ps_set (i := 3) sc_Pool_has.nd rfl (Or.inl rfl) (pe_dget (hu_of hr) (pe_fld (pv 0) rfl) (pv 2) (fun _ _ => rfl)))
      (pss_cons (ps_set (i := 4) sc_Pool_has.nd rfl (Or.inl rfl) (pe_call G_rank (hr.mono (by decide)) rfl T.rank.mg T.rank.fn.kp T.rank.bd .nil pass0 (pa_cons (pv 3) (pa_cons (pv 1) pa_nil))))
      (pss_one (ps_ret (pe_and (pe_cmpR op_lt (pv 4) (pe_callB call_len_seq (by rfl) T.z_len PySem.boot_len (pa_cons (pv 3) pa_nil)) (nomark _)) (pe_one (pe_cmpR op_eq (pe_ix ix_list (pv 3) (pv 4) (fun _ _ => rfl)) (pv 1) (nomark _))))))), ?_⟩
  obtain ⟨Y, d, x, k, F, rfl, po, hk, q⟩ := h
  have hl := po.at_ k hk
  have lm := po.len k hk
  refine ⟨_, rfl, Y.p, a.c_Pool, Y.dp, _, _, rfl, po.ob, T.cl_Pool, T.n_Pool__places, pFs_at Y, _, rfl, Y.pd, _, rfl, dget_of po.dk (pdK_get hk), ?_⟩
  refine ⟨_, rfl, _, rfl, Y.ls k, x, F k, rfl, SqL.of hl, po.rise k hk, lm, ?_⟩
  refine ⟨_, rfl, _, rfl, Y.ls k, _, rfl, .inl (SqL.of hl), _, _, rfl, rfl, _, rfl, ?_⟩
  rw [List.length_map]
  by_cases c : rk x (F k) < (F k).length
  · refine iteTof (decide_eq_true (by omega)) ?_
    obtain ⟨v, hv⟩ : ∃ v, (F k)[rk x (F k)]? = some v := ⟨_, List.getElem?_eq_getElem c⟩
    refine ⟨_, rfl, _, rfl, Y.ls k, _, _, nI v, rfl, rfl, SqL.of hl, atI_nat (map_nI_get hv), _, rfl, rfl, ?_⟩
    have e : decide (nI v = nI x) = decide (x ∈ F k) := by
      rw [decide_eq_decide, ← rk_at (po.rise k hk), hv]
      constructor
      · intro z
        have z2 : (v : Int) = (x : Int) := by injection z
        have : v = x := by omega
        rw [this]
      · intro z
        rw [Option.some.inj z]
    show Q (.bl (decide (nI v = nI x))) _
    rw [e]
    exact q
  · refine iteFof (decide_eq_false (by omega)) ?_
    have e : decide (x ∈ F k) = false := by
      rw [decide_eq_false_iff_not, ← rk_at (po.rise k hk)]
      intro z
      exact c (List.getElem?_eq_some_iff.mp z).1
    rw [e] at q
    exact q
end
/-! ### Pool() -/
def pdN (n : Nat) (ls : Nat → Addr) : List (Key × V) := (List.range n).map fun j => (Sum.inl ((2 ^ j : Nat) : Int), V.ref (ls j))
theorem pdN_congr {n : Nat} {ls ls' : Nat → Addr} (h : ∀ j, j < n → ls j = ls' j) : pdN n ls = pdN n ls' := by
  unfold pdN
  refine List.map_congr_left fun j hj => ?_
  rw [h j (List.mem_range.mp hj)]
theorem pdN_none {n : Nat} {ls : Nat → Addr} : valV (pdN n ls) (Sum.inl ((2 ^ n : Nat) : Int)) = none := by
  unfold pdN
  have aux : ∀ l : List Nat, (∀ j ∈ l, j < n) → valV (l.map fun j => ((Sum.inl ((2 ^ j : Nat) : Int) : Key), V.ref (ls j))) (Sum.inl ((2 ^ n : Nat) : Int)) = none := by
    intro l
    induction l with
    | nil => intro _; rfl
    | cons x l ih =>
      intro h
      have ne : ¬ (Sum.inl ((2 ^ x : Nat) : Int) : Key) = Sum.inl ((2 ^ n : Nat) : Int) := fun q => by
        have := pow_inj (Sum.inl.inj q)
        have := h x List.mem_cons_self
        omega
      rw [List.map_cons, valV_neg ne]
      exact ih fun j hj => h j (List.mem_cons_of_mem _ hj)
  exact aux _ fun j hj => List.mem_range.mp hj
def setL (ls : Nat → Addr) (n : Nat) (l : Addr) : Nat → Addr := fun j => if j = n then l else ls j
theorem setL_at {ls : Nat → Addr} {n : Nat} {l : Addr} : setL ls n l n = l := if_pos rfl
theorem setL_ne {ls : Nat → Addr} {n j : Nat} {l : Addr} (h : j ≠ n) : setL ls n l j = ls j := if_neg h
theorem pdN_put {n : Nat} {ls : Nat → Addr} {l : Addr} : putK (pdN n ls) (Sum.inl ((2 ^ n : Nat) : Int)) (.ref l) = pdN (n + 1) (setL ls n l) := by
  rw [putK_new _ pdN_none]
  have e : pdN n ls = pdN n (setL ls n l) := pdN_congr fun j hj => (setL_ne (by omega)).symm
  rw [e]
  unfold pdN
  rw [List.range_succ, List.map_append, List.map_cons, List.map_nil, setL_at]
theorem pow60 {d : Nat} (h : d ≤ 60) : 2 ^ d ≤ 1152921504606846976 := by
  have := Nat.pow_le_pow_right (n := 2) (by decide) h
  exact this
def sp_Pool_init (K : PySem.W.Frag) (a : Ad) : Sp := fun vs H Q _ => ∃ (p dp : Addr) (d : Nat), vs = [.ref p, sI d] ∧ H p = some (.ins a.c_Pool dp []) ∧ d ≤ 60 ∧
  ∀ (pd : Addr) (ls : Nat → Addr) (H' : Hp), (∀ y sd dy, PoolAt a ⟨y, sd, p, pd, dy, dp, ls⟩ d (fun _ => []) H') → H pd = none → (∀ j, j ≤ d → H (ls j) = none) → Only [p] H H' → Q .non H'
section
variable {P : Program} {w : World} {K : PySem.W.Frag} {mg : Str → Option Value} {base : Heap} {a : Ad}
theorem ok_Pool_init (T : Txt K mg a) : FnOk P w K mg base CX0 1 a.f_Pool_init a.d_Pool_init ["self", "cells"] (sp_Pool_init K a) := by
  refine T.Pool_init.ok sc_Pool_init (fun vs H Q E h => by first | (obtain ⟨rfl, _⟩ := h; rfl) | (obtain ⟨_, rfl, _⟩ := h; rfl) | (obtain ⟨_, _, rfl, _⟩ := h; rfl) | (obtain ⟨_, _, _, rfl, _⟩ := h; rfl) | (obtain ⟨_, _, _, _, rfl, _⟩ := h; rfl) | (obtain ⟨_, _, _, _, _, rfl, _⟩ := h; rfl) | (obtain ⟨_, _, _, _, _, _, rfl, _⟩ := h; rfl) | (obtain ⟨_, _, _, _, _, _, _, rfl, _⟩ := h; rfl) | (obtain ⟨_, _, _, _, _, _, _, _, rfl, _⟩ := h; rfl) | (obtain ⟨_, _, _, _, _, _, _, _, _, rfl, _⟩ := h; rfl) | (obtain ⟨_, _, _, _, _, _, _, _, _, _, rfl, _⟩ := h; rfl) | (obtain ⟨_, _, _, _, _, _, _, _, _, _, _, rfl, _⟩ := h; rfl)) (fun cdv A outer s H vs Q E hr h => ?_)
  refine ⟨_, pss_cons (ps_fld (pv 0) pe_dnewK rfl)
      (pss_cons (ps_set (i := 2) sc_Pool_init.nd rfl (Or.inl rfl) pe_int)
      (pss_one (ps_while PassesOwn.never (pt_cmpR op_le (pv 2) (pv 1) (nomark _)) (pss_cons (ps_dput (hu_of hr) (pe_fld (pv 0) rfl) (pv 2) (pe_lst pa_nil) rfl)
      (pss_one (ps_aug (i := 2) sc_Pool_init.nd rfl (Or.inl rfl) pe_int ip_mulX)))))), ?_⟩
  obtain ⟨p, dp, d, rfl, hp, hd, q⟩ := h
  intro pd npd
  have ppd : p ≠ pd := ne_of_none hp npd
  refine ⟨_, rfl, p, a.c_Pool, dp, [], rfl, (by rw [upd_ne ppd]; exact hp), T.cl_Pool, T.n_Pool__places, (by show 0 < 1000; decide), ?_⟩
  -- between two turns
  refine while_by (fun σ H' => ∃ (n : Nat) (ls : Nat → Addr), n ≤ d + 1 ∧ σ = [some (.ref p), some (sI d), some (sI n)] ∧ H' p = some (.ins a.c_Pool dp (putF "_places" (.ref pd) [])) ∧ H' pd = some (.dK (pdN n ls)) ∧
      (∀ j, j < n → H' (ls j) = some (.lst []) ∧ H (ls j) = none) ∧ (∀ i j, i < n → j < n → ls i = ls j → i = j) ∧ Only [p] H H')
    (fun σ H' => match σ with | [_, some (.int hi), some (.int lo)] => (hi + 1 - lo).toNat | _ => 0) ⟨0, fun _ => 0, by omega, rfl, upd_same, ?_, fun j h => by omega, fun i j h => by omega, ?_⟩ ?_ ?_
  · rw [upd_ne ppd.symm, upd_same]
    rfl
  · exact (Only.new (S := [p]) _ npd).trans (Only.upd _ (by simp))
  · rintro σ H' ⟨n, ls, hn, rfl, h1, h2, h3, h4, h5⟩
    have hpn : 0 < 2 ^ n := Nat.pow_pos (by decide)
    refine ⟨_, rfl, _, rfl, _, _, rfl, rfl, _, rfl, ?_⟩
    by_cases c : n ≤ d
    · have hle : 2 ^ n ≤ 2 ^ d := Nat.pow_le_pow_right (by decide) c
      refine iteTof (decide_eq_true (by omega)) ?_
      refine ⟨by show 0 ≤ sizeLine; omega, fun l hl => ?_⟩
      have npl : p ≠ l := ne_of_none h1 hl
      have ndl : pd ≠ l := ne_of_none h2 hl
      refine ⟨_, rfl, p, a.c_Pool, dp, _, _, rfl, (by rw [upd_ne npl]; exact h1), T.cl_Pool, T.n_Pool__places, (by rw [lookup_putF, if_pos rfl]), _, rfl, pd, _, rfl, DPut.k (k := Sum.inl ((2 ^ n : Nat) : Int)) (by rw [upd_ne ndl]; exact h2) (by
        unfold pdN
        rw [List.length_map, List.length_range, sizeLine_eq]
        omega), ?_⟩
      have p60 := pow60 (show n ≤ 60 by omega)
      refine ⟨_, rfl, _, _, rfl, rfl, mulx_ok (a := 61) (b := 3) (by rw [Int.natAbs_natCast]; exact Nat.lt_of_le_of_lt p60 (by decide)) (by decide) (by decide), ?_⟩
      have ez : ((2 ^ n : Nat) : Int) * 2 = ((2 ^ (n + 1) : Nat) : Int) := by rw [Nat.pow_succ, Int.natCast_mul]; rfl
      refine ⟨⟨n + 1, setL ls n l, by omega, ?_, ?_, ?_, ?_, ?_, ?_⟩, ?_⟩
      · show [some (V.ref p), some (sI d), some (V.int (((2 ^ n : Nat) : Int) * 2))] = _
        rw [ez]
      · rw [upd_ne ppd, upd_ne npl]
        exact h1
      · rw [← pdN_put]
        exact upd_same
      · intro j hj
        by_cases e : j = n
        · subst e
          rw [setL_at]
          refine ⟨by rw [upd_ne ndl.symm]; exact upd_same, ?_⟩
          refine Classical.byContradiction fun z => ?_
          obtain ⟨o, ho⟩ := Option.ne_none_iff_exists'.mp z
          rw [h5 l o ho (by simp [npl.symm])] at hl
          cases hl
        · rw [setL_ne e]
          obtain ⟨g1, g2⟩ := h3 j (by omega)
          refine ⟨?_, g2⟩
          rw [upd_ne (ne_of g1 h2 (by intro z; cases z)), upd_ne (ne_of_none g1 hl)]
          exact g1
      · intro i j hi hj e
        have ne : ∀ m, m < n → ls m ≠ l := fun m hm z => by
          have := (h3 m hm).1
          rw [z, hl] at this
          cases this
        by_cases e1 : i = n
        · by_cases e2 : j = n
          · omega
          · rw [e1, setL_at, setL_ne e2] at e
            exact absurd e.symm (ne j (by omega))
        · by_cases e2 : j = n
          · rw [e2, setL_at, setL_ne e1] at e
            exact absurd e (ne i (by omega))
          · rw [setL_ne e1, setL_ne e2] at e
            exact h4 i j (by omega) (by omega) e
      · intro b o e nb
        have g := h5 b o e nb
        rw [upd_ne, upd_ne (ne_of_none g hl)]
        · exact g
        · exact ne_of_none e npd
      · show (((2 ^ d : Nat) : Int) + 1 - ((2 ^ n : Nat) : Int) * 2).toNat < (((2 ^ d : Nat) : Int) + 1 - ((2 ^ n : Nat) : Int)).toNat
        omega
    · have e : n = d + 1 := by omega
      subst e
      have hle : 2 ^ d < 2 ^ (d + 1) := Nat.pow_lt_pow_right (by decide) (by omega)
      refine iteFof (decide_eq_false (by omega)) ?_
      refine q pd ls H' (fun y sd dy => ⟨h1, h2, fun j hj => (h3 j (by omega)).1, fun i j hi hj => h4 i j (by omega) (by omega), fun j hj => List.Pairwise.nil, fun j hj => Nat.zero_le _, hd⟩) npd (fun j hj => (h3 j (by omega)).2) h5
  · rintro σ H' Q1 Q2 hQ ⟨v, hv, y, hy, i, j, e1, e2, k, ek, h⟩
    exact ⟨v, hv, y, hy, i, j, e1, e2, k, ek, by cases k <;> exact hQ _ _ (by simpa using h)⟩
end
/-! ### Pool.best, Pool.pieces -/
def sp_Pool_best (K : PySem.W.Frag) (a : Ad) : Sp := fun vs H Q _ => ∃ (Y : YA) (d k : Nat) (F : Nat → List Nat), vs = [.ref Y.p, sI k] ∧ PoolAt a Y d F H ∧
  ((∀ j, k ≤ j → j ≤ d → F j = []) → ∀ H', (∀ b o, H b = some o → H' b = some o) → Q .non H') ∧
  (∀ j x r, k ≤ j → j ≤ d → (∀ i, k ≤ i → i < j → F i = []) → F j = x :: r → ∀ t H', (∀ b o, H b = some o → H' b = some o) → H' t = some (.tup [nI x, sI j]) → Q (.ref t) H')
theorem pdK_at {d i : Nat} {ls : Nat → Addr} (h : i ≤ d) : (pdK d ls)[i]? = some (Sum.inl ((2 ^ i : Nat) : Int), V.ref (ls i)) := by
  unfold pdK
  rw [List.getElem?_map, List.getElem?_range (by omega)]
  rfl
theorem pdK_len {d : Nat} {ls : Nat → Addr} : (pdK d ls).length = d + 1 := by
  unfold pdK
  rw [List.length_map, List.length_range]
theorem unlock {H H' : Hp} {b : Addr} {u v : HO} (h : H b = some u) (k : ∀ c o, L2.upd H b v c = some o → H' c = some o) : ∀ c o, H c = some o → L2.upd H' b u c = some o := by
  intro c o e
  by_cases z : c = b
  · subst z
    rw [upd_same, ← e, h]
  · rw [upd_ne z]
    exact k c o (by rw [upd_ne z]; exact e)
section
variable {P : Program} {w : World} {K : PySem.W.Frag} {mg : Str → Option Value} {base : Heap} {a : Ad}
theorem ok_Pool_best (T : Txt K mg a) : FnOk P w K mg base CX0 1 a.f_Pool_best a.d_Pool_best ["self", "size"] (sp_Pool_best K a) := by
  refine T.Pool_best.ok sc_Pool_best (fun vs H Q E h => by first | (obtain ⟨rfl, _⟩ := h; rfl) | (obtain ⟨_, rfl, _⟩ := h; rfl) | (obtain ⟨_, _, rfl, _⟩ := h; rfl) | (obtain ⟨_, _, _, rfl, _⟩ := h; rfl) | (obtain ⟨_, _, _, _, rfl, _⟩ := h; rfl) | (obtain ⟨_, _, _, _, _, rfl, _⟩ := h; rfl) | (obtain ⟨_, _, _, _, _, _, rfl, _⟩ := h; rfl) | (obtain ⟨_, _, _, _, _, _, _, rfl, _⟩ := h; rfl) | (obtain ⟨_, _, _, _, _, _, _, _, rfl, _⟩ := h; rfl) | (obtain ⟨_, _, _, _, _, _, _, _, _, rfl, _⟩ := h; rfl) | (obtain ⟨_, _, _, _, _, _, _, _, _, _, rfl, _⟩ := h; rfl) | (obtain ⟨_, _, _, _, _, _, _, _, _, _, _, rfl, _⟩ := h; rfl)) (fun cdv A outer s H vs Q E hr h => ?_)
  refine ⟨_, pss_cons (ps_lock (ps_for PassesOwn.never rfl (pi_items (pe_fld (pv 0) rfl)) (pg_tup rfl (pgs_cons (pg_name (i := 2) sc_Pool_best.nd rfl (Or.inl rfl)) (pgs_cons (pg_name (i := 3) sc_Pool_best.nd rfl (Or.inl rfl)) pgs_nil))) (pss_one (ps_if (PW.pt (pw_and (pt_cmpR op_ge (pv 2) (pv 1) (nomark _)) (pw_and1 (pt_truth (pv 3) (by intro _; rfl))))) (pss_one (ps_ret (pe_tup (pa_cons (pe_ix ix_list (pv 3) pe_int (fun _ _ => rfl)) (pa_cons (pv 2) pa_nil))))) pss_nil))))
      (pss_one (ps_ret pe_non)), ?_⟩
  obtain ⟨Y, d, k, F, rfl, po, q0, q1⟩ := h
  refine ⟨Y.pd, _, po.dk, trivial, fun od => ?_⟩
  have npd : Y.p ≠ Y.pd := ne_of po.ob po.dk (by intro z; cases z)
  have nls : ∀ j, j ≤ d → Y.ls j ≠ Y.pd := fun j hj => ne_of (po.at_ j hj) po.dk (by intro z; cases z)
  refine ⟨_, rfl, Y.p, a.c_Pool, Y.dp, _, _, rfl, (by rw [upd_ne npd]; exact po.ob), T.cl_Pool, T.n_Pool__places, pFs_at Y, Y.pd, od, _, rfl, upd_same, ?_⟩
  refine for_it walk_items (fun i σ H' => (∃ x3 x4, σ = [some (.ref Y.p), some (sI k), x3, x4]) ∧ (∀ j, k ≤ j → j < i → F j = []) ∧ (∀ b o, L2.upd H Y.pd (.frz od (.dK (pdK d Y.ls))) b = some o → H' b = some o))
    ⟨⟨none, none, rfl⟩, fun j h1 h2 => by omega, fun b o e => e⟩ (fun i σ H' _ p => p.2.2 _ _ upd_same) ?_ ?_
  · rintro i x σ H1 H2 hi ⟨⟨x3, x4, rfl⟩, none_yet, same⟩ ⟨t, u, v, rfl, new, rfl, eu, ev⟩
    rw [pdK_len] at hi
    dsimp only at eu ev
    rw [pdK_at (by omega)] at eu ev
    have eu : sI i = u := Option.some.inj eu
    have ev : V.ref (Y.ls i) = v := Option.some.inj ev
    subst eu ev
    have hat : H1 (Y.ls i) = some (.lst ((F i).map nI)) := same _ _ (by rw [upd_ne (nls i (by omega))]; exact po.at_ i (by omega))
    have hpd : H1 Y.pd = some (.frz od (.dK (pdK d Y.ls))) := same _ _ upd_same
    refine ⟨t, _, rfl, SqT.of upd_same, rfl, _, _, rfl, _, _, rfl, rfl, ?_⟩
    refine ⟨_, rfl, _, rfl, _, _, rfl, rfl, _, rfl, ?_⟩
    have grow : ∀ b o, L2.upd H Y.pd (.frz od (.dK (pdK d Y.ls))) b = some o → L2.upd H1 t (.tup [sI i, .ref (Y.ls i)]) b = some o := fun b o e => by
      have z := same b o e
      rw [upd_ne (ne_of_none z new)]
      exact z
    by_cases c : k ≤ i
    · have hle : 2 ^ k ≤ 2 ^ i := Nat.pow_le_pow_right (by decide) c
      refine iteTof (decide_eq_true (show ((2 ^ i : Nat) : Int) ≥ ((2 ^ k : Nat) : Int) by omega)) ?_
      refine ⟨_, rfl, _, .inl ⟨_, SqL.of (by rw [upd_ne (ne_of_none hat new)]; exact hat), rfl⟩, ?_⟩
      cases hF : F i with
      | nil =>
        refine iteFof rfl ?_
        refine ⟨⟨_, _, rfl⟩, fun j h1 h2 => ?_, grow⟩
        by_cases e : j = i
        · rw [e]; exact hF
        · exact none_yet j h1 (by omega)
      | cons y r =>
        refine iteTof rfl ?_
        refine ⟨_, rfl, Y.ls i, _, _, nI y, rfl, rfl, SqL.of (by rw [upd_ne (ne_of_none hat new)]; exact hat), at_of (j := 0) rfl (by rw [hF]; rfl), _, rfl, by show 2 ≤ sizeLine; decide, fun t2 ht2 => ?_⟩
        have hpd2 := grow _ _ (upd_same : L2.upd H Y.pd (.frz od (.dK (pdK d Y.ls))) Y.pd = _)
        have n2 : t2 ≠ Y.pd := fun z => by rw [z, hpd2] at ht2; cases ht2
        refine ⟨by rw [upd_ne n2.symm]; exact hpd2, ?_⟩
        refine q1 i y r c (by omega) none_yet hF t2 _ (unlock (v := .frz od (.dK (pdK d Y.ls))) po.dk fun b o e => ?_) ?_
        · have z := grow b o e
          rw [upd_ne (ne_of_none z ht2)]
          exact z
        · rw [upd_ne n2]
          exact upd_same
    · have hlt : 2 ^ i < 2 ^ k := Nat.pow_lt_pow_right (by decide) (by omega)
      refine iteFof (decide_eq_false (show ¬ ((2 ^ i : Nat) : Int) ≥ ((2 ^ k : Nat) : Int) by omega)) ?_
      exact ⟨⟨_, _, rfl⟩, fun j h1 h2 => by omega, grow⟩
  · rintro σ H1 ⟨_, none_yet, same⟩
    rw [pdK_len] at none_yet
    exact ⟨same _ _ upd_same, q0 (fun j h1 h2 => none_yet j h1 (by omega)) _ (unlock (v := .frz od (.dK (pdK d Y.ls))) po.dk same)⟩
end
/-! ### Pool.pieces -/
section
variable {J : It} {n : Nat} {G : Hp → Prop} {Y : Nat → Hp → V → Hp → Prop}
/-- a walk of a comprehension, whatever its turn is -/
theorem lc_out (wk : Walk J n G Y) {H0 : Hp} {Qd : Hp → Prop} {B : (Hp → Prop) → V → Hp → Prop} (Pv : Nat → Hp → Prop) (h0 : Pv 0 H0) (hG : ∀ i H, i ≤ n → Pv i H → G H)
    (hs : ∀ i x H H', i < n → Pv i H → Y i H x H' → B (Pv (i + 1)) x H') (hd : ∀ H, Pv n H → Qd H) :
    ∃ W : Nat → Nat → Hp → Prop, (∃ m, W 0 m H0) ∧ ∀ i m H, W i m H → (J.stop i H ∧ Qd H) ∨ (J.go i H ∧ ∃ Nx : Hp → Prop, (∀ H', Nx H' → ∃ m', m' < m ∧ W (i + 1) m' H') ∧ ∀ x H', J.yld i H x H' → B Nx x H') := by
  refine ⟨fun i m H => m = n - i ∧ i ≤ n ∧ Pv i H, ⟨n, by simp, Nat.zero_le _, h0⟩, ?_⟩
  intro i m H holds
  obtain ⟨rfl, le, pv⟩ := holds
  have g := hG i H le pv
  rcases Nat.lt_or_ge i n with lt | ge
  · exact .inr ⟨wk.goes i H lt g, Pv (i + 1), fun H' pv' => ⟨n - (i + 1), by omega, rfl, lt, pv'⟩, fun x H' y => hs i x H H' lt pv (wk.yields i H x H' lt g y)⟩
  · obtain rfl : i = n := by omega
    exact .inl ⟨wk.stops H g, hd H pv⟩
end
/-- the free pieces, by rising sizes -/
def allN (n : Nat) (F : Nat → List Nat) : List PI2 := (List.range n).flatMap fun j => (F j).map fun (x : Nat) => ((x : Int), ((2 ^ j : Nat) : Int))
theorem allN_succ (n : Nat) (F : Nat → List Nat) : allN (n + 1) F = allN n F ++ (F n).map fun (x : Nat) => ((x : Int), ((2 ^ n : Nat) : Int)) := by
  unfold allN
  rw [List.range_succ, List.flatMap_append]
  simp
theorem allN_len {n b : Nat} {F : Nat → List Nat} : (∀ j, j < n → (F j).length ≤ b) → (allN n F).length ≤ n * b := by
  induction n with
  | zero => intro _; exact Nat.zero_le _
  | succ n ih =>
    intro h
    rw [allN_succ, List.length_append, List.length_map, Nat.succ_mul]
    exact Nat.add_le_add (ih fun j hj => h j (by omega)) (h n (by omega))
def sp_Pool_pieces (K : PySem.W.Frag) (a : Ad) : Sp := fun vs H Q _ => ∃ (Y : YA) (d : Nat) (F : Nat → List Nat), vs = [.ref Y.p] ∧ PoolAt a Y d F H ∧
  ∀ (l : Addr) (us : List Addr) (H' : Hp), (∀ b o, H b = some o → H' b = some o) → H l = none → H' l = some (.lst (us.map V.ref)) → Tups H' us (srt (allN (d + 1) F)) → Q (.ref l) H'
section
variable {P : Program} {w : World} {K : PySem.W.Frag} {mg : Str → Option Value} {base : Heap} {a : Ad}
theorem ok_Pool_pieces (T : Txt K mg a) : FnOk P w K mg base CX0 1 a.f_Pool_pieces a.d_Pool_pieces ["self"] (sp_Pool_pieces K a) := by
  refine T.Pool_pieces.ok sc_Pool_pieces (fun vs H Q E h => by first | (obtain ⟨rfl, _⟩ := h; rfl) | (obtain ⟨_, rfl, _⟩ := h; rfl) | (obtain ⟨_, _, rfl, _⟩ := h; rfl) | (obtain ⟨_, _, _, rfl, _⟩ := h; rfl) | (obtain ⟨_, _, _, _, rfl, _⟩ := h; rfl) | (obtain ⟨_, _, _, _, _, rfl, _⟩ := h; rfl) | (obtain ⟨_, _, _, _, _, _, rfl, _⟩ := h; rfl) | (obtain ⟨_, _, _, _, _, _, _, rfl, _⟩ := h; rfl) | (obtain ⟨_, _, _, _, _, _, _, _, rfl, _⟩ := h; rfl) | (obtain ⟨_, _, _, _, _, _, _, _, _, rfl, _⟩ := h; rfl) | (obtain ⟨_, _, _, _, _, _, _, _, _, _, rfl, _⟩ := h; rfl) | (obtain ⟨_, _, _, _, _, _, _, _, _, _, _, rfl, _⟩ := h; rfl)) (fun cdv A outer s H vs Q E hr h => ?_)
  refine ⟨_, pss_one (ps_ret (pe_callB cr_sortedTups (by rfl) T.z_sorted (by decide +kernel) (pa_cons (pe_lock (pe_lc2 (own := [("size", 1), ("places", 2), ("at", 3)]) (vs1 := [3]) (g := gTup K 2 (gCons (gName 1) (gCons (gName 2) gNil))) (g1 := gName 3) (wi1 := iList K (tVar 2)) rfl sc_Pool_pieces.nd (pi_items (pe_fld (pv 0) rfl)) (blkOk_by (own := [("size", 1), ("places", 2), ("at", 3)]) (N := ["self", "size", "places", "at"]) (sc := defScope s_Pool_pieces) (by decide +kernel)) (by decide) (fun _ _ _ _ _ => (pg_tup rfl (pgs_cons (pg_name (i := 1) sc_Pool_pieces.nd rfl (Or.inl rfl)) (pgs_cons (pg_name (i := 2) sc_Pool_pieces.nd rfl (Or.inl rfl)) pgs_nil)))) (fun _ _ _ _ _ => pts_nil) (fun _ _ _ _ _ => (pi_list (pv 2))) (fun _ _ _ _ _ => (pg_name (i := 3) sc_Pool_pieces.nd rfl (Or.inl rfl))) (fun _ _ _ _ _ => pts_nil) (fun _ _ _ _ _ => (pe_tup (pa_cons (pv 3) (pa_cons (pv 1) pa_nil)))))) pa_nil))), ?_⟩
  obtain ⟨Y, d, F, rfl, po, q⟩ := h
  have npd : Y.p ≠ Y.pd := ne_of po.ob po.dk (by intro z; cases z)
  have nls : ∀ j, j ≤ d → Y.ls j ≠ Y.pd := fun j hj => ne_of (po.at_ j hj) po.dk (by intro z; cases z)
  refine ⟨Y.pd, _, po.dk, trivial, fun od => ?_⟩
  refine ⟨_, rfl, Y.p, a.c_Pool, Y.dp, _, _, rfl, (by rw [upd_ne npd]; exact po.ob), T.cl_Pool, T.n_Pool__places, pFs_at Y, Y.pd, od, _, rfl, upd_same, fun D newD => ?_⟩
  refine lc_out walk_items (fun i H' => ∃ ts : List Addr, H' D = some (.lst (ts.map V.ref)) ∧ Tups H' ts (allN i F) ∧ (∀ b o, L2.upd H Y.pd (.frz od (.dK (pdK d Y.ls))) b = some o → H' b = some o))
    ⟨[], upd_same, .nil, fun b o e => by rw [upd_ne (ne_of_none e newD)]; exact e⟩ (fun i H' _ ⟨_, _, _, p⟩ => p _ _ upd_same) ?_ ?_
  · rintro i x H1 H2 hi ⟨ts, hD, tups, same⟩ ⟨t, u, v, rfl, new, rfl, eu, ev⟩
    rw [pdK_len] at hi
    dsimp only at eu ev
    rw [pdK_at (by omega)] at eu ev
    have eu : sI i = u := Option.some.inj eu
    have ev : V.ref (Y.ls i) = v := Option.some.inj ev
    subst eu ev
    have hat : H1 (Y.ls i) = some (.lst ((F i).map nI)) := same _ _ (by rw [upd_ne (nls i (by omega))]; exact po.at_ i (by omega))
    have keep1 : ∀ b o, H1 b = some o → L2.upd H1 t (.tup [sI i, .ref (Y.ls i)]) b = some o := fun b o e => by rw [upd_ne (ne_of_none e new)]; exact e
    refine ⟨t, _, rfl, SqT.of upd_same, rfl, _, _, rfl, _, _, rfl, rfl, rfl, ?_⟩
    refine ⟨_, rfl, Y.ls i, rfl, ⟨_, SqL.of (keep1 _ _ hat)⟩, ?_⟩
    refine lc_out walk_list (fun j H' => ∃ ts : List Addr, H' D = some (.lst (ts.map V.ref)) ∧ Tups H' ts (allN i F ++ ((F i).take j).map fun (x : Nat) => ((x : Int), ((2 ^ i : Nat) : Int))) ∧ (∀ b o, L2.upd H Y.pd (.frz od (.dK (pdK d Y.ls))) b = some o → H' b = some o))
      ⟨ts, keep1 _ _ hD, ?_, fun b o e => keep1 _ _ (same b o e)⟩ (fun j H' _ ⟨_, _, _, p⟩ => SqL.of (p _ _ (by rw [upd_ne (nls i (by omega))]; exact po.at_ i (by omega)))) ?_ ?_
    · rw [List.take_zero, List.map_nil, List.append_nil]
      exact tups.keep fun t xs e => keep1 _ _ e
    · rintro j y H3 H4 hj ⟨us, hD3, tups3, same3⟩ ⟨rfl, ey⟩
      rw [List.length_map] at hj
      obtain ⟨m, hm⟩ : ∃ m, (F i)[j]? = some m := ⟨_, List.getElem?_eq_getElem hj⟩
      rw [map_nI_get hm] at ey
      have ey := Option.some.inj ey
      subst ey
      refine ⟨rfl, ?_⟩
      refine ⟨_, rfl, _, rfl, by show 2 ≤ sizeLine; decide, fun t2 new2 => ?_⟩
      have nD : D ≠ t2 := ne_of_none hD3 new2
      refine ⟨us.map V.ref, by rw [upd_ne nD]; exact hD3, ?_, us ++ [t2], ?_, ?_, ?_⟩
      · have l1 := tups3.len
        have l2 := allN_len (n := i) (b := 200000) (F := F) fun j hj => po.len j (by omega)
        have l3 := po.len i (by omega)
        have l4 := po.d60
        rw [List.length_append, List.length_map, List.length_take] at l1
        rw [List.length_map, sizeLine_eq]
        have : i * 200000 ≤ 60 * 200000 := Nat.mul_le_mul_right _ (by omega)
        omega
      · rw [List.map_append]
        exact upd_same
      · rw [List.take_add_one, hm, Option.toList_some, List.map_append, ← List.append_assoc]
        refine Tups.snoc ?_ ?_
        · show L2.upd (L2.upd H4 t2 (.tup [nI m, sI i])) D _ t2 = _
          rw [upd_ne nD.symm]
          exact upd_same
        · refine tups3.keep fun t xs e => ?_
          rw [upd_ne (fun z => by rw [z, hD3] at e; cases e), upd_ne (ne_of_none e new2)]
          exact e
      · intro b o e
        have z := same3 b o e
        have nb : b ≠ D := fun z2 => by rw [z2, newD] at e; cases e
        rw [upd_ne nb, upd_ne (ne_of_none z new2)]
        exact z
    · rintro H3 ⟨us, hD3, tups3, same3⟩
      rw [List.length_map] at tups3
      rw [List.take_length, ← allN_succ] at tups3
      exact ⟨us, hD3, tups3, same3⟩
  · rintro H1 ⟨ts, hD, tups, same⟩
    rw [pdK_len] at tups
    have nD : D ≠ Y.pd := fun z => by rw [z, upd_same] at newD; cases newD
    refine ⟨same _ _ upd_same, D, ts, _, rfl, SqL.of (by rw [upd_ne nD]; exact hD), tups.keep fun t xs e => ?_, fun p us new tu => ?_⟩
    · rw [upd_ne (fun z => by rw [z, same _ _ upd_same] at e; cases e)]
      exact e
    · have grow := unlock (v := .frz od (.dK (pdK d Y.ls))) po.dk same
      refine q p us _ (fun b o e => ?_) ?_ upd_same tu
      · have z := grow b o e
        rw [upd_ne (ne_of_none z new)]
        exact z
      · refine Classical.byContradiction fun z => ?_
        obtain ⟨o, ho⟩ := Option.ne_none_iff_exists'.mp z
        rw [grow p o ho] at new
        cases new
end
/-! ### a yard's own objects, the sizes' defs, the halves -/
def yFs (Y : YA) (d : Nat) : List (Str × V) := putF "_pool" (.ref Y.p) (putF "_sizes" (.ref Y.sd) (putF "cells" (sI d) []))
theorem yFs_cells (Y : YA) (d : Nat) : (yFs Y d).lookup ("cells" : Str) = some (sI d) := by
  unfold yFs
  rw [lookup_putF, if_neg (by decide +kernel), lookup_putF, if_neg (by decide +kernel), lookup_putF, if_pos rfl]
theorem yFs_sizes (Y : YA) (d : Nat) : (yFs Y d).lookup ("_sizes" : Str) = some (.ref Y.sd) := by
  unfold yFs
  rw [lookup_putF, if_neg (by decide +kernel), lookup_putF, if_pos rfl]
theorem yFs_pool (Y : YA) (d : Nat) : (yFs Y d).lookup ("_pool" : Str) = some (.ref Y.p) := by
  unfold yFs
  rw [lookup_putF, if_pos rfl]
theorem yFs_no (Y : YA) (d : Nat) {m : Str} (h1 : ¬ m = "_pool") (h2 : ¬ m = "_sizes") (h3 : ¬ m = "cells") : (yFs Y d).lookup m = none := by
  unfold yFs
  rw [lookup_putF, if_neg h1, lookup_putF, if_neg h2, lookup_putF, if_neg h3]
  rfl
def YOb (a : Ad) (Y : YA) (d : Nat) (H : Hp) : Prop := H Y.y = some (.ins a.c_Yard Y.dy (yFs Y d))
def lsA (Y : YA) (d : Nat) : List Addr := (List.range (d + 1)).map Y.ls
theorem lsA_mem {Y : YA} {d j : Nat} (h : j ≤ d) : Y.ls j ∈ lsA Y d := List.mem_map.mpr ⟨j, List.mem_range.mpr (by omega), rfl⟩
theorem PoolAt.off {a : Ad} {Y : YA} {d : Nat} {F : Nat → List Nat} {H : Hp} (h : PoolAt a Y d F H) {b : Addr} {o : HO} (e : H b = some o) (n : ∀ xs, o ≠ .lst xs) : b ∉ lsA Y d := by
  intro z
  obtain ⟨j, hj, rfl⟩ := List.mem_map.mp z
  rw [h.at_ j (by have := List.mem_range.mp hj; omega)] at e
  exact n _ (Option.some.inj e).symm
theorem PoolAt.congr {a : Ad} {Y : YA} {d : Nat} {F G : Nat → List Nat} {H : Hp} (h : PoolAt a Y d F H) (e : ∀ j, j ≤ d → F j = G j) : PoolAt a Y d G H :=
  ⟨h.ob, h.dk, fun j hj => by rw [← e j hj]; exact h.at_ j hj, h.inj, fun j hj => by rw [← e j hj]; exact h.rise j hj, fun j hj => by rw [← e j hj]; exact h.len j hj, h.d60⟩
/-- how often 1 is doubled to fit w -/
def fit (w : Int) : Nat := Builtin.Int.intBits (w - 1)
theorem fit_spec {w : Int} (h1 : 1 ≤ w) (h2 : w ≤ 1152921504606846976) : fit w ≤ 60 ∧ w ≤ ((2 ^ fit w : Nat) : Int) ∧ ((2 ^ fit w : Nat) : Int) < 2 * w := by
  obtain ⟨n, rfl⟩ : ∃ n : Nat, w = (n : Int) + 1 := ⟨(w - 1).toNat, by omega⟩
  have e0 : (n : Int) + 1 - 1 = (n : Int) := by omega
  unfold fit Builtin.Int.intBits
  rw [e0]
  by_cases hn : n = 0
  · subst hn
    decide
  · rw [if_neg (by simpa using hn), Int.natAbs_natCast]
    have hlt : n < 2 ^ (n.log2 + 1) := Nat.lt_log2_self
    have hle : 2 ^ n.log2 ≤ n := Nat.log2_self_le hn
    have h60 : n < 2 ^ 60 := by
      have : (1152921504606846976 : Int) = ((2 ^ 60 : Nat) : Int) := by decide
      omega
    refine ⟨?_, by omega, ?_⟩
    · have : n.log2 < 60 := (Nat.log2_lt hn).mpr h60
      omega
    · rw [Nat.pow_succ]
      generalize 2 ^ n.log2 = z at hle
      omega
theorem fit_le {w : Int} {d : Nat} (h1 : 1 ≤ w) (h2 : w ≤ ((2 ^ d : Nat) : Int)) (hd : d ≤ 60) : fit w ≤ d := by
  have p := pow60 hd
  have f := fit_spec h1 (by omega)
  apply Classical.byContradiction
  intro z
  have : 2 ^ (d + 1) ≤ 2 ^ fit w := Nat.pow_le_pow_right (by decide) (by omega)
  rw [Nat.pow_succ] at this
  omega
def sp_size_for (K : PySem.W.Frag) (a : Ad) : Sp := fun vs H Q E => ∃ w : Int, vs = [.int w] ∧ ((w < 1 ∨ w > 1152921504606846976) → E (.ref a.c_NoWish) none H) ∧ (1 ≤ w → w ≤ 1152921504606846976 → Q (sI (fit w)) H)
def sp_twin_of (K : PySem.W.Frag) (a : Ad) : Sp := fun vs H Q _ => ∃ i k : Nat, vs = [nI (i * 2 ^ k), sI k] ∧ Q (nI (sib i * 2 ^ k)) H
/-- the upper halves of a piece of exponent m, down to k -/
def hv (x k m : Nat) : List PN := (List.range (m - k)).map fun i => (x + 2 ^ (m - 1 - i), m - 1 - i)
def toI (q : PN) : PI2 := ((q.1 : Int), ((2 ^ q.2 : Nat) : Int))
def sp_upper_halves (K : PySem.W.Frag) (a : Ad) : Sp := fun vs H Q _ => ∃ x k m : Nat, vs = [nI x, sI m, sI k] ∧ m ≤ 60 ∧
  ∀ (l : Addr) (ts : List Addr) (H' : Hp), (∀ b o, H b = some o → H' b = some o) → H l = none → (∀ t ∈ ts, H t = none) → H' l = some (.lst (ts.map V.ref)) → Tups H' ts ((hv x k m).map toI) → Q (.ref l) H'
theorem xor_pow (i k : Nat) : (i * 2 ^ k) ^^^ 2 ^ k = sib i * 2 ^ k := by
  have e : i * 2 ^ k = i <<< k := (Nat.shiftLeft_eq i k).symm
  have e1 : (2 : Nat) ^ k = 1 <<< k := by rw [Nat.shiftLeft_eq, Nat.one_mul]
  have e2 : sib i * 2 ^ k = sib i <<< k := (Nat.shiftLeft_eq _ k).symm
  rw [e, e2]
  conv => lhs; rw [e1]
  rw [← Nat.shiftLeft_xor_distrib]
  congr 1
  unfold sib
  have h1 : (i ^^^ 1) / 2 = i / 2 := by
    rw [Nat.xor_div_two]
    simp
  have h2 : (i ^^^ 1) % 2 = (i + 1) % 2 := by
    have b := Nat.testBit_xor i 1 0
    rw [Nat.testBit_zero, Nat.testBit_zero] at b
    have b1 : Nat.testBit 1 0 = true := rfl
    rw [b1] at b
    by_cases c : i % 2 = 1
    · rw [decide_eq_true c] at b
      have b' : decide ((i ^^^ 1) % 2 = 1) = false := b
      have := of_decide_eq_false b'
      omega
    · rw [decide_eq_false c] at b
      have b' : decide ((i ^^^ 1) % 2 = 1) = true := b
      have := of_decide_eq_true b'
      omega
  split <;> omega
section
variable {P : Program} {w : World} {K : PySem.W.Frag} {mg : Str → Option Value} {base : Heap} {a : Ad}
theorem ok_size_for (T : Txt K mg a) : FnOk P w K mg base (L2.CX P w) 1 a.f_size_for a.d_size_for ["want"] (sp_size_for K a) := by
  obtain ⟨tM, mM⟩ := T.v_MOST
  refine T.size_for.fn.okX sc_size_for (fun vs H Q E h => by first | (obtain ⟨rfl, _⟩ := h; rfl) | (obtain ⟨_, rfl, _⟩ := h; rfl) | (obtain ⟨_, _, rfl, _⟩ := h; rfl) | (obtain ⟨_, _, _, rfl, _⟩ := h; rfl) | (obtain ⟨_, _, _, _, rfl, _⟩ := h; rfl) | (obtain ⟨_, _, _, _, _, rfl, _⟩ := h; rfl) | (obtain ⟨_, _, _, _, _, _, rfl, _⟩ := h; rfl) | (obtain ⟨_, _, _, _, _, _, _, rfl, _⟩ := h; rfl) | (obtain ⟨_, _, _, _, _, _, _, _, rfl, _⟩ := h; rfl) | (obtain ⟨_, _, _, _, _, _, _, _, _, rfl, _⟩ := h; rfl) | (obtain ⟨_, _, _, _, _, _, _, _, _, _, rfl, _⟩ := h; rfl) | (obtain ⟨_, _, _, _, _, _, _, _, _, _, _, rfl, _⟩ := h; rfl)) (fun cdv A outer s H vs Q E hr h => ?_)
  refine ⟨_, pss_cons (ps_if (PW.pt (pw_or (pt_cmpR op_lt (pv 0) pe_int (nomark _)) (pw_or1 (pt_cmpR op_gt (pv 0) (pe_glob (v := .int 1152921504606846976) rfl mM ⟨_, rfl⟩) (nomark _))))) (pss_one (ps_raise rfl (takes_of rfl rfl rfl rfl) (pmk_own PySem.F.excBase_ValueError T.e_NoWish.x T.e_NoWish.g T.e_NoWish.k (raises_own T.e_NoWish.is.hs T.e_NoWish.t) (by exact rfl)))) pss_nil)
      (pss_one (ps_ret (pe_op op_shlN pe_int (pe_bits (pe_op op_sub (pv 0) pe_int))))), ?_⟩
  obtain ⟨x, rfl, kE, kQ⟩ := h
  refine ⟨_, rfl, _, _, rfl, rfl, _, rfl, ?_⟩
  by_cases h1 : x < 1
  · exact iteTof (decide_eq_true h1) (iteTof rfl (kE (.inl h1)))
  · refine iteFof (decide_eq_false h1) ?_
    refine ⟨_, rfl, _, _, rfl, rfl, _, rfl, ?_⟩
    by_cases h2 : x > 1152921504606846976
    · exact iteTof (decide_eq_true h2) (kE (.inr h2))
    · refine iteFof (decide_eq_false h2) ?_
      have f := fit_spec (w := x) (by omega) (by omega)
      refine ⟨_, rfl, _, _, rfl, rfl, _, rfl, 1, fit x, rfl, rfl, shl_ok (n := 1) (by decide) (by omega), ?_⟩
      have e : (1 : Int) * 2 ^ fit x = ((2 ^ fit x : Nat) : Int) := by
        rw [Int.one_mul]
        exact PySem.W.kbt_cast _
      rw [e]
      exact kQ (by omega) (by omega)
theorem ok_twin_of (T : Txt K mg a) : FnOk P w K mg base CX0 1 a.f_twin_of a.d_twin_of ["at", "size"] (sp_twin_of K a) := by
  refine T.twin_of.fn.ok sc_twin_of (fun vs H Q E h => by first | (obtain ⟨rfl, _⟩ := h; rfl) | (obtain ⟨_, rfl, _⟩ := h; rfl) | (obtain ⟨_, _, rfl, _⟩ := h; rfl) | (obtain ⟨_, _, _, rfl, _⟩ := h; rfl) | (obtain ⟨_, _, _, _, rfl, _⟩ := h; rfl) | (obtain ⟨_, _, _, _, _, rfl, _⟩ := h; rfl) | (obtain ⟨_, _, _, _, _, _, rfl, _⟩ := h; rfl) | (obtain ⟨_, _, _, _, _, _, _, rfl, _⟩ := h; rfl) | (obtain ⟨_, _, _, _, _, _, _, _, rfl, _⟩ := h; rfl) | (obtain ⟨_, _, _, _, _, _, _, _, _, rfl, _⟩ := h; rfl) | (obtain ⟨_, _, _, _, _, _, _, _, _, _, rfl, _⟩ := h; rfl) | (obtain ⟨_, _, _, _, _, _, _, _, _, _, _, rfl, _⟩ := h; rfl)) (fun cdv A outer s H vs Q E hr h => ?_)
  refine ⟨_, pss_one (ps_ret (pe_op op_xor (pv 0) (pv 1))), ?_⟩
  obtain ⟨i, k, rfl, q⟩ := h
  refine ⟨_, rfl, _, rfl, _, _, rfl, rfl, ?_⟩
  have e := Bits.bitXor_pp (x := ((i * 2 ^ k : Nat) : Int)) (y := ((2 ^ k : Nat) : Int)) (Int.natCast_nonneg _) (Int.natCast_nonneg _)
  rw [Int.toNat_natCast, Int.toNat_natCast, xor_pow] at e
  show Q (.int (Builtin.bitXor ((i * 2 ^ k : Nat) : Int) ((2 ^ k : Nat) : Int))) H
  rw [e]
  exact q
theorem ok_upper_halves (T : Txt K mg a) : FnOk P w K mg base CX0 1 a.f_upper_halves a.d_upper_halves ["at", "size", "least"] (sp_upper_halves K a) := by
  refine T.upper_halves.fn.ok sc_upper_halves (fun vs H Q E h => by first | (obtain ⟨rfl, _⟩ := h; rfl) | (obtain ⟨_, rfl, _⟩ := h; rfl) | (obtain ⟨_, _, rfl, _⟩ := h; rfl) | (obtain ⟨_, _, _, rfl, _⟩ := h; rfl) | (obtain ⟨_, _, _, _, rfl, _⟩ := h; rfl) | (obtain ⟨_, _, _, _, _, rfl, _⟩ := h; rfl) | (obtain ⟨_, _, _, _, _, _, rfl, _⟩ := h; rfl) | (obtain ⟨_, _, _, _, _, _, _, rfl, _⟩ := h; rfl) | (obtain ⟨_, _, _, _, _, _, _, _, rfl, _⟩ := h; rfl) | (obtain ⟨_, _, _, _, _, _, _, _, _, rfl, _⟩ := h; rfl) | (obtain ⟨_, _, _, _, _, _, _, _, _, _, rfl, _⟩ := h; rfl) | (obtain ⟨_, _, _, _, _, _, _, _, _, _, _, rfl, _⟩ := h; rfl)) (fun cdv A outer s H vs Q E hr h => ?_)
  refine ⟨_, pss_cons (ps_set (i := 3) sc_upper_halves.nd rfl (Or.inl rfl) (pe_lst pa_nil))
      (pss_cons (ps_while PassesOwn.never (pt_cmpR op_gt (pv 1) (pv 2) (nomark _)) (pss_cons (ps_aug (i := 1) sc_upper_halves.nd rfl (Or.inl rfl) pe_int ip_fdivW)
      (pss_one (ps_expr (pe_bm PySem.F.plainAttrs_list PySem.F.slot_list_append PySem.F.type_list_append mt_append (pv 3) (pa_cons (pe_tup (pa_cons (pe_op op_add (pv 0) (pv 1)) (pa_cons (pv 1) pa_nil))) pa_nil))))))
      (pss_one (ps_ret (pv 3)))), ?_⟩
  obtain ⟨x, k, m, rfl, hm, q⟩ := h
  refine ⟨by show 0 ≤ sizeLine; omega, fun l hl => ?_⟩
  refine while_by (fun σ H' => ∃ (n : Nat) (ts : List Addr), n ≤ m ∧ (k ≤ n ∨ n = m) ∧ σ = [some (nI x), some (sI n), some (sI k), some (.ref l)] ∧ (∀ b o, H b = some o → H' b = some o) ∧ (∀ t ∈ ts, H t = none) ∧ H' l = some (.lst (ts.map V.ref)) ∧ Tups H' ts ((hv x n m).map toI))
    (fun σ H' => match σ with | [_, some (.int n), _, _] => n.toNat | _ => 0) ⟨m, [], Nat.le_refl _, .inr rfl, rfl, fun b o e => by rw [upd_ne (ne_of_none e hl)]; exact e, fun t h => absurd h (by simp), upd_same, ?_⟩ ?_ ?_
  · unfold hv
    rw [Nat.sub_self]
    exact .nil
  · rintro σ H' ⟨n, ts, hn, hkn, rfl, same, new, hat, tups⟩
    refine ⟨_, rfl, _, rfl, _, _, rfl, rfl, _, rfl, ?_⟩
    by_cases c : k < n
    · have hp : 0 < 2 ^ (n - 1) := Nat.pow_pos (by decide)
      have e2 : 2 ^ n = 2 ^ (n - 1) * 2 := by rw [← Nat.pow_succ]; congr 1; omega
      have hlt : 2 ^ k < 2 ^ n := Nat.pow_lt_pow_right (by decide) c
      refine iteTof (decide_eq_true (show ((2 ^ n : Nat) : Int) > ((2 ^ k : Nat) : Int) by omega)) ?_
      refine ⟨_, rfl, _, _, rfl, rfl, wide_div (b := 3) (by decide) (by decide) (by decide) (by decide), ?_⟩
      have e3 : ((2 ^ n : Nat) : Int) / 2 = ((2 ^ (n - 1) : Nat) : Int) := by omega
      refine ⟨_, rfl, .inl ⟨rfl, _, SqL.of hat⟩, _, rfl, _, rfl, _, _, rfl, rfl, _, rfl, by show 2 ≤ sizeLine; decide, fun t ht => ?_⟩
      have nl : l ≠ t := ne_of_none hat ht
      have l1 := tups.len
      refine ⟨l, _, _, rfl, rfl, by rw [upd_ne nl]; exact hat, ?_, ?_⟩
      · rw [List.length_map] at l1
        unfold hv at l1
        rw [List.length_map, List.length_range] at l1
        rw [List.length_map, sizeLine_eq]
        omega
      · refine ⟨⟨n - 1, ts ++ [t], by omega, .inl (by omega), by show [some (nI x), some (V.int (((2 ^ n : Nat) : Int) / 2)), some (sI k), some (V.ref l)] = _; rw [e3], fun b o e => ?_, fun t' h' => ?_, ?_, ?_⟩, ?_⟩
        · have z := same b o e
          rw [upd_ne (fun z2 => by rw [z2, hl] at e; cases e), upd_ne (ne_of_none z ht)]
          exact z
        · rcases List.mem_append.mp h' with h' | h'
          · exact new t' h'
          · have := List.mem_singleton.mp h'
            subst this
            refine Classical.byContradiction fun z => ?_
            obtain ⟨o, ho⟩ := Option.ne_none_iff_exists'.mp z
            rw [same _ _ ho] at ht
            cases ht
        · rw [List.map_append]
          exact upd_same
        · have e4 : hv x (n - 1) m = hv x n m ++ [(x + 2 ^ (n - 1), n - 1)] := by
            unfold hv
            rw [show m - (n - 1) = m - n + 1 by omega, List.range_succ, List.map_append, List.map_cons, List.map_nil, show m - 1 - (m - n) = n - 1 by omega]
          rw [e4, List.map_append, List.map_cons, List.map_nil]
          refine Tups.snoc ?_ ?_
          · rw [upd_ne nl.symm]
            have e5 : ((x : Int) + ((2 ^ n : Nat) : Int) / 2) = ((x + 2 ^ (n - 1) : Nat) : Int) := by omega
            unfold toI
            rw [← e5, ← e3]
            exact upd_same
          · refine tups.keep fun t' xs e => ?_
            rw [upd_ne (fun z => by rw [z, hat] at e; cases e), upd_ne (ne_of_none e ht)]
            exact e
        · show (((2 ^ n : Nat) : Int) / 2).toNat < (((2 ^ n : Nat) : Int)).toNat
          omega
    · have hle : 2 ^ n ≤ 2 ^ k := Nat.pow_le_pow_right (by decide) (by omega)
      refine iteFof (decide_eq_false (show ¬ ((2 ^ n : Nat) : Int) > ((2 ^ k : Nat) : Int) by omega)) ?_
      refine ⟨_, rfl, ?_⟩
      have e : hv x n m = hv x k m := by
        rcases hkn with z | z
        · rw [show n = k by omega]
        · unfold hv
          rw [show m - n = 0 by omega, show m - k = 0 by omega]
      rw [e] at tups
      exact q l ts H' same hl new hat tups
  · rintro σ H' Q1 Q2 hQ ⟨v, hv, y, hy, i, j, e1, e2, k, ek, h⟩
    exact ⟨v, hv, y, hy, i, j, e1, e2, k, ek, by cases k <;> exact hQ _ _ (by simpa using h)⟩
end
/-! ### cutting, growing, joining -/
def cutF (F : Nat → List Nat) (x k m : Nat) : Nat → List Nat := fun j => if k ≤ j ∧ j < m then ins (x + 2 ^ j) (F j) else F j
theorem cutF_step {F : Nat → List Nat} {x k m : Nat} (h : k < m) (j : Nat) : setF (cutF F x (k + 1) m) k (ins (x + 2 ^ k) (F k)) j = cutF F x k m j := by
  unfold setF cutF
  by_cases e : j = k
  · subst e
    rw [if_pos rfl, if_pos ⟨Nat.le_refl _, h⟩]
  · rw [if_neg e]
    by_cases c : k + 1 ≤ j ∧ j < m
    · rw [if_pos c, if_pos ⟨by omega, c.2⟩]
    · rw [if_neg c, if_neg (by omega)]
theorem sib_up {x j m : Nat} (ha : x / 2 ^ m * 2 ^ m = x) (h : j < m) : sib (x / 2 ^ j) * 2 ^ j = x + 2 ^ j := by
  obtain ⟨t, rfl⟩ : ∃ t, m = j + 1 + t := ⟨m - (j + 1), by omega⟩
  have e : x = x / 2 ^ (j + 1 + t) * 2 ^ t * 2 * 2 ^ j := by
    conv => lhs; rw [← ha]
    rw [Nat.pow_add, Nat.pow_succ]
    generalize x / (2 ^ j * 2 * 2 ^ t) = z
    ac_rfl
  generalize x / 2 ^ (j + 1 + t) * 2 ^ t = z at e
  subst e
  rw [Nat.mul_div_cancel _ (Nat.pow_pos (by decide))]
  unfold sib
  rw [if_pos (by omega), Nat.succ_mul]
theorem cutF_add {F : Nat → List Nat} {x k m n : Nat} (ha : x / 2 ^ n * 2 ^ n = x) (h : m ≤ n) (j : Nat) : cutF F x k m j = addF F x k m j := by
  unfold cutF addF
  by_cases c : k ≤ j ∧ j < m
  · rw [if_pos c, if_pos c, sib_up ha (by omega)]
  · rw [if_neg c, if_neg c]
theorem hv_at {x k m i : Nat} (h : i < m - k) : (hv x k m)[i]? = some (x + 2 ^ (m - 1 - i), m - 1 - i) := by
  unfold hv
  rw [List.getElem?_map, List.getElem?_range h]
  rfl
theorem hv_len {x k m : Nat} : (hv x k m).length = m - k := by
  unfold hv
  rw [List.length_map, List.length_range]
def sp_Yard_cut (K : PySem.W.Frag) (a : Ad) : Sp := fun vs H Q _ => ∃ (Y : YA) (d x k m : Nat) (F : Nat → List Nat), vs = [.ref Y.y, nI x, sI m, sI k] ∧ YOb a Y d H ∧ PoolAt a Y d F H ∧ m ≤ d ∧
  (∀ j, k ≤ j → j < m → x + 2 ^ j ∉ F j ∧ (F j).length < 200000) ∧ ∀ H', PoolAt a Y d (cutF F x k m) H' → Only (lsA Y d) H H' → Q .non H'
section
variable {P : Program} {w : World} {K : PySem.W.Frag} {mg : Str → Option Value} {base : Heap} {a : Ad}
theorem ok_Yard_cut (T : Txt K mg a) : FnOk P w K mg base CX0 3 a.f_Yard_cut a.d_Yard_cut ["self", "at", "size", "least"] (sp_Yard_cut K a) := by
  have G_Pool_put : FnOk P w K mg base CX0 2 a.f_Pool_put a.d_Pool_put ["self", "at", "size"] (sp_Pool_put K a) := ok_Pool_put T
  have G_upper_halves : FnOk P w K mg base CX0 1 a.f_upper_halves a.d_upper_halves ["at", "size", "least"] (sp_upper_halves K a) := ok_upper_halves T
  refine T.Yard_cut.ok sc_Yard_cut (fun vs H Q E h => by first | (obtain ⟨rfl, _⟩ := h; rfl) | (obtain ⟨_, rfl, _⟩ := h; rfl) | (obtain ⟨_, _, rfl, _⟩ := h; rfl) | (obtain ⟨_, _, _, rfl, _⟩ := h; rfl) | (obtain ⟨_, _, _, _, rfl, _⟩ := h; rfl) | (obtain ⟨_, _, _, _, _, rfl, _⟩ := h; rfl) | (obtain ⟨_, _, _, _, _, _, rfl, _⟩ := h; rfl) | (obtain ⟨_, _, _, _, _, _, _, rfl, _⟩ := h; rfl) | (obtain ⟨_, _, _, _, _, _, _, _, rfl, _⟩ := h; rfl) | (obtain ⟨_, _, _, _, _, _, _, _, _, rfl, _⟩ := h; rfl) | (obtain ⟨_, _, _, _, _, _, _, _, _, _, rfl, _⟩ := h; rfl) | (obtain ⟨_, _, _, _, _, _, _, _, _, _, _, rfl, _⟩ := h; rfl)) (fun cdv A outer s H vs Q E hr h => ?_)
  refine ⟨_, pss_one (ps_for PassesOwn.never rfl (pi_list (pe_call G_upper_halves (hr.mono (by decide)) rfl T.upper_halves.mg T.upper_halves.fn.kp T.upper_halves.bd .nil pass0 (pa_cons (pv 1) (pa_cons (pv 2) (pa_cons (pv 3) pa_nil))))) (pg_tup rfl (pgs_cons (pg_name (i := 4) sc_Yard_cut.nd rfl (Or.inl rfl)) (pgs_cons (pg_name (i := 5) sc_Yard_cut.nd rfl (Or.inl rfl)) pgs_nil))) (pss_one (ps_expr (pe_meth (pe_fld (pv 0) rfl) T.cl_Pool T.m_Pool_put G_Pool_put (hr.mono (by decide)) T.b_Pool_put .nil pass0 (pa_cons (pv 4) (pa_cons (pv 5) pa_nil)))))), ?_⟩
  obtain ⟨Y, d, x, k, m, F, rfl, yo, po, hm, hF, q⟩ := h
  have d60 := po.d60
  refine ⟨_, rfl, _, rfl, _, rfl, x, k, m, rfl, by omega, fun l ts H1 same new newt hat tups => ⟨l, rfl, ⟨_, SqL.of hat⟩, ?_⟩⟩
  have nl : l ∉ lsA Y d := fun z => by
    obtain ⟨j, hj, rfl⟩ := List.mem_map.mp z
    rw [po.at_ j (by have := List.mem_range.mp hj; omega)] at new
    cases new
  have lts := tups.len
  rw [List.length_map, hv_len] at lts
  refine for_list (xs := ts.map V.ref) (fun i σ H' => (∃ x4 x5, σ = [some (.ref Y.y), some (nI x), some (sI m), some (sI k), x4, x5]) ∧ PoolAt a Y d (cutF F x (m - i) m) H' ∧ Only (lsA Y d) H1 H')
    ⟨⟨none, none, rfl⟩, ?_, Only.refl _ _⟩ (fun i σ H' _ p => SqL.of (p.2.2 _ _ hat nl)) ?_ ?_
  · refine (po.keep same).congr fun j hj => ?_
    unfold cutF
    rw [if_neg (by omega)]
  · rintro i v σ H' hv ⟨⟨x4, x5, rfl⟩, po', only⟩
    have hi := (List.getElem?_eq_some_iff.mp hv).1
    rw [List.length_map, lts] at hi
    have hh := hv_at (x := x) hi
    obtain ⟨t, ht, hat2⟩ := tups.get (i := i) (q := toI (x + 2 ^ (m - 1 - i), m - 1 - i)) (by rw [List.getElem?_map, hh]; rfl)
    rw [List.getElem?_map, ht] at hv
    have hv := Option.some.inj hv
    subst hv
    have nt : t ∉ lsA Y d := (po.keep same).off hat2 (by intro xs z; cases z)
    refine ⟨t, _, rfl, SqT.of (only _ _ hat2 nt), rfl, _, _, rfl, _, _, rfl, rfl, ?_⟩
    have yo' : YOb a Y d H' := only _ _ (same _ _ yo) ((po.keep same).off (same _ _ yo) (by intro xs z; cases z))
    have ej : m - i = m - 1 - i + 1 := by omega
    have e0 : cutF F x (m - i) m (m - 1 - i) = F (m - 1 - i) := by
      unfold cutF
      rw [if_neg (by omega)]
    obtain ⟨f1, f2⟩ := hF (m - 1 - i) (by omega) (by omega)
    refine ⟨_, rfl, Y.y, a.c_Yard, Y.dy, _, _, rfl, yo', T.cl_Yard, T.n_Yard__pool, yFs_pool Y d, Y.p, Y.dp, _, rfl, po'.ob, pFs_no Y (by decide +kernel), _, rfl, _, rfl, Y, d, x + 2 ^ (m - 1 - i), m - 1 - i, _, rfl, po', by omega, by rw [e0]; exact f1, by rw [e0]; exact f2, ?_⟩
    rw [e0]
    have r := po'.rise (m - 1 - i) (by omega)
    rw [e0] at r
    refine ⟨⟨_, _, rfl⟩, ?_, only.trans (Only.upd _ (lsA_mem (by omega)))⟩
    refine (po'.upd (by omega) (ins_rise (x := x + 2 ^ (m - 1 - i)) r) ?_).congr fun j hj => ?_
    · have : (ins (x + 2 ^ (m - 1 - i)) (F (m - 1 - i))).length = (F (m - 1 - i)).length + 1 := by
        rw [← ins_eq r f1]
        simp
        have := rk_le (x + 2 ^ (m - 1 - i)) (F (m - 1 - i))
        omega
      omega
    · rw [ej, show m - (i + 1) = m - 1 - i by omega]
      exact cutF_step (by omega) j
  · rintro σ H' ⟨_, po', only⟩
    rw [List.length_map, lts] at po'
    refine q H' (po'.congr fun j hj => ?_) ((Only.same same).trans only)
    unfold cutF
    by_cases c : k ≤ j ∧ j < m
    · rw [if_pos c, if_pos (by omega)]
    · rw [if_neg c, if_neg (by omega)]
end
/-! ### the yard's own helpers -/
def rmF (F : Nat → List Nat) (x k m : Nat) : Nat → List Nat := fun j => if k ≤ j ∧ j < m then del (x + 2 ^ j) (F j) else F j
theorem rmF_rem {F : Nat → List Nat} {x k m n : Nat} (ha : x / 2 ^ n * 2 ^ n = x) (h : m ≤ n) (j : Nat) : rmF F x k m j = remF F x k m j := by
  unfold rmF remF
  by_cases c : k ≤ j ∧ j < m
  · rw [if_pos c, if_pos c, sib_up ha (by omega)]
  · rw [if_neg c, if_neg c]
theorem rmF_step {F : Nat → List Nat} {x k m : Nat} (h : k < m) (j : Nat) : setF (rmF F x (k + 1) m) k (del (x + 2 ^ k) (F k)) j = rmF F x k m j := by
  unfold setF rmF
  by_cases e : j = k
  · subst e
    rw [if_pos rfl, if_pos ⟨Nat.le_refl _, h⟩]
  · rw [if_neg e]
    by_cases c : k + 1 ≤ j ∧ j < m
    · rw [if_pos c, if_pos ⟨by omega, c.2⟩]
    · rw [if_neg c, if_neg (by omega)]
theorem remF_step {F : Nat → List Nat} {x k m : Nat} (h : k ≤ m) (j : Nat) : setF (remF F x k m) m (del (sib (x / 2 ^ m) * 2 ^ m) (F m)) j = remF F x k (m + 1) j := by
  unfold setF remF
  by_cases e : j = m
  · subst e
    rw [if_pos rfl, if_pos ⟨h, by omega⟩]
  · rw [if_neg e]
    by_cases c : k ≤ j ∧ j < m
    · rw [if_pos c, if_pos ⟨c.1, by omega⟩]
    · rw [if_neg c, if_neg (by omega)]
theorem remF_at {F : Nat → List Nat} {x k m : Nat} : remF F x k m m = F m := by
  unfold remF
  rw [if_neg (by omega)]
theorem min_sib (x j : Nat) : min (x / 2 ^ j * 2 ^ j) (sib (x / 2 ^ j) * 2 ^ j) = x / 2 ^ (j + 1) * 2 ^ (j + 1) := by
  rw [blk_succ, Nat.pow_succ]
  generalize x / 2 ^ j = i
  have hp : 0 < 2 ^ j := Nat.pow_pos (by decide)
  have e : i / 2 * (2 ^ j * 2) = (i / 2 * 2) * 2 ^ j := by ac_rfl
  rw [e]
  unfold sib
  by_cases c : i % 2 = 0
  · rw [if_pos c, show i / 2 * 2 = i by omega, Nat.min_eq_left (Nat.mul_le_mul_right _ (by omega))]
  · rw [if_neg c, show i / 2 * 2 = i - 1 by omega, Nat.min_eq_right (Nat.mul_le_mul_right _ (by omega))]
def outI (q : PN) : Key × V := (Sum.inl (q.1 : Int), sI q.2)
theorem valV_out {d : Nat} : ∀ {os : List PN}, Good d os → ∀ {x k : Nat}, (x, k) ∈ os → valV (os.map outI) (Sum.inl (x : Int)) = some (sI k) := by
  intro os g x k m
  have aux : ∀ l : List PN, (∀ q ∈ l, q ∈ os) → (x, k) ∈ l → valV (l.map outI) (Sum.inl (x : Int)) = some (sI k) := by
    intro l
    induction l with
    | nil => intro _ z; cases z
    | cons q l ih =>
      intro sub z
      by_cases e : q.1 = x
      · have e2 := g.key (sub q List.mem_cons_self) m e
        rw [List.map_cons, valV_pos (show (outI q).1 = Sum.inl (x : Int) by unfold outI; rw [e])]
        rw [e2]
        rfl
      · rw [List.map_cons, valV_neg (show ¬ (outI q).1 = Sum.inl (x : Int) from fun w => e (by have := Sum.inl.inj w; omega))]
        refine ih (fun p hp => sub p (List.mem_cons_of_mem _ hp)) ((List.mem_cons.mp z).resolve_left fun w => e ?_)
        rw [← w]
  exact aux os (fun q h => h) m
theorem valV_out_none {os : List PN} {i : Int} (n : ∀ q ∈ os, (q.1 : Int) ≠ i) : valV (os.map outI) (Sum.inl i) = none := by
  induction os with
  | nil => rfl
  | cons q l ih =>
    rw [List.map_cons, valV_neg (show ¬ (outI q).1 = Sum.inl i from fun w => n q List.mem_cons_self (Sum.inl.inj w))]
    exact ih fun p hp => n p (List.mem_cons_of_mem _ hp)
def sp_Yard_fitting (K : PySem.W.Frag) (a : Ad) : Sp := fun vs H Q E => ∃ (Y : YA) (d : Nat) (x : Int), vs = [.ref Y.y, .int x] ∧ YOb a Y d H ∧ d ≤ 60 ∧
  (x < 1 → E (.ref a.c_NoWish) none H) ∧ (x > ((2 ^ d : Nat) : Int) → E (.ref a.c_NoRoom) none H) ∧ (1 ≤ x → x ≤ ((2 ^ d : Nat) : Int) → Q (sI (fit x)) H)
def sp_Yard_size_of (K : PySem.W.Frag) (a : Ad) : Sp := fun vs H Q E => ∃ (Y : YA) (d : Nat) (os : List PN) (x : Int), vs = [.ref Y.y, .int x] ∧ YOb a Y d H ∧ H Y.sd = some (.dK (os.map outI)) ∧ Good d os ∧
  ((∀ q ∈ os, (q.1 : Int) ≠ x) → E (.ref a.c_NotOut) none H) ∧ (∀ n k : Nat, (n, k) ∈ os → x = (n : Int) → Q (sI k) H)
def sp_Yard_grow (K : PySem.W.Frag) (a : Ad) : Sp := fun vs H Q E => ∃ (Y : YA) (d x h k : Nat) (F : Nat → List Nat), vs = [.ref Y.y, nI x, sI h, sI k] ∧ YOb a Y d H ∧ PoolAt a Y d F H ∧ k ≤ d ∧
  (¬ (x % 2 ^ k = 0 ∧ ∀ j, h ≤ j → j < k → x + 2 ^ j ∈ F j) → ∀ H', (∀ b o, H b = some o → H' b = some o) → E (.ref a.c_NoRoom) none H') ∧
  (x % 2 ^ k = 0 → (∀ j, h ≤ j → j < k → x + 2 ^ j ∈ F j) → ∀ H', PoolAt a Y d (rmF F x h k) H' → Only (lsA Y d) H H' → Q .non H')
def sp_Yard_join (K : PySem.W.Frag) (a : Ad) : Sp := fun vs H Q _ => ∃ (Y : YA) (d x k m : Nat) (F : Nat → List Nat), vs = [.ref Y.y, nI x, sI k] ∧ YOb a Y d H ∧ PoolAt a Y d F H ∧ k ≤ m ∧ m ≤ d ∧ x / 2 ^ k * 2 ^ k = x ∧
  (∀ j, k ≤ j → j < m → sib (x / 2 ^ j) * 2 ^ j ∈ F j) ∧ sib (x / 2 ^ m) * 2 ^ m ∉ F m ∧ x / 2 ^ m * 2 ^ m ∉ F m ∧ (F m).length < 200000 ∧
  ∀ H', PoolAt a Y d (setF (remF F x k m) m (ins (x / 2 ^ m * 2 ^ m) (F m))) H' → Only (lsA Y d) H H' → Q .non H'
section
variable {P : Program} {w : World} {K : PySem.W.Frag} {mg : Str → Option Value} {base : Heap} {a : Ad}
theorem ok_Yard_fitting (T : Txt K mg a) : FnOk P w K mg base (L2.CX P w) 2 a.f_Yard_fitting a.d_Yard_fitting ["self", "want"] (sp_Yard_fitting K a) := by
  have G_size_for : FnOk P w K mg base (L2.CX P w) 1 a.f_size_for a.d_size_for ["want"] (sp_size_for K a) := ok_size_for T
  refine T.Yard_fitting.okX sc_Yard_fitting (fun vs H Q E h => by first | (obtain ⟨rfl, _⟩ := h; rfl) | (obtain ⟨_, rfl, _⟩ := h; rfl) | (obtain ⟨_, _, rfl, _⟩ := h; rfl) | (obtain ⟨_, _, _, rfl, _⟩ := h; rfl) | (obtain ⟨_, _, _, _, rfl, _⟩ := h; rfl) | (obtain ⟨_, _, _, _, _, rfl, _⟩ := h; rfl) | (obtain ⟨_, _, _, _, _, _, rfl, _⟩ := h; rfl) | (obtain ⟨_, _, _, _, _, _, _, rfl, _⟩ := h; rfl) | (obtain ⟨_, _, _, _, _, _, _, _, rfl, _⟩ := h; rfl) | (obtain ⟨_, _, _, _, _, _, _, _, _, rfl, _⟩ := h; rfl) | (obtain ⟨_, _, _, _, _, _, _, _, _, _, rfl, _⟩ := h; rfl) | (obtain ⟨_, _, _, _, _, _, _, _, _, _, _, rfl, _⟩ := h; rfl)) (fun cdv A outer s H vs Q E hr h => ?_)
  refine ⟨_, pss_cons (ps_if (pt_cmpR op_gt (pv 1) (pe_fld (pv 0) rfl) (nomark _)) (pss_one (ps_raise rfl (takes_of rfl rfl rfl rfl) (pmk_own PySem.F.excBase_ValueError T.e_NoRoom.x T.e_NoRoom.g T.e_NoRoom.k (raises_own T.e_NoRoom.is.hs T.e_NoRoom.t) (by exact rfl)))) pss_nil)
      (pss_one (ps_ret (pe_call G_size_for (hr.mono (by decide)) rfl T.size_for.mg T.size_for.fn.kp T.size_for.bd .nil (passX (takes_of rfl rfl rfl rfl)) (pa_cons (pv 1) pa_nil)))), ?_⟩
  obtain ⟨Y, d, x, rfl, yo, d60, q1, q2, q3⟩ := h
  have p60 := pow60 d60
  refine ⟨_, rfl, _, rfl, Y.y, a.c_Yard, Y.dy, _, _, rfl, yo, T.cl_Yard, T.n_Yard_cells, yFs_cells Y d, _, _, rfl, rfl, _, rfl, ?_⟩
  by_cases c : x > ((2 ^ d : Nat) : Int)
  · exact iteTof (decide_eq_true c) (q2 c)
  · refine iteFof (decide_eq_false c) ?_
    refine ⟨_, rfl, x, rfl, fun z => ?_, fun z1 z2 => q3 z1 (by omega)⟩
    rcases z with z | z
    · exact q1 z
    · omega
theorem ok_Yard_size_of (T : Txt K mg a) : FnOk P w K mg base (L2.CX P w) 1 a.f_Yard_size_of a.d_Yard_size_of ["self", "at"] (sp_Yard_size_of K a) := by
  refine T.Yard_size_of.okX sc_Yard_size_of (fun vs H Q E h => by first | (obtain ⟨rfl, _⟩ := h; rfl) | (obtain ⟨_, rfl, _⟩ := h; rfl) | (obtain ⟨_, _, rfl, _⟩ := h; rfl) | (obtain ⟨_, _, _, rfl, _⟩ := h; rfl) | (obtain ⟨_, _, _, _, rfl, _⟩ := h; rfl) | (obtain ⟨_, _, _, _, _, rfl, _⟩ := h; rfl) | (obtain ⟨_, _, _, _, _, _, rfl, _⟩ := h; rfl) | (obtain ⟨_, _, _, _, _, _, _, rfl, _⟩ := h; rfl) | (obtain ⟨_, _, _, _, _, _, _, _, rfl, _⟩ := h; rfl) | (obtain ⟨_, _, _, _, _, _, _, _, _, rfl, _⟩ := h; rfl) | (obtain ⟨_, _, _, _, _, _, _, _, _, _, rfl, _⟩ := h; rfl) | (obtain ⟨_, _, _, _, _, _, _, _, _, _, _, rfl, _⟩ := h; rfl)) (fun cdv A outer s H vs Q E hr h => ?_)
  refine ⟨_, pss_cons (ps_if (pt_cmp (pc_dnotin (hu_of hr) (pv 1) (pe_fld (pv 0) rfl))) (pss_one (ps_raise rfl (takes_of rfl rfl rfl rfl) (pmk_own PySem.F.excBase_ValueError T.e_NotOut.x T.e_NotOut.g T.e_NotOut.k (raises_own T.e_NotOut.is.hs T.e_NotOut.t) (by exact rfl)))) pss_nil)
      (pss_one (ps_ret (pe_dget (hu_of hr) (pe_fld (pv 0) rfl) (pv 1) (fun _ _ => rfl)))), ?_⟩
  obtain ⟨Y, d, os, x, rfl, yo, so, g, q1, q2⟩ := h
  refine ⟨_, rfl, _, rfl, Y.y, a.c_Yard, Y.dy, _, _, rfl, yo, T.cl_Yard, T.n_Yard__sizes, yFs_sizes Y d, Y.sd, _, rfl, DGet.k (k := Sum.inl x) so, ?_⟩
  by_cases c : ∃ n k : Nat, (n, k) ∈ os ∧ x = (n : Int)
  · obtain ⟨n, k, m, rfl⟩ := c
    have e := valV_out g m
    rw [e]
    refine ⟨_, rfl, iteFof rfl ?_⟩
    exact ⟨_, rfl, Y.y, a.c_Yard, Y.dy, _, _, rfl, yo, T.cl_Yard, T.n_Yard__sizes, yFs_sizes Y d, _, rfl, Y.sd, _, rfl, dget_of so e, q2 n k m rfl⟩
  · have e : valV (os.map outI) (Sum.inl x) = none := valV_out_none fun q m z => c ⟨q.1, q.2, m, z.symm⟩
    rw [e]
    exact ⟨_, rfl, iteTof rfl (q1 fun q m z => c ⟨q.1, q.2, m, z.symm⟩)⟩
theorem ok_Yard_join (T : Txt K mg a) : FnOk P w K mg base CX0 3 a.f_Yard_join a.d_Yard_join ["self", "at", "size"] (sp_Yard_join K a) := by
  have G_Pool_drop : FnOk P w K mg base CX0 2 a.f_Pool_drop a.d_Pool_drop ["self", "at", "size"] (sp_Pool_drop K a) := ok_Pool_drop T
  have G_Pool_has : FnOk P w K mg base CX0 2 a.f_Pool_has a.d_Pool_has ["self", "at", "size"] (sp_Pool_has K a) := ok_Pool_has T
  have G_Pool_put : FnOk P w K mg base CX0 2 a.f_Pool_put a.d_Pool_put ["self", "at", "size"] (sp_Pool_put K a) := ok_Pool_put T
  have G_twin_of : FnOk P w K mg base CX0 1 a.f_twin_of a.d_twin_of ["at", "size"] (sp_twin_of K a) := ok_twin_of T
  refine T.Yard_join.ok sc_Yard_join (fun vs H Q E h => by first | (obtain ⟨rfl, _⟩ := h; rfl) | (obtain ⟨_, rfl, _⟩ := h; rfl) | (obtain ⟨_, _, rfl, _⟩ := h; rfl) | (obtain ⟨_, _, _, rfl, _⟩ := h; rfl) | (obtain ⟨_, _, _, _, rfl, _⟩ := h; rfl) | (obtain ⟨_, _, _, _, _, rfl, _⟩ := h; rfl) | (obtain ⟨_, _, _, _, _, _, rfl, _⟩ := h; rfl) | (obtain ⟨_, _, _, _, _, _, _, rfl, _⟩ := h; rfl) | (obtain ⟨_, _, _, _, _, _, _, _, rfl, _⟩ := h; rfl) | (obtain ⟨_, _, _, _, _, _, _, _, _, rfl, _⟩ := h; rfl) | (obtain ⟨_, _, _, _, _, _, _, _, _, _, rfl, _⟩ := h; rfl) | (obtain ⟨_, _, _, _, _, _, _, _, _, _, _, rfl, _⟩ := h; rfl)) (fun cdv A outer s H vs Q E hr h => ?_)
  refine ⟨_, pss_cons (ps_set (i := 3) sc_Yard_join.nd rfl (Or.inl rfl) (pe_call G_twin_of (hr.mono (by decide)) rfl T.twin_of.mg T.twin_of.fn.kp T.twin_of.bd .nil pass0 (pa_cons (pv 1) (pa_cons (pv 2) pa_nil))))
      (pss_cons (ps_while PassesOwn.never (pt_val (pe_meth (pe_fld (pv 0) rfl) T.cl_Pool T.m_Pool_has G_Pool_has (hr.mono (by decide)) T.b_Pool_has .nil pass0 (pa_cons (pv 3) (pa_cons (pv 2) pa_nil)))) (pss_cons (ps_expr (pe_meth (pe_fld (pv 0) rfl) T.cl_Pool T.m_Pool_drop G_Pool_drop (hr.mono (by decide)) T.b_Pool_drop .nil pass0 (pa_cons (pv 3) (pa_cons (pv 2) pa_nil))))
      (pss_cons (ps_set (i := 1) sc_Yard_join.nd rfl (Or.inl rfl) (pe_callB (call_min2 rfl) (by rfl) T.z_min PyProof.Rows.boot_min (pa_cons (pv 1) (pa_cons (pv 3) pa_nil))))
      (pss_cons (ps_aug (i := 2) sc_Yard_join.nd rfl (Or.inl rfl) pe_int ip_mulX)
      (pss_one (ps_set (i := 3) sc_Yard_join.nd rfl (Or.inl rfl) (pe_call G_twin_of (hr.mono (by decide)) rfl T.twin_of.mg T.twin_of.fn.kp T.twin_of.bd .nil pass0 (pa_cons (pv 1) (pa_cons (pv 2) pa_nil)))))))))
      (pss_one (ps_expr (pe_meth (pe_fld (pv 0) rfl) T.cl_Pool T.m_Pool_put G_Pool_put (hr.mono (by decide)) T.b_Pool_put .nil pass0 (pa_cons (pv 1) (pa_cons (pv 2) pa_nil)))))), ?_⟩
  obtain ⟨Y, d, x, k, m, F, rfl, yo, po, hk, hm, ha, hF, h1, h2, h3, q⟩ := h
  have d60 := po.d60
  have keep : ∀ {H'}, Only (lsA Y d) H H' → YOb a Y d H' := fun o => o _ _ yo (po.off yo (by intro xs z; cases z))
  refine ⟨_, rfl, _, rfl, x / 2 ^ k, k, by rw [ha]; rfl, ?_⟩
  refine while_by (fun σ H' => ∃ j : Nat, k ≤ j ∧ j ≤ m ∧ σ = [some (.ref Y.y), some (nI (x / 2 ^ j * 2 ^ j)), some (sI j), some (nI (sib (x / 2 ^ j) * 2 ^ j))] ∧ PoolAt a Y d (remF F x k j) H' ∧ Only (lsA Y d) H H')
    (fun σ H' => match σ with | [_, _, some (.int j), _] => (((2 ^ m : Nat) : Int) - j).toNat | _ => 0) ⟨k, Nat.le_refl _, hk, by rw [ha]; rfl, po.congr fun j hj => ?_, Only.refl _ _⟩ ?_ ?_
  · unfold remF
    rw [if_neg (by omega)]
  · rintro σ H' ⟨j, kj, jm, rfl, po', only⟩
    refine ⟨_, rfl, Y.y, a.c_Yard, Y.dy, _, _, rfl, keep only, T.cl_Yard, T.n_Yard__pool, yFs_pool Y d, Y.p, Y.dp, _, rfl, po'.ob, pFs_no Y (by decide +kernel), _, rfl, _, rfl, Y, d, sib (x / 2 ^ j) * 2 ^ j, j, _, rfl, po', by omega, ?_⟩
    rw [remF_at]
    by_cases c : j < m
    · have hin := hF j kj c
      rw [decide_eq_true hin]
      refine ⟨_, rfl, ?_⟩
      refine iteT ?_
      refine ⟨_, rfl, Y.y, a.c_Yard, Y.dy, _, _, rfl, keep only, T.cl_Yard, T.n_Yard__pool, yFs_pool Y d, Y.p, Y.dp, _, rfl, po'.ob, pFs_no Y (by decide +kernel), _, rfl, _, rfl, Y, d, sib (x / 2 ^ j) * 2 ^ j, j, _, rfl, po', by omega, by rw [remF_at]; exact hin, ?_⟩
      rw [remF_at]
      have r := po'.rise j (by omega)
      have le := po'.len j (by omega)
      rw [remF_at] at r le
      have po2 := (po'.upd (k := j) (by omega) (del_rise (x := sib (x / 2 ^ j) * 2 ^ j) r) (by have := List.length_filter_le (fun y => decide (y ≠ sib (x / 2 ^ j) * 2 ^ j)) (F j); unfold del; omega)).congr fun i hi => remF_step kj i
      have p1 : 0 < 2 ^ j := Nat.pow_pos (by decide)
      refine ⟨_, rfl, _, rfl, _, _, rfl, ?_⟩
      have pj := pow60 (show j ≤ 60 by omega)
      refine ⟨_, rfl, _, _, rfl, rfl, mulx_ok (a := 61) (b := 3) (by rw [Int.natAbs_natCast]; exact Nat.lt_of_le_of_lt pj (by decide)) (by decide) (by decide), ?_⟩
      have em : (if ((sib (x / 2 ^ j) * 2 ^ j : Nat) : Int) < ((x / 2 ^ j * 2 ^ j : Nat) : Int) then ((sib (x / 2 ^ j) * 2 ^ j : Nat) : Int) else ((x / 2 ^ j * 2 ^ j : Nat) : Int)) = ((x / 2 ^ (j + 1) * 2 ^ (j + 1) : Nat) : Int) := by
        rw [← min_sib]
        by_cases z : sib (x / 2 ^ j) * 2 ^ j < x / 2 ^ j * 2 ^ j
        · rw [if_pos (by omega), Nat.min_eq_right (by omega)]
        · rw [if_neg (by omega), Nat.min_eq_left (by omega)]
      have ez : ((2 ^ j : Nat) : Int) * 2 = ((2 ^ (j + 1) : Nat) : Int) := by rw [Nat.pow_succ, Int.natCast_mul]; rfl
      have only2 : Only (lsA Y d) H (L2.upd H' (Y.ls j) (.lst ((del (sib (x / 2 ^ j) * 2 ^ j) (F j)).map nI))) := only.trans (Only.upd _ (lsA_mem (by omega)))
      refine ⟨_, rfl, _, rfl, x / 2 ^ (j + 1), j + 1, ?_, ?_⟩
      · show [V.int (if ((sib (x / 2 ^ j) * 2 ^ j : Nat) : Int) < ((x / 2 ^ j * 2 ^ j : Nat) : Int) then ((sib (x / 2 ^ j) * 2 ^ j : Nat) : Int) else ((x / 2 ^ j * 2 ^ j : Nat) : Int)), V.int (((2 ^ j : Nat) : Int) * 2)] = [V.int ((x / 2 ^ (j + 1) * 2 ^ (j + 1) : Nat) : Int), sI (j + 1)]
        rw [em, ez]
      · refine ⟨⟨j + 1, by omega, by omega, ?_, po2, only2⟩, ?_⟩
        · show [some (V.ref Y.y), some (V.int (if ((sib (x / 2 ^ j) * 2 ^ j : Nat) : Int) < ((x / 2 ^ j * 2 ^ j : Nat) : Int) then ((sib (x / 2 ^ j) * 2 ^ j : Nat) : Int) else ((x / 2 ^ j * 2 ^ j : Nat) : Int))), some (V.int (((2 ^ j : Nat) : Int) * 2)), some (nI (sib (x / 2 ^ (j + 1)) * 2 ^ (j + 1)))] = _
          rw [em, ez]
          rfl
        · show (((2 ^ m : Nat) : Int) - ((2 ^ j : Nat) : Int) * 2).toNat < (((2 ^ m : Nat) : Int) - ((2 ^ j : Nat) : Int)).toNat
          have : 2 ^ j < 2 ^ m := Nat.pow_lt_pow_right (by decide) c
          omega
    · have e : j = m := by omega
      subst e
      rw [decide_eq_false h1]
      refine ⟨_, rfl, ?_⟩
      refine iteF ?_
      have r := po'.rise j (by omega)
      rw [remF_at] at r
      refine ⟨_, rfl, Y.y, a.c_Yard, Y.dy, _, _, rfl, keep only, T.cl_Yard, T.n_Yard__pool, yFs_pool Y d, Y.p, Y.dp, _, rfl, po'.ob, pFs_no Y (by decide +kernel), _, rfl, _, rfl, Y, d, x / 2 ^ j * 2 ^ j, j, _, rfl, po', by omega, by rw [remF_at]; exact h2, by rw [remF_at]; exact h3, ?_⟩
      rw [remF_at]
      refine q _ (po'.upd (by omega) (ins_rise r) ?_) (only.trans (Only.upd _ (lsA_mem (by omega))))
      have : (ins (x / 2 ^ j * 2 ^ j) (F j)).length = (F j).length + 1 := by
        rw [← ins_eq r h2]
        simp
        have := rk_le (x / 2 ^ j * 2 ^ j) (F j)
        omega
      omega
  · rintro σ H' Q1 Q2 hQ ⟨v, hv, y, C, dx, fs, u, e1, e2, e3, e4, e5, p, dp, gs, e6, e7, e8, v2, hv2, v3, hv3, Z, d2, x2, k2, F2, e9, e10, e11, b, e12, e13⟩
    exact ⟨v, hv, y, C, dx, fs, u, e1, e2, e3, e4, e5, p, dp, gs, e6, e7, e8, v2, hv2, v3, hv3, Z, d2, x2, k2, F2, e9, e10, e11, b, e12, hQ _ _ e13⟩
theorem ok_Yard_grow (T : Txt K mg a) : FnOk P w K mg base (L2.CX P w) 3 a.f_Yard_grow a.d_Yard_grow ["self", "at", "had", "size"] (sp_Yard_grow K a) := by
  have G_Pool_drop : FnOk P w K mg base CX0 2 a.f_Pool_drop a.d_Pool_drop ["self", "at", "size"] (sp_Pool_drop K a) := ok_Pool_drop T
  have G_Pool_has : FnOk P w K mg base CX0 2 a.f_Pool_has a.d_Pool_has ["self", "at", "size"] (sp_Pool_has K a) := ok_Pool_has T
  have G_upper_halves : FnOk P w K mg base CX0 1 a.f_upper_halves a.d_upper_halves ["at", "size", "least"] (sp_upper_halves K a) := ok_upper_halves T
  refine T.Yard_grow.okX sc_Yard_grow (fun vs H Q E h => by first | (obtain ⟨rfl, _⟩ := h; rfl) | (obtain ⟨_, rfl, _⟩ := h; rfl) | (obtain ⟨_, _, rfl, _⟩ := h; rfl) | (obtain ⟨_, _, _, rfl, _⟩ := h; rfl) | (obtain ⟨_, _, _, _, rfl, _⟩ := h; rfl) | (obtain ⟨_, _, _, _, _, rfl, _⟩ := h; rfl) | (obtain ⟨_, _, _, _, _, _, rfl, _⟩ := h; rfl) | (obtain ⟨_, _, _, _, _, _, _, rfl, _⟩ := h; rfl) | (obtain ⟨_, _, _, _, _, _, _, _, rfl, _⟩ := h; rfl) | (obtain ⟨_, _, _, _, _, _, _, _, _, rfl, _⟩ := h; rfl) | (obtain ⟨_, _, _, _, _, _, _, _, _, _, rfl, _⟩ := h; rfl) | (obtain ⟨_, _, _, _, _, _, _, _, _, _, _, rfl, _⟩ := h; rfl)) (fun cdv A outer s H vs Q E hr h => ?_)
  refine ⟨_, pss_cons (ps_set (i := 4) sc_Yard_grow.nd rfl (Or.inl rfl) (pe_call G_upper_halves (hr.mono (by decide)) rfl T.upper_halves.mg T.upper_halves.fn.kp T.upper_halves.bd .nil pass0 (pa_cons (pv 1) (pa_cons (pv 3) (pa_cons (pv 2) pa_nil)))))
      (pss_cons (ps_if (PW.pt (pw_or (pt_cmpR op_ne (pe_op op_modN (pv 1) (pv 3)) pe_int (nomark _)) (pw_or1 (pt_not (pt_val (pe_callB (cr_all rfl) (by rfl) T.z_all (by decide +kernel) (pa_cons (pe_lc (own := [("half", 5), ("half_size", 6)]) (g := gTup K 2 (gCons (gName 5) (gCons (gName 6) gNil))) (te := (tMeth a.c_Pool "has" (sp_Pool_has K a) [] E0 (tFld K (tVar 0) "_pool") (tCons (tVar 5) (tCons (tVar 6) tNil)))) rfl sc_Yard_grow.nd (pi_list (pv 4)) (blkOk_by (own := [("half", 5), ("half_size", 6)]) (N := ["self", "at", "had", "size", "halves", "half", "half_size"]) (sc := defScope s_Yard_grow) (by decide +kernel)) (fun _ _ _ _ _ => (pg_tup rfl (pgs_cons (pg_name (i := 5) sc_Yard_grow.nd rfl (Or.inl rfl)) (pgs_cons (pg_name (i := 6) sc_Yard_grow.nd rfl (Or.inl rfl)) pgs_nil)))) (fun _ _ _ _ _ => pts_nil) (fun _ _ _ _ _ => (pe_meth (pe_fld (pv 0) rfl) T.cl_Pool T.m_Pool_has G_Pool_has (hr.mono (by decide)) T.b_Pool_has .nil pass0 (pa_cons (pv 5) (pa_cons (pv 6) pa_nil))))) pa_nil))))))) (pss_one (ps_raise rfl (takes_of rfl rfl rfl rfl) (pmk_own PySem.F.excBase_ValueError T.e_NoRoom.x T.e_NoRoom.g T.e_NoRoom.k (raises_own T.e_NoRoom.is.hs T.e_NoRoom.t) (by exact rfl)))) pss_nil)
      (pss_one (ps_for (passes_of rfl) rfl (pi_list (pv 4)) (pg_tup rfl (pgs_cons (pg_name (i := 5) sc_Yard_grow.nd rfl (Or.inl rfl)) (pgs_cons (pg_name (i := 6) sc_Yard_grow.nd rfl (Or.inl rfl)) pgs_nil))) (pss_one (ps_expr (pe_meth (pe_fld (pv 0) rfl) T.cl_Pool T.m_Pool_drop G_Pool_drop (hr.mono (by decide)) T.b_Pool_drop .nil pass0 (pa_cons (pv 5) (pa_cons (pv 6) pa_nil)))))))), ?_⟩
  obtain ⟨Y, d, x, hh, k, F, rfl, yo, po, hk, qE, qQ⟩ := h
  have d60 := po.d60
  have pk : 0 < 2 ^ k := Nat.pow_pos (by decide)
  refine ⟨_, rfl, _, rfl, _, rfl, x, hh, k, rfl, by omega, fun l ts H1 same new newt hat tups => ?_⟩
  have nl : l ∉ lsA Y d := fun z => by
    obtain ⟨j, hj, rfl⟩ := List.mem_map.mp z
    rw [po.at_ j (by have := List.mem_range.mp hj; omega)] at new
    cases new
  have lts := tups.len
  rw [List.length_map, hv_len] at lts
  have po1 := po.keep same
  have yo1 : YOb a Y d H1 := same _ _ yo
  have tup_at : ∀ i, i < k - hh → ∃ t, ts[i]? = some t ∧ H1 t = some (.tup [nI (x + 2 ^ (k - 1 - i)), sI (k - 1 - i)]) := fun i hi => by
    obtain ⟨t, ht, hat2⟩ := tups.get (i := i) (q := toI (x + 2 ^ (k - 1 - i), k - 1 - i)) (by rw [List.getElem?_map, hv_at hi]; rfl)
    exact ⟨t, ht, hat2⟩
  refine ⟨_, rfl, _, rfl, _, _, rfl, rfl, by show ((2 ^ k : Nat) : Int) ≠ 0; omega, rfl, _, rfl, ?_⟩
  have em : ((x : Int).fmod ((2 ^ k : Nat) : Int)) = ((x % 2 ^ k : Nat) : Int) := by
    rw [Int.fmod_eq_emod_of_nonneg _ (by omega), Int.natCast_emod]
  by_cases c0 : x % 2 ^ k = 0
  · refine iteFof ?_ ?_
    · show (!decide (V.int ((x : Int).fmod ((2 ^ k : Nat) : Int)) = V.int 0)) = false
      rw [em, c0]
      rfl
    · -- [self._pool.has(..) for ..]
      refine ⟨_, rfl, l, rfl, ⟨_, SqL.of hat⟩, fun D newD => ?_⟩
      refine lc_out walk_list (fun i H' => H' D = some (.lst (((hv x hh k).take i).map fun q => V.bl (decide (q.1 ∈ F q.2)))) ∧ (∀ b o, H1 b = some o → H' b = some o))
        ⟨upd_same, fun b o e => by rw [upd_ne (ne_of_none e newD)]; exact e⟩ (fun i H' _ p => SqL.of (p.2 _ _ hat)) ?_ ?_
      · rintro i v H2 H3 hi ⟨hD, same2⟩ ⟨rfl, hv1⟩
        rw [List.length_map, lts] at hi
        obtain ⟨t, ht, hat2⟩ := tup_at i hi
        rw [List.getElem?_map, ht] at hv1
        have hv1 := Option.some.inj hv1
        subst hv1
        refine ⟨t, _, rfl, SqT.of (same2 _ _ hat2), rfl, _, _, rfl, _, _, rfl, rfl, rfl, ?_⟩
        have po2 := po1.keep same2
        refine ⟨_, rfl, Y.y, a.c_Yard, Y.dy, _, _, rfl, same2 _ _ yo1, T.cl_Yard, T.n_Yard__pool, yFs_pool Y d, Y.p, Y.dp, _, rfl, po2.ob, pFs_no Y (by decide +kernel), _, rfl, _, rfl, Y, d, x + 2 ^ (k - 1 - i), k - 1 - i, F, rfl, po2, by omega, ?_⟩
        refine ⟨_, hD, ?_, ?_, fun b o e => ?_⟩
        · rw [List.length_map, List.length_take, sizeLine_eq, hv_len]
          omega
        · rw [List.take_add_one, hv_at hi, Option.toList_some, List.map_append, List.map_cons, List.map_nil]
          exact upd_same
        · rw [upd_ne (fun z => by rw [z, newD] at e; cases e)]
          exact same2 b o e
      · rintro H2 ⟨hD, same2⟩
        rw [List.length_map, lts, ← hv_len (x := x) (k := hh) (m := k), List.take_length] at hD
        refine ⟨D, (hv x hh k).map fun q => decide (q.1 ∈ F q.2), rfl, SqL.of (by rw [List.map_map]; exact hD), ?_⟩
        refine ⟨_, rfl, ?_⟩
        have iff : (((hv x hh k).map fun q => decide (q.1 ∈ F q.2)).all id = true) ↔ ∀ j, hh ≤ j → j < k → x + 2 ^ j ∈ F j := by
          rw [List.all_eq_true]
          constructor
          · intro z j h1 h2
            have := z (decide (x + 2 ^ j ∈ F j)) (List.mem_map.mpr ⟨(x + 2 ^ j, j), List.mem_iff_getElem?.mpr ⟨k - 1 - j, by rw [hv_at (by omega), show k - 1 - (k - 1 - j) = j by omega]⟩, rfl⟩)
            simpa using this
          · intro z b hb
            obtain ⟨q, hq, rfl⟩ := List.mem_map.mp hb
            obtain ⟨i, hi⟩ := List.mem_iff_getElem?.mp hq
            have lt := (List.getElem?_eq_some_iff.mp hi).1
            rw [hv_len] at lt
            rw [hv_at lt] at hi
            have hi := Option.some.inj hi
            subst hi
            simpa using z (k - 1 - i) (by omega) (by omega)
        by_cases c1 : ∀ j, hh ≤ j → j < k → x + 2 ^ j ∈ F j
        · rw [iff.mpr c1]
          refine iteF ?_
          have nl2 : H2 l = some (.lst (ts.map V.ref)) := same2 _ _ hat
          refine ⟨_, rfl, l, rfl, ⟨_, SqL.of nl2⟩, ?_⟩
          refine for_list (xs := ts.map V.ref) (fun i σ H' => (∃ x5 x6, σ = [some (.ref Y.y), some (nI x), some (sI hh), some (sI k), some (.ref l), x5, x6]) ∧ PoolAt a Y d (rmF F x (k - i) k) H' ∧ Only (lsA Y d) H2 H')
            ⟨⟨none, none, rfl⟩, ?_, Only.refl _ _⟩ (fun i σ H' _ p => SqL.of (p.2.2 _ _ nl2 nl)) ?_ ?_
          · refine (po1.keep same2).congr fun j hj => ?_
            unfold rmF
            rw [if_neg (by omega)]
          · rintro i v σ H' hv1 ⟨⟨x5, x6, rfl⟩, po', only⟩
            have hi := (List.getElem?_eq_some_iff.mp hv1).1
            rw [List.length_map, lts] at hi
            obtain ⟨t, ht, hat2⟩ := tup_at i hi
            rw [List.getElem?_map, ht] at hv1
            have hv1 := Option.some.inj hv1
            subst hv1
            have po2 := po1.keep same2
            have nt : t ∉ lsA Y d := po2.off (same2 _ _ hat2) (by intro xs z; cases z)
            have yo' : YOb a Y d H' := only _ _ (same2 _ _ yo1) (po2.off (same2 _ _ yo1) (by intro xs z; cases z))
            refine ⟨t, _, rfl, SqT.of (only _ _ (same2 _ _ hat2) nt), rfl, _, _, rfl, _, _, rfl, rfl, ?_⟩
            have ej : k - i = k - 1 - i + 1 := by omega
            have e0 : rmF F x (k - i) k (k - 1 - i) = F (k - 1 - i) := by
              unfold rmF
              rw [if_neg (by omega)]
            have hin := c1 (k - 1 - i) (by omega) (by omega)
            refine ⟨_, rfl, Y.y, a.c_Yard, Y.dy, _, _, rfl, yo', T.cl_Yard, T.n_Yard__pool, yFs_pool Y d, Y.p, Y.dp, _, rfl, po'.ob, pFs_no Y (by decide +kernel), _, rfl, _, rfl, Y, d, x + 2 ^ (k - 1 - i), k - 1 - i, _, rfl, po', by omega, by rw [e0]; exact hin, ?_⟩
            rw [e0]
            have r := po'.rise (k - 1 - i) (by omega)
            have le := po'.len (k - 1 - i) (by omega)
            rw [e0] at r le
            refine ⟨⟨_, _, rfl⟩, ?_, only.trans (Only.upd _ (lsA_mem (by omega)))⟩
            refine (po'.upd (by omega) (del_rise (x := x + 2 ^ (k - 1 - i)) r) ?_).congr fun j hj => ?_
            · have := List.length_filter_le (fun y => decide (y ≠ x + 2 ^ (k - 1 - i))) (F (k - 1 - i))
              unfold del
              omega
            · rw [ej, show k - (i + 1) = k - 1 - i by omega]
              exact rmF_step (by omega) j
          · rintro σ H' ⟨_, po', only⟩
            rw [List.length_map, lts] at po'
            refine qQ c0 c1 H' (po'.congr fun j hj => ?_) ((Only.same fun b o e => same2 _ _ (same _ _ e)).trans only)
            unfold rmF
            by_cases c : hh ≤ j ∧ j < k
            · rw [if_pos c, if_pos (by omega)]
            · rw [if_neg c, if_neg (by omega)]
        · have ef : ((hv x hh k).map fun q => decide (q.1 ∈ F q.2)).all id = false := by
            rw [← Bool.not_eq_true, iff]
            exact c1
          rw [ef]
          refine iteT ?_
          exact qE (fun z => c1 z.2) H2 fun b o e => same2 _ _ (same _ _ e)
  · refine iteTof ?_ ?_
    · show (!decide (V.int ((x : Int).fmod ((2 ^ k : Nat) : Int)) = V.int 0)) = true
      rw [em, Bool.not_eq_true', decide_eq_false_iff_not]
      intro z
      have : ((x % 2 ^ k : Nat) : Int) = 0 := by injection z
      omega
    · exact qE (fun z => c0 z.1) H1 same
end
/-! ### the yard -/
structure YardAt (a : Ad) (Y : YA) (d : Nat) (os : List PN) (H : Hp) : Prop where
  yo : YOb a Y d H
  so : H Y.sd = some (.dK (os.map outI))
  po : PoolAt a Y d (frl (Oc os) d) H
  good : Good d os
  few : os.length ≤ 100000
  ne : Y.pd ≠ Y.sd
/-- what changes in a yard's deeds -/
def own (Y : YA) (d : Nat) : List Addr := Y.sd :: lsA Y d
theorem YardAt.keep {a : Ad} {Y : YA} {d : Nat} {os : List PN} {H H' : Hp} (h : YardAt a Y d os H) (k : ∀ b o, H b = some o → H' b = some o) : YardAt a Y d os H' := ⟨k _ _ h.yo, k _ _ h.so, h.po.keep k, h.good, h.few, h.ne⟩
theorem YardAt.off {a : Ad} {Y : YA} {d : Nat} {os : List PN} {H : Hp} (h : YardAt a Y d os H) {b : Addr} {o : HO} (e : H b = some o) (n : ∀ xs, o ≠ .lst xs) (n2 : ∀ xs, o ≠ .dK xs) : b ∉ own Y d := by
  intro z
  rcases List.mem_cons.mp z with z | z
  · rw [z, h.so] at e
    exact n2 _ (Option.some.inj e).symm
  · exact h.po.off e n z
theorem YardAt.new {a : Ad} {Y : YA} {d : Nat} {os : List PN} {H : Hp} (h : YardAt a Y d os H) {b : Addr} (e : H b = none) : b ∉ own Y d := by
  intro z
  rcases List.mem_cons.mp z with z | z
  · rw [z, h.so] at e
    cases e
  · obtain ⟨j, hj, rfl⟩ := List.mem_map.mp z
    rw [h.po.at_ j (by have := List.mem_range.mp hj; omega)] at e
    cases e
theorem lsA_own {Y : YA} {d : Nat} : ∀ b, b ∈ lsA Y d → b ∈ own Y d := fun b h => List.mem_cons_of_mem _ h
theorem YardAt.dne {a : Ad} {Y : YA} {d : Nat} {os : List PN} {H : Hp} (h : YardAt a Y d os H) : Y.sd ∉ lsA Y d := h.po.off h.so (by intro xs z; cases z)
/-- which piece a wish of exponent k is given from -/
structure Best (os : List PN) (d k m n : Nat) : Prop where
  le : k ≤ m
  mx : Mx (Oc os) d m (n / 2 ^ m)
  al : n / 2 ^ m * 2 ^ m = n
  small : ∀ j i, k ≤ j → j < m → ¬ Mx (Oc os) d j i
  first : ∀ i, Mx (Oc os) d m i → n ≤ i * 2 ^ m
theorem frl_nil {O : Nat → Prop} {d j : Nat} : frl O d j = [] ↔ ∀ i, ¬ Mx O d j i := by
  constructor
  · intro h i z
    have := frl_mem'.mpr z
    rw [h] at this
    cases this
  · intro h
    cases e : frl O d j with
    | nil => rfl
    | cons y r =>
      obtain ⟨i, _, z⟩ := frl_mem.mp (show y ∈ frl O d j by rw [e]; exact List.mem_cons_self)
      exact absurd z (h i)
theorem Best.lt {os : List PN} {d k m n : Nat} (b : Best os d k m n) : n < 2 ^ d := by
  have h := b.mx.2.1
  have e := b.al
  have p : 0 < 2 ^ m := Nat.pow_pos (by decide)
  have e2 : 2 ^ d = 2 ^ (d - m) * 2 ^ m := by rw [← Nat.pow_add, show d - m + m = d by have := b.mx.1; omega]
  rw [← e, e2]
  exact Nat.mul_lt_mul_of_pos_right h p
theorem al_down {n k m : Nat} (h : n / 2 ^ m * 2 ^ m = n) (l : k ≤ m) : n / 2 ^ k * 2 ^ k = n := by
  apply Nat.div_mul_cancel
  exact Nat.dvd_trans (Nat.pow_dvd_pow 2 l) ⟨n / 2 ^ m, by rw [Nat.mul_comm]; exact h.symm⟩
/-- a piece that is out lies in a whole free one of what is out besides -/
theorem out_mx {d : Nat} {os : List PN} {x k : Nat} (g : Good d os) (m : (x, k) ∈ os) : ∃ K, k ≤ K ∧ Mx (Oc (outs os x)) d K (x / 2 ^ K) :=
  mx_exists (g.each _ m).2.2 _ k rfl (g.each _ m).1 (fr_outs g m)
theorem toI_ent (os : List PN) : os.map outI = (os.map toI).map entI := by
  rw [List.map_map]
  rfl
def outZ (os : List PN) : List PI2 := srt (os.map toI)
noncomputable def frees (os : List PN) (d : Nat) : List PI2 := srt (allN (d + 1) (frl (Oc os) d))
/-- a piece can get the exponent k -/
def Fits (os : List PN) (n k : Nat) : Prop := n / 2 ^ k * 2 ^ k = n ∧ Fr (Oc (outs os n)) k (n / 2 ^ k)
def sp_is_size (K : PySem.W.Frag) (a : Ad) : Sp := fun vs H Q _ => ∃ x : Int, vs = [.int x] ∧ ((∃ k : Nat, k ≤ 60 ∧ x = ((2 ^ k : Nat) : Int)) → Q (.bl true) H) ∧ ((¬ ∃ k : Nat, k ≤ 60 ∧ x = ((2 ^ k : Nat) : Int)) → Q (.bl false) H)
def sp_Yard_init (K : PySem.W.Frag) (a : Ad) : Sp := fun vs H Q E => ∃ (y dy : Addr) (x : Int), vs = [.ref y, .int x] ∧ H y = some (.ins a.c_Yard dy []) ∧
  ((¬ ∃ k : Nat, k ≤ 60 ∧ x = ((2 ^ k : Nat) : Int)) → E (.ref a.c_NoYard) none H) ∧
  (∀ d : Nat, d ≤ 60 → x = ((2 ^ d : Nat) : Int) → ∀ (Y : YA) (H' : Hp), Y.y = y → YardAt a Y d [] H' → (∀ b ∈ own Y d, H b = none) → Only [y] H H' → Q .non H')
def sp_Yard_give (K : PySem.W.Frag) (a : Ad) : Sp := fun vs H Q E => ∃ (Y : YA) (d : Nat) (os : List PN) (x : Int), vs = [.ref Y.y, .int x] ∧ YardAt a Y d os H ∧ os.length < 100000 ∧
  (x < 1 → E (.ref a.c_NoWish) none H) ∧
  (1 ≤ x → (x > ((2 ^ d : Nat) : Int) ∨ ∀ j i, fit x ≤ j → ¬ Mx (Oc os) d j i) → ∀ H', (∀ b o, H b = some o → H' b = some o) → E (.ref a.c_NoRoom) none H') ∧
  (1 ≤ x → x ≤ ((2 ^ d : Nat) : Int) → ∀ m n, Best os d (fit x) m n → ∀ H', YardAt a Y d (os ++ [(n, fit x)]) H' → Only (own Y d) H H' → Q (nI n) H')
def sp_Yard_take_back (K : PySem.W.Frag) (a : Ad) : Sp := fun vs H Q E => ∃ (Y : YA) (d : Nat) (os : List PN) (x : Int), vs = [.ref Y.y, .int x] ∧ YardAt a Y d os H ∧
  ((∀ q ∈ os, (q.1 : Int) ≠ x) → E (.ref a.c_NotOut) none H) ∧
  (∀ n k : Nat, (n, k) ∈ os → x = (n : Int) → ∀ H', YardAt a Y d (outs os n) H' → Only (own Y d) H H' → Q (sI k) H')
def sp_Yard_resize (K : PySem.W.Frag) (a : Ad) : Sp := fun vs H Q E => ∃ (Y : YA) (d : Nat) (os : List PN) (x x2 : Int), vs = [.ref Y.y, .int x, .int x2] ∧ YardAt a Y d os H ∧
  ((∀ q ∈ os, (q.1 : Int) ≠ x) → E (.ref a.c_NotOut) none H) ∧
  (∀ n h : Nat, (n, h) ∈ os → x = (n : Int) → (x2 < 1 → E (.ref a.c_NoWish) none H) ∧
    (1 ≤ x2 → (x2 > ((2 ^ d : Nat) : Int) ∨ ¬ Fits os n (fit x2)) → ∀ H', (∀ b o, H b = some o → H' b = some o) → E (.ref a.c_NoRoom) none H') ∧
    (1 ≤ x2 → x2 ≤ ((2 ^ d : Nat) : Int) → Fits os n (fit x2) → ∀ H', YardAt a Y d (outr os n (fit x2)) H' → Only (own Y d) H H' → Q (sI (fit x2)) H'))
def sp_Yard_free (K : PySem.W.Frag) (a : Ad) : Sp := fun vs H Q _ => ∃ (Y : YA) (d : Nat) (os : List PN), vs = [.ref Y.y] ∧ YardAt a Y d os H ∧
  ∀ (l : Addr) (us : List Addr) (H' : Hp), (∀ b o, H b = some o → H' b = some o) → H l = none → H' l = some (.lst (us.map V.ref)) → Tups H' us (frees os d) → Q (.ref l) H'
def sp_Yard_out (K : PySem.W.Frag) (a : Ad) : Sp := fun vs H Q _ => ∃ (Y : YA) (d : Nat) (os : List PN), vs = [.ref Y.y] ∧ YardAt a Y d os H ∧
  ∀ (l : Addr) (us : List Addr) (H' : Hp), (∀ b o, H b = some o → H' b = some o) → H l = none → H' l = some (.lst (us.map V.ref)) → Tups H' us (outZ os) → Q (.ref l) H'
def sp_Yard_owner (K : PySem.W.Frag) (a : Ad) : Sp := fun vs H Q _ => ∃ (Y : YA) (d : Nat) (os : List PN) (c : Int), vs = [.ref Y.y, .int c] ∧ YardAt a Y d os H ∧
  ((∀ q ∈ os, ¬ ((q.1 : Int) ≤ c ∧ c < (q.1 : Int) + ((2 ^ q.2 : Nat) : Int))) → Q .non H) ∧ (∀ q ∈ os, (q.1 : Int) ≤ c → c < (q.1 : Int) + ((2 ^ q.2 : Nat) : Int) → Q (nI q.1) H)
theorem and_pred {n : Nat} (h : 0 < n) : n &&& (n - 1) = 0 ↔ ∃ k, n = 2 ^ k := by
  constructor
  · intro z
    refine ⟨n.log2, ?_⟩
    apply Classical.byContradiction
    intro ne
    have h1 : 2 ^ n.log2 ≤ n := Nat.log2_self_le (by omega)
    have h2 : n < 2 ^ (n.log2 + 1) := Nat.lt_log2_self
    have b1 : n.testBit n.log2 = true := Nat.testBit_of_two_pow_le_and_two_pow_add_one_gt h1 h2
    have b2 : (n - 1).testBit n.log2 = true := Nat.testBit_of_two_pow_le_and_two_pow_add_one_gt (by omega) (by omega)
    have b3 := Nat.testBit_and n (n - 1) n.log2
    rw [z, b1, b2] at b3
    simp at b3
  · rintro ⟨k, rfl⟩
    rw [Nat.and_two_pow_sub_one_eq_mod, Nat.mod_self]
section
variable {P : Program} {w : World} {K : PySem.W.Frag} {mg : Str → Option Value} {base : Heap} {a : Ad}
theorem ok_is_size (T : Txt K mg a) : FnOk P w K mg base CX0 1 a.f_is_size a.d_is_size ["number"] (sp_is_size K a) := by
  obtain ⟨tM, mM⟩ := T.v_MOST
  refine T.is_size.fn.ok sc_is_size (fun vs H Q E h => by first | (obtain ⟨rfl, _⟩ := h; rfl) | (obtain ⟨_, rfl, _⟩ := h; rfl) | (obtain ⟨_, _, rfl, _⟩ := h; rfl) | (obtain ⟨_, _, _, rfl, _⟩ := h; rfl) | (obtain ⟨_, _, _, _, rfl, _⟩ := h; rfl) | (obtain ⟨_, _, _, _, _, rfl, _⟩ := h; rfl) | (obtain ⟨_, _, _, _, _, _, rfl, _⟩ := h; rfl) | (obtain ⟨_, _, _, _, _, _, _, rfl, _⟩ := h; rfl) | (obtain ⟨_, _, _, _, _, _, _, _, rfl, _⟩ := h; rfl) | (obtain ⟨_, _, _, _, _, _, _, _, _, rfl, _⟩ := h; rfl) | (obtain ⟨_, _, _, _, _, _, _, _, _, _, rfl, _⟩ := h; rfl) | (obtain ⟨_, _, _, _, _, _, _, _, _, _, _, rfl, _⟩ := h; rfl)) (fun cdv A outer s H vs Q E hr h => ?_)
  refine ⟨_, pss_one (ps_ret (pe_and (pe_chain op_le op_le pe_int (pv 0) (pe_glob (v := .int 1152921504606846976) rfl mM ⟨_, rfl⟩)) (pe_one (pe_cmpR op_eq (pe_op op_and (pv 0) (pe_op op_sub (pv 0) pe_int)) pe_int (nomark _))))), ?_⟩
  obtain ⟨x, rfl, q1, q2⟩ := h
  refine ⟨_, rfl, _, _, rfl, rfl, _, rfl, ?_⟩
  by_cases c1 : 1 ≤ x
  · refine iteTof (decide_eq_true c1) ?_
    by_cases c2 : x ≤ 1152921504606846976
    · refine ⟨_, _, rfl, rfl, _, rfl, iteTof (decide_eq_true c2) ?_⟩
      obtain ⟨n, rfl⟩ : ∃ n : Nat, x = (n : Int) := ⟨x.toNat, by omega⟩
      refine ⟨_, rfl, _, rfl, _, _, rfl, rfl, _, _, rfl, rfl, rfl, ?_⟩
      have e : Builtin.bitAnd (n : Int) ((n : Int) - 1) = ((n &&& (n - 1) : Nat) : Int) := by
        rw [show (n : Int) - 1 = ((n - 1 : Nat) : Int) by omega, PyProof.Rows.bitAnd_pp (Int.natCast_nonneg _) (Int.natCast_nonneg _), Int.toNat_natCast, Int.toNat_natCast]
      show Q (.bl (decide (V.int (Builtin.bitAnd (n : Int) ((n : Int) - 1)) = V.int 0))) H
      rw [e]
      by_cases c3 : n &&& (n - 1) = 0
      · rw [c3, decide_eq_true (show V.int ((0 : Nat) : Int) = V.int 0 from rfl)]
        obtain ⟨k, hk⟩ := (and_pred (by omega)).mp c3
        refine q1 ⟨k, ?_, by rw [hk]⟩
        apply Classical.byContradiction
        intro z
        have : 2 ^ 61 ≤ 2 ^ k := Nat.pow_le_pow_right (by decide) (by omega)
        have h61 : (2 : Nat) ^ 61 = 2305843009213693952 := by decide
        omega
      · rw [decide_eq_false (fun z => c3 (by have : ((n &&& (n - 1) : Nat) : Int) = 0 := (by injection z); omega))]
        refine q2 fun ⟨k, _, hk⟩ => c3 ((and_pred (by omega)).mpr ⟨k, by omega⟩)
    · refine ⟨_, _, rfl, rfl, _, rfl, iteFof (decide_eq_false c2) ?_⟩
      refine q2 fun ⟨k, hk, e⟩ => c2 ?_
      have := pow60 hk
      omega
  · refine iteFof (decide_eq_false c1) ?_
    refine ⟨_, rfl, iteF (q2 fun ⟨k, _, e⟩ => c1 ?_)⟩
    have : 0 < 2 ^ k := Nat.pow_pos (by decide)
    omega
theorem ok_Yard_free (T : Txt K mg a) : FnOk P w K mg base CX0 2 a.f_Yard_free a.d_Yard_free ["self"] (sp_Yard_free K a) := by
  have G_Pool_pieces : FnOk P w K mg base CX0 1 a.f_Pool_pieces a.d_Pool_pieces ["self"] (sp_Pool_pieces K a) := ok_Pool_pieces T
  refine T.Yard_free.ok sc_Yard_free (fun vs H Q E h => by first | (obtain ⟨rfl, _⟩ := h; rfl) | (obtain ⟨_, rfl, _⟩ := h; rfl) | (obtain ⟨_, _, rfl, _⟩ := h; rfl) | (obtain ⟨_, _, _, rfl, _⟩ := h; rfl) | (obtain ⟨_, _, _, _, rfl, _⟩ := h; rfl) | (obtain ⟨_, _, _, _, _, rfl, _⟩ := h; rfl) | (obtain ⟨_, _, _, _, _, _, rfl, _⟩ := h; rfl) | (obtain ⟨_, _, _, _, _, _, _, rfl, _⟩ := h; rfl) | (obtain ⟨_, _, _, _, _, _, _, _, rfl, _⟩ := h; rfl) | (obtain ⟨_, _, _, _, _, _, _, _, _, rfl, _⟩ := h; rfl) | (obtain ⟨_, _, _, _, _, _, _, _, _, _, rfl, _⟩ := h; rfl) | (obtain ⟨_, _, _, _, _, _, _, _, _, _, _, rfl, _⟩ := h; rfl)) (fun cdv A outer s H vs Q E hr h => ?_)
  refine ⟨_, pss_one (ps_ret (pe_meth0 (pe_fld (pv 0) rfl) T.cl_Pool T.m_Pool_pieces G_Pool_pieces (hr.mono (by decide)) T.b_Pool_pieces .nil pass0)), ?_⟩
  obtain ⟨Y, d, os, rfl, ya, q⟩ := h
  refine ⟨_, rfl, Y.y, a.c_Yard, Y.dy, _, _, rfl, ya.yo, T.cl_Yard, T.n_Yard__pool, yFs_pool Y d, Y.p, Y.dp, _, rfl, ya.po.ob, pFs_no Y (by decide +kernel), Y, d, _, rfl, ya.po, ?_⟩
  exact q
theorem ok_Yard_out (T : Txt K mg a) : FnOk P w K mg base CX0 1 a.f_Yard_out a.d_Yard_out ["self"] (sp_Yard_out K a) := by
  refine T.Yard_out.ok sc_Yard_out (fun vs H Q E h => by first | (obtain ⟨rfl, _⟩ := h; rfl) | (obtain ⟨_, rfl, _⟩ := h; rfl) | (obtain ⟨_, _, rfl, _⟩ := h; rfl) | (obtain ⟨_, _, _, rfl, _⟩ := h; rfl) | (obtain ⟨_, _, _, _, rfl, _⟩ := h; rfl) | (obtain ⟨_, _, _, _, _, rfl, _⟩ := h; rfl) | (obtain ⟨_, _, _, _, _, _, rfl, _⟩ := h; rfl) | (obtain ⟨_, _, _, _, _, _, _, rfl, _⟩ := h; rfl) | (obtain ⟨_, _, _, _, _, _, _, _, rfl, _⟩ := h; rfl) | (obtain ⟨_, _, _, _, _, _, _, _, _, rfl, _⟩ := h; rfl) | (obtain ⟨_, _, _, _, _, _, _, _, _, _, rfl, _⟩ := h; rfl) | (obtain ⟨_, _, _, _, _, _, _, _, _, _, _, rfl, _⟩ := h; rfl)) (fun cdv A outer s H vs Q E hr h => ?_)
  refine ⟨_, pss_one (ps_ret (pe_callB (cr_sortedView rfl) (by rfl) T.z_sorted (by decide +kernel) (pa_cons (pe_bm0 PySem.F.plainAttrs_dict PySem.F.slot_dict_items PySem.F.type_dict_items mt_itemsK (pe_fld (pv 0) rfl)) pa_nil))), ?_⟩
  obtain ⟨Y, d, os, rfl, ya, q⟩ := h
  refine ⟨_, rfl, Y.y, a.c_Yard, Y.dy, _, _, rfl, ya.yo, T.cl_Yard, T.n_Yard__sizes, yFs_sizes Y d, .inr (.inr (.inl ⟨rfl, .inl ⟨_, ya.so⟩⟩)), Y.sd, _, rfl, rfl, ya.so, fun p new => ?_⟩
  have sne : Y.sd ≠ p := ne_of_none ya.so new
  refine ⟨p, Y.sd, os.map toI, rfl, upd_same, by rw [upd_ne sne, ya.so, toI_ent], fun H' l ts keep newl hat tups => ?_⟩
  have k0 : ∀ b o, H b = some o → H' b = some o := fun b o e => keep b o (by rw [upd_ne (ne_of_none e new)]; exact e)
  refine q l ts H' k0 ?_ hat tups
  refine Classical.byContradiction fun z => ?_
  obtain ⟨o, ho⟩ := Option.ne_none_iff_exists'.mp z
  rw [upd_ne (ne_of_none ho new), ho] at newl
  cases newl
theorem ok_Yard_owner (T : Txt K mg a) : FnOk P w K mg base CX0 1 a.f_Yard_owner a.d_Yard_owner ["self", "cell"] (sp_Yard_owner K a) := by
  refine T.Yard_owner.ok sc_Yard_owner (fun vs H Q E h => by first | (obtain ⟨rfl, _⟩ := h; rfl) | (obtain ⟨_, rfl, _⟩ := h; rfl) | (obtain ⟨_, _, rfl, _⟩ := h; rfl) | (obtain ⟨_, _, _, rfl, _⟩ := h; rfl) | (obtain ⟨_, _, _, _, rfl, _⟩ := h; rfl) | (obtain ⟨_, _, _, _, _, rfl, _⟩ := h; rfl) | (obtain ⟨_, _, _, _, _, _, rfl, _⟩ := h; rfl) | (obtain ⟨_, _, _, _, _, _, _, rfl, _⟩ := h; rfl) | (obtain ⟨_, _, _, _, _, _, _, _, rfl, _⟩ := h; rfl) | (obtain ⟨_, _, _, _, _, _, _, _, _, rfl, _⟩ := h; rfl) | (obtain ⟨_, _, _, _, _, _, _, _, _, _, rfl, _⟩ := h; rfl) | (obtain ⟨_, _, _, _, _, _, _, _, _, _, _, rfl, _⟩ := h; rfl)) (fun cdv A outer s H vs Q E hr h => ?_)
  refine ⟨_, pss_cons (ps_set (i := 2) sc_Yard_owner.nd rfl (Or.inl rfl) pe_int)
      (pss_cons (ps_while PassesOwn.never (pt_cmpR op_le (pv 2) (pe_fld (pv 0) rfl) (nomark _)) (pss_cons (ps_set (i := 3) sc_Yard_owner.nd rfl (Or.inl rfl) (pe_op op_sub (pv 1) (pe_op op_modN (pv 1) (pv 2))))
      (pss_cons (ps_if (pt_cmpR op_eq (pe_dget1 (hu_of hr) (pe_fld (pv 0) rfl) (pv 3) ⟨rfl, rfl, rfl, rfl⟩) (pv 2) (nomark _)) (pss_one (ps_ret (pv 3))) pss_nil)
      (pss_one (ps_aug (i := 2) sc_Yard_owner.nd rfl (Or.inl rfl) pe_int ip_mulX)))))
      (pss_one (ps_ret pe_non))), ?_⟩
  obtain ⟨Y, d, os, c, rfl, ya, q1, q2⟩ := h
  have d60 := ya.po.d60
  refine while_by (fun σ H' => H' = H ∧ ∃ (j : Nat) (v : Option V), j ≤ d + 1 ∧ σ = [some (.ref Y.y), some (.int c), some (sI j), v] ∧ ∀ q ∈ os, q.2 < j → ¬ ((q.1 : Int) ≤ c ∧ c < (q.1 : Int) + ((2 ^ q.2 : Nat) : Int)))
    (fun σ H' => match σ with | [_, _, some (.int j), _] => (((2 ^ (d + 1) : Nat) : Int) - j).toNat | _ => 0) ⟨rfl, 0, none, by omega, rfl, fun q m l => by omega⟩ ?_ ?_
  · rintro σ H' ⟨rfl, j, v, hj, rfl, no⟩
    have pj : 0 < 2 ^ j := Nat.pow_pos (by decide)
    refine ⟨_, rfl, _, rfl, Y.y, a.c_Yard, Y.dy, _, _, rfl, ya.yo, T.cl_Yard, T.n_Yard_cells, yFs_cells Y d, _, _, rfl, rfl, _, rfl, ?_⟩
    by_cases c1 : j ≤ d
    · have hle : 2 ^ j ≤ 2 ^ d := Nat.pow_le_pow_right (by decide) c1
      refine iteTof (decide_eq_true (by omega)) ?_
      refine ⟨_, rfl, _, rfl, _, rfl, _, _, rfl, rfl, by show ((2 ^ j : Nat) : Int) ≠ 0; omega, _, _, rfl, rfl, ?_⟩
      have ef : c.fmod ((2 ^ j : Nat) : Int) = c % ((2 ^ j : Nat) : Int) := Int.fmod_eq_emod_of_nonneg _ (by omega)
      have r1 := Int.emod_nonneg c (show ((2 ^ j : Nat) : Int) ≠ 0 by omega)
      have r2 := Int.emod_lt_of_pos c (show (0 : Int) < ((2 ^ j : Nat) : Int) by omega)
      have eat : ∀ q ∈ os, q.2 = j → (q.1 : Int) ≤ c → c < (q.1 : Int) + ((2 ^ q.2 : Nat) : Int) → (q.1 : Int) = c - c.fmod ((2 ^ j : Nat) : Int) := by
        intro q m e h1 h2
        subst e
        have al := (ya.good.each q m).2.1
        rw [ef]
        have e3 : c = (c - (q.1 : Int)) + ((q.1 / 2 ^ q.2 : Nat) : Int) * ((2 ^ q.2 : Nat) : Int) := by
          rw [← Int.natCast_mul, al]
          omega
        have e4 : c % ((2 ^ q.2 : Nat) : Int) = c - (q.1 : Int) := by
          conv => lhs; rw [e3]
          rw [Int.add_mul_emod_self_right, Int.emod_eq_of_lt (by omega) (by omega)]
        omega
      generalize hA : c - c.fmod ((2 ^ j : Nat) : Int) = A at eat
      have hA2 : A ≤ c ∧ c < A + ((2 ^ j : Nat) : Int) := by rw [ef] at hA; omega
      refine ⟨_, rfl, Y.y, a.c_Yard, Y.dy, _, _, rfl, ya.yo, T.cl_Yard, T.n_Yard__sizes, yFs_sizes Y d, Y.sd, rfl, .inl ⟨_, .inl ya.so⟩, _, rfl, valV (os.map outI) (Sum.inl A), (by show DGet H' Y.sd (V.int (c - c.fmod ((2 ^ j : Nat) : Int))) _; rw [hA]; exact DGet.k (k := Sum.inl A) ya.so), ?_⟩
      have p60 := pow60 (show j ≤ 60 by omega)
      have ez : ((2 ^ j : Nat) : Int) * 2 = ((2 ^ (j + 1) : Nat) : Int) := by rw [Nat.pow_succ, Int.natCast_mul]; rfl
      by_cases c2 : ∃ q ∈ os, q.2 = j ∧ (q.1 : Int) = A
      · obtain ⟨q, m, e1, e2⟩ := c2
        have ev := valV_out ya.good (x := q.1) (k := q.2) m
        rw [e2] at ev
        rw [ev]
        refine ⟨_, rfl, rfl, _, rfl, iteTof ?_ ?_⟩
        · show decide (sI q.2 = sI j) = true
          rw [e1]
          exact decide_eq_true rfl
        · refine ⟨_, rfl, ?_⟩
          have z := q2 q m (by omega) (by rw [e1]; omega)
          unfold nI at z
          rw [e2, ← hA] at z
          exact z
      · have sc : scal ((valV (os.map outI) (Sum.inl A)).getD V.non) (sI j) = true := by
          by_cases c3 : ∃ q ∈ os, (q.1 : Int) = A
          · obtain ⟨q, m, e2⟩ := c3
            have ev := valV_out ya.good (x := q.1) (k := q.2) m
            rw [e2] at ev
            rw [ev]
            rfl
          · rw [show valV (os.map outI) (Sum.inl A) = none from valV_out_none fun q m w => c3 ⟨q, m, w⟩]
            rfl
        refine ⟨_, rfl, sc, _, rfl, iteFof ?_ ?_⟩
        · refine decide_eq_false fun z => ?_
          by_cases c3 : ∃ q ∈ os, (q.1 : Int) = A
          · obtain ⟨q, m, e2⟩ := c3
            have ev := valV_out ya.good (x := q.1) (k := q.2) m
            rw [e2] at ev
            rw [ev] at z
            have z2 : ((2 ^ q.2 : Nat) : Int) = ((2 ^ j : Nat) : Int) := by injection z
            exact c2 ⟨q, m, pow_inj z2, e2⟩
          · have ev : valV (os.map outI) (Sum.inl A) = none := valV_out_none fun q m w => c3 ⟨q, m, w⟩
            rw [ev] at z
            cases z
        · refine ⟨_, rfl, _, _, rfl, rfl, mulx_ok (a := 61) (b := 3) (by rw [Int.natAbs_natCast]; exact Nat.lt_of_le_of_lt p60 (by decide)) (by decide) (by decide), ?_⟩
          refine ⟨⟨rfl, j + 1, some (.int (c - c.fmod ((2 ^ j : Nat) : Int))), by omega, ?_, fun q m l => ?_⟩, ?_⟩
          · show [some (V.ref Y.y), some (V.int c), some (V.int (((2 ^ j : Nat) : Int) * 2)), some (V.int (c - c.fmod ((2 ^ j : Nat) : Int)))] = _
            rw [ez]
          · by_cases c4 : q.2 < j
            · exact no q m c4
            · intro w
              have e := eat q m (by omega) w.1 w.2
              exact c2 ⟨q, m, by omega, e⟩
          · show (((2 ^ (d + 1) : Nat) : Int) - ((2 ^ j : Nat) : Int) * 2).toNat < (((2 ^ (d + 1) : Nat) : Int) - ((2 ^ j : Nat) : Int)).toNat
            rw [Nat.pow_succ]
            omega
    · have e : j = d + 1 := by omega
      subst e
      have hlt : 2 ^ d < 2 ^ (d + 1) := Nat.pow_lt_pow_right (by decide) (by omega)
      refine iteFof (decide_eq_false (by omega)) ?_
      exact q1 fun q m => no q m (by have := (ya.good.each q m).1; omega)
  · rintro σ H' Q1 Q2 hQ ⟨v, hv, y, hy, p, C, dx, fs, u, e1, e2, e3, e4, e5, i, j, e6, e7, k, ek, h⟩
    exact ⟨v, hv, y, hy, p, C, dx, fs, u, e1, e2, e3, e4, e5, i, j, e6, e7, k, ek, by cases k <;> exact hQ _ _ (by simpa using h)⟩
end
/-! ### Yard(), give, take_back, resize -/
theorem Only.none {S : List Addr} {H H' : Hp} (h : Only S H H') {b : Addr} (e : H' b = none) (n : b ∉ S) : H b = none := by
  refine Classical.byContradiction fun z => ?_
  obtain ⟨o, ho⟩ := Option.ne_none_iff_exists'.mp z
  rw [h b o ho n] at e
  cases e
theorem PoolAt.other {a : Ad} {Y : YA} {d : Nat} {F : Nat → List Nat} {H : Hp} (h : PoolAt a Y d F H) {b C dx : Addr} {fs : List (Str × V)} {o : HO} (e : H b = some (.ins C dx fs)) (n : b ≠ Y.p) : PoolAt a Y d F (L2.upd H b o) := by
  refine ⟨by rw [upd_ne n.symm]; exact h.ob, ?_, fun j hj => ?_, h.inj, h.rise, h.len, h.d60⟩
  · rw [upd_ne (ne_of h.dk e (by intro z; cases z))]
    exact h.dk
  · rw [upd_ne (ne_of (h.at_ j hj) e (by intro z; cases z))]
    exact h.at_ j hj
/-- a yard at first: all is one free piece -/
theorem frl_first (d j : Nat) (h : j ≤ d) : setF (fun _ => []) d (ins 0 []) j = frl (Oc []) d j := by
  have no : ∀ k i, Fr (Oc []) k i := fun k i c _ ⟨q, m, _⟩ => by cases m
  unfold setF
  by_cases e : j = d
  · subst e
    rw [if_pos rfl]
    refine frl_ext (List.pairwise_singleton _ _) fun y => ?_
    constructor
    · intro z
      have z := List.mem_singleton.mp z
      exact ⟨0, by rw [z, Nat.zero_mul], Nat.le_refl _, Nat.pow_pos (by decide), no _ _, fun l => by omega⟩
    · rintro ⟨i, e, _, l, _⟩
      rw [Nat.sub_self, Nat.pow_zero] at l
      rw [e, show i = 0 by omega, Nat.zero_mul]
      exact List.mem_singleton.mpr rfl
  · rw [if_neg e]
    exact (frl_nil.mpr fun i z => z.2.2.2 (by omega) (no _ _)).symm
/-- the pieces out, one more -/
theorem out_put {os : List PN} {x k : Nat} (n : ∀ q ∈ os, q.1 ≠ x) : putK (os.map outI) (Sum.inl (x : Int)) (sI k) = (os ++ [(x, k)]).map outI := by
  rw [putK_new _ (valV_out_none fun q m z => n q m (by omega)), List.map_append]
  rfl
theorem out_drop {os : List PN} {x : Nat} : dropK (os.map outI) (Sum.inl (x : Int)) = (outs os x).map outI := by
  unfold dropK outs
  rw [List.filter_map]
  congr 1
  refine List.filter_congr fun q _ => ?_
  show decide (Sum.inl (q.1 : Int) ≠ (Sum.inl (x : Int) : Key)) = decide (q.1 ≠ x)
  rw [decide_eq_decide]
  constructor
  · intro h e
    exact h (by rw [e])
  · intro h e
    exact h (by have := Sum.inl.inj e; omega)
theorem out_again {os : List PN} {x k : Nat} (m : ∃ h, (x, h) ∈ os) : putK (os.map outI) (Sum.inl (x : Int)) (sI k) = (outr os x k).map outI := by
  unfold putK outr
  have any : ((os.map outI).any fun kv => decide (kv.1 = (Sum.inl (x : Int) : Key))) = true := by
    obtain ⟨h, m⟩ := m
    exact List.any_eq_true.mpr ⟨outI (x, h), List.mem_map.mpr ⟨_, m, rfl⟩, by simp [outI]⟩
  rw [if_pos any, List.map_map, List.map_map]
  refine List.map_congr_left fun q _ => ?_
  show (if (outI q).1 = (Sum.inl (x : Int) : Key) then ((outI q).1, sI k) else outI q) = outI (if q.1 = x then (x, k) else q)
  by_cases e : q.1 = x
  · rw [if_pos e, if_pos (by unfold outI; rw [e])]
    unfold outI
    rw [e]
  · rw [if_neg e, if_neg (fun z => e (by have := Sum.inl.inj (show (Sum.inl (q.1 : Int) : Key) = Sum.inl (x : Int) from z); omega))]
/-- the sizes' dict changes -/
theorem YardAt.put {a : Ad} {Y : YA} {d : Nat} {os os' : List PN} {H : Hp} (yo : YOb a Y d H) (so : H Y.sd = some (.dK (os.map outI))) (po : PoolAt a Y d (frl (Oc os') d) H) (n : Y.pd ≠ Y.sd) (g : Good d os') (f : os'.length ≤ 100000) : YardAt a Y d os' (L2.upd H Y.sd (.dK (os'.map outI))) := by
  refine ⟨?_, upd_same, ⟨?_, ?_, fun j hj => ?_, po.inj, po.rise, po.len, po.d60⟩, g, f, n⟩
  · show L2.upd H Y.sd _ Y.y = _
    rw [upd_ne (ne_of yo so (by intro z; cases z))]
    exact yo
  · rw [upd_ne (ne_of po.ob so (by intro z; cases z))]
    exact po.ob
  · rw [upd_ne n]
    exact po.dk
  · rw [upd_ne (ne_of (po.at_ j hj) so (by intro z; cases z))]
    exact po.at_ j hj
theorem best_or (os : List PN) (d k : Nat) : (∀ j i, k ≤ j → ¬ Mx (Oc os) d j i) ∨ ∃ m n, Best os d k m n := by
  by_cases h : ∃ j, k ≤ j ∧ ∃ i, Mx (Oc os) d j i
  · right
    -- the least exponent
    have least : ∀ b j, j ≤ b → k ≤ j → (∃ i, Mx (Oc os) d j i) → ∃ m, k ≤ m ∧ (∃ i, Mx (Oc os) d m i) ∧ ∀ j i, k ≤ j → j < m → ¬ Mx (Oc os) d j i := by
      intro b
      induction b with
      | zero => exact fun j h1 h2 h3 => ⟨j, h2, h3, fun j' i a1 a2 => by omega⟩
      | succ b ih =>
        intro j h1 h2 h3
        by_cases c : ∃ j', k ≤ j' ∧ j' < j ∧ ∃ i, Mx (Oc os) d j' i
        · obtain ⟨j', c1, c2, c3⟩ := c
          exact ih j' (by omega) c1 c3
        · exact ⟨j, h2, h3, fun j' i a1 a2 z => c ⟨j', a1, a2, i, z⟩⟩
    obtain ⟨j, h1, h2⟩ := h
    obtain ⟨m, km, ⟨i, hi⟩, small⟩ := least j j (Nat.le_refl _) h1 h2
    -- the least place
    have low : ∀ b i, i ≤ b → Mx (Oc os) d m i → ∃ i0, Mx (Oc os) d m i0 ∧ ∀ i', Mx (Oc os) d m i' → i0 ≤ i' := by
      intro b
      induction b with
      | zero => exact fun i h1 h2 => ⟨i, h2, fun i' _ => by omega⟩
      | succ b ih =>
        intro i h1 h2
        by_cases c : ∃ i', i' < i ∧ Mx (Oc os) d m i'
        · obtain ⟨i', c1, c2⟩ := c
          exact ih i' (by omega) c2
        · exact ⟨i, h2, fun i' z => by
            apply Classical.byContradiction
            intro w
            exact c ⟨i', by omega, z⟩⟩
    obtain ⟨i0, h3, h4⟩ := low i i (Nat.le_refl _) hi
    exact ⟨m, i0 * 2 ^ m, km, by rw [blk_of]; exact h3, by rw [blk_of], small, fun i' z => Nat.mul_le_mul_right _ (h4 i' z)⟩
  · left
    exact fun j i l z => h ⟨j, l, i, z⟩
theorem Best.head {os : List PN} {d k m n : Nat} (b : Best os d k m n) : ∃ r, frl (Oc os) d m = n :: r := by
  have hin : n ∈ frl (Oc os) d m := frl_mem.mpr ⟨_, b.al.symm, b.mx⟩
  cases e : frl (Oc os) d m with
  | nil => rw [e] at hin; cases hin
  | cons y r =>
    obtain ⟨i, e2, hi⟩ := frl_mem.mp (show y ∈ frl (Oc os) d m by rw [e]; exact List.mem_cons_self)
    have l1 := b.first i hi
    rw [← e2] at l1
    rw [e] at hin
    rcases List.mem_cons.mp hin with z | z
    · rw [z]
      exact ⟨r, rfl⟩
    · have r1 := frl_rise (Oc os) d m
      rw [e] at r1
      have := (List.pairwise_cons.mp r1).1 n z
      omega
/-- how many are out of a whole free piece: none begins there -/
theorem fr_key {os : List PN} {k n : Nat} (f : Fr (Oc os) k (n / 2 ^ k)) : ∀ q ∈ os, q.1 ≠ n := fun q m e => f n rfl ⟨q, m, by rw [e]⟩
theorem fits_iff {d : Nat} {os : List PN} {n h k : Nat} (g : Good d os) (m : (n, h) ∈ os) (hk : h ≤ k) (kd : k ≤ d) :
    (n % 2 ^ k = 0 ∧ ∀ j, h ≤ j → j < k → n + 2 ^ j ∈ frl (Oc os) d j) ↔ Fits os n k := by
  have e1 : n % 2 ^ k = 0 ↔ n / 2 ^ k * 2 ^ k = n := by
    have := Nat.div_add_mod n (2 ^ k)
    rw [Nat.mul_comm] at this
    omega
  unfold Fits
  rw [e1]
  refine and_congr_right fun al => ?_
  obtain ⟨K, hK, hM⟩ := out_mx g m
  have hO := fun c => Oc_outs (c := c) g m
  have inF : ∀ j, h ≤ j → j < k → (n + 2 ^ j ∈ frl (Oc os) d j ↔ Mx (Oc os) d j (sib (n / 2 ^ j))) := fun j _ jk => by rw [← sib_up al jk, frl_mem']
  constructor
  · intro z
    have kK : k ≤ K := by
      apply Classical.byContradiction
      intro w
      have := (inF K hK (by omega)).mp (z K hK (by omega))
      rw [mx_stop hK hM hO K hK (Nat.le_refl _)] at this
      omega
    exact fr_down hM.2.2.1 kK
  · intro f j hj jk
    rw [inF j hj jk]
    have kK : k ≤ K := mx_le hM kd f
    rw [mx_stop hK hM hO j hj (by omega)]
    omega
section
variable {P : Program} {w : World} {K : PySem.W.Frag} {mg : Str → Option Value} {base : Heap} {a : Ad}
theorem ok_Yard_init (T : Txt K mg a) : FnOk P w K mg base (L2.CX P w) 3 a.f_Yard_init a.d_Yard_init ["self", "cells"] (sp_Yard_init K a) := by
  have G_Pool_init : FnOk P w K mg base CX0 1 a.f_Pool_init a.d_Pool_init ["self", "cells"] (sp_Pool_init K a) := ok_Pool_init T
  have G_Pool_put : FnOk P w K mg base CX0 2 a.f_Pool_put a.d_Pool_put ["self", "at", "size"] (sp_Pool_put K a) := ok_Pool_put T
  have G_is_size : FnOk P w K mg base CX0 1 a.f_is_size a.d_is_size ["number"] (sp_is_size K a) := ok_is_size T
  refine T.Yard_init.okX sc_Yard_init (fun vs H Q E h => by first | (obtain ⟨rfl, _⟩ := h; rfl) | (obtain ⟨_, rfl, _⟩ := h; rfl) | (obtain ⟨_, _, rfl, _⟩ := h; rfl) | (obtain ⟨_, _, _, rfl, _⟩ := h; rfl) | (obtain ⟨_, _, _, _, rfl, _⟩ := h; rfl) | (obtain ⟨_, _, _, _, _, rfl, _⟩ := h; rfl) | (obtain ⟨_, _, _, _, _, _, rfl, _⟩ := h; rfl) | (obtain ⟨_, _, _, _, _, _, _, rfl, _⟩ := h; rfl) | (obtain ⟨_, _, _, _, _, _, _, _, rfl, _⟩ := h; rfl) | (obtain ⟨_, _, _, _, _, _, _, _, _, rfl, _⟩ := h; rfl) | (obtain ⟨_, _, _, _, _, _, _, _, _, _, rfl, _⟩ := h; rfl) | (obtain ⟨_, _, _, _, _, _, _, _, _, _, _, rfl, _⟩ := h; rfl)) (fun cdv A outer s H vs Q E hr h => ?_)
  refine ⟨_, pss_cons (ps_if (pt_not (pt_val (pe_call G_is_size (hr.mono (by decide)) rfl T.is_size.mg T.is_size.fn.kp T.is_size.bd .nil pass0 (pa_cons (pv 1) pa_nil)))) (pss_one (ps_raise rfl (takes_of rfl rfl rfl rfl) (pmk_own PySem.F.excBase_ValueError T.e_NoYard.x T.e_NoYard.g T.e_NoYard.k (raises_own T.e_NoYard.is.hs T.e_NoYard.t) (by exact rfl)))) pss_nil)
      (pss_cons (ps_fld (pv 0) (pv 1) rfl)
      (pss_cons (ps_fld (pv 0) pe_dnewK rfl)
      (pss_cons (ps_fld (pv 0) (pe_make T.m_Pool_init G_Pool_init (hr.mono (by decide)) rfl T.g_Pool T.b_Pool_init .nil pass0 (pa_cons (pv 1) pa_nil)) rfl)
      (pss_one (ps_expr (pe_meth (pe_fld (pv 0) rfl) T.cl_Pool T.m_Pool_put G_Pool_put (hr.mono (by decide)) T.b_Pool_put .nil pass0 (pa_cons pe_int (pa_cons (pv 1) pa_nil)))))))), ?_⟩
  obtain ⟨y, dy, x, rfl, hy, qE, qQ⟩ := h
  refine ⟨_, rfl, x, rfl, fun isz => ?_, fun nsz => ⟨_, rfl, iteT (qE nsz)⟩⟩
  obtain ⟨d, d60, rfl⟩ := isz
  refine ⟨_, rfl, iteF ?_⟩
  refine ⟨_, rfl, _, rfl, y, a.c_Yard, dy, [], rfl, hy, T.cl_Yard, T.n_Yard_cells, (by show 0 < 1000; decide), fun sd nsd => ?_⟩
  have ysd : y ≠ sd := fun z => by rw [← z, upd_same] at nsd; cases nsd
  refine ⟨_, rfl, y, a.c_Yard, dy, _, rfl, (by rw [upd_ne ysd]; exact upd_same), T.cl_Yard, T.n_Yard__sizes, (by show 1 < 1000; decide), ?_⟩
  refine ⟨_, rfl, fun p dp np ndp ne => ?_⟩
  have yp : y ≠ p := fun z => by rw [← z, upd_same] at np; cases np
  have ydp : y ≠ dp := fun z => by rw [← z, upd_same] at ndp; cases ndp
  refine ⟨p, dp, d, rfl, upd_same, d60, fun pd ls H3 po npd nls only => ⟨rfl, ?_⟩⟩
  have hy3 : H3 y = some (.ins a.c_Yard dy (putF "_sizes" (.ref sd) (putF "cells" (sI d) []))) := only _ _ (by rw [upd_ne yp, upd_ne ydp, upd_same]) (by simp [yp])
  have sdp : sd ≠ p := fun z => by rw [← z, upd_ne ysd.symm, upd_same] at np; cases np
  have sddp : sd ≠ dp := fun z => by rw [← z, upd_ne ysd.symm, upd_same] at ndp; cases ndp
  have hsd3 : H3 sd = some (.dK []) := only _ _ (by rw [upd_ne sdp, upd_ne sddp, upd_ne ysd.symm, upd_same]) (by simp [sdp])
  refine ⟨_, rfl, y, a.c_Yard, dy, _, rfl, hy3, T.cl_Yard, T.n_Yard__pool, (by show 2 < 1000; decide), ?_⟩
  have po3 := po y sd dy
  have po4 : PoolAt a ⟨y, sd, p, pd, dy, dp, ls⟩ d (fun _ => []) (L2.upd H3 y (.ins a.c_Yard dy (yFs ⟨y, sd, p, pd, dy, dp, ls⟩ d))) := po3.other hy3 yp
  refine ⟨_, rfl, y, a.c_Yard, dy, _, _, rfl, upd_same, T.cl_Yard, T.n_Yard__pool, yFs_pool ⟨y, sd, p, pd, dy, dp, ls⟩ d, p, dp, _, rfl, po4.ob, pFs_no _ (by decide +kernel), _, rfl, ⟨y, sd, p, pd, dy, dp, ls⟩, d, 0, d, _, rfl, po4, Nat.le_refl _, by simp, by simp, ?_⟩
  have po5 := (po4.upd (k := d) (l := ins 0 []) (Nat.le_refl _) (ins_rise List.Pairwise.nil) (by decide)).congr fun j hj => frl_first d j hj
  -- what was there is there
  have all : Only [y] H (L2.upd (L2.upd H3 y (.ins a.c_Yard dy (yFs ⟨y, sd, p, pd, dy, dp, ls⟩ d))) (ls d) (.lst ((ins 0 []).map nI))) := by
    intro b o e nb
    have nby : b ≠ y := fun z => nb (by simp [z])
    have bsd : b ≠ sd := fun z => by rw [← z, upd_ne nby, e] at nsd; cases nsd
    have e2 : L2.upd (L2.upd (L2.upd H y (.ins a.c_Yard dy (putF "cells" (sI d) []))) sd (.dK [])) y (.ins a.c_Yard dy (putF "_sizes" (.ref sd) (putF "cells" (sI d) []))) b = some o := by
      rw [upd_ne nby, upd_ne bsd, upd_ne nby]
      exact e
    have bp : b ≠ p := fun z => by rw [z, np] at e2; cases e2
    have bdp : b ≠ dp := fun z => by rw [z, ndp] at e2; cases e2
    have bl : b ≠ ls d := fun z => by
      have n := nls d (Nat.le_refl _)
      rw [← z, upd_ne bp, upd_ne bdp, e2] at n
      cases n
    rw [upd_ne bl, upd_ne nby]
    exact only _ _ (by rw [upd_ne bp, upd_ne bdp]; exact e2) (by simp [bp])
  have lat := po3.at_ d (Nat.le_refl _)
  have npdsd : pd ≠ sd := fun z => by
    rw [z, upd_ne sdp, upd_ne sddp, upd_ne ysd.symm, upd_same] at npd
    cases npd
  refine qQ d d60 rfl ⟨y, sd, p, pd, dy, dp, ls⟩ _ rfl ⟨?_, ?_, po5, Good.nil d, by simp, npdsd⟩ ?_ all
  · show L2.upd _ _ _ y = _
    rw [upd_ne (ne_of hy3 lat (by intro z; cases z))]
    exact upd_same
  · rw [upd_ne (ne_of hsd3 lat (by intro z; cases z)), upd_ne ysd.symm]
    exact hsd3
  · intro b hb
    rcases List.mem_cons.mp hb with rfl | hb
    · rw [upd_ne ysd.symm] at nsd
      exact nsd
    · obtain ⟨j, hj, rfl⟩ := List.mem_map.mp hb
      have hj : j ≤ d := by have := List.mem_range.mp hj; omega
      have n := nls j hj
      have nat : H3 (ls j) = some (.lst []) := po3.at_ j hj
      have n1 : ls j ≠ p := fun z => by
        have w : H3 p = some (.ins a.c_Pool dp (pFs ⟨y, sd, p, pd, dy, dp, ls⟩)) := po3.ob
        rw [← z, nat] at w
        cases w
      have n2 : ls j ≠ y := fun z => by rw [z, hy3] at nat; cases nat
      have n3 : ls j ≠ sd := fun z => by rw [z, hsd3] at nat; cases nat
      show H (ls j) = none
      have n4 : ls j ≠ dp := fun z => by
        rw [z, upd_ne ne, upd_same] at n
        cases n
      rw [upd_ne n1, upd_ne n4, upd_ne n2, upd_ne n3, upd_ne n2] at n
      exact n
theorem ok_Yard_give (T : Txt K mg a) : FnOk P w K mg base (L2.CX P w) 4 a.f_Yard_give a.d_Yard_give ["self", "want"] (sp_Yard_give K a) := by
  have G_Pool_best : FnOk P w K mg base CX0 1 a.f_Pool_best a.d_Pool_best ["self", "size"] (sp_Pool_best K a) := ok_Pool_best T
  have G_Pool_drop : FnOk P w K mg base CX0 2 a.f_Pool_drop a.d_Pool_drop ["self", "at", "size"] (sp_Pool_drop K a) := ok_Pool_drop T
  have G_Yard_cut : FnOk P w K mg base CX0 3 a.f_Yard_cut a.d_Yard_cut ["self", "at", "size", "least"] (sp_Yard_cut K a) := ok_Yard_cut T
  have G_Yard_fitting : FnOk P w K mg base (L2.CX P w) 2 a.f_Yard_fitting a.d_Yard_fitting ["self", "want"] (sp_Yard_fitting K a) := ok_Yard_fitting T
  refine T.Yard_give.okX sc_Yard_give (fun vs H Q E h => by first | (obtain ⟨rfl, _⟩ := h; rfl) | (obtain ⟨_, rfl, _⟩ := h; rfl) | (obtain ⟨_, _, rfl, _⟩ := h; rfl) | (obtain ⟨_, _, _, rfl, _⟩ := h; rfl) | (obtain ⟨_, _, _, _, rfl, _⟩ := h; rfl) | (obtain ⟨_, _, _, _, _, rfl, _⟩ := h; rfl) | (obtain ⟨_, _, _, _, _, _, rfl, _⟩ := h; rfl) | (obtain ⟨_, _, _, _, _, _, _, rfl, _⟩ := h; rfl) | (obtain ⟨_, _, _, _, _, _, _, _, rfl, _⟩ := h; rfl) | (obtain ⟨_, _, _, _, _, _, _, _, _, rfl, _⟩ := h; rfl) | (obtain ⟨_, _, _, _, _, _, _, _, _, _, rfl, _⟩ := h; rfl) | (obtain ⟨_, _, _, _, _, _, _, _, _, _, _, rfl, _⟩ := h; rfl)) (fun cdv A outer s H vs Q E hr h => ?_)
  refine ⟨_, pss_cons (ps_set (i := 2) sc_Yard_give.nd rfl (Or.inl rfl) (pe_meth (pv 0) T.cl_Yard T.m_Yard_fitting G_Yard_fitting (hr.mono (by decide)) T.b_Yard_fitting .nil (passX (takes_of rfl rfl rfl rfl)) (pa_cons (pv 1) pa_nil)))
      (pss_cons (ps_set (i := 3) sc_Yard_give.nd rfl (Or.inl rfl) (pe_meth (pe_fld (pv 0) rfl) T.cl_Pool T.m_Pool_best G_Pool_best (hr.mono (by decide)) T.b_Pool_best .nil pass0 (pa_cons (pv 2) pa_nil)))
      (pss_cons (ps_if (pt_cmpR op_isN (pv 3) pe_non (nomark _)) (pss_one (ps_raise rfl (takes_of rfl rfl rfl rfl) (pmk_own PySem.F.excBase_ValueError T.e_NoRoom.x T.e_NoRoom.g T.e_NoRoom.k (raises_own T.e_NoRoom.is.hs T.e_NoRoom.t) (by exact rfl)))) pss_nil)
      (pss_cons (ps_asg (pv 3) (pg_tup rfl (pgs_cons (pg_name (i := 4) sc_Yard_give.nd rfl (Or.inl rfl)) (pgs_cons (pg_name (i := 5) sc_Yard_give.nd rfl (Or.inl rfl)) pgs_nil))))
      (pss_cons (ps_expr (pe_meth (pe_fld (pv 0) rfl) T.cl_Pool T.m_Pool_drop G_Pool_drop (hr.mono (by decide)) T.b_Pool_drop .nil pass0 (pa_cons (pv 4) (pa_cons (pv 5) pa_nil))))
      (pss_cons (ps_expr (pe_meth (pv 0) T.cl_Yard T.m_Yard_cut G_Yard_cut (hr.mono (by decide)) T.b_Yard_cut .nil pass0 (pa_cons (pv 4) (pa_cons (pv 5) (pa_cons (pv 2) pa_nil)))))
      (pss_cons (ps_dput (hu_of hr) (pe_fld (pv 0) rfl) (pv 4) (pv 2) rfl)
      (pss_one (ps_ret (pv 4))))))))), ?_⟩
  obtain ⟨Y, d, os, x, rfl, ya, few, q1, q2, q3⟩ := h
  have d60 := ya.po.d60
  refine ⟨_, rfl, Y.y, Y.dy, _, rfl, ya.yo, yFs_no Y d (by decide +kernel) (by decide +kernel) (by decide +kernel), _, rfl, Y, d, x, rfl, ya.yo, d60, q1, fun c => q2 (by have := Nat.pow_pos (n := d) (show 0 < 2 by decide); omega) (.inl c) H fun b o e => e, fun h1 h2 => ?_⟩
  have fd := fit_le h1 h2 d60
  refine ⟨_, rfl, Y.y, a.c_Yard, Y.dy, _, _, rfl, ya.yo, T.cl_Yard, T.n_Yard__pool, yFs_pool Y d, Y.p, Y.dp, _, rfl, ya.po.ob, pFs_no Y (by decide +kernel), _, rfl, Y, d, fit x, _, rfl, ya.po, fun none H1 same => ?_, fun m n r km md small eF t H1 same ht => ?_⟩
  · refine ⟨_, rfl, rfl, _, rfl, iteT ?_⟩
    refine q2 h1 (.inr fun j i hj z => ?_) H1 same
    have := none j hj z.1
    exact frl_nil.mp this i z
  · refine ⟨_, rfl, rfl, _, rfl, iteF ?_⟩
    refine ⟨_, rfl, t, _, rfl, SqT.of ht, rfl, _, _, rfl, _, _, rfl, rfl, ?_⟩
    have po1 := ya.po.keep same
    have yo1 : YOb a Y d H1 := same _ _ ya.yo
    have nin : n ∈ frl (Oc os) d m := by rw [eF]; exact List.mem_cons_self
    obtain ⟨i0, en, hM⟩ := frl_mem.mp nin
    have enm : n / 2 ^ m = i0 := by rw [en, blk_of]
    have al : n / 2 ^ m * 2 ^ m = n := by rw [enm]; exact en.symm
    rw [← enm] at hM
    have best : Best os d (fit x) m n := ⟨km, hM, al, fun j i h1 h2 => frl_nil.mp (small j h1 h2) i, fun i hi => by
      have r1 := frl_rise (Oc os) d m
      have hin := frl_mem'.mpr hi
      rw [eF] at r1 hin
      rcases List.mem_cons.mp hin with z | z
      · omega
      · have := (List.pairwise_cons.mp r1).1 _ z
        omega⟩
    refine ⟨_, rfl, Y.y, a.c_Yard, Y.dy, _, _, rfl, yo1, T.cl_Yard, T.n_Yard__pool, yFs_pool Y d, Y.p, Y.dp, _, rfl, po1.ob, pFs_no Y (by decide +kernel), _, rfl, _, rfl, Y, d, n, m, _, rfl, po1, md, nin, ?_⟩
    have lm := frl_len (d := d) (j := m) (os := os)
    have po2 := po1.upd (k := m) md (del_rise (x := n) (frl_rise (Oc os) d m)) (by
      have := List.length_filter_le (fun y => decide (y ≠ n)) (frl (Oc os) d m)
      unfold del
      omega)
    have only2 : Only (lsA Y d) H1 (L2.upd H1 (Y.ls m) (.lst ((del n (frl (Oc os) d m)).map nI))) := Only.upd _ (lsA_mem md)
    have yo2 := only2 _ _ yo1 (po1.off yo1 (by intro xs z; cases z))
    have hO := fun c => Oc_snoc (os := os) (x := n) (k := fit x) (c := c)
    refine ⟨_, rfl, Y.y, Y.dy, _, rfl, yo2, yFs_no Y d (by decide +kernel) (by decide +kernel) (by decide +kernel), _, rfl, _, rfl, _, rfl, Y, d, n, fit x, m, _, rfl, yo2, po2, md, fun j h1 h2 => ?_, fun H3 po3 only3 => ?_⟩
    · have e : setF (frl (Oc os) d) m (del n (frl (Oc os) d m)) j = frl (Oc os) d j := by
        unfold setF
        rw [if_neg (by omega)]
      rw [e, small j h1 h2]
      exact ⟨by simp, by simp⟩
    · have f : Fr (Oc os) (fit x) (n / 2 ^ fit x) := fr_down hM.2.2.1 km
      have g2 := ya.good.snoc fd (al_down al km) best.lt f
      have po4 : PoolAt a Y d (frl (Oc (os ++ [(n, fit x)])) d) H3 := po3.congr fun j hj => by
        rw [← can_give km hM hO j, cutF_add al (Nat.le_refl m), al]
      have so1 : H3 Y.sd = some (.dK (os.map outI)) := only3 _ _ (only2 _ _ (same _ _ ya.so) (po1.off (same _ _ ya.so) (by intro xs z; cases z))) (po2.off (only2 _ _ (same _ _ ya.so) (po1.off (same _ _ ya.so) (by intro xs z; cases z))) (by intro xs z; cases z))
      have yo3 : YOb a Y d H3 := only3 _ _ yo2 (po2.off yo2 (by intro xs z; cases z))
      refine ⟨_, rfl, _, rfl, Y.y, a.c_Yard, Y.dy, _, _, rfl, yo3, T.cl_Yard, T.n_Yard__sizes, yFs_sizes Y d, _, rfl, Y.sd, _, rfl, DPut.k (k := Sum.inl (n : Int)) so1 (by rw [List.length_map, sizeLine_eq]; omega), ?_⟩
      rw [out_put (fr_key f)]
      refine ⟨_, rfl, ?_⟩
      refine q3 h1 h2 m n best _ (YardAt.put yo3 so1 po4 ya.ne g2 (by rw [List.length_append]; show os.length + 1 ≤ 100000; omega)) ?_
      refine Only.trans ((Only.same same).trans ((only2.trans only3).mono lsA_own)) (Only.upd _ List.mem_cons_self)
theorem ok_Yard_take_back (T : Txt K mg a) : FnOk P w K mg base (L2.CX P w) 4 a.f_Yard_take_back a.d_Yard_take_back ["self", "at"] (sp_Yard_take_back K a) := by
  have G_Yard_join : FnOk P w K mg base CX0 3 a.f_Yard_join a.d_Yard_join ["self", "at", "size"] (sp_Yard_join K a) := ok_Yard_join T
  have G_Yard_size_of : FnOk P w K mg base (L2.CX P w) 1 a.f_Yard_size_of a.d_Yard_size_of ["self", "at"] (sp_Yard_size_of K a) := ok_Yard_size_of T
  refine T.Yard_take_back.okX sc_Yard_take_back (fun vs H Q E h => by first | (obtain ⟨rfl, _⟩ := h; rfl) | (obtain ⟨_, rfl, _⟩ := h; rfl) | (obtain ⟨_, _, rfl, _⟩ := h; rfl) | (obtain ⟨_, _, _, rfl, _⟩ := h; rfl) | (obtain ⟨_, _, _, _, rfl, _⟩ := h; rfl) | (obtain ⟨_, _, _, _, _, rfl, _⟩ := h; rfl) | (obtain ⟨_, _, _, _, _, _, rfl, _⟩ := h; rfl) | (obtain ⟨_, _, _, _, _, _, _, rfl, _⟩ := h; rfl) | (obtain ⟨_, _, _, _, _, _, _, _, rfl, _⟩ := h; rfl) | (obtain ⟨_, _, _, _, _, _, _, _, _, rfl, _⟩ := h; rfl) | (obtain ⟨_, _, _, _, _, _, _, _, _, _, rfl, _⟩ := h; rfl) | (obtain ⟨_, _, _, _, _, _, _, _, _, _, _, rfl, _⟩ := h; rfl)) (fun cdv A outer s H vs Q E hr h => ?_)
  refine ⟨_, pss_cons (ps_set (i := 2) sc_Yard_take_back.nd rfl (Or.inl rfl) (pe_meth (pv 0) T.cl_Yard T.m_Yard_size_of G_Yard_size_of (hr.mono (by decide)) T.b_Yard_size_of .nil (passX (takes_of rfl rfl rfl rfl)) (pa_cons (pv 1) pa_nil)))
      (pss_cons (ps_ddel (pe_fld (pv 0) rfl) (pv 1))
      (pss_cons (ps_expr (pe_meth (pv 0) T.cl_Yard T.m_Yard_join G_Yard_join (hr.mono (by decide)) T.b_Yard_join .nil pass0 (pa_cons (pv 1) (pa_cons (pv 2) pa_nil))))
      (pss_one (ps_ret (pv 2))))), ?_⟩
  obtain ⟨Y, d, os, x, rfl, ya, q1, q2⟩ := h
  have d60 := ya.po.d60
  refine ⟨_, rfl, Y.y, Y.dy, _, rfl, ya.yo, yFs_no Y d (by decide +kernel) (by decide +kernel) (by decide +kernel), _, rfl, Y, d, os, x, rfl, ya.yo, ya.so, ya.good, q1, fun n k m e => ?_⟩
  subst e
  have ev := valV_out ya.good m
  refine ⟨_, rfl, Y.y, a.c_Yard, Y.dy, _, _, rfl, ya.yo, T.cl_Yard, T.n_Yard__sizes, yFs_sizes Y d, _, rfl, Y.sd, _, Sum.inl (n : Int), rfl, ya.so, rfl, by rw [ev]; rfl, ?_⟩
  rw [out_drop]
  obtain ⟨K0, hK, hM⟩ := out_mx ya.good m
  have hO := fun c => Oc_outs (c := c) ya.good m
  have al := (ya.good.each _ m).2.1
  have g2 : Good d (outs os n) := ya.good.sub List.filter_sublist
  -- the sizes' dict first
  have yo1 : YOb a Y d (L2.upd H Y.sd (.dK ((outs os n).map outI))) := by
    show L2.upd H Y.sd _ Y.y = _
    rw [upd_ne (ne_of ya.yo ya.so (by intro z; cases z))]
    exact ya.yo
  have po1 : PoolAt a Y d (frl (Oc os) d) (L2.upd H Y.sd (.dK ((outs os n).map outI))) := by
    refine ⟨?_, ?_, fun j hj => ?_, ya.po.inj, ya.po.rise, ya.po.len, ya.po.d60⟩
    · rw [upd_ne (ne_of ya.po.ob ya.so (by intro z; cases z))]
      exact ya.po.ob
    · rw [upd_ne ya.ne]
      exact ya.po.dk
    · rw [upd_ne (ne_of (ya.po.at_ j hj) ya.so (by intro z; cases z))]
      exact ya.po.at_ j hj
  have stop := fun j h1 h2 => mx_stop hK hM hO j h1 h2
  refine ⟨_, rfl, Y.y, Y.dy, _, rfl, yo1, yFs_no Y d (by decide +kernel) (by decide +kernel) (by decide +kernel), _, rfl, _, rfl, Y, d, n, k, K0, frl (Oc os) d, rfl, yo1, po1, hK, hM.1, al, fun j h1 h2 => ?_, fun z => ?_, fun z => ?_, ?_, fun H2 po2 only2 => ?_⟩
  · rw [frl_mem']
    exact (stop j h1 (by omega)).mpr h2
  · rw [frl_mem', stop K0 hK (Nat.le_refl _)] at z
    omega
  · rw [frl_mem'] at z
    exact z.2.2.1 n rfl ((hO n).mpr (.inr rfl))
  · have := frl_len (d := d) (j := K0) (os := os)
    have := ya.few
    omega
  · refine ⟨_, rfl, ?_⟩
    refine q2 n k m rfl H2 ⟨only2 _ _ yo1 (po1.off yo1 (by intro xs z; cases z)), only2 _ _ upd_same (po1.off upd_same (by intro xs z; cases z)), po2.congr fun j hj => ?_, g2, ?_, ya.ne⟩ ((Only.upd _ List.mem_cons_self).trans (only2.mono lsA_own))
    · rw [← can_back hK hM hO j, remF_at]
    · exact Nat.le_trans (List.length_filter_le _ _) ya.few
theorem ok_Yard_resize (T : Txt K mg a) : FnOk P w K mg base (L2.CX P w) 4 a.f_Yard_resize a.d_Yard_resize ["self", "at", "want"] (sp_Yard_resize K a) := by
  have G_Yard_cut : FnOk P w K mg base CX0 3 a.f_Yard_cut a.d_Yard_cut ["self", "at", "size", "least"] (sp_Yard_cut K a) := ok_Yard_cut T
  have G_Yard_fitting : FnOk P w K mg base (L2.CX P w) 2 a.f_Yard_fitting a.d_Yard_fitting ["self", "want"] (sp_Yard_fitting K a) := ok_Yard_fitting T
  have G_Yard_grow : FnOk P w K mg base (L2.CX P w) 3 a.f_Yard_grow a.d_Yard_grow ["self", "at", "had", "size"] (sp_Yard_grow K a) := ok_Yard_grow T
  have G_Yard_size_of : FnOk P w K mg base (L2.CX P w) 1 a.f_Yard_size_of a.d_Yard_size_of ["self", "at"] (sp_Yard_size_of K a) := ok_Yard_size_of T
  refine T.Yard_resize.okX sc_Yard_resize (fun vs H Q E h => by first | (obtain ⟨rfl, _⟩ := h; rfl) | (obtain ⟨_, rfl, _⟩ := h; rfl) | (obtain ⟨_, _, rfl, _⟩ := h; rfl) | (obtain ⟨_, _, _, rfl, _⟩ := h; rfl) | (obtain ⟨_, _, _, _, rfl, _⟩ := h; rfl) | (obtain ⟨_, _, _, _, _, rfl, _⟩ := h; rfl) | (obtain ⟨_, _, _, _, _, _, rfl, _⟩ := h; rfl) | (obtain ⟨_, _, _, _, _, _, _, rfl, _⟩ := h; rfl) | (obtain ⟨_, _, _, _, _, _, _, _, rfl, _⟩ := h; rfl) | (obtain ⟨_, _, _, _, _, _, _, _, _, rfl, _⟩ := h; rfl) | (obtain ⟨_, _, _, _, _, _, _, _, _, _, rfl, _⟩ := h; rfl) | (obtain ⟨_, _, _, _, _, _, _, _, _, _, _, rfl, _⟩ := h; rfl)) (fun cdv A outer s H vs Q E hr h => ?_)
  refine ⟨_, pss_cons (ps_set (i := 3) sc_Yard_resize.nd rfl (Or.inl rfl) (pe_meth (pv 0) T.cl_Yard T.m_Yard_size_of G_Yard_size_of (hr.mono (by decide)) T.b_Yard_size_of .nil (passX (takes_of rfl rfl rfl rfl)) (pa_cons (pv 1) pa_nil)))
      (pss_cons (ps_set (i := 4) sc_Yard_resize.nd rfl (Or.inl rfl) (pe_meth (pv 0) T.cl_Yard T.m_Yard_fitting G_Yard_fitting (hr.mono (by decide)) T.b_Yard_fitting .nil (passX (takes_of rfl rfl rfl rfl)) (pa_cons (pv 2) pa_nil)))
      (pss_cons (ps_if (pt_cmpR op_gt (pv 4) (pv 3) (nomark _)) (pss_one (ps_expr (pe_meth (pv 0) T.cl_Yard T.m_Yard_grow G_Yard_grow (hr.mono (by decide)) T.b_Yard_grow .nil (passX (takes_of rfl rfl rfl rfl)) (pa_cons (pv 1) (pa_cons (pv 3) (pa_cons (pv 4) pa_nil)))))) (pss_one (ps_expr (pe_meth (pv 0) T.cl_Yard T.m_Yard_cut G_Yard_cut (hr.mono (by decide)) T.b_Yard_cut .nil pass0 (pa_cons (pv 1) (pa_cons (pv 3) (pa_cons (pv 4) pa_nil)))))))
      (pss_cons (ps_dput (hu_of hr) (pe_fld (pv 0) rfl) (pv 1) (pv 4) rfl)
      (pss_one (ps_ret (pv 4)))))), ?_⟩
  obtain ⟨Y, d, os, x, x2, rfl, ya, q1, q2⟩ := h
  have d60 := ya.po.d60
  refine ⟨_, rfl, Y.y, Y.dy, _, rfl, ya.yo, yFs_no Y d (by decide +kernel) (by decide +kernel) (by decide +kernel), _, rfl, Y, d, os, x, rfl, ya.yo, ya.so, ya.good, q1, fun n h m e => ?_⟩
  subst e
  obtain ⟨q3, q4, q5⟩ := q2 n h m rfl
  refine ⟨_, rfl, Y.y, Y.dy, _, rfl, ya.yo, yFs_no Y d (by decide +kernel) (by decide +kernel) (by decide +kernel), _, rfl, Y, d, x2, rfl, ya.yo, d60, q3, fun c => q4 (by have := Nat.pow_pos (n := d) (show 0 < 2 by decide); omega) (.inl c) H fun b o e => e, fun h1 h2 => ?_⟩
  have fd := fit_le h1 h2 d60
  obtain ⟨K0, hK, hM⟩ := out_mx ya.good m
  have hO := fun c => Oc_outs (c := c) ya.good m
  have hO2 := fun c => Oc_outr (k := fit x2) (c := c) ya.good m
  have al := (ya.good.each _ m).2.1
  generalize hk : fit x2 = k at *
  -- the end of both ways
  have fin : ∀ H2, PoolAt a Y d (frl (Oc (outr os n k)) d) H2 → Only (lsA Y d) H H2 → Fits os n k → YardAt a Y d (outr os n k) (L2.upd H2 Y.sd (.dK ((outr os n k).map outI))) ∧ H2 Y.sd = some (.dK (os.map outI)) ∧ YOb a Y d H2 := by
    intro H2 po2 only2 ft
    have so2 := only2 _ _ ya.so ya.dne
    have yo2 : YOb a Y d H2 := only2 _ _ ya.yo (ya.po.off ya.yo (by intro xs z; cases z))
    refine ⟨YardAt.put yo2 so2 po2 ya.ne (Good.outr ya.good m fd ft.1 ft.2) ?_, so2, yo2⟩
    unfold outr
    rw [List.length_map]
    exact ya.few
  refine ⟨_, rfl, _, rfl, _, _, rfl, rfl, _, rfl, ?_⟩
  by_cases c : h < k
  · have plt : 2 ^ h < 2 ^ k := Nat.pow_lt_pow_right (by decide) c
    refine iteTof (decide_eq_true (show ((2 ^ k : Nat) : Int) > ((2 ^ h : Nat) : Int) by omega)) ?_
    have iff := fits_iff ya.good m (Nat.le_of_lt c) fd
    refine ⟨_, rfl, Y.y, Y.dy, _, rfl, ya.yo, yFs_no Y d (by decide +kernel) (by decide +kernel) (by decide +kernel), _, rfl, _, rfl, _, rfl, Y, d, n, h, k, _, rfl, ya.yo, ya.po, fd, fun nf H1 same => ?_, fun c0 c1 H2 po2 only2 => ?_⟩
    · exact q4 h1 (.inr fun ft => nf (iff.mpr ft)) H1 same
    · have ft := iff.mp ⟨c0, c1⟩
      have kK : k ≤ K0 := mx_le hM fd ft.2
      have sz := fun j i => mx_size (O1 := Oc (outr os n k)) (O2 := Oc os) kK hK hM hO2 hO (Nat.le_of_lt c) j i
      have po3 : PoolAt a Y d (frl (Oc (outr os n k)) d) H2 := po2.congr fun j hj => by
        rw [rmF_rem ft.1 (Nat.le_refl k)]
        exact can_grow (fun j i => (sz j i).1) (fun j h1 h2 => (sz j 0).2 h1 h2) j
      obtain ⟨ya2, so2, yo2⟩ := fin H2 po3 only2 ft
      refine ⟨_, rfl, _, rfl, Y.y, a.c_Yard, Y.dy, _, _, rfl, yo2, T.cl_Yard, T.n_Yard__sizes, yFs_sizes Y d, _, rfl, Y.sd, _, rfl, DPut.k (k := Sum.inl (n : Int)) so2 (by rw [List.length_map, sizeLine_eq]; have := ya.few; omega), ?_⟩
      rw [out_again ⟨h, m⟩]
      refine ⟨_, rfl, ?_⟩
      exact q5 h1 h2 ft _ ya2 ((only2.mono lsA_own).trans (Only.upd _ List.mem_cons_self))
  · have ple : 2 ^ k ≤ 2 ^ h := Nat.pow_le_pow_right (by decide) (by omega)
    refine iteFof (decide_eq_false (show ¬ ((2 ^ k : Nat) : Int) > ((2 ^ h : Nat) : Int) by omega)) ?_
    have ft : Fits os n k := ⟨al_down al (by omega), fr_down (fr_outs ya.good m) (by omega)⟩
    have sz := fun j i => mx_size (O1 := Oc os) (O2 := Oc (outr os n k)) hK (Nat.le_trans (Nat.not_lt.mp c) hK) hM hO hO2 (Nat.not_lt.mp c) j i
    have hd := (ya.good.each _ m).1
    refine ⟨_, rfl, Y.y, Y.dy, _, rfl, ya.yo, yFs_no Y d (by decide +kernel) (by decide +kernel) (by decide +kernel), _, rfl, _, rfl, _, rfl, Y, d, n, k, h, _, rfl, ya.yo, ya.po, hd, fun j h1 h2 => ⟨fun z => ?_, ?_⟩, fun H2 po2 only2 => ?_⟩
    · rw [← sib_up al h2, frl_mem'] at z
      exact (sz j 0).2 h1 h2 z
    · have := frl_len (d := d) (j := j) (os := os)
      have := ya.few
      omega
    · have po3 : PoolAt a Y d (frl (Oc (outr os n k)) d) H2 := po2.congr fun j hj => by
        rw [cutF_add al (Nat.le_refl h)]
        exact can_shrink (fun j i => (sz j i).1) j
      obtain ⟨ya2, so2, yo2⟩ := fin H2 po3 only2 ft
      refine ⟨_, rfl, _, rfl, Y.y, a.c_Yard, Y.dy, _, _, rfl, yo2, T.cl_Yard, T.n_Yard__sizes, yFs_sizes Y d, _, rfl, Y.sd, _, rfl, DPut.k (k := Sum.inl (n : Int)) so2 (by rw [List.length_map, sizeLine_eq]; have := ya.few; omega), ?_⟩
      rw [out_again ⟨h, m⟩]
      refine ⟨_, rfl, ?_⟩
      exact q5 h1 h2 ft _ ya2 ((only2.mono lsA_own).trans (Only.upd _ List.mem_cons_self))
end
/-! ### == of lists of pairs -/
def dP (q : PI2) : PyData := .tuple [.int q.1, .int q.2]
def dL (zs : List PI2) : PyData := .list (zs.map dP)
theorem dP_eqv (p q : PI2) : PyData.eqv (dP p) (dP q) = decide (p = q) := by
  unfold dP
  simp only [PyData.eqv, PyData.eqvAll, Bool.and_true]
  obtain ⟨a, b⟩ := p
  obtain ⟨c, d⟩ := q
  by_cases h1 : a = c <;> by_cases h2 : b = d <;> simp [h1, h2]
theorem dAll_eqv : ∀ zs ws : List PI2, PyData.eqvAll (zs.map dP) (ws.map dP) = decide (zs = ws)
  | [], [] => by simp [PyData.eqvAll]
  | [], w :: ws => by simp [PyData.eqvAll]
  | z :: zs, [] => by simp [PyData.eqvAll]
  | z :: zs, w :: ws => by
    rw [List.map_cons, List.map_cons, PyData.eqvAll, dP_eqv, dAll_eqv zs ws]
    by_cases h1 : z = w <;> by_cases h2 : zs = ws <;> simp [h1, h2]
theorem dL_eqv (zs ws : List PI2) : PyData.eqv (dL zs) (dL ws) = decide (zs = ws) := by
  unfold dL
  rw [PyData.eqv, dAll_eqv]
theorem dP_lay (q : PI2) : (dP q).canLay0 = true := by simp [dP, PyData.canLay0, PyData.canLayAll0]
theorem dP_depth (q : PI2) : (dP q).depth = 1 := by simp [dP, PyData.depth, PyData.depthAll]
theorem dP_shaped (q : PI2) : SeqAt.shaped (dP q) = true := by
  unfold SeqAt.shaped
  rw [dP_lay, dP_depth]
  rfl
theorem dAll_lay : ∀ zs : List PI2, PyData.canLayAll0 (zs.map dP) = true
  | [] => by simp [PyData.canLayAll0]
  | z :: zs => by rw [List.map_cons, PyData.canLayAll0, dP_lay, dAll_lay zs]; rfl
theorem dAll_depth : ∀ zs : List PI2, PyData.depthAll (zs.map dP) ≤ 1
  | [] => by simp [PyData.depthAll]
  | z :: zs => by
    have := dAll_depth zs
    rw [List.map_cons, PyData.depthAll, dP_depth]
    omega
theorem dL_lay (zs : List PI2) : (dL zs).canLay0 = true := by
  unfold dL
  rw [PyData.canLay0]
  exact dAll_lay zs
theorem dL_depth (zs : List PI2) : (dL zs).depth ≤ 2 := by
  unfold dL
  rw [PyData.depth]
  have := dAll_depth zs
  omega
theorem dL_shaped (zs : List PI2) : SeqAt.shaped (dL zs) = true := by
  unfold SeqAt.shaped
  rw [dL_lay, decide_eq_true (by have := dL_depth zs; omega)]
  rfl
theorem dp_pair {K : PySem.W.Frag} {H : Hp} {t : Addr} {q : PI2} (h : H t = some (.tup [.int q.1, .int q.2])) : Dp K H (.ref t) (dP q) := .tup (SqT.of h) (.cons (.int _) (.cons (.int _) .nil))
theorem dp_all {K : PySem.W.Frag} {H : Hp} : ∀ {ts : List Addr} {zs : List PI2}, Tups H ts zs → DpAll K H (ts.map V.ref) (zs.map dP)
  | _, _, .nil => .nil
  | _, _, .cons h r => .cons (dp_pair h) (dp_all r)
theorem dp_list {K : PySem.W.Frag} {H : Hp} {l : Addr} {ts : List Addr} {zs : List PI2} (h : H l = some (.lst (ts.map V.ref))) (t : Tups H ts zs) : Dp K H (.ref l) (dL zs) := .lst (SqL.of h) (dp_all t)
theorem dp_nil {K : PySem.W.Frag} {H : Hp} {l : Addr} (h : H l = some (.lst [])) : Dp K H (.ref l) (dL []) := .lst (SqL.of h) .nil
theorem srt_idem (l : List PI2) : srt (srt l) = srt l := srt_eq (srt_perm l)
theorem srt_nil : srt [] = [] := (srt_perm []).eq_nil
theorem srt_one (q : PI2) : srt [q] = [q] := List.perm_singleton.mp (srt_perm [q])
theorem outZ_nil : outZ [] = [] := srt_nil
/-- a yard at first -/
theorem frees_first (d : Nat) : frees [] d = [(0, ((2 ^ d : Nat) : Int))] := by
  unfold frees
  have e : allN (d + 1) (frl (Oc []) d) = [(0, ((2 ^ d : Nat) : Int))] := by
    rw [allN_succ]
    have e1 : allN d (frl (Oc []) d) = [] := by
      unfold allN
      refine List.flatMap_eq_nil_iff.mpr fun j hj => ?_
      have hj := List.mem_range.mp hj
      rw [← frl_first d j (by omega)]
      unfold setF
      rw [if_neg (by omega)]
      rfl
    have e2 : frl (Oc []) d d = [0] := by
      rw [← frl_first d d (Nat.le_refl _)]
      unfold setF
      rw [if_pos rfl]
      rfl
    rw [e1, e2]
    rfl
  rw [e, srt_one]
/-! ### the laws' common helpers -/
/-- the script's cell at k -/
def cell (ns : List Int) (k : Nat) : Int := ns.getD k 0
theorem emod_nat (x : Int) {n : Nat} (h : 0 < n) : ∃ m : Nat, x % (n : Int) = (m : Int) ∧ m < n := by
  have h1 := Int.emod_nonneg x (show (n : Int) ≠ 0 by omega)
  have h2 := Int.emod_lt_of_pos x (show (0 : Int) < n by omega)
  exact ⟨(x % (n : Int)).toNat, by omega, by omega⟩
theorem fit_gen {w : Int} (h1 : 1 ≤ w) : w ≤ ((2 ^ fit w : Nat) : Int) ∧ ((2 ^ fit w : Nat) : Int) < 2 * w := by
  obtain ⟨n, rfl⟩ : ∃ n : Nat, w = (n : Int) + 1 := ⟨(w - 1).toNat, by omega⟩
  have e0 : (n : Int) + 1 - 1 = (n : Int) := by omega
  unfold fit Builtin.Int.intBits
  rw [e0]
  by_cases hn : n = 0
  · subst hn
    decide
  · rw [if_neg (by simpa using hn), Int.natAbs_natCast]
    have hlt : n < 2 ^ (n.log2 + 1) := Nat.lt_log2_self
    have hle : 2 ^ n.log2 ≤ n := Nat.log2_self_le hn
    rw [Nat.pow_succ] at hlt ⊢
    omega
theorem fit_uniq {w : Int} {n : Nat} (h1 : 1 ≤ w) (h2 : w ≤ ((2 ^ n : Nat) : Int)) (h3 : ((2 ^ n : Nat) : Int) < 2 * w) : fit w = n := by
  obtain ⟨g1, g2⟩ := fit_gen h1
  apply Classical.byContradiction
  intro ne
  rcases Nat.lt_or_gt_of_ne ne with z | z
  · have : 2 ^ (fit w + 1) ≤ 2 ^ n := Nat.pow_le_pow_right (by decide) z
    rw [Nat.pow_succ] at this
    omega
  · have : 2 ^ (n + 1) ≤ 2 ^ fit w := Nat.pow_le_pow_right (by decide) z
    rw [Nat.pow_succ] at this
    omega
theorem fit_bound {w : Int} {N : Nat} (h1 : 1 ≤ w) (h2 : w ≤ ((2 ^ N : Nat) : Int)) : fit w ≤ N := by
  obtain ⟨g1, g2⟩ := fit_gen h1
  apply Classical.byContradiction
  intro z
  have : 2 ^ (N + 1) ≤ 2 ^ fit w := Nat.pow_le_pow_right (by decide) (by omega)
  rw [Nat.pow_succ] at this
  omega
def spLaw (K : PySem.W.Frag) : Sp := fun vs H Q _ => ∃ (a : Addr) (ns : List Int), vs = [.ref a] ∧ SqL K H a (ns.map V.int) ∧ ns.length ≤ 63 ∧ ∀ H', Q (.bl true) H'
abbrev sp_law (K : PySem.W.Frag) (_ : Ad) : Sp := spLaw K
def sp_law_cell_at (K : PySem.W.Frag) (_ : Ad) : Sp := fun vs H Q _ => ∃ (l : Addr) (ns : List Int) (k : Nat), vs = [.ref l, .int k] ∧ SqL K H l (ns.map V.int) ∧ ns.length ≤ 63 ∧ Q (.int (cell ns k)) H
def sp_law_whole (_ : PySem.W.Frag) (_ : Ad) : Sp := fun vs H Q _ => ∃ i : Int, vs = [.int i] ∧ Q (.bl true) H
def sp_law_doubled (_ : PySem.W.Frag) (_ : Ad) : Sp := fun vs H Q _ => ∃ n : Nat, vs = [.int n] ∧ n ≤ 1000 ∧ Q (sI n) H
def sp_law_fitting (_ : PySem.W.Frag) (_ : Ad) : Sp := fun vs H Q _ => ∃ x : Int, vs = [.int x] ∧ x ≤ ((2 ^ 200 : Nat) : Int) ∧ (x < 1 → Q (sI 0) H) ∧ (1 ≤ x → Q (sI (fit x)) H)
section
variable {P : Program} {w : World} {K : PySem.W.Frag} {mg : Str → Option Value} {base : Heap} {a : Ad}
theorem ok_law_cell_at (T : Txt K mg a) : FnOk P w K mg base CX0 1 a.f_law_cell_at a.d_law_cell_at ["_law_script", "_law_k"] (sp_law_cell_at K a) := by
  refine T.law_cell_at.fn.ok sc_law_cell_at (fun vs H Q E h => by first | (obtain ⟨rfl, _⟩ := h; rfl) | (obtain ⟨_, rfl, _⟩ := h; rfl) | (obtain ⟨_, _, rfl, _⟩ := h; rfl) | (obtain ⟨_, _, _, rfl, _⟩ := h; rfl) | (obtain ⟨_, _, _, _, rfl, _⟩ := h; rfl) | (obtain ⟨_, _, _, _, _, rfl, _⟩ := h; rfl) | (obtain ⟨_, _, _, _, _, _, rfl, _⟩ := h; rfl) | (obtain ⟨_, _, _, _, _, _, _, rfl, _⟩ := h; rfl) | (obtain ⟨_, _, _, _, _, _, _, _, rfl, _⟩ := h; rfl) | (obtain ⟨_, _, _, _, _, _, _, _, _, rfl, _⟩ := h; rfl) | (obtain ⟨_, _, _, _, _, _, _, _, _, _, rfl, _⟩ := h; rfl) | (obtain ⟨_, _, _, _, _, _, _, _, _, _, _, rfl, _⟩ := h; rfl)) (fun cdv A outer s H vs Q E hr h => ?_)
  refine ⟨_, pss_cons (ps_if (pt_cmpR op_lt (pv 1) (pe_callB call_len_seq (by rfl) T.z_len PySem.boot_len (pa_cons (pv 0) pa_nil)) (nomark _)) (pss_one (ps_ret (pe_ix ix_list (pv 0) (pv 1) (fun _ _ => rfl)))) pss_nil)
      (pss_one (ps_ret pe_int)), ?_⟩
  obtain ⟨l, ns, k, rfl, hS, hl, q⟩ := h
  refine ⟨_, rfl, _, rfl, l, _, rfl, .inl hS, _, _, rfl, rfl, _, rfl, ?_⟩
  by_cases h : k < ns.length
  · refine iteTof (decide_eq_true (by rw [List.length_map]; omega)) ?_
    refine ⟨_, rfl, _, rfl, l, _, _, _, rfl, rfl, hS, atI_nat (by rw [List.getElem?_map, List.getElem?_eq_getElem h]; rfl), ?_⟩
    have e : cell ns k = ns[k] := by simp [cell, List.getD, List.getElem?_eq_getElem h]
    rw [e] at q
    exact q
  · refine iteFof (decide_eq_false (by rw [List.length_map]; omega)) ?_
    have e : cell ns k = 0 := by simp [cell, List.getD, List.getElem?_eq_none (Nat.le_of_not_lt h)]
    rw [e] at q
    exact q
theorem ok_law_whole (T : Txt K mg a) : FnOk P w K mg base CX0 1 a.f_law_whole a.d_law_whole ["_law_found"] (sp_law_whole K a) := by
  refine T.law_whole.fn.ok sc_law_whole (fun vs H Q E h => by first | (obtain ⟨rfl, _⟩ := h; rfl) | (obtain ⟨_, rfl, _⟩ := h; rfl) | (obtain ⟨_, _, rfl, _⟩ := h; rfl) | (obtain ⟨_, _, _, rfl, _⟩ := h; rfl) | (obtain ⟨_, _, _, _, rfl, _⟩ := h; rfl) | (obtain ⟨_, _, _, _, _, rfl, _⟩ := h; rfl) | (obtain ⟨_, _, _, _, _, _, rfl, _⟩ := h; rfl) | (obtain ⟨_, _, _, _, _, _, _, rfl, _⟩ := h; rfl) | (obtain ⟨_, _, _, _, _, _, _, _, rfl, _⟩ := h; rfl) | (obtain ⟨_, _, _, _, _, _, _, _, _, rfl, _⟩ := h; rfl) | (obtain ⟨_, _, _, _, _, _, _, _, _, _, rfl, _⟩ := h; rfl) | (obtain ⟨_, _, _, _, _, _, _, _, _, _, _, rfl, _⟩ := h; rfl)) (fun cdv A outer s H vs Q E hr h => ?_)
  refine ⟨_, pss_one (ps_ret (pe_and (pe_callB call_isi (by rfl) T.z_isinstance PyProof.Rows.boot_isinstance (pa_cons (pv 0) (pa_cons (pe_bltn (v := .ty "int") (by rfl) T.z_int PyProof.Rows.boot_int rfl) pa_nil))) (pe_one (pe_not (pe_callB call_isi (by rfl) T.z_isinstance PyProof.Rows.boot_isinstance (pa_cons (pv 0) (pa_cons (pe_bltn (v := .ty "bool") (by rfl) T.z_bool PyProof.Rows.boot_bool rfl) pa_nil))))))), ?_⟩
  obtain ⟨i, rfl, q⟩ := h
  refine ⟨_, rfl, _, _, _, _, true, rfl, .ty _, .base (.int _), kit_ty (by decide +kernel), true, rfl, iteT ?_⟩
  refine ⟨_, rfl, _, _, _, _, false, rfl, .ty _, .base (.int _), kit_ty (by decide +kernel), false, rfl, ?_⟩
  exact q
theorem ok_law_doubled (T : Txt K mg a) : FnOk P w K mg base CX0 1 a.f_law_doubled a.d_law_doubled ["_law_times"] (sp_law_doubled K a) := by
  refine T.law_doubled.fn.ok sc_law_doubled (fun vs H Q E h => by first | (obtain ⟨rfl, _⟩ := h; rfl) | (obtain ⟨_, rfl, _⟩ := h; rfl) | (obtain ⟨_, _, rfl, _⟩ := h; rfl) | (obtain ⟨_, _, _, rfl, _⟩ := h; rfl) | (obtain ⟨_, _, _, _, rfl, _⟩ := h; rfl) | (obtain ⟨_, _, _, _, _, rfl, _⟩ := h; rfl) | (obtain ⟨_, _, _, _, _, _, rfl, _⟩ := h; rfl) | (obtain ⟨_, _, _, _, _, _, _, rfl, _⟩ := h; rfl) | (obtain ⟨_, _, _, _, _, _, _, _, rfl, _⟩ := h; rfl) | (obtain ⟨_, _, _, _, _, _, _, _, _, rfl, _⟩ := h; rfl) | (obtain ⟨_, _, _, _, _, _, _, _, _, _, rfl, _⟩ := h; rfl) | (obtain ⟨_, _, _, _, _, _, _, _, _, _, _, rfl, _⟩ := h; rfl)) (fun cdv A outer s H vs Q E hr h => ?_)
  refine ⟨_, pss_cons (ps_set (i := 1) sc_law_doubled.nd rfl (Or.inl rfl) pe_int)
      (pss_cons (ps_for PassesOwn.never rfl (pi_range1 rfl T.z_range (pa_cons (pv 0) pa_nil)) (pg_name (i := 2) sc_law_doubled.nd rfl (Or.inl rfl)) (pss_one (ps_set (i := 1) sc_law_doubled.nd rfl (Or.inl rfl) (pe_op op_mulX (pv 1) pe_int))))
      (pss_one (ps_ret (pv 1)))), ?_⟩
  obtain ⟨n, rfl, hn, q⟩ := h
  refine ⟨_, rfl, n, rfl, by omega, by omega, ?_⟩
  refine for_range (n := n) (fun i σ H' => i ≤ n ∧ H' = H ∧ ∃ x, σ = [some (.int n), some (sI i), x]) ⟨Nat.zero_le _, rfl, none, rfl⟩ ?_ ?_
  · rintro i σ H' hi ⟨_, rfl, x, rfl⟩
    refine ⟨_, rfl, _, _, rfl, rfl, mulx_ok (a := i + 1) (b := 3) ?_ (by decide) (by omega), ?_⟩
    · rw [Int.natAbs_natCast]
      exact Nat.pow_lt_pow_right (by decide) (by omega)
    · refine ⟨hi, rfl, some (.int (0 + i)), ?_⟩
      have ez : ((2 ^ i : Nat) : Int) * 2 = ((2 ^ (i + 1) : Nat) : Int) := by rw [Nat.pow_succ, Int.natCast_mul]; rfl
      show [some (V.int n), some (V.int (((2 ^ i : Nat) : Int) * 2)), some (V.int (0 + i))] = _
      rw [ez]
  · rintro σ H' ⟨_, rfl, x, rfl⟩
    exact ⟨_, rfl, q⟩
theorem ok_law_fitting (T : Txt K mg a) : FnOk P w K mg base CX0 1 a.f_law_fitting a.d_law_fitting ["_law_want_here"] (sp_law_fitting K a) := by
  refine T.law_fitting.fn.ok sc_law_fitting (fun vs H Q E h => by first | (obtain ⟨rfl, _⟩ := h; rfl) | (obtain ⟨_, rfl, _⟩ := h; rfl) | (obtain ⟨_, _, rfl, _⟩ := h; rfl) | (obtain ⟨_, _, _, rfl, _⟩ := h; rfl) | (obtain ⟨_, _, _, _, rfl, _⟩ := h; rfl) | (obtain ⟨_, _, _, _, _, rfl, _⟩ := h; rfl) | (obtain ⟨_, _, _, _, _, _, rfl, _⟩ := h; rfl) | (obtain ⟨_, _, _, _, _, _, _, rfl, _⟩ := h; rfl) | (obtain ⟨_, _, _, _, _, _, _, _, rfl, _⟩ := h; rfl) | (obtain ⟨_, _, _, _, _, _, _, _, _, rfl, _⟩ := h; rfl) | (obtain ⟨_, _, _, _, _, _, _, _, _, _, rfl, _⟩ := h; rfl) | (obtain ⟨_, _, _, _, _, _, _, _, _, _, _, rfl, _⟩ := h; rfl)) (fun cdv A outer s H vs Q E hr h => ?_)
  refine ⟨_, pss_cons (ps_set (i := 1) sc_law_fitting.nd rfl (Or.inl rfl) pe_int)
      (pss_cons (ps_while PassesOwn.never (pt_cmpR op_lt (pv 1) (pv 0) (nomark _)) (pss_one (ps_set (i := 1) sc_law_fitting.nd rfl (Or.inl rfl) (pe_op op_mulX (pv 1) pe_int))))
      (pss_one (ps_ret (pv 1)))), ?_⟩
  obtain ⟨x, rfl, hx, q1, q2⟩ := h
  refine while_by (fun σ H' => H' = H ∧ ∃ n : Nat, σ = [some (.int x), some (sI n)] ∧ (n = 0 ∨ ((2 ^ n : Nat) : Int) < 2 * x)) (fun σ H' => match σ with | [_, some (.int j)] => (x - j).toNat | _ => 0) ⟨rfl, 0, rfl, .inl rfl⟩ ?_ ?_
  · rintro σ H' ⟨rfl, n, rfl, hn⟩
    have pn : 0 < 2 ^ n := Nat.pow_pos (by decide)
    refine ⟨_, rfl, _, rfl, _, _, rfl, rfl, _, rfl, ?_⟩
    by_cases c : ((2 ^ n : Nat) : Int) < x
    · refine iteTof (decide_eq_true c) ?_
      have n200 : n < 200 := by
        apply Classical.byContradiction
        intro z
        have : 2 ^ 200 ≤ 2 ^ n := Nat.pow_le_pow_right (by decide) (by omega)
        generalize 2 ^ n = p at *
        generalize 2 ^ 200 = p2 at *
        omega
      have ez : ((2 ^ n : Nat) : Int) * 2 = ((2 ^ (n + 1) : Nat) : Int) := by rw [Nat.pow_succ, Int.natCast_mul]; rfl
      refine ⟨_, rfl, _, _, rfl, rfl, mulx_ok (a := 201) (b := 3) (by rw [Int.natAbs_natCast]; exact Nat.pow_lt_pow_right (by decide) (by omega)) (by decide) (by decide), ?_⟩
      refine ⟨⟨rfl, n + 1, ?_, .inr ?_⟩, ?_⟩
      · show [some (V.int x), some (V.int (((2 ^ n : Nat) : Int) * 2))] = _
        rw [ez]
      · rw [← ez]
        omega
      · show (x - ((2 ^ n : Nat) : Int) * 2).toNat < (x - ((2 ^ n : Nat) : Int)).toNat
        omega
    · refine iteFof (decide_eq_false c) ?_
      refine ⟨_, rfl, ?_⟩
      by_cases h1 : 1 ≤ x
      · have e : fit x = n := by
          refine fit_uniq h1 (by omega) ?_
          rcases hn with z | z
          · subst z
            show ((1 : Nat) : Int) < 2 * x
            omega
          · exact z
        rw [← e]
        exact q2 h1
      · have e : n = 0 := by
          rcases hn with z | z
          · exact z
          · omega
        subst e
        exact q1 (by omega)
  · rintro σ H' Q1 Q2 hQ ⟨v, hv, y, hy, i, j, e1, e2, k, ek, h⟩
    exact ⟨v, hv, y, hy, i, j, e1, e2, k, ek, by cases k <;> exact hQ _ _ (by simpa using h)⟩
end
/-! ### the laws' yard: its size, the wishes, the deeds -/
theorem seq_keep {K : PySem.W.Frag} {H H' : Hp} {b : Addr} {xs : List V} (h : SqL K H b xs) (k : ∀ o, H b = some o → H' b = some o) : SqL K H' b xs := by
  rcases h with (h | ⟨o, h⟩) | h
  · exact .inl (.inl (k _ h))
  · exact .inl (.inr ⟨o, k _ h⟩)
  · exact .inr h
/-- the script stays -/
theorem seq_only {K : PySem.W.Frag} {S : List Addr} {H0 H H' : Hp} {b : Addr} {xs : List V} (h : SqL K H b xs) (o : Only S H H') (n : b ∉ S) : SqL K H' b xs := seq_keep h fun _ e => o _ _ e n
def HeldAt (S : List Addr) (H : Hp) (l : Addr) (held : List PN) : Prop := l ∉ S ∧ ∃ ts : List Addr, H l = some (.lst (ts.map V.ref)) ∧ Tups H ts (held.map toI)
theorem HeldAt.only {a : Ad} {Y : YA} {d : Nat} {os held : List PN} {H H' : Hp} {l : Addr} (h : HeldAt (own Y d) H l held) (ya : YardAt a Y d os H) (o : Only (own Y d) H H') : HeldAt (own Y d) H' l held := by
  obtain ⟨n, ts, h1, h2⟩ := h
  exact ⟨n, ts, o _ _ h1 n, h2.keep fun t xs e => o _ _ e (ya.off e (by intro xs z; cases z) (by intro xs z; cases z))⟩
theorem HeldAt.same {S : List Addr} {held : List PN} {H H' : Hp} {l : Addr} (h : HeldAt S H l held) (k : ∀ b o, H b = some o → H' b = some o) : HeldAt S H' l held := by
  obtain ⟨n, ts, h1, h2⟩ := h
  exact ⟨n, ts, k _ _ h1, h2.keep fun t xs e => k _ _ e⟩
theorem toI_inj {p q : PN} (h : toI p = toI q) : p = q := by
  have h1 : (p.1 : Int) = (q.1 : Int) := congrArg Prod.fst h
  have h2 : ((2 ^ p.2 : Nat) : Int) = ((2 ^ q.2 : Nat) : Int) := congrArg Prod.snd h
  exact Prod.ext (by omega) (pow_inj h2)
theorem Good.nodup {d : Nat} {os : List PN} (g : Good d os) : os.Nodup := g.disj.imp fun {p q} h e => h p.1 rfl (by rw [e])
theorem Best.perm {os os' : List PN} {d k m n : Nat} (b : Best os d k m n) (s : os'.Perm os) : Best os' d k m n := by
  have e := Oc.perm s
  exact ⟨b.le, by rw [e]; exact b.mx, b.al, by rw [e]; exact b.small, by rw [e]; exact b.first⟩
theorem Best.uniq {os : List PN} {d k m n m' n' : Nat} (b : Best os d k m n) (b' : Best os d k m' n') : m = m' ∧ n = n' := by
  have e : m = m' := by
    rcases Nat.lt_trichotomy m m' with z | z | z
    · exact absurd b.mx (b'.small m _ b.le z)
    · exact z
    · exact absurd b'.mx (b.small m' _ b'.le z)
  subst e
  refine ⟨rfl, Nat.le_antisymm ?_ ?_⟩
  · have := b.first _ b'.mx
    rw [b'.al] at this
    exact this
  · have := b'.first _ b.mx
    rw [b.al] at this
    exact this
theorem outs_perm {os os' : List PN} (s : os'.Perm os) (n : Nat) : (outs os' n).Perm (outs os n) := s.filter _
theorem Fits.perm {os os' : List PN} {n k : Nat} (f : Fits os n k) (s : os'.Perm os) : Fits os' n k := ⟨f.1, by rw [Oc.perm (outs_perm s n)]; exact f.2⟩
theorem outs_piece {d : Nat} {os : List PN} {n k : Nat} (g : Good d os) (m : (n, k) ∈ os) : os.filter (fun q => decide (q ≠ (n, k))) = outs os n := by
  unfold outs
  refine List.filter_congr fun q hq => ?_
  rw [decide_eq_decide]
  constructor
  · intro h e
    exact h (g.key hq m e)
  · intro h e
    exact h (by rw [e])
theorem outr_perm {d : Nat} {os : List PN} {n h k : Nat} (g : Good d os) (m : (n, h) ∈ os) (hk : k ≤ d) (f : Fits os n k) : (outs os n ++ [(n, k)]).Perm (outr os n k) := by
  have g2 := Good.outr g m hk f.1 f.2
  refine (List.perm_ext_iff_of_nodup ?_ g2.nodup).mpr fun q => ?_
  · refine List.nodup_append.mpr ⟨(g.sub List.filter_sublist).nodup, by simp, fun p hp q hq e => ?_⟩
    have := List.mem_singleton.mp hq
    subst this
    subst e
    have := (List.mem_filter.mp hp).2
    simp at this
  · rw [outr_mem g m, List.mem_append, List.mem_singleton]
theorem outr_len (os : List PN) (n k : Nat) : (outr os n k).length = os.length := by unfold outr; rw [List.length_map]
/-- the wish that a cell makes -/
def wantF (c : Int) (d : Nat) : Int :=
  if c % 8 < 3 then 1 + c / 8 % 9
  else if c % 8 < 6 then ((2 ^ d : Nat) : Int) / ((2 ^ (c / 8 % 7).toNat : Nat) : Int) + c / 8 / 7 % 3 - 1
  else if c % 8 < 7 then 1 + (c / 8).fmod ((2 ^ d : Nat) : Int)
  else ([0, -1 - c / 8 % 10 ^ 30, ((2 ^ d : Nat) : Int) + 1 + c / 8 % 10 ^ 20] : List Int).getD (c / 8 % 3).toNat 0
theorem wantF_le {c : Int} {d : Nat} (h : d ≤ 60) : wantF c d ≤ ((2 ^ 200 : Nat) : Int) := by
  have p := pow60 h
  have pd : 0 < 2 ^ d := Nat.pow_pos (by decide)
  have big : (1152921504606846976 : Int) + 1 + 100000000000000000000 ≤ ((2 ^ 200 : Nat) : Int) := by decide
  have e20 : (10 : Int) ^ 20 = 100000000000000000000 := by decide
  have e30 : (10 : Int) ^ 30 = 1000000000000000000000000000000 := by decide
  generalize ((2 ^ 200 : Nat) : Int) = B at big
  unfold wantF
  rw [e20, e30]
  have q1 : 0 < 2 ^ (c / 8 % 7).toNat := Nat.pow_pos (by decide)
  generalize 2 ^ (c / 8 % 7).toNat = t at q1
  generalize 2 ^ d = n at p pd
  have hdiv : (n : Int) / (t : Int) ≤ n := Int.ediv_le_self _ (by omega)
  split
  · omega
  · split
    · omega
    · split
      · rw [Int.fmod_eq_emod_of_nonneg _ (by omega)]
        have := Int.emod_lt_of_pos (c / 8) (show (0 : Int) < (n : Int) by omega)
        omega
      · have h3 : (c / 8 % 3).toNat < 3 := by omega
        generalize (c / 8 % 3).toNat = i at h3
        match i, h3 with
        | 0, _ => show (0 : Int) ≤ B; omega
        | 1, _ => show -1 - c / 8 % 1000000000000000000000000000000 ≤ B; omega
        | 2, _ => show (n : Int) + 1 + c / 8 % 100000000000000000000 ≤ B; omega
/-- where a wish is granted, if it is -/
noncomputable def giveF (d : Nat) (held : List PN) (x : Int) : Option Nat := by
  classical
  exact if h : 1 ≤ x ∧ x ≤ ((2 ^ d : Nat) : Int) ∧ ∃ n m, Best held d (fit x) m n then some (Classical.choose h.2.2) else none
theorem giveF_some {d : Nat} {held : List PN} {x : Int} {m n : Nat} (h1 : 1 ≤ x) (h2 : x ≤ ((2 ^ d : Nat) : Int)) (b : Best held d (fit x) m n) : giveF d held x = some n := by
  unfold giveF
  have h : 1 ≤ x ∧ x ≤ ((2 ^ d : Nat) : Int) ∧ ∃ n m, Best held d (fit x) m n := ⟨h1, h2, n, m, b⟩
  rw [dif_pos h]
  obtain ⟨m', b'⟩ := Classical.choose_spec h.2.2
  rw [(b'.uniq b).2]
theorem giveF_none {d : Nat} {held : List PN} {x : Int} (h : x < 1 ∨ x > ((2 ^ d : Nat) : Int) ∨ ∀ j i, fit x ≤ j → ¬ Mx (Oc held) d j i) : giveF d held x = none := by
  unfold giveF
  rw [dif_neg]
  rintro ⟨h1, h2, n, m, b⟩
  rcases h with z | z | z
  · omega
  · omega
  · exact z m _ b.le b.mx
/-- a deed -/
noncomputable def doneF (d : Nat) (held : List PN) (c : Int) : List PN := by
  classical
  exact
    if c % 4 < 2 ∨ held = [] then
      match giveF d held (wantF (c / 4) d) with
      | none => held
      | some n => held ++ [(n, fit (wantF (c / 4) d))]
    else
      let p := held.getD ((c / 4).fmod (held.length : Int)).toNat (0, 0)
      let left := held.filter fun q => decide (q ≠ p)
      if c % 4 = 2 then left
      else
        let x := wantF (c / 4 / (held.length : Int)) d
        if 1 ≤ x ∧ x ≤ ((2 ^ d : Nat) : Int) ∧ Fits held p.1 (fit x) then left ++ [(p.1, fit x)] else held
def sp_law_room (K : PySem.W.Frag) (_ : Ad) : Sp := fun vs H Q _ => ∃ (l : Addr) (ns : List Int) (i j : Int), vs = [.ref l, .int i, .int j] ∧ SqL K H l (ns.map V.int) ∧ ns.length ≤ 63 ∧ Q (.int i) H
def sp_law_yard_size (K : PySem.W.Frag) (_ : Ad) : Sp := fun vs H Q _ => ∃ (l : Addr) (ns : List Int), vs = [.ref l] ∧ SqL K H l (ns.map V.int) ∧ ns.length ≤ 63 ∧ ∀ d : Nat, d ≤ 60 → Q (sI d) H
def sp_law_want (_ : PySem.W.Frag) (_ : Ad) : Sp := fun vs H Q _ => ∃ (c : Int) (d : Nat), vs = [.int c, sI d] ∧ d ≤ 60 ∧ ∀ H', (∀ b o, H b = some o → H' b = some o) → Q (.int (wantF c d)) H'
def sp_law_done (_ : PySem.W.Frag) (a : Ad) : Sp := fun vs H Q _ => ∃ (Y : YA) (d : Nat) (os held : List PN) (l : Addr) (c : Int), vs = [.ref Y.y, .ref l, .int c, sI d] ∧ YardAt a Y d os H ∧ HeldAt (own Y d) H l held ∧ held.Perm os ∧ os.length < 50000 ∧
  ∀ (os' : List PN) (l' : Addr) (H' : Hp), YardAt a Y d os' H' → HeldAt (own Y d) H' l' (doneF d held c) → (doneF d held c).Perm os' → os'.length ≤ os.length + 1 → Only (own Y d) H H' → Q (.ref l') H'
section
variable {P : Program} {w : World} {K : PySem.W.Frag} {mg : Str → Option Value} {base : Heap} {a : Ad}
theorem ok_law_yard_size (T : Txt K mg a) : FnOk P w K mg base CX0 2 a.f_law_yard_size a.d_law_yard_size ["_law_script"] (sp_law_yard_size K a) := by
  have G_law_cell_at : FnOk P w K mg base CX0 1 a.f_law_cell_at a.d_law_cell_at ["_law_script", "_law_k"] (sp_law_cell_at K a) := ok_law_cell_at T
  have G_law_doubled : FnOk P w K mg base CX0 1 a.f_law_doubled a.d_law_doubled ["_law_times"] (sp_law_doubled K a) := ok_law_doubled T
  refine T.law_yard_size.fn.ok sc_law_yard_size (fun vs H Q E h => by first | (obtain ⟨rfl, _⟩ := h; rfl) | (obtain ⟨_, rfl, _⟩ := h; rfl) | (obtain ⟨_, _, rfl, _⟩ := h; rfl) | (obtain ⟨_, _, _, rfl, _⟩ := h; rfl) | (obtain ⟨_, _, _, _, rfl, _⟩ := h; rfl) | (obtain ⟨_, _, _, _, _, rfl, _⟩ := h; rfl) | (obtain ⟨_, _, _, _, _, _, rfl, _⟩ := h; rfl) | (obtain ⟨_, _, _, _, _, _, _, rfl, _⟩ := h; rfl) | (obtain ⟨_, _, _, _, _, _, _, _, rfl, _⟩ := h; rfl) | (obtain ⟨_, _, _, _, _, _, _, _, _, rfl, _⟩ := h; rfl) | (obtain ⟨_, _, _, _, _, _, _, _, _, _, rfl, _⟩ := h; rfl) | (obtain ⟨_, _, _, _, _, _, _, _, _, _, _, rfl, _⟩ := h; rfl)) (fun cdv A outer s H vs Q E hr h => ?_)
  refine ⟨_, pss_cons (ps_set (i := 1) sc_law_yard_size.nd rfl (Or.inl rfl) (pe_op op_mod (pe_call G_law_cell_at (hr.mono (by decide)) rfl T.law_cell_at.mg T.law_cell_at.fn.kp T.law_cell_at.bd .nil pass0 (pa_cons (pv 0) (pa_cons pe_int pa_nil))) pe_int))
      (pss_cons (ps_set (i := 2) sc_law_yard_size.nd rfl (Or.inl rfl) (pe_call G_law_cell_at (hr.mono (by decide)) rfl T.law_cell_at.mg T.law_cell_at.fn.kp T.law_cell_at.bd .nil pass0 (pa_cons (pv 0) (pa_cons pe_int pa_nil))))
      (pss_cons (ps_if (pt_cmpR op_lt (pv 1) pe_int (nomark _)) (pss_one (ps_ret (pe_call G_law_doubled (hr.mono (by decide)) rfl T.law_doubled.mg T.law_doubled.fn.kp T.law_doubled.bd .nil pass0 (pa_cons (pe_op op_mod (pv 2) pe_int) pa_nil)))) pss_nil)
      (pss_cons (ps_if (pt_cmpR op_lt (pv 1) pe_int (nomark _)) (pss_one (ps_ret (pe_call G_law_doubled (hr.mono (by decide)) rfl T.law_doubled.mg T.law_doubled.fn.kp T.law_doubled.bd .nil pass0 (pa_cons (pe_op op_mod (pv 2) pe_int) pa_nil)))) pss_nil)
      (pss_cons (ps_if (pt_cmpR op_lt (pv 1) pe_int (nomark _)) (pss_one (ps_ret (pe_call G_law_doubled (hr.mono (by decide)) rfl T.law_doubled.mg T.law_doubled.fn.kp T.law_doubled.bd .nil pass0 (pa_cons (pe_op op_add pe_int (pe_op op_mod (pv 2) pe_int)) pa_nil)))) pss_nil)
      (pss_one (ps_ret (pe_op op_pow pe_int pe_int))))))), ?_⟩
  obtain ⟨l, ns, rfl, hS, hl, q⟩ := h
  refine ⟨_, rfl, l, ns, 0, rfl, hS, hl, _, _, rfl, rfl, by show (0 : Int) < 8; decide, ?_⟩
  refine ⟨_, rfl, l, ns, 1, rfl, hS, hl, ?_⟩
  obtain ⟨m8, e8, l8⟩ := emod_nat (cell ns 1) (n := 8) (by decide)
  obtain ⟨m61, e61, l61⟩ := emod_nat (cell ns 1) (n := 61) (by decide)
  obtain ⟨m21, e21, l21⟩ := emod_nat (cell ns 1) (n := 21) (by decide)
  refine ⟨_, rfl, _, _, rfl, rfl, _, rfl, ite2 (fun _ => ?_) (fun _ => ?_)⟩
  · refine ⟨_, rfl, _, _, rfl, rfl, by show (0 : Int) < 8; decide, m8, ?_, by omega, q m8 (by omega)⟩
    show [V.int (cell ns 1 % 8)] = [V.int (m8 : Int)]
    rw [show cell ns 1 % 8 = (m8 : Int) from e8]
  refine ⟨_, rfl, _, _, rfl, rfl, _, rfl, ite2 (fun _ => ?_) (fun _ => ?_)⟩
  · refine ⟨_, rfl, _, _, rfl, rfl, by show (0 : Int) < 61; decide, m61, ?_, by omega, q m61 (by omega)⟩
    show [V.int (cell ns 1 % 61)] = [V.int (m61 : Int)]
    rw [show cell ns 1 % 61 = (m61 : Int) from e61]
  refine ⟨_, rfl, _, _, rfl, rfl, _, rfl, ite2 (fun _ => ?_) (fun _ => ?_)⟩
  · refine ⟨_, rfl, _, _, rfl, rfl, by show (0 : Int) < 21; decide, _, _, rfl, rfl, 40 + m21, ?_, by omega, q (40 + m21) (by omega)⟩
    show [V.int (40 + cell ns 1 % 21)] = [V.int ((40 + m21 : Nat) : Int)]
    rw [show cell ns 1 % 21 = (m21 : Int) from e21]
    rfl
  · exact ⟨_, _, rfl, rfl, ⟨by decide, by decide, by decide⟩, q 60 (by omega)⟩
theorem ok_law_want (T : Txt K mg a) : FnOk P w K mg base CX0 2 a.f_law_want a.d_law_want ["_law_cell", "_law_cells"] (sp_law_want K a) := by
  have G_law_doubled : FnOk P w K mg base CX0 1 a.f_law_doubled a.d_law_doubled ["_law_times"] (sp_law_doubled K a) := ok_law_doubled T
  refine T.law_want.fn.ok sc_law_want (fun vs H Q E h => by first | (obtain ⟨rfl, _⟩ := h; rfl) | (obtain ⟨_, rfl, _⟩ := h; rfl) | (obtain ⟨_, _, rfl, _⟩ := h; rfl) | (obtain ⟨_, _, _, rfl, _⟩ := h; rfl) | (obtain ⟨_, _, _, _, rfl, _⟩ := h; rfl) | (obtain ⟨_, _, _, _, _, rfl, _⟩ := h; rfl) | (obtain ⟨_, _, _, _, _, _, rfl, _⟩ := h; rfl) | (obtain ⟨_, _, _, _, _, _, _, rfl, _⟩ := h; rfl) | (obtain ⟨_, _, _, _, _, _, _, _, rfl, _⟩ := h; rfl) | (obtain ⟨_, _, _, _, _, _, _, _, _, rfl, _⟩ := h; rfl) | (obtain ⟨_, _, _, _, _, _, _, _, _, _, rfl, _⟩ := h; rfl) | (obtain ⟨_, _, _, _, _, _, _, _, _, _, _, rfl, _⟩ := h; rfl)) (fun cdv A outer s H vs Q E hr h => ?_)
  refine ⟨_, pss_cons (ps_set (i := 2) sc_law_want.nd rfl (Or.inl rfl) (pe_op op_mod (pv 0) pe_int))
      (pss_cons (ps_set (i := 3) sc_law_want.nd rfl (Or.inl rfl) (pe_op op_fdiv (pv 0) pe_int))
      (pss_cons (ps_if (pt_cmpR op_lt (pv 2) pe_int (nomark _)) (pss_one (ps_ret (pe_op op_add pe_int (pe_op op_mod (pv 3) pe_int)))) pss_nil)
      (pss_cons (ps_if (pt_cmpR op_lt (pv 2) pe_int (nomark _)) (pss_one (ps_ret (pe_op op_sub (pe_op op_add (pe_op op_fdivW (pv 1) (pe_call G_law_doubled (hr.mono (by decide)) rfl T.law_doubled.mg T.law_doubled.fn.kp T.law_doubled.bd .nil pass0 (pa_cons (pe_op op_mod (pv 3) pe_int) pa_nil))) (pe_op op_mod (pe_op op_fdiv (pv 3) pe_int) pe_int)) pe_int))) pss_nil)
      (pss_cons (ps_if (pt_cmpR op_lt (pv 2) pe_int (nomark _)) (pss_one (ps_ret (pe_op op_add pe_int (pe_op op_modN (pv 3) (pv 1))))) pss_nil)
      (pss_one (ps_ret (pe_ix ix_list (pe_lst (pa_cons pe_int (pa_cons (pe_op op_sub (pe_un un_neg pe_int) (pe_op op_mod (pv 3) (pe_op op_pow pe_int pe_int))) (pa_cons (pe_op op_add (pe_op op_add (pv 1) pe_int) (pe_op op_mod (pv 3) (pe_op op_pow pe_int pe_int))) pa_nil)))) (pe_op op_mod (pv 3) pe_int) (fun _ _ => rfl)))))))), ?_⟩
  obtain ⟨c, d, rfl, d60, q⟩ := h
  have pd : 0 < 2 ^ d := Nat.pow_pos (by decide)
  have p60 := pow60 d60
  refine ⟨_, rfl, _, _, rfl, rfl, by show (0 : Int) < 8; decide, ?_⟩
  refine ⟨_, rfl, _, _, rfl, rfl, ⟨by decide, by decide⟩, ?_⟩
  have q0 := q H fun b o e => e
  obtain ⟨m7, e7, l7⟩ := emod_nat (c / 8) (n := 7) (by decide)
  obtain ⟨m3, e3, l3⟩ := emod_nat (c / 8) (n := 3) (by decide)
  have p7 : 0 < 2 ^ m7 := Nat.pow_pos (by decide)
  refine ⟨_, rfl, _, _, rfl, rfl, _, rfl, ite2 (fun h1 => ?_) (fun h1 => ?_)⟩
  · have h1 : c % 8 < 3 := of_decide_eq_true h1
    unfold wantF at q0
    rw [if_pos h1] at q0
    exact ⟨_, rfl, _, _, rfl, rfl, by show (0 : Int) < 9; decide, _, _, rfl, rfl, q0⟩
  have h1 : ¬ c % 8 < 3 := fun z => h1 (decide_eq_true z)
  refine ⟨_, rfl, _, _, rfl, rfl, _, rfl, ite2 (fun h2 => ?_) (fun h2 => ?_)⟩
  · have h2 : c % 8 < 6 := of_decide_eq_true h2
    unfold wantF at q0
    rw [if_neg h1, if_pos h2, show c / 8 % 7 = (m7 : Int) from e7, Int.toNat_natCast] at q0
    refine ⟨_, rfl, _, rfl, _, _, rfl, rfl, by show (0 : Int) < 7; decide, m7, ?_, by omega, _, _, rfl, rfl, wide_div (b := 8) (by omega) (by rw [Int.natAbs_natCast]; exact Nat.pow_lt_pow_right (by decide) (by omega)) (by decide) (by decide), ?_⟩
    · show [V.int (c / 8 % 7)] = [V.int (m7 : Int)]
      rw [show c / 8 % 7 = (m7 : Int) from e7]
    · exact ⟨_, rfl, _, _, rfl, rfl, ⟨by decide, by decide⟩, _, _, rfl, rfl, by show (0 : Int) < 3; decide, _, _, rfl, rfl, _, _, rfl, rfl, q0⟩
  have h2 : ¬ c % 8 < 6 := fun z => h2 (decide_eq_true z)
  refine ⟨_, rfl, _, _, rfl, rfl, _, rfl, ite2 (fun h3 => ?_) (fun h3 => ?_)⟩
  · have h3 : c % 8 < 7 := of_decide_eq_true h3
    unfold wantF at q0
    rw [if_neg h1, if_neg h2, if_pos h3] at q0
    exact ⟨_, rfl, _, rfl, _, _, rfl, rfl, by show ((2 ^ d : Nat) : Int) ≠ 0; omega, _, _, rfl, rfl, q0⟩
  have h3 : ¬ c % 8 < 7 := fun z => h3 (decide_eq_true z)
  refine ⟨_, rfl, _, rfl, _, _, rfl, rfl, ⟨by decide, by decide, by decide⟩, _, _, rfl, rfl, by show (0 : Int) < 10 ^ 30; decide, _, _, rfl, rfl, ?_⟩
  refine ⟨_, rfl, _, _, rfl, rfl, _, rfl, _, _, rfl, rfl, ⟨by decide, by decide, by decide⟩, _, _, rfl, rfl, by show (0 : Int) < 10 ^ 20; decide, _, _, rfl, rfl, by show 3 ≤ sizeLine; decide, fun p hp => ?_⟩
  have q1 := q (L2.upd H p (.lst [.int 0, .int (-1 - c / 8 % 10 ^ 30), .int (((2 ^ d : Nat) : Int) + 1 + c / 8 % 10 ^ 20)])) fun b o e => by rw [upd_ne (ne_of_none e hp)]; exact e
  unfold wantF at q1
  rw [if_neg h1, if_neg h2, if_neg h3, show c / 8 % 3 = (m3 : Int) from e3, Int.toNat_natCast] at q1
  refine ⟨_, rfl, _, _, rfl, rfl, by show (0 : Int) < 3; decide, p, _, _, .int (([0, -1 - c / 8 % 10 ^ 30, ((2 ^ d : Nat) : Int) + 1 + c / 8 % 10 ^ 20] : List Int).getD m3 0), rfl, rfl, SqL.of upd_same, at_of (j := m3) e3 ?_, q1⟩
  match m3, l3 with
  | 0, _ => rfl
  | 1, _ => rfl
  | 2, _ => rfl
end
/-! ### a deed, and what is out at first -/
theorem doneF_give {d : Nat} {held : List PN} {c : Int} (h : c % 4 < 2 ∨ held = []) : doneF d held c = match giveF d held (wantF (c / 4) d) with | none => held | some n => held ++ [(n, fit (wantF (c / 4) d))] := by
  unfold doneF
  rw [if_pos h]
  all_goals rfl
theorem doneF_back {d : Nat} {held : List PN} {c : Int} (h : ¬ (c % 4 < 2 ∨ held = [])) (h2 : c % 4 = 2) {i : Nat} (hi : (c / 4).fmod (held.length : Int) = (i : Int)) {p : PN} (e : held[i]? = some p) : doneF d held c = held.filter fun q => decide (q ≠ p) := by
  have ep : held.getD ((c / 4).fmod (held.length : Int)).toNat (0, 0) = p := by rw [hi, Int.toNat_natCast, List.getD, e]; rfl
  unfold doneF
  simp only []
  rw [if_neg h, if_pos h2, ep]
theorem doneF_size {d : Nat} {held : List PN} {c : Int} (h : ¬ (c % 4 < 2 ∨ held = [])) (h2 : ¬ c % 4 = 2) {i : Nat} (hi : (c / 4).fmod (held.length : Int) = (i : Int)) {p : PN} (e : held[i]? = some p) :
    ((1 ≤ wantF (c / 4 / (held.length : Int)) d ∧ wantF (c / 4 / (held.length : Int)) d ≤ ((2 ^ d : Nat) : Int) ∧ Fits held p.1 (fit (wantF (c / 4 / (held.length : Int)) d))) →
      doneF d held c = (held.filter fun q => decide (q ≠ p)) ++ [(p.1, fit (wantF (c / 4 / (held.length : Int)) d))]) ∧
    (¬ (1 ≤ wantF (c / 4 / (held.length : Int)) d ∧ wantF (c / 4 / (held.length : Int)) d ≤ ((2 ^ d : Nat) : Int) ∧ Fits held p.1 (fit (wantF (c / 4 / (held.length : Int)) d))) → doneF d held c = held) := by
  have ep : held.getD ((c / 4).fmod (held.length : Int)).toNat (0, 0) = p := by rw [hi, Int.toNat_natCast, List.getD, e]; rfl
  constructor
  · intro z
    unfold doneF
    simp only []
    rw [if_neg h, if_neg h2, ep, if_pos z]
  · intro z
    unfold doneF
    simp only []
    rw [if_neg h, if_neg h2, ep, if_neg z]
theorem filter_take {α : Type} {f : α → Bool} {l : List α} {i : Nat} {x : α} (h : l[i]? = some x) : (l.take (i + 1)).filter f = (l.take i).filter f ++ (if f x then [x] else []) := by
  rw [List.take_add_one, h, Option.toList_some, List.filter_append]
  congr 1
  by_cases e : f x = true
  · rw [List.filter_cons_of_pos e, if_pos e]; rfl
  · rw [List.filter_cons_of_neg e, if_neg e]; rfl
section
variable {P : Program} {w : World} {K : PySem.W.Frag} {mg : Str → Option Value} {base : Heap} {a : Ad}
theorem ok_law_done (T : Txt K mg a) : FnOk P w K mg base CX0 5 a.f_law_done a.d_law_done ["_law_yard", "_law_held", "_law_cell", "_law_cells"] (sp_law_done K a) := by
  have G_Yard_give : FnOk P w K mg base (L2.CX P w) 4 a.f_Yard_give a.d_Yard_give ["self", "want"] (sp_Yard_give K a) := ok_Yard_give T
  have G_Yard_resize : FnOk P w K mg base (L2.CX P w) 4 a.f_Yard_resize a.d_Yard_resize ["self", "at", "want"] (sp_Yard_resize K a) := ok_Yard_resize T
  have G_Yard_take_back : FnOk P w K mg base (L2.CX P w) 4 a.f_Yard_take_back a.d_Yard_take_back ["self", "at"] (sp_Yard_take_back K a) := ok_Yard_take_back T
  have G_law_fitting : FnOk P w K mg base CX0 1 a.f_law_fitting a.d_law_fitting ["_law_want_here"] (sp_law_fitting K a) := ok_law_fitting T
  have G_law_want : FnOk P w K mg base CX0 2 a.f_law_want a.d_law_want ["_law_cell", "_law_cells"] (sp_law_want K a) := ok_law_want T
  refine T.law_done.fn.ok sc_law_done (fun vs H Q E h => by first | (obtain ⟨rfl, _⟩ := h; rfl) | (obtain ⟨_, rfl, _⟩ := h; rfl) | (obtain ⟨_, _, rfl, _⟩ := h; rfl) | (obtain ⟨_, _, _, rfl, _⟩ := h; rfl) | (obtain ⟨_, _, _, _, rfl, _⟩ := h; rfl) | (obtain ⟨_, _, _, _, _, rfl, _⟩ := h; rfl) | (obtain ⟨_, _, _, _, _, _, rfl, _⟩ := h; rfl) | (obtain ⟨_, _, _, _, _, _, _, rfl, _⟩ := h; rfl) | (obtain ⟨_, _, _, _, _, _, _, _, rfl, _⟩ := h; rfl) | (obtain ⟨_, _, _, _, _, _, _, _, _, rfl, _⟩ := h; rfl) | (obtain ⟨_, _, _, _, _, _, _, _, _, _, rfl, _⟩ := h; rfl) | (obtain ⟨_, _, _, _, _, _, _, _, _, _, _, rfl, _⟩ := h; rfl)) (fun cdv A outer s H vs Q E hr h => ?_)
  refine ⟨_, pss_cons (ps_set (i := 4) sc_law_done.nd rfl (Or.inl rfl) (pe_op op_fdiv (pv 2) pe_int))
      (pss_cons (ps_if (PW.pt (pw_or (pt_cmpR op_lt (pe_op op_mod (pv 2) pe_int) pe_int (nomark _)) (pw_or1 (pt_cmpR (op_eqD hr.units) (pv 1) (pe_lst pa_nil) (nomark _))))) (pss_cons (ps_set (i := 5) sc_law_done.nd rfl (Or.inl rfl) (pe_call G_law_want (hr.mono (by decide)) rfl T.law_want.mg T.law_want.fn.kp T.law_want.bd .nil pass0 (pa_cons (pv 4) (pa_cons (pv 3) pa_nil))))
      (pss_cons (ps_try_only (tb := fun W => (tAsg (tMethS a.c_Yard "give" (sp_Yard_give K a) (WE W) (tVar 0) (tCons (tVar 5) tNil)) (gName 6))) (ts := fun _ _ _ => (tRet (tVar 1))) (Wout := fun _ _ _ _ => False) rfl rfl ⟨rfl, by decide, Or.inl T.e_YardError.g⟩ takes0 (fun W pn xe tk _ => (pss_one (ps_set (i := 6) sc_law_done.nd rfl (Or.inl rfl) (pe_methS (pv 0) T.cl_Yard T.m_Yard_give G_Yard_give (hr.mono (by decide)) T.b_Yard_give (fun σ => passAt tk σ) (by exact (pa_cons (pv 5) pa_nil)))))) (fun _ _ _ _ _ _ _ => (pss_one (ps_ret (pv 1)))))
      (pss_one (ps_ret (pe_op op_cat (pv 1) (pe_lst (pa_cons (pe_tup (pa_cons (pv 6) (pa_cons (pe_call G_law_fitting (hr.mono (by decide)) rfl T.law_fitting.mg T.law_fitting.fn.kp T.law_fitting.bd .nil pass0 (pa_cons (pv 5) pa_nil)) pa_nil))) pa_nil))))))) pss_nil)
      (pss_cons (ps_set (i := 7) sc_law_done.nd rfl (Or.inr rfl) (pe_ix ix_list (pv 1) (pe_op op_modN (pv 4) (pe_callB call_len_seq (by rfl) T.z_len PySem.boot_len (pa_cons (pv 1) pa_nil))) (fun _ _ => rfl)))
      (pss_cons (ps_setLc (i := 8) (own := [("_law_one", 10)]) (g := gName 10) (tt := (tTest (tOp (rNeD K) (tVar 10) (tVar 7)))) rfl sc_law_done.nd rfl rfl (sw_true rfl rfl rfl (by decide +kernel)) (pi_list (pv 1)) (blkOk_by (own := [("_law_one", 10)]) (N := ["_law_yard", "_law_held", "_law_cell", "_law_cells", "_law_rest", "_law_want_here", "_law_at", "_law_piece", "_law_left", "_law_size", "_law_one"]) (sc := defScope s_law_done) (by decide +kernel)) (fun _ _ _ _ _ => (pg_name (i := 10) sc_law_done.nd rfl (Or.inl rfl))) (fun _ _ _ _ _ => (pts_one (pt_cmpR (op_neD hr.units) (pv 10) (pv 7) (nomark _)))) (fun _ _ _ _ _ => (pv 10)))
      (pss_cons (ps_if (pt_cmpR op_eq (pe_op op_mod (pv 2) pe_int) pe_int (nomark _)) (pss_cons (ps_expr (pe_meth (pv 0) T.cl_Yard T.m_Yard_take_back G_Yard_take_back (hr.mono (by decide)) T.b_Yard_take_back .nil passL (pa_cons (pe_ix ix_tup (pv 7) pe_int (fun _ _ => rfl)) pa_nil)))
      (pss_one (ps_ret (pv 8)))) pss_nil)
      (pss_cons (ps_set (i := 5) sc_law_done.nd rfl (Or.inl rfl) (pe_call G_law_want (hr.mono (by decide)) rfl T.law_want.mg T.law_want.fn.kp T.law_want.bd .nil pass0 (pa_cons (pe_op op_fdivW (pv 4) (pe_callB call_len_seq (by rfl) T.z_len PySem.boot_len (pa_cons (pv 1) pa_nil))) (pa_cons (pv 3) pa_nil))))
      (pss_cons (ps_try_only (tb := fun W => (tAsg (tMethS a.c_Yard "resize" (sp_Yard_resize K a) (WE W) (tVar 0) (tCons (tOp (rIxT K) (tVar 7) (tC (.int 0))) (tCons (tVar 5) tNil))) (gName 9))) (ts := fun _ _ _ => (tRet (tVar 1))) (Wout := fun _ _ _ _ => False) rfl rfl ⟨rfl, by decide, Or.inl T.e_YardError.g⟩ takes0 (fun W pn xe tk _ => (pss_one (ps_set (i := 9) sc_law_done.nd rfl (Or.inl rfl) (pe_methS (pv 0) T.cl_Yard T.m_Yard_resize G_Yard_resize (hr.mono (by decide)) T.b_Yard_resize (fun σ => passAt tk σ) (by exact (pa_cons (pe_ix ix_tup (pv 7) pe_int (fun _ _ => rfl)) (pa_cons (pv 5) pa_nil))))))) (fun _ _ _ _ _ _ _ => (pss_one (ps_ret (pv 1)))))
      (pss_one (ps_ret (pe_op op_cat (pv 8) (pe_lst (pa_cons (pe_tup (pa_cons (pe_ix ix_tup (pv 7) pe_int (fun _ _ => rfl)) (pa_cons (pv 9) pa_nil))) pa_nil))))))))))), ?_⟩
  obtain ⟨Y, d, os, held, l, c, rfl, ya, ha, pm, few, q⟩ := h
  have d60 := ya.po.d60
  have gh : Good d held := ya.good.perm pm
  have lh := pm.length_eq
  obtain ⟨nl, ts, hat, tups⟩ := id ha
  have lts := tups.len
  rw [List.length_map] at lts
  refine ⟨_, rfl, _, _, rfl, rfl, ⟨by decide, by decide⟩, ?_⟩
  refine ⟨_, rfl, _, _, rfl, rfl, by show (0 : Int) < 4; decide, _, _, rfl, rfl, _, rfl, ?_⟩
  -- a wish
  have wish : ∀ (H1 : Hp), (∀ b o, H b = some o → H1 b = some o) → c % 4 < 2 ∨ held = [] → ∀ (H2 : Hp), (∀ b o, H1 b = some o → H2 b = some o) →
      (giveF d held (wantF (c / 4) d) = none → ∀ H3, (∀ b o, H2 b = some o → H3 b = some o) → Q (.ref l) H3) ∧
      (∀ n, giveF d held (wantF (c / 4) d) = some n → ∀ (l' : Addr) (H3 : Hp), YardAt a Y d (os ++ [(n, fit (wantF (c / 4) d))]) H3 → HeldAt (own Y d) H3 l' (held ++ [(n, fit (wantF (c / 4) d))]) → Only (own Y d) H2 H3 → Q (.ref l') H3) := by
    intro H1 s1 hc H2 s2
    have e := doneF_give (d := d) hc
    constructor
    · intro g H3 s3
      rw [g] at e
      have all : ∀ b o, H b = some o → H3 b = some o := fun b o z => s3 _ _ (s2 _ _ (s1 _ _ z))
      exact q os l H3 (ya.keep all) (by rw [e]; exact ha.same all) (by rw [e]; exact pm) (by omega) (Only.same all)
    · intro n g l' H3 y3 h3 o3
      rw [g] at e
      refine q _ l' H3 y3 (by rw [e]; exact h3) ?_ ?_ ((Only.same fun b o z => s2 _ _ (s1 _ _ z)).trans o3)
      · rw [e]
        exact pm.append_right _
      · rw [List.length_append]
        exact Nat.le_refl _
  by_cases hc : c % 4 < 2 ∨ held = []
  · by_cases c1 : c % 4 < 2
    · refine iteTof (decide_eq_true c1) ?_
      have s1 : ∀ b o, H b = some o → H b = some o := fun b o e => e
      refine ⟨_, rfl, _, rfl, c / 4, d, rfl, d60, fun H2 s2 => ?_⟩
      obtain ⟨w1, w2⟩ := wish _ s1 hc H2 s2
      have s12 : ∀ b o, H b = some o → H2 b = some o := fun b o z => s2 _ _ (s1 _ _ z)
      have ya2 := ya.keep s12
      have ha2 := ha.same s12
      refine ⟨_, rfl, Y.y, Y.dy, _, rfl, ya2.yo, yFs_no Y d (by decide +kernel) (by decide +kernel) (by decide +kernel), _, rfl, Y, d, os, _, rfl, ya2, by omega, fun lt => ?_, fun g1 g2 H3 s3 => ?_, fun g1 g2 m n best H3 y3 o3 => ?_⟩
      · exact ⟨true, T.x_NoWish_YardError, fun _ a0 _ => ⟨_, rfl, w1 (giveF_none (.inl lt)) _ fun b o e => e⟩, fun z => Bool.noConfusion z⟩
      · exact ⟨true, T.x_NoRoom_YardError, fun _ a0 _ => ⟨_, rfl, w1 (giveF_none (.inr (by rw [Oc.perm pm]; exact g2))) H3 s3⟩, fun z => Bool.noConfusion z⟩
      · have ha3 := ha2.only ya2 o3
        obtain ⟨_, ts3, hat3, tups3⟩ := id ha3
        have l3 := tups3.len
        rw [List.length_map] at l3
        refine ⟨_, rfl, _, rfl, _, rfl, wantF (c / 4) d, rfl, wantF_le d60, fun z => by omega, fun _ => ?_⟩
        refine ⟨by show 2 ≤ sizeLine; decide, fun t ht => ⟨by show 1 ≤ sizeLine; decide, fun p2 hp2 => ?_⟩⟩
        have k1 : ∀ b o, H3 b = some o → L2.upd H3 t (.tup [nI n, sI (fit (wantF (c / 4) d))]) b = some o := fun b o e => by rw [upd_ne (ne_of_none e ht)]; exact e
        have k2 : ∀ b o, H3 b = some o → L2.upd (L2.upd H3 t (.tup [nI n, sI (fit (wantF (c / 4) d))])) p2 (.lst [.ref t]) b = some o := fun b o e => by rw [upd_ne (ne_of_none (k1 _ _ e) hp2)]; exact k1 _ _ e
        have tp2 : t ≠ p2 := fun z => by rw [← z, upd_same] at hp2; cases hp2
        refine ⟨l, p2, _, _, rfl, rfl, k2 _ _ hat3, upd_same, ?_, fun p3 hp3 => ?_⟩
        · rw [List.length_map, l3, sizeLine_eq]
          show held.length + 1 ≤ _
          omega
        have k3 : ∀ b o, H3 b = some o → L2.upd (L2.upd (L2.upd H3 t (.tup [nI n, sI (fit (wantF (c / 4) d))])) p2 (.lst [.ref t])) p3 (.lst (ts3.map V.ref ++ [.ref t])) b = some o := fun b o e => by rw [upd_ne (ne_of_none (k2 _ _ e) hp3)]; exact k2 _ _ e
        have tp3 : t ≠ p3 := fun z => by rw [← z, upd_ne tp2, upd_same] at hp3; cases hp3
        refine w2 n (giveF_some g1 g2 (best.perm pm)) p3 _ (y3.keep k3) ⟨?_, ts3 ++ [t], by rw [upd_same, List.map_append]; rfl, ?_⟩ (o3.trans (Only.same k3))
        · exact (y3.keep k2).new hp3
        · rw [List.map_append]
          refine Tups.snoc ?_ (tups3.keep fun t xs e => k3 _ _ e)
          rw [upd_ne tp3, upd_ne tp2]
          exact upd_same
    · refine iteFof (decide_eq_false c1) ?_
      have en : held = [] := hc.resolve_left c1
      refine ⟨_, rfl, by show 0 ≤ sizeLine; omega, fun p hp => ?_⟩
      have s1 : ∀ b o, H b = some o → L2.upd H p (.lst []) b = some o := fun b o e => by rw [upd_ne (ne_of_none e hp)]; exact e
      refine ⟨_, _, dp_list (s1 _ _ hat) (tups.keep fun t xs e => s1 _ _ e), dp_nil upd_same, dL_shaped _, dL_shaped _, _, rfl, iteTof ?_ ?_⟩
      · rw [dL_eqv, en]
        exact decide_eq_true rfl
      refine ⟨_, rfl, _, rfl, c / 4, d, rfl, d60, fun H2 s2 => ?_⟩
      obtain ⟨w1, w2⟩ := wish _ s1 hc H2 s2
      have s12 : ∀ b o, H b = some o → H2 b = some o := fun b o z => s2 _ _ (s1 _ _ z)
      have ya2 := ya.keep s12
      have ha2 := ha.same s12
      refine ⟨_, rfl, Y.y, Y.dy, _, rfl, ya2.yo, yFs_no Y d (by decide +kernel) (by decide +kernel) (by decide +kernel), _, rfl, Y, d, os, _, rfl, ya2, by omega, fun lt => ?_, fun g1 g2 H3 s3 => ?_, fun g1 g2 m n best H3 y3 o3 => ?_⟩
      · exact ⟨true, T.x_NoWish_YardError, fun _ a0 _ => ⟨_, rfl, w1 (giveF_none (.inl lt)) _ fun b o e => e⟩, fun z => Bool.noConfusion z⟩
      · exact ⟨true, T.x_NoRoom_YardError, fun _ a0 _ => ⟨_, rfl, w1 (giveF_none (.inr (by rw [Oc.perm pm]; exact g2))) H3 s3⟩, fun z => Bool.noConfusion z⟩
      · have ha3 := ha2.only ya2 o3
        obtain ⟨_, ts3, hat3, tups3⟩ := id ha3
        have l3 := tups3.len
        rw [List.length_map] at l3
        refine ⟨_, rfl, _, rfl, _, rfl, wantF (c / 4) d, rfl, wantF_le d60, fun z => by omega, fun _ => ?_⟩
        refine ⟨by show 2 ≤ sizeLine; decide, fun t ht => ⟨by show 1 ≤ sizeLine; decide, fun p2 hp2 => ?_⟩⟩
        have k1 : ∀ b o, H3 b = some o → L2.upd H3 t (.tup [nI n, sI (fit (wantF (c / 4) d))]) b = some o := fun b o e => by rw [upd_ne (ne_of_none e ht)]; exact e
        have k2 : ∀ b o, H3 b = some o → L2.upd (L2.upd H3 t (.tup [nI n, sI (fit (wantF (c / 4) d))])) p2 (.lst [.ref t]) b = some o := fun b o e => by rw [upd_ne (ne_of_none (k1 _ _ e) hp2)]; exact k1 _ _ e
        have tp2 : t ≠ p2 := fun z => by rw [← z, upd_same] at hp2; cases hp2
        refine ⟨l, p2, _, _, rfl, rfl, k2 _ _ hat3, upd_same, ?_, fun p3 hp3 => ?_⟩
        · rw [List.length_map, l3, sizeLine_eq]
          show held.length + 1 ≤ _
          omega
        have k3 : ∀ b o, H3 b = some o → L2.upd (L2.upd (L2.upd H3 t (.tup [nI n, sI (fit (wantF (c / 4) d))])) p2 (.lst [.ref t])) p3 (.lst (ts3.map V.ref ++ [.ref t])) b = some o := fun b o e => by rw [upd_ne (ne_of_none (k2 _ _ e) hp3)]; exact k2 _ _ e
        have tp3 : t ≠ p3 := fun z => by rw [← z, upd_ne tp2, upd_same] at hp3; cases hp3
        refine w2 n (giveF_some g1 g2 (best.perm pm)) p3 _ (y3.keep k3) ⟨?_, ts3 ++ [t], by rw [upd_same, List.map_append]; rfl, ?_⟩ (o3.trans (Only.same k3))
        · exact (y3.keep k2).new hp3
        · rw [List.map_append]
          refine Tups.snoc ?_ (tups3.keep fun t xs e => k3 _ _ e)
          rw [upd_ne tp3, upd_ne tp2]
          exact upd_same
  · have c1 : ¬ c % 4 < 2 := fun z => hc (.inl z)
    have en : held ≠ [] := fun z => hc (.inr z)
    refine iteFof (decide_eq_false c1) ?_
    refine ⟨_, rfl, by show 0 ≤ sizeLine; omega, fun p0 hp0 => ?_⟩
    have s1 : ∀ b o, H b = some o → L2.upd H p0 (.lst []) b = some o := fun b o e => by rw [upd_ne (ne_of_none e hp0)]; exact e
    refine ⟨_, _, dp_list (s1 _ _ hat) (tups.keep fun t xs e => s1 _ _ e), dp_nil upd_same, dL_shaped _, dL_shaped _, _, rfl, iteFof ?_ ?_⟩
    · rw [dL_eqv]
      exact decide_eq_false fun z => en (List.map_eq_nil_iff.mp z)
    generalize hH1 : L2.upd H p0 (.lst []) = H1 at s1
    have ya1 := ya.keep s1
    have hat1 := s1 _ _ hat
    have tups1 := tups.keep fun t xs e => s1 _ _ e
    have L0 : 0 < held.length := List.length_pos_iff.mpr en
    have eL : ((ts.map V.ref).length : Int) = (held.length : Int) := by rw [List.length_map, lts]
    obtain ⟨i, ei, li⟩ : ∃ i : Nat, (c / 4).fmod (held.length : Int) = (i : Int) ∧ i < held.length := by
      rw [Int.fmod_eq_emod_of_nonneg _ (by omega)]
      exact emod_nat (c / 4) L0
    obtain ⟨pc, hpc⟩ : ∃ pc, held[i]? = some pc := ⟨_, List.getElem?_eq_getElem li⟩
    obtain ⟨n, k⟩ := pc
    obtain ⟨t, ht, hatt⟩ := tups1.get (i := i) (q := toI (n, k)) (by rw [List.getElem?_map, hpc]; rfl)
    have mh : (n, k) ∈ held := List.mem_of_getElem? hpc
    have mo : (n, k) ∈ os := pm.mem_iff.mp mh
    refine ⟨_, rfl, _, rfl, _, rfl, l, _, rfl, .inl (SqL.of hat1), _, _, rfl, rfl, by show ((ts.map V.ref).length : Int) ≠ 0; omega, l, _, _, V.ref t, rfl, rfl, SqL.of hat1, at_of (j := i) (by show (c / 4).fmod ((ts.map V.ref).length : Int) = _; rw [eL]; exact ei) (by rw [List.getElem?_map, ht]; rfl), ?_⟩
    refine ⟨_, rfl, l, rfl, ⟨_, SqL.of hat1⟩, fun D newD => ?_⟩
    refine lc_out walk_list (fun j H' => ∃ us : List Addr, H' D = some (.lst (us.map V.ref)) ∧ Tups H' us (((held.take j).filter fun q => decide (q ≠ (n, k))).map toI) ∧ (∀ b o, H1 b = some o → H' b = some o))
      ⟨[], upd_same, .nil, fun b o e => by rw [upd_ne (ne_of_none e newD)]; exact e⟩ (fun j H' _ ⟨_, _, _, p⟩ => SqL.of (p _ _ hat1)) ?_ ?_
    · rintro j v H2 H3 hj ⟨us, hD, tu, s2⟩ ⟨rfl, hv⟩
      rw [List.length_map, lts] at hj
      obtain ⟨qq, hq⟩ : ∃ qq, held[j]? = some qq := ⟨_, List.getElem?_eq_getElem hj⟩
      obtain ⟨t2, ht2, hatt2⟩ := tups1.get (i := j) (q := toI qq) (by rw [List.getElem?_map, hq]; rfl)
      rw [List.getElem?_map, ht2] at hv
      have hv := Option.some.inj hv
      subst hv
      refine ⟨rfl, ?_⟩
      refine ⟨_, rfl, _, rfl, dP (toI qq), dP (toI (n, k)), dp_pair (s2 _ _ hatt2), dp_pair (s2 _ _ hatt), dP_shaped _, dP_shaped _, _, rfl, ?_⟩
      rw [dP_eqv]
      by_cases e : qq = (n, k)
      · refine iteFof (by rw [e]; simp) ?_
        refine ⟨us, hD, ?_, s2⟩
        rw [filter_take hq, if_neg (by simp [e]), List.append_nil]
        exact tu
      · refine iteTof (by simp; exact fun z => e (toI_inj z)) ?_
        have l1 := tu.len
        rw [List.length_map] at l1
        have l2 := List.length_filter_le (fun q => decide (q ≠ (n, k))) (held.take j)
        rw [List.length_take] at l2
        refine ⟨_, rfl, us.map V.ref, hD, ?_, us ++ [t2], ?_, ?_, fun b o e2 => ?_⟩
        · rw [List.length_map, sizeLine_eq]
          omega
        · rw [List.map_append]
          exact upd_same
        · rw [filter_take hq, if_pos (by simpa using e), List.map_append]
          refine Tups.snoc ?_ (tu.keep fun t xs e2 => ?_)
          · rw [upd_ne (fun z => by rw [← z, s2 _ _ hatt2] at hD; cases hD)]
            exact s2 _ _ hatt2
          · rw [upd_ne (fun z => by rw [z, hD] at e2; cases e2)]
            exact e2
        · rw [upd_ne (fun z => by rw [z, newD] at e2; cases e2)]
          exact s2 _ _ e2
    rintro H2 ⟨us, hD, tu, s2⟩
    rw [List.length_map, lts, List.take_length, outs_piece gh mh] at tu
    have s12 : ∀ b o, H b = some o → H2 b = some o := fun b o z => s2 _ _ (s1 _ _ z)
    have ya2 := ya.keep s12
    have nD : D ∉ own Y d := ya1.new newD
    have eleft := outs_piece gh mh
    have hatt3 := s2 _ _ hatt
    have tno : ∀ {H3}, Only (own Y d) H2 H3 → H3 t = some (.tup [nI n, sI k]) := fun o3 => o3 _ _ hatt3 (ya2.off hatt3 (by intro xs z; cases z) (by intro xs z; cases z))
    refine ⟨_, rfl, _, _, rfl, rfl, by show (0 : Int) < 4; decide, rfl, _, rfl, ?_⟩
    by_cases c2 : c % 4 = 2
    · refine iteTof (by show decide (V.int (c % 4) = V.int 2) = true; rw [c2]; exact decide_eq_true rfl) ?_
      refine ⟨_, rfl, Y.y, Y.dy, _, rfl, ya2.yo, yFs_no Y d (by decide +kernel) (by decide +kernel) (by decide +kernel), _, rfl, t, _, _, nI n, rfl, rfl, SqT.of hatt3, at_of (j := 0) rfl rfl, Y, d, os, (n : Int), rfl, ya2, fun z => absurd rfl (z (n, k) mo), fun n' k' m' e H3 y3 o3 => ?_⟩
      have en' : n = n' := by omega
      subst en'
      refine ⟨_, rfl, ?_⟩
      have ed := doneF_back (d := d) hc c2 ei hpc
      rw [eleft] at ed
      refine q _ D H3 y3 ⟨nD, us, o3 _ _ hD nD, ?_⟩ (by rw [ed]; exact outs_perm pm n) (Nat.le_succ_of_le (List.length_filter_le _ _)) ((Only.same s12).trans o3)
      rw [ed]
      exact tu.keep fun t xs e2 => o3 _ _ e2 (ya2.off e2 (by intro xs z; cases z) (by intro xs z; cases z))
    · refine iteFof (by show decide (V.int (c % 4) = V.int 2) = false; exact decide_eq_false fun z => c2 (by injection z)) ?_
      obtain ⟨ds1, ds2⟩ := doneF_size (d := d) hc c2 ei hpc
      rw [eleft] at ds1
      refine ⟨_, rfl, _, rfl, l, _, rfl, .inl (SqL.of (s2 _ _ hat1)), _, _, rfl, rfl, wide_div (b := 16) (by show (0 : Int) < ((ts.map V.ref).length : Int); omega) (by rw [eL, Int.natAbs_natCast]; show held.length < 65536; omega) (by decide) (by decide), _, rfl, c / 4 / (held.length : Int), d, ?_, d60, fun H3 s3 => ?_⟩
      · show [V.int (c / 4 / ((ts.map V.ref).length : Int)), sI d] = _
        rw [eL]
      generalize hx : wantF (c / 4 / (held.length : Int)) d = x at ds1 ds2
      have s23 : ∀ b o, H b = some o → H3 b = some o := fun b o z => s3 _ _ (s12 _ _ z)
      have ya3 := ya.keep s23
      have same_again : (¬ (1 ≤ x ∧ x ≤ ((2 ^ d : Nat) : Int) ∧ Fits held n (fit x))) → ∀ H4, (∀ b o, H3 b = some o → H4 b = some o) → Q (.ref l) H4 := fun z H4 s4 => by
        have all : ∀ b o, H b = some o → H4 b = some o := fun b o w => s4 _ _ (s23 _ _ w)
        have ed := ds2 z
        exact q os l H4 (ya.keep all) (by rw [ed]; exact ha.same all) (by rw [ed]; exact pm) (Nat.le_succ _) (Only.same all)
      refine ⟨_, rfl, Y.y, Y.dy, _, rfl, ya3.yo, yFs_no Y d (by decide +kernel) (by decide +kernel) (by decide +kernel), _, rfl, t, _, _, nI n, rfl, rfl, SqT.of (s3 _ _ hatt3), at_of (j := 0) rfl rfl, _, rfl, Y, d, os, (n : Int), x, rfl, ya3, fun z => absurd rfl (z (n, k) mo), fun n' h' m' e => ?_⟩
      have en' : n = n' := by omega
      subst en'
      refine ⟨fun lt => ?_, fun g1 g2 H4 s4 => ?_, fun g1 g2 ft H4 y4 o4 => ?_⟩
      · exact ⟨true, T.x_NoWish_YardError, fun _ a0 _ => ⟨_, rfl, same_again (fun z => by omega) _ fun b o e => e⟩, fun z => Bool.noConfusion z⟩
      · refine ⟨true, T.x_NoRoom_YardError, fun _ a0 _ => ⟨_, rfl, same_again (fun z => ?_) H4 s4⟩, fun z => Bool.noConfusion z⟩
        rcases g2 with g2 | g2
        · omega
        · exact g2 (z.2.2.perm pm.symm)
      · have ed := ds1 ⟨g1, g2, ft.perm pm⟩
        have hat4 : H4 t = some (.tup [nI n, sI k]) := o4 _ _ (s3 _ _ hatt3) (ya3.off (s3 _ _ hatt3) (by intro xs z; cases z) (by intro xs z; cases z))
        have hD4 : H4 D = some (.lst (us.map V.ref)) := o4 _ _ (s3 _ _ hD) nD
        have tu4 : Tups H4 us ((outs held n).map toI) := tu.keep fun t xs e2 => o4 _ _ (s3 _ _ e2) (ya3.off (s3 _ _ e2) (by intro xs z; cases z) (by intro xs z; cases z))
        refine ⟨_, rfl, _, rfl, t, _, _, nI n, rfl, rfl, SqT.of hat4, at_of (j := 0) rfl rfl, _, rfl, by show 2 ≤ sizeLine; decide, fun t5 ht5 => ⟨by show 1 ≤ sizeLine; decide, fun p2 hp2 => ?_⟩⟩
        have k1 : ∀ b o, H4 b = some o → L2.upd H4 t5 (.tup [nI n, sI (fit x)]) b = some o := fun b o e => by rw [upd_ne (ne_of_none e ht5)]; exact e
        have k2 : ∀ b o, H4 b = some o → L2.upd (L2.upd H4 t5 (.tup [nI n, sI (fit x)])) p2 (.lst [.ref t5]) b = some o := fun b o e => by rw [upd_ne (ne_of_none (k1 _ _ e) hp2)]; exact k1 _ _ e
        have tp2 : t5 ≠ p2 := fun z => by rw [← z, upd_same] at hp2; cases hp2
        have l4 := tu4.len
        rw [List.length_map] at l4
        have l5 : (outs held n).length ≤ held.length := List.length_filter_le _ _
        refine ⟨D, p2, _, _, rfl, rfl, k2 _ _ hD4, upd_same, ?_, fun p3 hp3 => ?_⟩
        · rw [List.length_map, l4, sizeLine_eq]
          show (outs held n).length + 1 ≤ _
          omega
        have k3 : ∀ b o, H4 b = some o → L2.upd (L2.upd (L2.upd H4 t5 (.tup [nI n, sI (fit x)])) p2 (.lst [.ref t5])) p3 (.lst (us.map V.ref ++ [.ref t5])) b = some o := fun b o e => by rw [upd_ne (ne_of_none (k2 _ _ e) hp3)]; exact k2 _ _ e
        have tp3 : t5 ≠ p3 := fun z => by rw [← z, upd_ne tp2, upd_same] at hp3; cases hp3
        have fd := fit_le g1 g2 d60
        refine q _ p3 _ (y4.keep k3) ⟨(y4.keep k2).new hp3, us ++ [t5], by rw [upd_same, List.map_append]; rfl, ?_⟩ ?_ (by rw [outr_len]; exact Nat.le_succ _) ((Only.same s23).trans (o4.trans (Only.same k3)))
        · rw [ed, List.map_append]
          refine Tups.snoc ?_ (tu4.keep fun t xs e => k3 _ _ e)
          rw [upd_ne tp3, upd_ne tp2]
          exact upd_same
        · rw [ed]
          exact ((outs_perm pm n).append_right _).trans (outr_perm ya.good mo fd ft)
end
/-- only pieces of one cell, fewer than the yard has: one more can be given -/
theorem one_more {d : Nat} {os : List PN} (h : ∀ q ∈ os, q.2 = 0) (l : os.length < 2 ^ d) : ¬ ∀ j i, 0 ≤ j → ¬ Mx (Oc os) d j i := by
  intro z
  have all : ∀ c, c < 2 ^ d → ∃ q ∈ os, q.1 = c := by
    intro c hc
    apply Classical.byContradiction
    intro no
    have f : Fr (Oc os) 0 (c / 2 ^ 0) := by
      rintro c' e ⟨q, m, e2⟩
      rw [h q m] at e2
      rw [Nat.pow_zero, Nat.div_one, Nat.div_one] at e e2
      exact no ⟨q, m, by omega⟩
    obtain ⟨m, _, hm⟩ := mx_exists hc _ 0 rfl (Nat.zero_le _) f
    exact z m _ (Nat.zero_le _) hm
  have := nodup_le (R := fun c (q : PN) => q.1 = c) (l := List.range (2 ^ d)) (m := os) List.nodup_range (fun c hc => all c (List.mem_range.mp hc)) (fun c c' q _ _ e e' => e.symm.trans e')
  rw [List.length_range] at this
  omega
theorem fit_one : fit 1 = 0 := by decide
/-- what is left when of the pieces every second of the first ones is back -/
def LeftOf (held os : List PN) (j : Nat) : Prop := ∀ q, q ∈ os ↔ ∃ i, held[i]? = some q ∧ ¬ (i % 2 = 1 ∧ i < 2 * j)
theorem left_next {d : Nat} {held os : List PN} {j n k : Nat} (g : Good d held) (h : LeftOf held os j) (e : held[2 * j + 1]? = some (n, k)) : LeftOf held (outs os n) (j + 1) := by
  intro q
  unfold outs
  rw [List.mem_filter, h q]
  constructor
  · rintro ⟨⟨i, e1, n1⟩, n2⟩
    refine ⟨i, e1, fun z => ?_⟩
    have : i = 2 * j + 1 := by omega
    subst this
    rw [e] at e1
    have e1 := Option.some.inj e1
    subst e1
    simp at n2
  · rintro ⟨i, e1, n1⟩
    refine ⟨⟨i, e1, fun z => n1 ⟨z.1, by omega⟩⟩, decide_eq_true fun z => ?_⟩
    have e3 := g.key (List.mem_of_getElem? e1) (List.mem_of_getElem? e) z
    rw [e3] at e1
    have l1 := (List.getElem?_eq_some_iff.mp e1).1
    have := (List.getElem?_inj l1 g.nodup).mp (e1.trans e.symm)
    exact n1 ⟨by omega, by omega⟩
/-- every second one, from the first on -/
def seconds (held : List PN) (n : Nat) : List PN := ((List.range n).filter fun i => decide (i % 2 = 0)).map fun i => held.getD i (0, 0)
theorem seconds_mem {held : List PN} {q : PN} : q ∈ seconds held held.length ↔ ∃ i, held[i]? = some q ∧ i % 2 = 0 := by
  unfold seconds
  constructor
  · intro z
    obtain ⟨i, hi, e⟩ := List.mem_map.mp z
    obtain ⟨h1, h2⟩ := List.mem_filter.mp hi
    have h1 := List.mem_range.mp h1
    refine ⟨i, ?_, of_decide_eq_true h2⟩
    rw [List.getElem?_eq_getElem h1]
    rw [List.getD, List.getElem?_eq_getElem h1] at e
    exact congrArg some e
  · rintro ⟨i, e, h2⟩
    obtain ⟨h1, e1⟩ := List.getElem?_eq_some_iff.mp e
    refine List.mem_map.mpr ⟨i, List.mem_filter.mpr ⟨List.mem_range.mpr h1, decide_eq_true h2⟩, ?_⟩
    rw [List.getD, e]
    rfl
theorem seconds_succ (held : List PN) (i : Nat) : seconds held (i + 1) = seconds held i ++ (if i % 2 = 0 then [held.getD i (0, 0)] else []) := by
  unfold seconds
  rw [List.range_succ, List.filter_append, List.map_append]
  congr 1
  by_cases e : i % 2 = 0
  · simp [e]
  · simp [e]
theorem seconds_nodup {d : Nat} {held : List PN} (g : Good d held) : (seconds held held.length).Nodup := by
  unfold seconds
  refine (List.pairwise_map).mpr ((List.nodup_range.filter _).imp_of_mem fun {i j} hi hj ne e => ne ?_)
  have h1 := List.mem_range.mp (List.mem_filter.mp hi).1
  have h2 := List.mem_range.mp (List.mem_filter.mp hj).1
  rw [List.getD, List.getD, List.getElem?_eq_getElem h1, List.getElem?_eq_getElem h2] at e
  exact (List.getElem?_inj h1 g.nodup).mp (by rw [List.getElem?_eq_getElem h1, List.getElem?_eq_getElem h2]; exact congrArg some e)
def sp_law_begun (_ : PySem.W.Frag) (a : Ad) : Sp := fun vs H Q _ => ∃ (Y : YA) (d : Nat) (c : Int), vs = [.ref Y.y, .int c, sI d] ∧ YardAt a Y d [] H ∧
  ∀ (os held : List PN) (l : Addr) (H' : Hp), YardAt a Y d os H' → HeldAt (own Y d) H' l held → held.Perm os → os.length ≤ 131 → Only (own Y d) H H' → Q (.ref l) H'
section
variable {P : Program} {w : World} {K : PySem.W.Frag} {mg : Str → Option Value} {base : Heap} {a : Ad}
end
/-! ### the pieces, out and free, side by side -/
noncomputable def freeN (os : List PN) (d n : Nat) : List PN := (List.range n).flatMap fun j => (frl (Oc os) d j).map fun x => (x, j)
noncomputable def freeP (os : List PN) (d : Nat) : List PN := freeN os d (d + 1)
theorem freeN_map (os : List PN) (d n : Nat) : (freeN os d n).map toI = allN n (frl (Oc os) d) := by
  unfold freeN allN
  rw [List.map_flatMap]
  congr 1
  funext j
  rw [List.map_map]
  rfl
theorem frees_eq (os : List PN) (d : Nat) : frees os d = srt ((freeP os d).map toI) := by
  unfold frees freeP
  rw [freeN_map]
theorem freeP_mem {os : List PN} {d : Nat} {q : PN} : q ∈ freeP os d ↔ Mx (Oc os) d q.2 (q.1 / 2 ^ q.2) ∧ q.1 / 2 ^ q.2 * 2 ^ q.2 = q.1 := by
  unfold freeP freeN
  rw [List.mem_flatMap]
  constructor
  · rintro ⟨j, hj, hq⟩
    obtain ⟨x, hx, rfl⟩ := List.mem_map.mp hq
    obtain ⟨i, e, h⟩ := frl_mem.mp hx
    subst e
    show Mx (Oc os) d j (i * 2 ^ j / 2 ^ j) ∧ i * 2 ^ j / 2 ^ j * 2 ^ j = i * 2 ^ j
    rw [blk_of]
    exact ⟨h, rfl⟩
  · rintro ⟨h, e⟩
    refine ⟨q.2, List.mem_range.mpr (by have := h.1; omega), List.mem_map.mpr ⟨q.1, frl_mem.mpr ⟨_, e.symm, h⟩, rfl⟩⟩
theorem mx_lt {O : Nat → Prop} {d j c : Nat} (h : Mx O d j (c / 2 ^ j)) (e : c / 2 ^ j * 2 ^ j = c) : c < 2 ^ d := by
  have h1 := h.2.1
  have p : 0 < 2 ^ j := Nat.pow_pos (by decide)
  have e2 : 2 ^ d = 2 ^ (d - j) * 2 ^ j := by rw [← Nat.pow_add, show d - j + j = d by have := h.1; omega]
  rw [← e, e2]
  exact Nat.mul_lt_mul_of_pos_right h1 p
theorem freeP_nodup (os : List PN) (d : Nat) : (freeP os d).Nodup := by
  unfold freeP freeN
  rw [List.Nodup, List.pairwise_flatMap]
  constructor
  · intro j _
    exact List.pairwise_map.mpr ((frl_rise _ _ _).imp fun l e => by
      have := congrArg Prod.fst e
      simp at this
      omega)
  · refine List.pairwise_lt_range.imp fun {i j} l p hp q hq e => ?_
    obtain ⟨x, _, rfl⟩ := List.mem_map.mp hp
    obtain ⟨y, _, rfl⟩ := List.mem_map.mp hq
    have := congrArg Prod.snd e
    simp at this
    omega
theorem good_all {d : Nat} {os : List PN} (g : Good d os) : Good d (os ++ freeP os d) := by
  refine ⟨fun q m => ?_, List.pairwise_append.mpr ⟨g.disj, ?_, fun p hp q hq c e1 e2 => ?_⟩⟩
  · rcases List.mem_append.mp m with m | m
    · exact g.each q m
    · obtain ⟨h, e⟩ := freeP_mem.mp m
      exact ⟨h.1, e, mx_lt h e⟩
  · refine (freeP_nodup os d).imp_of_mem fun {p q} hp hq ne c e1 e2 => ne ?_
    obtain ⟨h1, a1⟩ := freeP_mem.mp hp
    obtain ⟨h2, a2⟩ := freeP_mem.mp hq
    rw [← e1] at h1
    rw [← e2] at h2
    have ej := mx_uniq h1 h2
    have ex : p.1 = q.1 := by rw [← a1, ← a2, ← e1, ← e2, ej]
    exact Prod.ext ex ej
  · obtain ⟨h2, a2⟩ := freeP_mem.mp hq
    exact h2.2.2.1 c e2 ⟨p, hp, e1⟩
theorem cover_all {d c : Nat} {os : List PN} (hc : c < 2 ^ d) : ∃ q ∈ os ++ freeP os d, c / 2 ^ q.2 = q.1 / 2 ^ q.2 := by
  by_cases h : Oc os c
  · obtain ⟨q, m, e⟩ := h
    exact ⟨q, List.mem_append.mpr (.inl m), e⟩
  · have f : Fr (Oc os) 0 (c / 2 ^ 0) := by
      intro c' e z
      rw [Nat.pow_zero, Nat.div_one, Nat.div_one] at e
      rw [e] at z
      exact h z
    obtain ⟨m, _, hm⟩ := mx_exists hc _ 0 rfl (Nat.zero_le _) f
    have e1 : c / 2 ^ m * 2 ^ m / 2 ^ m = c / 2 ^ m := blk_of _ _
    refine ⟨(c / 2 ^ m * 2 ^ m, m), List.mem_append.mpr (.inr (freeP_mem.mpr ⟨by show Mx (Oc os) d m (c / 2 ^ m * 2 ^ m / 2 ^ m); rw [e1]; exact hm, by show c / 2 ^ m * 2 ^ m / 2 ^ m * 2 ^ m = c / 2 ^ m * 2 ^ m; rw [e1]⟩)), ?_⟩
    show c / 2 ^ m = c / 2 ^ m * 2 ^ m / 2 ^ m
    rw [e1]
def Chain : Nat → List PN → Nat → Prop
  | b, [], e => b = e
  | b, q :: l, e => q.1 = b ∧ Chain (q.1 + 2 ^ q.2) l e
theorem chain_of {d : Nat} : ∀ {l : List PN} {b : Nat}, l.Pairwise (fun p q => p.1 < q.1) → Good d l → b ≤ 2 ^ d → (∀ q ∈ l, b ≤ q.1) → (∀ c, b ≤ c → c < 2 ^ d → ∃ q ∈ l, c / 2 ^ q.2 = q.1 / 2 ^ q.2) → Chain b l (2 ^ d)
  | [], b, _, _, hb, _, cov => by
    show b = 2 ^ d
    apply Classical.byContradiction
    intro z
    obtain ⟨q, m, _⟩ := cov b (Nat.le_refl _) (by omega)
    cases m
  | q :: l, b, srtd, g, hb, low, cov => by
    obtain ⟨s1, s2⟩ := List.pairwise_cons.mp srtd
    have gq := g.each q List.mem_cons_self
    have pq : 0 < 2 ^ q.2 := Nat.pow_pos (by decide)
    have start : ∀ p ∈ q :: l, ∀ c, c / 2 ^ p.2 = p.1 / 2 ^ p.2 → p.1 ≤ c := fun p hp c e => by
      have a := (g.each p hp).2.1
      rw [← a, ← e]
      exact Nat.div_mul_le_self c _
    have eb : q.1 = b := by
      apply Classical.byContradiction
      intro z
      have lq := low q List.mem_cons_self
      obtain ⟨p, hp, e⟩ := cov b (Nat.le_refl _) (by omega)
      have h1 := start p hp b e
      rcases List.mem_cons.mp hp with rfl | hp
      · omega
      · have := s1 p hp
        omega
    have fits : q.1 + 2 ^ q.2 ≤ 2 ^ d := by
      obtain ⟨a1, a2, a3⟩ := gq
      have e2 : 2 ^ d = 2 ^ (d - q.2) * 2 ^ q.2 := by rw [← Nat.pow_add, show d - q.2 + q.2 = d by omega]
      have lt : q.1 / 2 ^ q.2 < 2 ^ (d - q.2) := blk_lt a3 a1
      rw [← a2, e2, ← Nat.succ_mul]
      exact Nat.mul_le_mul_right _ lt
    have inq : ∀ c, q.1 ≤ c → c < q.1 + 2 ^ q.2 → c / 2 ^ q.2 = q.1 / 2 ^ q.2 := fun c h1 h2 => by
      have a := gq.2.1
      generalize q.1 / 2 ^ q.2 = i at a
      refine Nat.div_eq_of_lt_le (by omega) ?_
      rw [Nat.succ_mul]
      omega
    have g2 : Good d l := g.sub (List.sublist_cons_self q l)
    refine ⟨eb, chain_of s2 g2 fits (fun p hp => ?_) (fun c h1 h2 => ?_)⟩
    · apply Classical.byContradiction
      intro z
      have l1 := s1 p hp
      have := (List.pairwise_cons.mp g.disj).1 p hp p.1 (inq p.1 (by omega) (by omega))
      exact this rfl
    · obtain ⟨p, hp, e⟩ := cov c (by omega) h2
      rcases List.mem_cons.mp hp with rfl | hp
      · exfalso
        have a := gq.2.1
        have h3 := Nat.lt_div_mul_add (a := c) pq
        rw [e, a] at h3
        omega
      · exact ⟨p, hp, e⟩
theorem chain_sum : ∀ {l : List PN} {b e : Nat}, Chain b l e → b + (l.map fun q => 2 ^ q.2).sum = e
  | [], b, e, h => h
  | q :: l, b, e, h => by
    obtain ⟨h1, h2⟩ := h
    have := chain_sum h2
    rw [List.map_cons, List.sum_cons]
    omega
theorem tile {d : Nat} {os : List PN} (g : Good d os) : ∃ L : List PN, L.Perm (os ++ freeP os d) ∧ srt ((os ++ freeP os d).map toI) = L.map toI ∧ Chain 0 L (2 ^ d) := by
  have ga := good_all g
  let le : PN → PN → Bool := fun p q => decide (p.1 ≤ q.1)
  have perm := List.mergeSort_perm (os ++ freeP os d) le
  have gL := ga.perm perm
  have sorted : ((os ++ freeP os d).mergeSort le).Pairwise fun p q => le p q = true := List.pairwise_mergeSort (fun x y z h1 h2 => by simp [le] at *; omega) (fun x y => by simp [le]; omega) _
  have strict : ((os ++ freeP os d).mergeSort le).Pairwise fun p q => p.1 < q.1 := by
    refine (sorted.and gL.disj).imp_of_mem fun {p q} hp hq h => ?_
    have h1 : p.1 ≤ q.1 := of_decide_eq_true h.1
    have h2 : p.1 ≠ q.1 := fun e => h.2 p.1 rfl (by rw [e])
    omega
  refine ⟨_, perm, ?_, chain_of strict gL (Nat.zero_le _) (fun _ _ => Nat.zero_le _) fun c _ hc => ?_⟩
  · refine (srt_of (perm.map toI) (List.pairwise_map.mpr (strict.imp fun {p q} l => ?_))).symm
    rw [SrtO.lexB_no]
    show ¬ ((q.1 : Int) < (p.1 : Int) ∨ _)
    unfold toI
    show ¬ ((q.1 : Int) < (p.1 : Int) ∨ ((q.1 : Int) = (p.1 : Int) ∧ _))
    omega
  · obtain ⟨q, m, e⟩ := cover_all (os := os) hc
    exact ⟨q, perm.mem_iff.mpr m, e⟩
theorem sum_cast (l : List PN) : ((l.map toI).map (·.2)).sum = (((l.map fun q => 2 ^ q.2).sum : Nat) : Int) := by
  induction l with
  | nil => rfl
  | cons q l ih =>
    rw [List.map_cons, List.map_cons, List.sum_cons, ih, List.map_cons, List.sum_cons, Int.natCast_add]
    rfl
theorem sum_perm {l m : List Int} (p : l.Perm m) : l.sum = m.sum := by
  induction p with
  | nil => rfl
  | cons x _ ih => rw [List.sum_cons, List.sum_cons, ih]
  | swap x y l => rw [List.sum_cons, List.sum_cons, List.sum_cons, List.sum_cons]; omega
  | trans _ _ h1 h2 => rw [h1, h2]
/-- as many cells are free as are not out -/
theorem free_sum {d : Nat} {os held : List PN} (g : Good d os) (p : held.Perm os) : ((frees os d).map (·.2)).sum = ((2 ^ d : Nat) : Int) - ((held.map toI).map (·.2)).sum := by
  obtain ⟨L, pL, _, ch⟩ := tile g
  have s := chain_sum ch
  have e1 : ((L.map toI).map (·.2)).sum = (((held.map toI).map (·.2)).sum) + ((frees os d).map (·.2)).sum := by
    have q := ((pL.trans (p.symm.append_right (freeP os d))).map toI).map (fun z : PI2 => z.2)
    rw [sum_perm q, List.map_append, List.map_append, List.sum_append]
    congr 1
    rw [frees_eq]
    exact sum_perm ((srt_perm _).symm.map _)
  rw [sum_cast L] at e1
  omega
/-- no two twins are both free -/
theorem no_twins {d : Nat} {os : List PN} {q : PN} (m : q ∈ freeP os d) : (sib (q.1 / 2 ^ q.2) * 2 ^ q.2, q.2) ∉ freeP os d := by
  intro z
  obtain ⟨h1, _⟩ := freeP_mem.mp m
  obtain ⟨h2, _⟩ := freeP_mem.mp z
  have e : sib (q.1 / 2 ^ q.2) * 2 ^ q.2 / 2 ^ q.2 = sib (q.1 / 2 ^ q.2) := blk_of _ _
  have h2 : Mx (Oc os) d q.2 (sib (q.1 / 2 ^ q.2)) := by
    have h3 : Mx (Oc os) d q.2 (sib (q.1 / 2 ^ q.2) * 2 ^ q.2 / 2 ^ q.2) := h2
    rw [e] at h3
    exact h3
  by_cases l : q.2 < d
  · exact h1.2.2.2 l (fr_half h1.2.2.1 h2.2.2.1)
  · have a1 := h1.2.1
    have a2 := h2.2.1
    rw [show d - q.2 = 0 by omega, Nat.pow_zero] at a1 a2
    have a3 := sib_ne (q.1 / 2 ^ q.2)
    generalize q.1 / 2 ^ q.2 = z at a1 a2 a3
    omega
/-! ### sorted(range(n), key=lambda k: -sizes[k]) -/
section
open PySem PySem.Spec PyProof PyProof.Rows
abbrev lamPar (p : Pos) : Arguments := { posonlyargs := [], args := [{ arg := "k", annotation := none, pos := p }], vararg := none, kwonlyargs := [], kw_defaults := [], kwarg := none, defaults := [] }
abbrev lamBody (p1 p2 p3 p4 : Pos) : Expr := .UnaryOp .USub (.Subscript (.Name "sizes" p1) (.Name "k" p2) p3) p4
abbrev lamScope : Scope := { kind := .function, names := [(Str.ofString "k", .local), (Str.ofString "sizes", .free)], isGenerator := false, isCoroutine := false, more := [] }
variable {prog : Program} {w : World} {A : Around} {E : Value → Shared → Prop} {s : Shared}
/-- the key of k -/
theorem lam_call {f c' cs L : Addr} {q : Str} {pp p1 p2 p3 p4 : Pos} {pm ctv : Value} {items : Array Value} {k : Nat} {n : Int} {t0 t : Tok} (room : A.depth < recursionLimit)
    (hf : s.heap.get? f = some (PySem.W.kla_obj "<lambda>" q (lamPar pp) (lamBody p1 p2 p3 p4) lamScope [(Str.ofString "sizes", cs)] pm c' ctv)) (rec : s.heap.CodeRec (.ref c') q) (lim : s.heap.NoLimit)
    (hc : s.heap.IsCell cs (some (.ref L))) (hl : s.heap.IsList L items) (hk : items[k]? = some (.int n t0)) (few : items.size ≤ sizeLine) :
    wpAny (model prog w) A (call (.ref f) [.int k t]) (fun v s2 => ∃ g tk t', s2 = { s with heap := g, toks := tk } ∧ (∀ b o, s.heap.get? b = some o → g.get? b = some o) ∧ v = .int (-n) t') E s := by
  refine wpAny_call (PySem.W.kla_callFunE room hf rfl rfl rfl rfl rec ?_)
  have hb : bindArgs (PySem.W.kla_fn "<lambda>" q (lamPar pp) (lamBody p1 p2 p3 p4) lamScope [(Str.ofString "sizes", cs)] pm (.ref c') ctv) ⟨[.int k t], []⟩ = pure [(Str.ofString "k", .int k t)] := rfl
  rw [hb]
  refine wpAny_pure (wpAny_newFunctionEnv (fun y hy => ?_) (fun y hy => ?_) (fun g hns sb => ⟨lim.fresh _ sb, ?_⟩) rfl)
  · rcases List.mem_cons.mp hy with rfl | hy
    · decide
    · rw [List.mem_singleton.mp hy]
      decide
  · rw [List.mem_singleton.mp hy]
    rfl
  · have kp : ∀ b o, s.heap.get? b = some o → g.get? b = some o := fun b o e => sb.extBut b o (Nat.ne_of_lt (Heap.lt_size e)) (Heap.get?_push_of_some _ e)
    refine PySem.W.kla_codeExpr (UnaryOp_ (Subscript_ ?_))
    refine wpAny_Name (wpAny_loadName_free rfl (by rfl) (c := cs) (by rfl) (hc.keeps kp) ?_)
    refine wpAny_Name (wpAny_loadName_local rfl (by rfl) hns (v := .int k t) (by rfl) ?_)
    have lt := (Array.getElem?_eq_some_iff.mp hk).1
    have l63 := line63
    refine item_listR (hl.at fun o e => kp _ _ e) (by omega) (by omega) (x := .int n t0) (by rw [Int.toNat_natCast]; exact hk) ?_
    exact neg_int ⟨g, _, _, rfl, kp, rfl⟩
end
section
open PySem PySem.Spec PySem.Calls PyProof PyProof.Rows PySem.W
variable {prog : Program} {w : World} {A : Around} {E : Value → Shared → Prop} {s : Shared}
def IntAt (v : Value) (x : Nat) : Prop := ∃ t, v = .int (x : Int) t
theorem each_range : ∀ (us : List Value) (d : Nat), (∀ i v, us[i]? = some v → IntAt v (d + i)) → EachIs IntAt us ((List.range us.length).map (d + ·))
  | [], _, _ => .nil
  | u :: r, d, h => by
    rw [List.length_cons, List.range_succ_eq_map, List.map_cons, List.map_map]
    refine .cons (h 0 u rfl) ?_
    have e := each_range r (d + 1) fun i v hi => by
      have z := h (i + 1) v hi
      rwa [show d + (i + 1) = d + 1 + i by omega] at z
    have e2 : (List.range r.length).map ((d + ·) ∘ Nat.succ) = (List.range r.length).map (d + 1 + ·) := by
      refine List.map_congr_left fun x _ => ?_
      show d + (x + 1) = d + 1 + x
      omega
    rw [e2]
    exact e
/-- sorted(range(n), key=f) -/
theorem sorted_rng {r f : Addr} {n : Nat} {t u v : Tok} {Q : Value → Shared → Prop} (k : Nat → PyData) (hh : A.handled = none) (hr : IsRange s.heap r 0 n 1 t u v) (few : n ≤ 2 ^ 24) (hal : AllAlike ((List.range n).map k)) (hsk : Sortable ((List.range n).map k))
    (hu : ∀ x, A.units + 2 + (k x).depth < cLine)
    (turn : ∀ (x : Nat) (t : Tok), x < n → ∀ (h : Heap) (tk : Nat), (∀ b o, s.heap.get? b = some o → h.get? b = some o) →
      wpAny (model prog w) A.in1.in1 (call (.ref f) [.int x t]) (KeyPure (k x) { s with heap := h, toks := tk }) (fun _ _ => False) { s with heap := h, toks := tk })
    (h : ∀ (g1 : Heap) (out : List Value) (c : Nat) (h' : Heap) (tk : Nat), (∀ b o, s.heap.get? b = some o → g1.get? b = some o) → (∀ b o, g1.get? b = some o → h'.get? b = some o) → h'.get? g1.objs.size = some (seqObj "list" (List.toArray out) c) → out.length = n → EachIs IntAt out ((List.range n).mergeSort (dataLe false k)) →
      Q (.ref g1.objs.size) { s with heap := h', toks := tk }) :
    wpAny (model prog w) A (call (.builtin "sorted") [.ref r] [(Str.ofString "key", .ref f)]) Q E s := by
  refine call_function_entry_kw kind_sorted plain_sorted entry_sorted (ksk_s1 _ _) ?_
  unfold Builtin.«sorted»
  refine wpAny_bind (m := checkCount "sorted" 1 1 _) (wpAny_pure ?_)
  refine wpAny_bind (collect_range (A := A.in1) (s := s) (n := n) hh hr (small_one (by omega) (by omega) (by omega) (by omega)) (by rw [rangeSize_nat]; omega) few fun h1 tk1 acc kp1 its => ?_)
  have hl : acc.toList.length = n := by rw [Array.length_toList]; exact its.1
  have hz : acc.toList.length ≤ sizeLine := by rw [hl, sizeLine_eq]; omega
  have eR : EachIs IntAt acc.toList (List.range n) := by
    have e := each_range acc.toList 0 fun i v hi => by
      rw [Array.getElem?_toList] at hi
      obtain ⟨t, rfl⟩ := its.2 i v hi
      exact ⟨t, by congr 1; omega⟩
    rw [hl] at e
    have e2 : (List.range n).map (0 + ·) = List.range n := by
      rw [show ((fun x => 0 + x) : Nat → Nat) = id from funext fun x => Nat.zero_add x, List.map_id]
    rwa [e2] at e
  refine wpAny_bind (wpAny_newList ?_ hz)
  have hA : (h1.push { cls := .type "list", data := .seq acc.toList.toArray }).get? h1.objs.size = some (seqObj "list" acc.toList.toArray 0) := Heap.get?_push_size _ rfl
  refine wpAny_bind (wpAny_holding (wpAny_call_entry_kw slot_list_sort ⟨_, hA, rfl⟩ entry_list_sort ?body (ksk_l1 _ _)))
  case body =>
    rw [ksk_t1]
    refine keyH_tree (kz := (List.range n).map k) (s := { s with heap := h1.push { cls := .type "list", data := .seq acc.toList.toArray }, toks := tk1 }) hA (by rw [List.length_map, List.length_range, hl]) hz hal hsk (fun d hd => ?_)
      (keyH_turns (s := { s with heap := h1.push { cls := .type "list", data := .seq acc.toList.toArray }, toks := tk1 }) eR fun v x hR hx g tk kp => ?_) fun g tk out c kp hD ko => ?_
    · obtain ⟨x, _, rfl⟩ := List.mem_map.mp hd
      exact hu x
    · obtain ⟨t, rfl⟩ := hR
      exact turn x t (List.mem_range.mp hx) g tk fun b o e => kp b o (Nat.ne_of_lt (Heap.lt_size (kp1 b o e))) (Heap.get?_push_of_some _ (kp1 b o e))
    · exact ⟨_, rfl, wpAny_pure ⟨_, rfl, h h1 out c g tk kp1 (fun b o e => kp b o (Nat.ne_of_lt (Heap.lt_size e)) (Heap.get?_push_of_some _ e)) hD ((ko.length (by rw [List.length_map, List.length_range, hl])).trans hl) (keyedOut_each k ko eR)⟩⟩
end
section
open PySem PySem.Spec PySem.Calls PyProof PyProof.Rows L2 RT
variable {X : Cx}
/-- by falling size, of equal ones as they stand -/
def byFall (zs : List Int) : List Nat := (List.range zs.length).mergeSort (PySem.W.dataLe false fun k => .int (-(zs.getD k 0)))
theorem cr_range1 : CallR X (.type "range") (fun vs H Q => ∃ i, vs = [V.int i] ∧ ∀ p, H p = none → Q (.ref p) (upd H p (.rng 0 i))) := by
  intro pins s σ H vs us Q I r h
  obtain ⟨i, rfl, q⟩ := h
  obtain ⟨u, rfl, ri⟩ := vals1 r
  obtain ⟨t, rfl⟩ := ri
  refine call_range_1 ⟨.ref s.heap.objs.size, upd H s.heap.objs.size (.rng 0 i), I.laid (t' := s.toks + 1 + 1) (fun b o e => Heap.get?_push_of_some _ e) (Nat.le_refl _) ?_, rfl, q _ (I.hok.fresh (Nat.le_refl _))⟩
  exact ⟨_, _, _, Heap.get?_push_size _ rfl⟩
def tSortLam (K : PySem.W.Frag) (P : Addr) (q : Str) (i : Nat) (te : TE) : TE := fun σ H Q => te σ H fun v H1 =>
  ∃ (r L : Addr) (zs : List Int), v = .ref r ∧ H1 r = some (.rng 0 (zs.length : Int)) ∧ zs.length ≤ 16777216 ∧ LamX.Tabs [(P, q)] H1 ∧ σ[i]? = some (some (.ref L)) ∧ SqL K H1 L (zs.map V.int) ∧
    ∀ (H2 : Hp) (p : Addr), LamX.ExtN H1 H2 → LamX.Tabs [(P, q)] H2 → H2 p = none → Q (.ref p) (upd H2 p (.lst ((byFall zs).map fun (k : Nat) => V.int (k : Int))))
theorem seq_keepN {K : PySem.W.Frag} {H H' : Hp} {b : Addr} {xs : List V} (h : SqL K H b xs) (k : LamX.ExtN H H') : SqL K H' b xs := by
  rcases h with (h | ⟨o, h⟩) | h
  · exact .inl (.inl (k _ _ h fun _ z => by cases z))
  · exact .inl (.inr ⟨o, k _ _ h fun _ z => by cases z⟩)
  · exact .inr h
theorem each_ints : ∀ {us : List Value} {bs : List Nat}, PySem.W.EachIs IntAt us bs → Vals (bs.map fun (k : Nat) => V.int (k : Int)) us
  | _, _, .nil => .nil
  | _, _, .cons ⟨t, e⟩ r => .cons ⟨t, e⟩ (each_ints r)
theorem pe_sortLam {cc P : Addr} {i : Nat} {e : Expr} {te : TE} {k : Nat} {p p1 p2 p3 p4 p5 p6 p7 pos : Pos} (hc : X.calm = true) (hg : Gl X "sorted") (hm : X.mg "sorted" = none) (he : PE X e te)
    (TB : LamX.TabB X.base X.mg cc P) (hcode : X.env.code = .ref cc) (hr : Room (k + 2) X.A) (hN : X.N[i]? = some "sizes") (hv : X.env.scope.names.lookup (Str.ofString "sizes") = some NameKind.cell)
    (na : starEach [e] X.env = (false, eval e X.env) :: starEach [] X.env := by rfl) (hb : backTo pos (starEach [e] X.env) = (false, eval e X.env) :: backTo pos (starEach [] X.env) := by rfl) (hpl : (backTo pos (starEach [e] X.env)).any (·.1) = false := by rfl) :
    PE X (.Call (.Name "sorted" p) [e] [{ arg := some "key", value := .Lambda (lamPar p1) (lamBody p2 p3 p4 p5) lamScope p6, pos := p7 }] pos) (tSortLam X.K P (X.env.qual ++ "<lambda>") i te) := by
  refine ⟨fun pins s σ H Q I h => ?_⟩
  refine wpAny_Call_Name_kw (ld_blt I hg hm PyProof.Rows.boot_sorted ?_ (by decide) (by decide))
  refine PyProof.Rows.callWith_kw (args_cons (thn (he.run pins s σ H _ I h) fun u s1 ⟨v, H1, I1, r1, q1⟩ => args_nil ?_) na) hb hpl
  obtain ⟨r, L, zs, rfl, hrg, few, hT, hσ, hL, q⟩ := q1
  obtain rfl : u = Value.ref r := r1
  have hfree : ∀ y ∈ lamScope.names, y.2 = .free → ∃ c, X.env.cells.lookup y.1 = some c := fun y hy z => by
    rcases List.mem_cons.mp hy with rfl | hy
    · cases z
    · rw [List.mem_singleton.mp hy]
      exact I1.ok.has _ (.inl hv)
  show wpAny _ _ (evalAll [do let v ← eval (.Lambda (lamPar p1) (lamBody p2 p3 p4 p5) lamScope p6) X.env; standAt pos; pure v]) _ _ s1
  refine wpAny_evalAll_cons (wpAny_bind (LamX.lam_make2 I1 TB hcode (List.mem_singleton.mpr rfl) (fun x hx _ => by rw [List.mem_singleton.mp hx]) hT rfl hfree fun f c' pm ctv H2 s2 I2 eN T2 hf hfn hfr hco => wpAny_bind (wpAny_standAt (wpAny_pure (wpAny_evalAll_nil ?_)))))
  show wpAny _ _ (call (.builtin "sorted") [.ref r] [(Str.ofString "key", .ref f)]) _ _ s2
  have hrg2 : H2 r = some (.rng 0 (zs.length : Int)) := eN _ _ hrg (fun ps z => by cases z)
  obtain ⟨t, u, v, hro⟩ := I2.hok r _ hrg2
  have hL2 : SqL X.K H2 L (zs.map V.int) := seq_keepN hL eN
  obtain ⟨its, rv, pl, hz⟩ := I2.list hL2
  have hI := rv.ints
  obtain ⟨m, hn, hl⟩ := I2.loc
  obtain ⟨w', rw', lk⟩ := hl i "sizes" (.ref L) hN hσ (.inr (.inl hv))
  obtain rfl : w' = Value.ref L := rw'
  obtain ⟨cs, hcs, hcell⟩ : ∃ c, X.env.cells.lookup (Str.ofString "sizes") = some c ∧ s2.heap.IsCell c (some (.ref L)) := by
    rcases lk with ⟨z, _⟩ | ⟨_, z⟩
    · have z' : X.env.scope.names.lookup (Str.ofString "sizes") = some .local := z
      rw [hv] at z'
      cases z'
    · exact z
  have hclo : cloFrom X.env.cells lamScope.names [] = [(Str.ofString "sizes", cs)] := by
    show [(Str.ofString "sizes", (X.env.cells.lookup (Str.ofString "sizes")).getD 0)] = _
    rw [hcs]
    rfl
  rw [hclo] at hf
  obtain ⟨⟨oc, vsc, tc, hoc, hdc, hvc⟩, _, _⟩ := I2.hok c' _ hco
  have un := hr.un
  have dp := hr.dp
  refine sorted_rng (fun k => .int (-(zs.getD k 0))) (I2.ok.hd hc) hro (by omega) (PySem.W.AllAlike.of fun _ _ => by simp [PySem.W.alike]) (PySem.W.Sortable.others fun _ => ⟨(fun z => by cases z), fun _ z => by cases z⟩) (fun x => ?_) (fun x t hx g tk kp => ?_) fun g1 out c h' tk k1 k2 hS hlen hE => ?_
  · show X.A.units + 2 + PyData.depth (.int _) < cLine
    rw [show ∀ i : Int, PyData.depth (.int i) = 0 from fun i => by simp [PyData.depth]]
    omega
  · obtain ⟨u0, hu0, t0, hw⟩ := rv.get (i := x) (x := V.int (zs.getD x 0)) (by rw [List.getElem?_map, List.getElem?_eq_getElem hx]; simp [List.getD, hx])
    refine wpAny_mono (lam_call (A := X.A.in1.in1) (s := { s2 with heap := g, toks := tk }) (k := x) (n := zs.getD x 0) (t0 := t0) (by show X.A.depth < _; omega) (kp _ _ hf) ⟨c', oc, vsc, tc, rfl, kp _ _ hoc, hdc, hvc⟩ (I2.nolimit.keeps kp) (hcell.keeps kp)
      (pl.isList.at fun o e => kp _ _ e) (by rw [List.getElem?_toArray, hu0, hw]) (by rw [List.size_toArray, ← rv.length]; exact hz)) (fun v s3 ⟨g', tk', t', e1, e2, e3⟩ => ?_) fun _ _ z => z
    rw [e1, e3]
    exact ⟨g', tk', rfl, e2, .int _ _⟩
  · have I3 : L2.Inv X pins σ H2 { s2 with heap := g1, toks := s2.toks } := I2.kept k1
    refine ⟨.ref g1.objs.size, upd H2 g1.objs.size (.lst ((byFall zs).map fun (k : Nat) => V.int (k : Int))), I3.laid (t' := tk) k2 (Nat.le_refl _) (show ObjOk X.prog X.w _ _ _ (.lst _) from ⟨?_, out, c, each_ints hE, hS⟩), rfl, q H2 _ eN T2 (I3.hok.fresh (Nat.le_refl _))⟩
    rw [List.length_map, byFall, List.length_mergeSort, List.length_range, sizeLine_eq]
    omega
end
section
open PySem PySem.Spec PyProof PyProof.Rows L2
variable {P : Program} {w : World} {K : PySem.W.Frag} {mg : Str → Option Value} {base : Heap}
/-- THE RULE for a def whose code object is known -/
theorem FunAt.okX {x qual : Str} {st : Stmt} {f q : Addr} {fd : FuncData} {N ps : List Str} {k : Nat} {sp : Sp} (F : FunAt K x qual st f fd q) (S : FnScope N ps (defScope st)) (len : ∀ vs H Q E, sp vs H Q E → vs.length = ps.length)
    (hbody : ∀ (A : Around) (outer : List Env) (s : Shared) (H : Hp) (vs : List V) (Q : VK) (E : XK), Room k (A.deeper (envOfC qual (defScope st) s.heap.objs.size f (.ref q))) → sp vs H Q E →
      ∃ t, PSs (cxOf (L2.CX P w) P w K mg base N qual (defScope st) f (.ref q) A outer s H E) (defBody st) t ∧ t { nx := fun _ H' => Q .non H', rt := Q } (L2.start N vs) H) : FnOk P w K mg base (L2.CX P w) (k + 1) f fd ps sp := by
  obtain ⟨oc, od, kV, doc, pm, an, ct, osl, rfl, lk, hcd⟩ := F.ex
  exact fn_of lk hcd S len fun A outer s H vs Q E hr hsp => hbody A outer s H vs Q E hr hsp
end
section
open PySem L2
theorem newK {H : Hp} {p : Addr} {o : HO} (hp : H p = none) : ∀ b u, H b = some u → L2.upd H p o b = some u := fun b u e => by
  rw [upd_ne (fun z => by rw [z, hp] at e; cases e)]
  exact e
end
/-! ### the first piece of a yard -/
theorem mx_first {d j i : Nat} : Mx (Oc []) d j i ↔ j = d ∧ i = 0 := by
  have no : ∀ k i, Fr (Oc []) k i := fun k i c _ ⟨q, m, _⟩ => by cases m
  constructor
  · rintro ⟨h1, h2, _, h4⟩
    have : j = d := by
      apply Classical.byContradiction
      intro z
      exact h4 (by omega) (no _ _)
    subst this
    rw [Nat.sub_self, Nat.pow_zero] at h2
    omega
  · rintro ⟨rfl, rfl⟩
    exact ⟨Nat.le_refl _, Nat.pow_pos (by decide), no _ _, fun l => by omega⟩
theorem best_first {d k : Nat} (h : k ≤ d) : Best [] d k d 0 := by
  refine ⟨h, ?_, by rw [Nat.zero_div, Nat.zero_mul], fun j i _ l z => ?_, fun i _ => Nat.zero_le _⟩
  · rw [Nat.zero_div]
    exact mx_first.mpr ⟨rfl, rfl⟩
  · have := (mx_first.mp z).1
    omega
/-- the upper halves of the whole yard, from the least on -/
def ups (k n : Nat) : List PI2 := (List.range n).map fun i => (((2 ^ (k + i) : Nat) : Int), ((2 ^ (k + i) : Nat) : Int))
theorem ups_succ (k n : Nat) : ups k (n + 1) = ups k n ++ [(((2 ^ (k + n) : Nat) : Int), ((2 ^ (k + n) : Nat) : Int))] := by
  unfold ups
  rw [List.range_succ, List.map_append]
  rfl
theorem ups_sorted (k n : Nat) : srt (ups k n) = ups k n := by
  refine (srt_of (List.Perm.refl _) ?_).symm
  unfold ups
  refine List.pairwise_map.mpr ((List.pairwise_lt_range).imp fun {i j} l => ?_)
  rw [SrtO.lexB_no]
  have : 2 ^ (k + i) < 2 ^ (k + j) := Nat.pow_lt_pow_right (by decide) (by omega)
  show ¬ (((2 ^ (k + j) : Nat) : Int) < ((2 ^ (k + i) : Nat) : Int) ∨ _)
  omega
theorem frees_one {d k : Nat} (h : k ≤ d) : frees [(0, k)] d = ups k (d - k) := by
  have hM : Mx (Oc []) d d (0 / 2 ^ d) := by rw [Nat.zero_div]; exact mx_first.mpr ⟨rfl, rfl⟩
  have hO : ∀ c, Oc [(0, k)] c ↔ Oc [] c ∨ c / 2 ^ k = 0 / 2 ^ k := fun c => Oc_snoc (os := []) (x := 0) (k := k)
  have lev : ∀ j, j ≤ d → frl (Oc [(0, k)]) d j = if k ≤ j ∧ j < d then [2 ^ j] else [] := by
    intro j hj
    rw [← can_give h hM hO j]
    have e0 : setF (frl (Oc []) d) d (del (0 / 2 ^ d * 2 ^ d) (frl (Oc []) d d)) j = [] := by
      unfold setF
      by_cases e : j = d
      · subst e
        rw [if_pos rfl, ← frl_first j j (Nat.le_refl _)]
        unfold setF
        rw [if_pos rfl, Nat.zero_div, Nat.zero_mul]
        rfl
      · rw [if_neg e]
        exact frl_nil.mpr fun i z => e (mx_first.mp z).1
    unfold addF
    rw [e0]
    by_cases c : k ≤ j ∧ j < d
    · rw [if_pos c, if_pos c, Nat.zero_div]
      show ins (1 * 2 ^ j) [] = [2 ^ j]
      rw [Nat.one_mul]
      rfl
    · rw [if_neg c, if_neg c]
  have all : ∀ n, n ≤ d + 1 → allN n (frl (Oc [(0, k)]) d) = ups k (min n d - k) := by
    intro n
    induction n with
    | zero =>
      intro _
      rw [Nat.zero_min, Nat.zero_sub]
      rfl
    | succ n ih =>
      intro hn
      rw [allN_succ, ih (by omega), lev n (by omega)]
      by_cases c : k ≤ n ∧ n < d
      · rw [if_pos c, Nat.min_eq_left (by omega), Nat.min_eq_left (by omega), show n + 1 - k = n - k + 1 by omega, ups_succ, show k + (n - k) = n by omega]
        rfl
      · rw [if_neg c, List.map_nil, List.append_nil]
        by_cases c1 : n < d
        · rw [show min n d - k = 0 by omega, show min (n + 1) d - k = 0 by omega]
        · rw [show min (n + 1) d = min n d by omega]
  unfold frees
  rw [all (d + 1) (Nat.le_refl _), Nat.min_eq_right (by omega), ups_sorted]
theorem cut_int {ns : List Int} {lo hi : Option Int} {v : V} {i : Nat} (h : (cutV (ns.map V.int) lo hi)[i]? = some v) : ∃ c : Int, v = .int c := by
  have m := List.mem_of_getElem? h
  unfold cutV at m
  have m2 := List.mem_of_mem_drop (List.mem_of_mem_take m)
  obtain ⟨c, _, e⟩ := List.mem_map.mp m2
  exact ⟨c, e.symm⟩
theorem fit_two {e : Nat} (h : e ≤ 60) : fit ((2 ^ e : Nat) : Int) = e := by
  have p60 := pow60 h
  have pe : 0 < 2 ^ e := Nat.pow_pos (by decide)
  obtain ⟨_, h2, h3⟩ := fit_spec (w := ((2 ^ e : Nat) : Int)) (by omega) (by omega)
  generalize fit ((2 ^ e : Nat) : Int) = f at h2 h3
  have a : 2 ^ e ≤ 2 ^ f := by omega
  have b : 2 ^ f < 2 ^ (e + 1) := by rw [Nat.pow_succ]; omega
  have a := (Nat.pow_le_pow_iff_right (by decide)).mp a
  have b := (Nat.pow_lt_pow_iff_right (by decide)).mp b
  omega
def dLL (zss : List (List PI2)) : PyData := .list (zss.map dL)
theorem dLAll_eqv : ∀ zs ws : List (List PI2), PyData.eqvAll (zs.map dL) (ws.map dL) = decide (zs = ws)
  | [], [] => by simp [PyData.eqvAll]
  | [], w :: ws => by simp [PyData.eqvAll]
  | z :: zs, [] => by simp [PyData.eqvAll]
  | z :: zs, w :: ws => by
    rw [List.map_cons, List.map_cons, PyData.eqvAll, dL_eqv, dLAll_eqv zs ws]
    by_cases h1 : z = w <;> by_cases h2 : zs = ws <;> simp [h1, h2]
theorem dLL_eqv (zs ws : List (List PI2)) : PyData.eqv (dLL zs) (dLL ws) = decide (zs = ws) := by
  unfold dLL
  rw [PyData.eqv, dLAll_eqv]
theorem dLAll_lay : ∀ zs : List (List PI2), PyData.canLayAll0 (zs.map dL) = true
  | [] => by simp [PyData.canLayAll0]
  | z :: zs => by rw [List.map_cons, PyData.canLayAll0, dL_lay, dLAll_lay zs]; rfl
theorem dLAll_depth : ∀ zs : List (List PI2), PyData.depthAll (zs.map dL) ≤ 2
  | [] => by simp [PyData.depthAll]
  | z :: zs => by
    have := dLAll_depth zs
    have := dL_depth z
    rw [List.map_cons, PyData.depthAll]
    omega
theorem dLL_shaped (zs : List (List PI2)) : SeqAt.shaped (dLL zs) = true := by
  have h : (dLL zs).depth ≤ 3 := by
    unfold dLL
    rw [PyData.depth]
    have := dLAll_depth zs
    omega
  unfold SeqAt.shaped
  rw [show (dLL zs).canLay0 = true by unfold dLL; rw [PyData.canLay0]; exact dLAll_lay zs, decide_eq_true (by omega)]
  rfl
/-- two yards do not share -/
theorem YardAt.two {a : Ad} {Y Z : YA} {d e : Nat} {os us : List PN} {H H' : Hp} (h2 : YardAt a Z e us H) (h1 : YardAt a Y d os H) (n : ∀ b ∈ own Z e, b ∉ own Y d) (o : Only (own Y d) H H') : YardAt a Z e us H' := by
  have pdn : Z.pd ∉ own Y d := fun z => by
    rcases List.mem_cons.mp z with z | z
    · have x := h2.po.dk
      rw [z, h1.so] at x
      have x : os.map outI = pdK e Z.ls := HO.dK.inj (Option.some.inj x)
      have m : ((Sum.inl ((2 ^ 0 : Nat) : Int) : Key), V.ref (Z.ls 0)) ∈ pdK e Z.ls := List.mem_map.mpr ⟨0, List.mem_range.mpr (by omega), rfl⟩
      rw [← x] at m
      obtain ⟨q, _, eq⟩ := List.mem_map.mp m
      cases congrArg Prod.snd eq
    · exact h1.po.off h2.po.dk (by intro xs z; cases z) z
  exact ⟨o _ _ h2.yo (h1.off h2.yo (by intro xs z; cases z) (by intro xs z; cases z)), o _ _ h2.so (n _ List.mem_cons_self), ⟨o _ _ h2.po.ob (h1.off h2.po.ob (by intro xs z; cases z) (by intro xs z; cases z)), o _ _ h2.po.dk pdn, fun j hj => o _ _ (h2.po.at_ j hj) (n _ (lsA_own _ (lsA_mem hj))), h2.po.inj, h2.po.rise, h2.po.len, h2.po.d60⟩, h2.good, h2.few, h2.ne⟩
/-- two lists kept -/
def BefAt (S : List Addr) (H : Hp) (b : Addr) (zs ws : List PI2) : Prop := b ∉ S ∧ ∃ (c1 c2 : Addr) (u1 u2 : List Addr), c1 ∉ S ∧ c2 ∉ S ∧ H b = some (.lst [.ref c1, .ref c2]) ∧ H c1 = some (.lst (u1.map V.ref)) ∧ H c2 = some (.lst (u2.map V.ref)) ∧ Tups H u1 zs ∧ Tups H u2 ws
theorem BefAt.only {S : List Addr} {H H' : Hp} {b : Addr} {zs ws : List PI2} (h : BefAt S H b zs ws) (o : Only S H H') (n : ∀ t xs, H t = some (.tup xs) → t ∉ S) : BefAt S H' b zs ws := by
  obtain ⟨n0, c1, c2, u1, u2, n1, n2, e0, e1, e2, t1, t2⟩ := h
  exact ⟨n0, c1, c2, u1, u2, n1, n2, o _ _ e0 n0, o _ _ e1 n1, o _ _ e2 n2, t1.keep fun t xs e => o _ _ e (n t _ e), t2.keep fun t xs e => o _ _ e (n t _ e)⟩
theorem BefAt.dp {S : List Addr} {K : PySem.W.Frag} {H : Hp} {b : Addr} {zs ws : List PI2} (h : BefAt S H b zs ws) : Dp K H (.ref b) (dLL [zs, ws]) := by
  obtain ⟨n0, c1, c2, u1, u2, n1, n2, e0, e1, e2, t1, t2⟩ := h
  exact .lst (SqL.of e0) (.cons (dp_list e1 t1) (.cons (dp_list e2 t2) .nil))
theorem _root_.L2.Room.units65 {k : Nat} {A : Around} (r : L2.Room k A) : A.units + 65 < cLine := by
  have := r.un
  omega
theorem nm {i : Nat} {v : V} {σ : St} {H : Hp} {D : St → Hp → Prop} (h : D (σ.set i (some v)) H) : gName i v σ H D := h
theorem split_seq {t : TT} {a b B : TS} {D : Ends} {σ : St} {H : Hp} (C : St → Hp → Prop) (main : (∀ σ' H', C σ' H' → B D σ' H') → tSeq (tIfS t a b) B D σ H) (tail : ∀ σ' H', C σ' H' → B D σ' H') : tSeq (tIfS t a b) B D σ H := main tail
/-! ### the ends of iterators where an exception is handled -/
section
open PySem PySem.Spec PyProof PyProof.Rows HotX
variable {prog : Program} {w : World} {A : Around} {E : Value → Shared → Prop} {s : Shared}
/-- StopIteration is made and raised there -/
theorem stop_hot {α : Type} {x1 : Addr} {R : Value → Shared → Prop} (hot : HotAt A x1 s.heap) (hR : ∀ a h', (∀ b o, s.heap.get? b = some o → h'.get? b = some o) → ({ s with heap := h' } : Shared).TypeIs (.ref a) "StopIteration" → R (.ref a) { s with heap := h' }) :
    wpAny (model prog w) A (newExc (.type "StopIteration") []) (fun e s1 => wpAny (model prog w) A (raiseNew e : Sem α) (fun _ _ => False) R s1) E s := by
  obtain ⟨hh, o1, vs1, h1, d1, c1⟩ := hot
  simp only [newExc, newTuple]
  refine wpAny_bind (wpAny_newObj_type ?_ (by size_fits))
  refine wpAny_bind (m := firstArgMember _ _) (wpAny_of_eq (a := Value.none) (by first | rfl | (simp only [firstArgMember]; rfl)) ?_)
  refine wpAny_newObj_type ?_ (by size_fits)
  refine raiseNew_hot ⟨hh, o1, vs1, Heap.get?_push_of_some _ (Heap.get?_push_of_some _ h1), d1, c1⟩ (Nat.ne_of_lt (Heap.lt_size (Heap.get?_push_of_some _ h1))) (Heap.get?_push_size _ rfl) rfl (by first | (simp; done) | (simp; omega) | (simp only [Array.size_append]; simp; omega)) ?_
  refine hR _ _ (fun b o e => ?_) ⟨_, Heap.get?_update_self _ (Heap.get?_push_size _ rfl) rfl, rfl⟩
  rw [Heap.get?_update_other _ _ (Nat.ne_of_gt (Heap.lt_size (Heap.get?_push_of_some _ e)))]
  exact Heap.get?_push_of_some _ (Heap.get?_push_of_some _ e)
theorem tuple_end_hot {it t x1 : Addr} {i : Nat} {items : Array Value} {Q : Option Value → Shared → Prop} (hot : HotAt A x1 s.heap) (ne : x1 ≠ it) (hit : s.heap.IsTupleIter it t i) (ht : s.heap.IsTuple t items) (hx : items[i]? = none)
    (hQ : ∀ h', Heap.ExtBut it s.heap h' → Q none { s with heap := h' }) : wpAny (model prog w) A (pyNext (.ref it)) Q E s := by
  obtain ⟨o, ho, hc, hd⟩ := id hit
  obtain ⟨ol, hol, _, nl, hdl⟩ := ht
  obtain ⟨hh, o1, vs1, h1, d1, c1⟩ := hot
  unfold pyNext
  refine wpAny_bind (wpAny_attempt (wpAny_callSpecial?_slot (name := Str.ofString "__next__") hit.typeIs F.slot_tuple_iterator_next
    (wpAny_call_entry F.slot_tuple_iterator_next hit.typeIs F.entry_tuple_iterator_next ?_ (F.args_tuple_iterator_next_1 _))))
  show wpAny _ _ (field (.ref it) 0 >>= _) _ _ s
  refine wpAny_bind (wpAny_field ho hd (x := .ref t) rfl ?_)
  show wpAny _ _ (if (Value.ref t == Value.none) = true then _ else _) _ _ s
  rw [if_neg (show ¬ ((Value.ref t == Value.none) = true) from Bool.false_ne_true)]
  show wpAny _ _ (field (.ref it) 1 >>= _) _ _ s
  refine wpAny_bind (wpAny_field ho hd (x := .int i 0) rfl ?_)
  show wpAny _ _ (seqItems? (.ref t) >>= _) _ _ s
  refine wpAny_bind (wpAny_seqItems hol hdl ?_)
  simp only [Int.toNat_natCast, hx]
  refine wpAny_bind (wpAny_rule (wpAny_bind (wpAny_setField ho hd (by simp) ?_)))
  show wpAny _ _ (newExc (.type "StopIteration") [] >>= _) _ _ _
  refine wpAny_bind ?_
  refine wpAny_mono (stop_hot (A := A.in1) ⟨hh, o1, vs1, (Heap.get?_update_other _ _ (Ne.symm ne)).trans h1, d1, c1⟩ fun a h' k ty => ?_) (fun e s1 h => wpAny_mono h (fun _ _ z => z.elim) fun _ _ z => z) fun _ _ x => x
  refine wpAny_bind (wpAny_isInstance (T := "StopIteration") (b := true) ty isSubtype_stop ?_)
  exact wpAny_pure (hQ _ fun b o hb e => k b o ((Heap.get?_update_other _ _ (Ne.symm hb)).trans e))
theorem values_end_hot {K : Type} [DecidableEq K] {knd : KeyKind prog w K} {it d x1 : Addr} {i ep : Nat} {kvs : List (K × Value)} {Q : Option Value → Shared → Prop} (hot : HotAt A x1 s.heap) (ne : x1 ≠ it) (hit : s.heap.IsValIter it d i kvs.length ep)
    (hm : s.heap.DictAt knd d kvs ep) (hx : kvs[i]? = none)
    (hQ : ∀ h', Heap.ExtBut it s.heap h' → Q none { s with heap := h' }) : wpAny (model prog w) A (pyNext (.ref it)) Q E s := by
  obtain ⟨o, ho, hc, hd⟩ := id hit
  obtain ⟨od, es, hod, hcd, hdd, hk, hp, hn⟩ := id hm
  obtain ⟨hh, o1, vs1, h1, d1, c1⟩ := hot
  unfold pyNext
  refine wpAny_bind (wpAny_attempt (wpAny_callSpecial?_slot (name := Str.ofString "__next__") hit.typeIs F.slot_dict_valueiterator_next
    (wpAny_call_entry F.slot_dict_valueiterator_next hit.typeIs F.entry_dict_valueiterator_next ?_ (F.args_dict_valueiterator_next_1 _))))
  refine wpAny_bind (wpAny_pure ?_)
  refine wpAny_bind ?_
  refine wpAny_bind ?_
  first | refine wpAny_bind (wpAny_typeNameOfWhole_valiter hit.typeIs (wpAny_pure ?_)) | refine wpAny_bind (wpAny_typeNameOf_valiter hit.typeIs (wpAny_pure ?_))
  refine wpAny_bind (wpAny_fieldsOf ho hd ?_)
  have hown : Builtin.Dict_items.ownsTuple "dict_valueiterator" = false := by decide
  simp only [hown, Bool.false_eq_true, if_false]
  show wpAny _ _ (if (Value.ref d == Value.none) = true then _ else _) _ _ s
  rw [if_neg (show ¬ ((Value.ref d == Value.none) = true) from Bool.false_ne_true)]
  refine wpAny_bind (wpAny_pure ?_)
  refine wpAny_bind (wpAny_dictEntries hod hdd ?_)
  have hsz : es.size = kvs.length := by rw [← hp.length]; simp
  rw [if_neg (by rw [hsz]; simp)]
  refine wpAny_bind (wpAny_pure ?_)
  refine wpAny_bind (wpAny_dictEpoch hod hdd ?_)
  rw [if_neg (by simp)]
  refine wpAny_pure ?_
  have hge : es.size ≤ i := by rw [hsz]; simpa using hx
  simp only [show ¬ ((i : Int) < 0) from by omega, if_false, Int.toNat_natCast, Array.getElem?_eq_none hge]
  refine wpAny_bind ?_
  first | refine wpAny_bind (wpAny_typeNameOfWhole_valiter hit.typeIs (wpAny_pure ?_)) | refine wpAny_bind (wpAny_typeNameOf_valiter hit.typeIs (wpAny_pure ?_))
  show wpAny _ _ (setField (.ref it) 0 .none >>= _) _ _ s
  refine wpAny_bind (wpAny_setField ho hd (by simp) ?_)
  show wpAny _ _ (newExc (.type "StopIteration") [] >>= _) _ _ _
  refine wpAny_bind ?_
  refine wpAny_mono (stop_hot (A := A.in1) ⟨hh, o1, vs1, (Heap.get?_update_other _ _ (Ne.symm ne)).trans h1, d1, c1⟩ fun a h' k ty => ?_) (fun e s1 h => wpAny_mono h (fun _ _ z => z.elim) fun _ _ z => z) fun _ _ x => x
  refine wpAny_bind (wpAny_isInstance (T := "StopIteration") (b := true) ty isSubtype_stop ?_)
  exact wpAny_pure (hQ _ fun b o hb e => k b o ((Heap.get?_update_other _ _ (Ne.symm hb)).trans e))
end
section
open PySem PySem.Spec PyProof PyProof.Rows HotX
theorem walks_tuple_hot {prog : Program} {w : World} {A : Around} (x1 I ax : Addr) (hne : ax ≠ I) (nx : x1 ≠ I) (items : Array Value) :
    Walks prog w A I [I, ax, x1] [I] items.size (fun i v => items[i]? = some v) (fun i h => (h.IsTupleIter I ax i ∧ h.IsTuple ax items) ∧ HotAt A x1 h) where
  sub := fun b hb => by simp at hb; simp [hb]
  frame := fun _ _ _ st hk => ⟨⟨st.1.1.at fun o e => hk I (by simp) o e, st.1.2.at fun o e => hk ax (by simp) o e⟩, st.2.1, let ⟨o, vs, e, r⟩ := st.2.2; ⟨o, vs, hk x1 (by simp) o e, r⟩⟩
  item := fun i s Q E hi st hQ => by
    refine wpAny_pyNext_tuple_item st.1.1 st.1.2 (x := items[i]) (by simp [hi]) fun h' hit' hs' => ?_
    refine hQ _ h' s.toks (by simp [hi]) ⟨⟨hit', st.1.2.extBut hs'.extBut hne⟩, st.2.1, ?_⟩ fun b o hb e => hs'.extBut b o (fun h => hb (by simp [h])) e
    obtain ⟨o, vs, e, r⟩ := st.2.2
    exact ⟨o, vs, hs'.extBut x1 o nx e, r⟩
  done := fun s Q E st hQ => tuple_end_hot st.2 nx st.1.1 st.1.2 (by simp) fun h' he' => hQ h' s.toks fun b o hb e => he' b o (fun h => hb (by simp [h])) e
  self := fun _ _ _ _ st hQ => wpAny_pyIter_tupleiter st.1.1 hQ
variable {prog : Program} {w : World} {A : Around} {E : Value → Shared → Prop} {s : Shared}
theorem min_two_hot {a b : Int} {t u : Tok} {x1 : Addr} {Q : Value → Shared → Prop} (hot : HotAt A x1 s.heap)
    (h : ∀ h' tk, (∀ c o, s.heap.get? c = some o → h'.get? c = some o) → Q (if b < a then .int b u else .int a t) { s with heap := h', toks := tk }) :
    wpAny (model prog w) A (call (.builtin "min") [.int a t, .int b u]) Q E s := by
  obtain ⟨hh, o1, vs1, h1, d1, c1⟩ := hot
  have l1 := Heap.lt_size h1
  have hT : (s.heap.push { cls := .type "tuple", data := .seq #[.int a t, .int b u] }).IsTuple s.heap.objs.size (intItems #[(a, t), (b, u)]) := ⟨_, Heap.get?_push_size _ rfl, rfl, 0, by simp [intItems]⟩
  refine call_min_two (wpAny_pyIter_tuple hT ?_)
  have hsz : (s.heap.push { cls := .type "tuple", data := .seq #[.int a t, .int b u] }).objs.size = s.heap.objs.size + 1 := Heap.size_push ..
  refine ⟨_, [_, s.heap.objs.size, x1], [_], _, _, _, _, rfl, walks_tuple_hot (A := A.in1) x1 _ s.heap.objs.size (by rw [hsz]; exact Nat.ne_of_lt (Nat.lt_succ_self _)) (by rw [hsz]; exact Nat.ne_of_lt (Nat.lt_succ_of_lt l1)) (intItems #[(a, t), (b, u)]),
    ⟨⟨⟨_, Heap.get?_push_size _ rfl, rfl, rfl⟩, hT.push _⟩, hh, o1, vs1, Heap.get?_push_of_some _ (Heap.get?_push_of_some _ h1), d1, c1⟩, fun c hc => ?_, by simp [intItems], CmpOf.ints_lt (numAt #[(a, t), (b, u)]) (fun _ _ => intItems_at), fun v h' tk hP hk => ?_⟩
  · show c < ((s.heap.push _).push _).objs.size
    rw [Heap.size_push, hsz]
    simp only [List.mem_cons, List.not_mem_nil, or_false] at hc
    rcases hc with rfl | rfl | rfl
    · rw [hsz]; exact Nat.lt_succ_self _
    · exact Nat.lt_succ_of_lt (Nat.lt_succ_self _)
    · exact Nat.lt_succ_of_lt (Nat.lt_succ_of_lt l1)
  · have hold : ∀ c o, s.heap.get? c = some o → h'.get? c = some o := fun c o e => by
      refine hk c o (fun hm => ?_) (Heap.get?_push_of_some _ (Heap.get?_push_of_some _ e))
      have e1 := List.mem_singleton.mp hm
      have := Heap.lt_size e
      rw [e1, hsz] at this
      exact Nat.lt_irrefl _ (Nat.lt_of_succ_lt this)
    have := h h' tk hold
    have hv : v = if b < a then Value.int b u else Value.int a t := by
      have hP' : (intItems #[(a, t), (b, u)])[argBest (fun i j => decide (numAt #[(a, t), (b, u)] i < numAt #[(a, t), (b, u)] j)) 1]? = some v := by
        have hsz2 : (intItems #[(a, t), (b, u)]).size - 1 = 1 := by simp [intItems]
        rw [← hsz2]; exact hP
      by_cases hba : b < a
      · have e : argBest (fun i j => decide (numAt #[(a, t), (b, u)] i < numAt #[(a, t), (b, u)] j)) 1 = 1 := by simp [argBest, numAt, hba]
        rw [e] at hP'
        simpa [intItems, hba] using hP'.symm
      · have e : argBest (fun i j => decide (numAt #[(a, t), (b, u)] i < numAt #[(a, t), (b, u)] j)) 1 = 0 := by simp [argBest, numAt, hba]
        rw [e] at hP'
        simpa [intItems, hba] using hP'.symm
    rw [hv]; exact this
end
section
open PySem PySem.Spec PyProof PyProof.Rows L2 L2H
variable {X : Cx}
theorem call_min2H (hc : HotC X) : CallR X (.builtin "min") (fun xs H Q => ∃ i j, xs = [.int i, .int j] ∧ Q (.int (if j < i then j else i)) H) := by
  intro pins s σ H xs us Q I r h
  obtain ⟨i, j, rfl, q⟩ := h
  obtain ⟨u, w', rfl, ⟨t, rfl⟩, ⟨t', rfl⟩⟩ := vals2 r
  obtain ⟨x1, hot⟩ := hc.at I
  refine min_two_hot hot fun h' tk k => ⟨_, H, I.kept k, ?_, q⟩
  by_cases hj : j < i
  · rw [if_pos hj, if_pos hj]; exact ⟨_, rfl⟩
  · rw [if_neg hj, if_neg hj]; exact ⟨_, rfl⟩
end
section
open PySem PySem.Spec PyProof PyProof.Rows L2 L2H
variable {P : Program} {w : World} {K : PySem.W.Frag} {tg : Expr} {d : Addr} {o : Obj} {es : Array DictEntry} {ep : Nat}
theorem turn_valsH {kvs : List (L2.Key × V)} (it : Addr) (hod : o.data = .dict es ep) : TurnH P w K tg (Itd d o kvs) [it] it (fun i h => h.IsValIter it d i kvs.length ep) where
  mem := by simp
  obj := fun i h st b hb => by
    have e : b = it := by simpa using hb
    subst e
    obtain ⟨oi, e, c, dd⟩ := st
    exact ⟨oi, e, fun v z => by rw [dd] at z; cases z⟩
  keep := fun i h h' st k => st.at fun oi e => k it (by simp) oi e
  item := by
    intro X hP hw hK hc i pins s σ H E I hf st hg
    subst hP hw hK
    obtain ⟨hd, hi⟩ := hg
    obtain ⟨f0, f1, f2, f3, f4, f5⟩ := hf it (by simp)
    obtain ⟨hs, hgd, hx, es', ep', vs, hdt, hsz, kv, hm⟩ := I.frzK hd
    obtain ⟨rfl, rfl⟩ := dict_ep hod hdt
    obtain ⟨⟨k, v⟩, hkv⟩ : ∃ p, kvs[i]? = some p := ⟨kvs[i], List.getElem?_eq_getElem hi⟩
    obtain ⟨u, hu, ru⟩ := kv_get kv hkv
    have hl : kvs.length = vs.length := Paired.length kv
    rw [hl] at st
    refine wpAny_pyNext_values_item st hm hu fun h' st' sb => ?_
    have I1 : Inv X pins σ H { s with heap := h' } := I.turned (t' := s.toks) (fun b ob hb e => (sb.2 b hb).trans e) f0 f1 f3 f4 f5
    obtain ⟨oi, e, c, dd⟩ := id st'
    refine ⟨u, rfl, go_of (s := { s with heap := h' }) e c dd (by decide) ⟨v, H, I1, ru, ⟨rfl, k, hkv⟩, ?_, fun b hb => (hf b hb).1⟩⟩
    show h'.IsValIter it d (i + 1) kvs.length _
    rw [hl]
    exact st'
  done := by
    intro X hP hw hK hc i pins s σ H E I hf st hg
    subst hP hw hK
    obtain ⟨hd, hi⟩ := hg
    obtain ⟨f0, f1, f2, f3, f4, f5⟩ := hf it (by simp)
    obtain ⟨hs, hgd, hx, es', ep', vs, hdt, hsz, kv, hm⟩ := I.frzK hd
    obtain ⟨rfl, rfl⟩ := dict_ep hod hdt
    have hl : kvs.length = vs.length := Paired.length kv
    rw [hl] at st
    obtain ⟨p, ⟨hh, v1, e1, c1⟩, hp⟩ := hc
    exact values_end_hot ⟨hh, p.2, v1, (I.pin p (List.mem_append_left _ hp)).1, e1, c1⟩ (f5 p (List.mem_append_left _ hp)) st hm (List.getElem?_eq_none (by omega)) fun h' eb => ⟨rfl, I.turned (t' := s.toks) (fun b ob hb e => eb b ob hb e) f0 f1 f3 f4 f5⟩
  self := fun A i s Q E st h => wpAny_pyIter_valiter st h
variable {X : Cx} {e : Expr} {td : TE} {apos cpos : Pos}
theorem pi_valuesH (he : PE X e td) (hbase : attributeBase e "values" X.env (eval e X.env) = eval e X.env := by rfl) (hline : (apos.endLine == cpos.line) = true := by rfl) : PIH X tg (.Call (.Attribute e "values" apos) [] [] cpos) (iVals td) := by
  refine ⟨fun pins s σ H R I h => ?_⟩
  refine wpAny_Call_method (T := "dict") (id := "dict.values") hbase rfl hline F.plainAttrs_dict F.slot_dict_values F.type_dict_values (thn (he.run pins s σ H _ I h) fun u s1 ⟨x, H1, I1, rx, d, o, kvs, ex, hd, q⟩ => ?_)
  subst ex
  obtain rfl : u = Value.ref d := rx
  obtain ⟨hs, hgd, hx, es, ep, vs, hdt, hsz, kv, hm⟩ := I1.frzK hd
  have hl : kvs.length = vs.length := Paired.length kv
  refine ⟨hm.dictOf.typeIs, hm.dictOf.mapOf.noDict, ?_⟩
  have I2 : Inv X pins σ H1 { s1 with heap := s1.heap.push { cls := .type "dict_values", data := .fields #[.ref d] } } := I1.kept (t' := s1.toks) fun b ob q => Heap.get?_push_of_some _ q
  have fin : wpAny (model X.prog X.w) X.A (pyIter (.ref s1.heap.objs.size)) (PIEH X pins σ tg R) X.xe { s1 with heap := s1.heap.push { cls := .type "dict_values", data := .fields #[.ref d] } } := by
    refine wpAny_pyIter_values (d := d) (knd := mixKind X.prog X.w) ⟨_, Heap.get?_push_size _ rfl, rfl, rfl⟩ (hm.push _) ?_
    refine ⟨(s1.heap.push { cls := .type "dict_values", data := .fields #[.ref d] }).objs.size, [(s1.heap.push { cls := .type "dict_values", data := .fields #[.ref d] }).objs.size], _, _, H1, rfl,
      I2.kept (t' := s1.toks) fun b o e => Heap.get?_push_of_some _ e, turn_valsH _ hdt, ⟨_, Heap.get?_push_size _ rfl, rfl, ?_⟩, fun b hb => ?_, q⟩
    · rw [hl] <;> rfl
    · have e : b = (s1.heap.push { cls := .type "dict_values", data := .fields #[.ref d] }).objs.size := by simpa using hb
      subst e
      exact I2.fpOk (Nat.le_refl _) (I2.hok.fresh (Nat.le_refl _))
  show wpAny _ _ (callWith cpos (.builtin "dict.values") [.ref d] [] []) _ X.xe s1
  exact method_meetsIn F.slot_dict_values F.entry_dict_values rfl (PySem.evalArgs_none ⟨rfl, hm.dictOf.typeIs, F.args_dict_values_1 _, _, meets_dict_values (mixKind X.prog X.w) d hs, ⟨vs, hm.dictOf⟩, fin⟩)
end
/-! ### try: body / except x: one statement, raise -/
section
open PySem PySem.Spec PyProof PyProof.Rows L2
variable {X : Cx} {pins : List (Addr × Obj)} {σ : L2.St} {H : Hp} {s : Shared}
/-- the heap without some objects that nothing knows of -/
theorem inv_hide {L : List Addr} (I : Inv X pins σ H s) (n : ∀ b ∈ L, H b = none ∧ b ≠ X.env.locals ∧ X.s_0.heap.get? b = none ∧ (∀ x c, X.env.cells.lookup x = some c → c ≠ b) ∧ ∀ p ∈ X.pn ++ pins, p.1 ≠ b) : Inv X pins σ H { s with heap := PySem.W.hideAll s.heap L } := by
  have get : ∀ b o, b ∉ L → s.heap.get? b = some o → (PySem.W.hideAll s.heap L).get? b = some o := fun b o hb e => PySem.W.hideAll_get _ e hb
  have n0 : ∀ b o, X.s_0.heap.get? b = some o → b ∉ L := fun b o e z => by
    rw [(n b z).2.2.1] at e
    cases e
  have nH : ∀ b o, H b = some o → b ∉ L := fun b o e z => by
    rw [(n b z).1] at e
    cases e
  have nC : ∀ x c, X.env.cells.lookup x = some c → c ∉ L := fun x c e z => (n c z).2.2.2.1 x c e rfl
  have cellK : ∀ x c, X.env.cells.lookup x = some c → ∀ v, s.heap.IsCell c v → (PySem.W.hideAll s.heap L).IsCell c v := fun x c e v ⟨o, ho, hd⟩ => ⟨o, get c o (nC x c e) ho, hd⟩
  refine ⟨I.ok, I.os, I.bare, ⟨fun b o e h1 h2 h3 => get b o (n0 b o e) (I.base.keep b o e h1 h2 h3), fun b o e h1 h2 h3 => ?_, I.base.free, fun b o e h1 => ?_, I.base.tups, I.base.frzs, I.base.tbls⟩, ?_, fun x c e => ?_, I.free, I.freeC, fun p hp => ?_, fun b u e => ?_, I.len⟩
  · obtain ⟨sl, q⟩ := I.base.slot b o e h1 h2 h3
    exact ⟨sl, get b _ (n0 b o e) q⟩
  · obtain ⟨o', q⟩ := I.base.there b o e h1
    exact ⟨o', get b o' (n0 b o e) q⟩
  · obtain ⟨m, hn, hl⟩ := I.loc
    have nL : X.env.locals ∉ L := fun z => (n _ z).2.1 rfl
    refine ⟨m, hn.at' fun o e => get _ o nL e, fun i x v e1 e2 e3 => ?_⟩
    obtain ⟨u, r, q⟩ := hl i x v e1 e2 e3
    refine ⟨u, r, ?_⟩
    rcases q with q | ⟨k, c, e, z⟩
    · exact .inl q
    · exact .inr ⟨k, c, e, cellK x c e _ z⟩
  · obtain ⟨v, z⟩ := I.cell x c e
    exact ⟨v, cellK x c e v z⟩
  · obtain ⟨h1, h2⟩ := I.pin p hp
    exact ⟨get _ _ (fun z => (n _ z).2.2.2.2 p hp rfl) h1, h2⟩
  · refine (I.hok b u e).stay (fun c v hc q => get c v ?_ q) (fun _ q => q) fun _ _ q => q
    rcases hc with z | z
    · rw [z]
      exact nH b u e
    · exact nH c _ z
/-- two objects are pinned for the suite -/
theorem inv_suite2 (I : Inv X pins σ H s) {a T : Addr} {oe oT : Obj} {vs ts : Array Value} (ha : s.heap.get? a = some oe) (hd : oe.data = .fields vs) (na : H a = none) (nL : a ≠ X.env.locals) (nF : a ∉ X.fs)
    (hT : s.heap.get? T = some oT) (hdT : oT.data = .fields ts) (nT : H T = none) (nTL : T ≠ X.env.locals) (nTF : T ∉ X.fs) :
    Inv (X.suite a ((a, oe) :: (T, oT) :: (X.pn ++ pins))) [] σ H s :=
  ⟨I.ok.suite _ _, I.os, I.bare, I.base, I.loc, I.cell, I.free, I.freeC, fun p hp => by
    have hp' : p ∈ (a, oe) :: (T, oT) :: (X.pn ++ pins) := by rw [List.append_nil] at hp; exact hp
    rcases List.mem_cons.mp hp' with e | h
    · rw [e]; exact ⟨ha, na, nL, nF, fun v z => by have z' : oe.data = .cell v := z; rw [hd] at z'; cases z'⟩
    · rcases List.mem_cons.mp h with e | h
      · rw [e]; exact ⟨hT, nT, nTL, nTF, fun v z => by have z' : oT.data = .cell v := z; rw [hdT] at z'; cases z'⟩
      · exact I.pin p h, I.hok, I.len⟩
theorem inv_unsuite2 {a : Addr} {q q2 : Addr × Obj} {pn' : List (Addr × Obj)} (I : Inv (X.suite a (q :: q2 :: (X.pn ++ pins))) pn' σ H s) (ok : X.Ok) : Inv X pins σ H s :=
  ⟨ok, I.os, I.bare, I.base, I.loc, I.cell, I.free, I.freeC, fun p hp => I.pin p (List.mem_append_left _ (List.mem_cons_of_mem _ (List.mem_cons_of_mem _ hp))), I.hok, I.len⟩
end
/-- what flies: named, the statement and out again; else out -/
def wRe (K : PySem.W.Frag) (c : Value) (ts : Addr → Value → Option Addr → TS) (Wout : WX) : WX := fun cls d σ H => ∃ b, PySem.W.exmOne K cls c = some b ∧
  (b = true → ∀ a, H a = none → ts a cls d { nx := fun σ' H' => Wout cls d σ' H', rt := fun _ _ => False, bk := fun _ _ => False, ct := fun _ _ => False } σ H) ∧ (b = false → Wout cls d σ H)
section
open PySem PySem.Spec PyProof PyProof.Rows L2 L2H
variable {X : Cx} {x : Str} {c : Value} {body : List Stmt} {b₀ : Stmt} {np rp pos pos' : Pos} {tb : WX → TS} {ts : Addr → Value → Option Addr → TS} {Wout : WX}
theorem ps_try_re (hs : X.stack = X.env :: X.outer) (hf : X.env.frame = some X.env.locals) (hx : X.ex = []) (hc : Names X x c) (hpa : ∀ hd : Option Value, PassesOwnAt (model X.prog X.w) (X.A.mark hd) X.A X.env X.xe) (tk : L2.Takes X Wout)
    (hb : ∀ (W : WX) (pn : List (Addr × Obj)) (xe : Value → Shared → Prop), L2N.Takes (X.tr pn xe) W → PassesOwn (model X.prog X.w) X.A X.env xe → PSs (X.tr pn xe) body (tb W))
    (hsu : ∀ (a : Addr) (oe : Obj) (cls : Value) (d : Option Addr) (pn : List (Addr × Obj)), L2N.Zn cls d oe → (∃ vs, oe.data = .fields vs) → HotC (X.suite a ((a, oe) :: pn)) → PS (X.suite a ((a, oe) :: pn)) b₀ (ts a cls d)) :
    PS X (.Try body [.ExceptHandler (some (.Name x np)) none [b₀, .Raise none none rp] pos'] [] [] pos) (fun D σ H => tb (wRe X.K c ts Wout) D σ H) := by
  refine ⟨fun pins s σ H D I h => ?_⟩
  have ok := I.ok
  have hfr : X.A.frames = some (X.env :: X.outer) := by rw [ok.frames, hs]
  have notFr : ∀ {B h : Heap} {a : Addr} {o : Obj} {vs : Array Value}, h.FunFrames B (X.env :: X.outer) → h.get? a = some o → o.data = .fields vs → a ∉ frs (X.env :: X.outer) := fun {B h a o vs} ff e dd hm => by
    obtain ⟨_, o', e', hnf⟩ := ff.mem hm
    rw [e] at e'; cases e'
    exact hnf _ dd
  refine wpAny_Try_except ?_
  refine wpAny_mono ((hb (wRe X.K c ts Wout) (X.pn ++ pins) (fun e s₁ => wpAny (model X.prog X.w) X.A (noteFrame e X.env) (fun _ s₂ => wpAny (model X.prog X.w) X.A (setFlight e none) (fun _ s₃ =>
    wpAny (model X.prog X.w) X.A (handleBy e X.env [.ExceptHandler (some (.Name x np)) none [b₀, .Raise none none rp] pos']) (SP X pins D) X.xe s₃) X.xe s₂) X.xe s₁) (fun u s' xx => ?_) PassesOwn.looking).run [] s σ H D (I.toTry _) h) (fun f s1 hsp => ?_) (fun e s1 he => he)
  · obtain ⟨a, B, sI, pins', σ', H', cls, d, rfl, J', nb, up, sky, na, os, ag, b, hb1, hyes, hno⟩ := xx
    have J : Inv X pins σ' H' sI := J'.ofTry ok
    have sky' : Sky B (X.env :: X.outer) a (L2N.Zn cls d) X.env.locals s'.heap := by rw [← hs]; exact sky
    show wpAny (model X.prog X.w) X.A (noteFrame (.ref a) X.env) _ _ _
    refine L2N.Sky.land L2N.Zn.steady hfr hf sky' fun h3 fl3 up3 => ?_
    have J3 : Inv X pins σ' H' { s' with heap := h3 } := J.landed nb fl3.1 (up.trans up3) os ag
    obtain ⟨oe3, vs3, he3, hz3, hd3⟩ := fl3.there
    have nfr : a ∉ frs (X.env :: X.outer) := notFr fl3.2.2.1 he3 hd3
    have nL : a ≠ X.env.locals := fun z => nfr (List.mem_filterMap.mpr ⟨X.env, List.mem_cons_self, by rw [hf, z]⟩)
    have nF : a ∉ X.fs := fun hm => by
      obtain ⟨e, he, q⟩ := List.mem_filterMap.mp hm
      exact nfr (List.mem_filterMap.mpr ⟨e, List.mem_cons_of_mem _ he, q⟩)
    have S3 := J3.suite he3 hd3 na nL nF
    refine wpAny_handleBy_cons (codeAny_handlers_test ?_) (by intro q; cases q)
    have LT : PySem.W.Looks (model X.prog X.w) h3 (typeOf (.ref a)) cls := fun A Q E s k q => wpAny_typeOf_ref (k _ _ he3) (by rw [hz3.1]; exact q)
    have LM := PySem.W.exm_one (M := model X.prog X.w) (J3.kIn) LT hb1
    have test : ∀ {Q : Value → Shared → Prop} {E : Value → Shared → Prop}, Q c { s' with heap := h3 } → wpAny (model X.prog X.w) (X.A.mark (some (.ref a))) (eval (.Name x np) X.env) Q E { s' with heap := h3 } := fun {Q E} q => by
      obtain ⟨hg, hdbg, hm | ⟨hm, hv, hnn⟩⟩ := hc
      · exact ld_glob (X := X.suite a ((a, oe3) :: (X.pn ++ pins))) S3 hg hm q hdbg
      · exact ld_blt (X := X.suite a ((a, oe3) :: (X.pn ++ pins))) S3 hg hm hv q hnn hdbg
    refine test (LM.here ?_)
    -- what is behind it again, from a state with it in the air
    have out : ∀ {A' : Around} {B6 : Heap} {sJ s6 : Shared} {σ6 : L2.St} {H6 : Hp} {Q : Flow → Shared → Prop}, Inv X pins σ6 H6 sJ → (∀ b o, sJ.heap.get? b = some o → b ∉ frs X.stack → B6.get? b = some o) → sJ.heap.UpToSlots s6.heap →
        HandSPX.FlyingZ B6 (X.env :: X.outer) a (Zc cls d) s6.heap → H6 a = none → s6.os = sJ.os → AllBare s6.gens → Wout cls d σ6 H6 →
        wpAny (model X.prog X.w) A' (setFlight (.ref a) X.env.frame) (fun _ s7 => wpAny (model X.prog X.w) A' (throw (.ref a) : Sem Flow) Q X.xe s7) X.xe s6 := by
      intro A' B6 sJ s6 σ6 H6 Q J6 nb6 up6 fl6 na6 os6 ag6 w6
      rw [hf]
      refine HandSPX.setFlight_upZ fl6 fun h4 hh4 up4 => wpAny_throw (tk _ _ ?_)
      exact ⟨a, B6, sJ, pins, σ6, H6, cls, d, rfl, J6, nb6, up6.trans up4, .inr (.inr (by rw [hs]; exact hh4)), na6, os6, ag6, w6⟩
    cases b with
    | true =>
      refine codeAny_handlers_suite ?_
      refine HandSPX.lands_againZ fl3 fun h4 fl4 up4 => ?_
      have J4 : Inv X pins σ' H' { s' with heap := h4 } := J.landed nb fl4.1 ((up.trans up3).trans up4) os ag
      obtain ⟨B1, B2, B3, oe4, vs4, T, oT4, ts4, he4, hz4, hd4, h14, hBT, hTa, hT4, hdT4, h34⟩ := id fl4
      -- the traceback is as new as the exception
      have nfT : T ∉ frs (X.env :: X.outer) := notFr B3 hT4 hdT4
      have nTL : T ≠ X.env.locals := fun z => nfT (List.mem_filterMap.mpr ⟨X.env, List.mem_cons_self, by rw [hf, z]⟩)
      have nTF : T ∉ X.fs := fun hm => by
        obtain ⟨e, he, q⟩ := List.mem_filterMap.mp hm
        exact nfT (List.mem_filterMap.mpr ⟨e, List.mem_cons_of_mem _ he, q⟩)
      have goneI : ∀ b, b ∉ frs (X.env :: X.outer) → B.get? b = none → sI.heap.get? b = none := fun b h1 h2 => by
        cases q : sI.heap.get? b with
        | none => rfl
        | some o =>
          rw [nb b o q (by rw [hs]; exact h1)] at h2
          cases h2
      have nTH : H' T = none := J.hok.gone (goneI T nfT hBT)
      have S4 := inv_suite2 J4 he4 hd4 na nL nF hT4 hdT4 nTH nTL nTF
      have hot : HotC (X.suite a ((a, oe4) :: (T, oT4) :: (X.pn ++ pins))) := ⟨(a, oe4), ⟨rfl, vs4, hd4, hz4.2.2 vs4 hd4⟩, List.mem_cons_self⟩
      have hrun := (hsu a oe4 cls d ((T, oT4) :: (X.pn ++ pins)) hz4 ⟨_, hd4⟩ hot).run [] _ _ H' _ S4 (hyes rfl a na)
      refine wpAny_execs_cons (wpAny_mono hrun (fun f s6 hsp => ?_) (fun _ _ z => False.elim z))
      cases f with
      | next =>
        obtain ⟨σ6, H6, S6, q6⟩ := hsp
        have P1 := S6.pin (a, oe4) (List.mem_append_left _ List.mem_cons_self)
        have P2 := S6.pin (T, oT4) (List.mem_append_left _ (List.mem_cons_of_mem _ List.mem_cons_self))
        have J6 : Inv X pins σ6 H6 s6 := inv_unsuite2 S6 ok
        have hst : X.stack = (X.suite a ((a, oe4) :: (T, oT4) :: (X.pn ++ pins))).stack := rfl
        have ff : s6.heap.FunFrames (PySem.W.hideAll s6.heap (frs X.stack ++ [a, T])) (X.env :: X.outer) := by
          rw [← hs]
          exact funFrames_none J6.stack fun b hb => PySem.W.hideAll_none _ (List.mem_append_left _ hb)
        have fl6 : HandSPX.FlyingZ (PySem.W.hideAll s6.heap (frs X.stack ++ [a, T])) (X.env :: X.outer) a (Zc cls d) s6.heap :=
          ⟨fun b o e => PySem.W.of_hideAll _ e, PySem.W.hideAll_none _ (List.mem_append_right _ List.mem_cons_self), ff, oe4, vs4, T, oT4, ts4, P1.1, hz4.zc, hd4, h14, PySem.W.hideAll_none _ (List.mem_append_right _ (List.mem_cons_of_mem _ List.mem_cons_self)), hTa, P2.1, hdT4, h34⟩
        have hid : ∀ b, b ∈ [a, T] → H6 b = none ∧ b ≠ X.env.locals ∧ X.s_0.heap.get? b = none ∧ (∀ x c, X.env.cells.lookup x = some c → c ≠ b) ∧ ∀ p ∈ X.pn ++ pins, p.1 ≠ b := by
          have one : ∀ b ob, sI.heap.get? b = none → (s6.heap.get? b = some ob ∧ H6 b = none ∧ b ≠ X.env.locals ∧ b ∉ X.fs ∧ ∀ v, ob.data ≠ .cell v) → H6 b = none ∧ b ≠ X.env.locals ∧ X.s_0.heap.get? b = none ∧ (∀ x c, X.env.cells.lookup x = some c → c ≠ b) ∧ ∀ p ∈ X.pn ++ pins, p.1 ≠ b := by
            intro b ob g ⟨p1, p2, p3, p4, p5⟩
            refine ⟨p2, p3, ?_, fun x c e z => ?_, fun p hp z => ?_⟩
            · cases q : X.s_0.heap.get? b with
              | none => rfl
              | some o =>
                obtain ⟨o', q'⟩ := J.base.there b o q (by rw [hx]; exact fun z => nomatch z)
                rw [g] at q'
                cases q'
            · obtain ⟨v, o, ho, hd⟩ := S6.cell x c e
              rw [z, p1] at ho
              cases ho
              exact p5 _ hd
            · have := (J.pin p hp).1
              rw [z, g] at this
              cases this
          intro b hb
          rcases List.mem_cons.mp hb with z | hb
          · rw [z]
            exact one a oe4 (goneI a nfr B2) P1
          · rw [List.mem_singleton.mp hb]
            exact one T oT4 (goneI T nfT hBT) P2
        have JH := inv_hide (L := [a, T]) J6 hid
        refine wpAny_mono (E := X.xe) ?_ (fun _ _ z => z) (fun e6 s6 z => hpa (some (.ref a)) e6 s6 z)
        refine wpAny_execs_cons ?_
        show wpAny _ _ (do standAt rp; raiseStmt X.env none none) _ _ _
        refine wpAny_bind (wpAny_standAt ?_)
        unfold raiseStmt
        refine wpAny_bind (wpAny_handled ?_)
        show wpAny _ _ (do rule "raise.bare"; _) _ _ _
        refine wpAny_bind (wpAny_rule ?_)
        refine wpAny_bind (wpAny_field P1.1 hd4 h14 ?_)
        rw [if_neg (show ¬ ((Value.ref T == Value.none) = true) from by simp)]
        have hn : ∀ b o, (PySem.W.hideAll s6.heap [a, T]).get? b = some o → b ∉ frs X.stack → (PySem.W.hideAll s6.heap (frs X.stack ++ [a, T])).get? b = some o := fun b o e hb => by
          refine PySem.W.hideAll_get _ (PySem.W.of_hideAll _ e) fun z => ?_
          rcases List.mem_append.mp z with z | z
          · exact hb z
          · rw [PySem.W.hideAll_none _ z] at e
            cases e
        first
          | exact wpAny_bind (wpAny_pure (wpAny_bind (out JH hn (fun b o e _ => ⟨o.slots, PySem.W.of_hideAll _ e⟩) fl6 P1.2.1 rfl J6.bare q6)))
          | exact wpAny_bind (out JH hn (fun b o e _ => ⟨o.slots, PySem.W.of_hideAll _ e⟩) fl6 P1.2.1 rfl J6.bare q6)
      | brk =>
        obtain ⟨σ6, H6, S6, q6⟩ := hsp
        exact False.elim q6
      | cont =>
        obtain ⟨σ6, H6, S6, q6⟩ := hsp
        exact False.elim q6
      | ret u =>
        obtain ⟨v6, σ6, H6, S6, r6, q6⟩ := hsp
        exact False.elim q6
    | false =>
      show wpAny _ X.A (handleBy (.ref a) X.env []) _ _ _
      refine wpAny_handleBy_nil ?_
      obtain ⟨k1, k2, k3, oe, vs, T, oT, ts', he, hz, hd, h1, hr⟩ := id fl3
      unfold PySem.passOn
      refine wpAny_bind (wpAny_field he hd h1 ?_)
      rw [if_neg (show ¬ ((Value.ref T == Value.none) = true) from by simp)]
      have fin := out (A' := X.A) (Q := SP X pins D) (s6 := { s' with heap := h3 }) J nb (up.trans up3) (flyingZ_imp (fun o z => z.zc) fl3) na os ag (hno rfl)
      first
        | exact wpAny_bind (wpAny_pure (wpAny_bind fin))
        | exact wpAny_bind fin
  · cases f with
    | next =>
      obtain ⟨σ', H', J', q⟩ := hsp
      exact wpAny_execs_nil ⟨σ', H', J'.ofTry ok, q⟩
    | brk =>
      obtain ⟨σ', H', J', q⟩ := hsp
      exact ⟨σ', H', J'.ofTry ok, q⟩
    | cont =>
      obtain ⟨σ', H', J', q⟩ := hsp
      exact ⟨σ', H', J'.ofTry ok, q⟩
    | ret u =>
      obtain ⟨v, σ', H', J', r, q⟩ := hsp
      exact ⟨v, σ', H', J'.ofTry ok, r, q⟩
end
/-! ### defs where an exception is handled, defs whose exceptions bear no context -/
section
open PySem PySem.Spec PyProof PyProof.Rows L2 L2H
variable {P : Program} {w : World} {K : PySem.W.Frag} {mg : Str → Option Value} {base : Heap}
theorem Fun_okH {x qual : Str} {st : Stmt} {f : Addr} {fd : FuncData} {N ps : List Str} {k : Nat} {sp : Sp} (F : Fun K x qual st f fd) (S : FnScope N ps (defScope st)) (len : ∀ vs H Q E, sp vs H Q E → vs.length = ps.length)
    (hbody : ∀ (cdv : Value) (A : Around) (outer : List Env) (s : Shared) (H : Hp) (vs : List V) (Q : VK) (E : XK) (p : Addr × Obj), Hot1 A p → RoomH k (A.deeper (envOfC qual (defScope st) s.heap.objs.size f cdv)) → sp vs H Q E →
      ∃ t, PSs (cxH CX0 P w K mg base N qual (defScope st) f cdv A outer s H E p).nox (defBody st) t ∧ t { nx := fun _ H' => Q .non H', rt := Q } (L2.start N vs) H) : FnH P w K mg base CX0 (k + 1) f fd ps sp := by
  obtain ⟨oc, od, kV, doc, pm, an, cdv, ct, osl, rfl, lk, hcd⟩ := F.ex
  refine fn_ofH lk hcd S len fun A outer s H vs Q E p hot hr hsp => ?_
  obtain ⟨t, h, q⟩ := hbody cdv A outer s H vs Q E p hot hr hsp
  exact ⟨t, h.nox, q⟩
theorem Fun_okHX {x qual : Str} {st : Stmt} {f : Addr} {fd : FuncData} {N ps : List Str} {k : Nat} {sp : Sp} (F : Fun K x qual st f fd) (S : FnScope N ps (defScope st)) (len : ∀ vs H Q E, sp vs H Q E → vs.length = ps.length)
    (hbody : ∀ (cdv : Value) (A : Around) (outer : List Env) (s : Shared) (H : Hp) (vs : List V) (Q : VK) (E : XK) (p : Addr × Obj), Hot1 A p → RoomH k (A.deeper (envOfC qual (defScope st) s.heap.objs.size f cdv)) → sp vs H Q E →
      ∃ t, PSs (cxH (L2.CX P w) P w K mg base N qual (defScope st) f cdv A outer s H E p) (defBody st) t ∧ t { nx := fun _ H' => Q .non H', rt := Q } (L2.start N vs) H) : FnH P w K mg base (L2.CX P w) (k + 1) f fd ps sp := by
  obtain ⟨oc, od, kV, doc, pm, an, cdv, ct, osl, rfl, lk, hcd⟩ := F.ex
  exact fn_ofH lk hcd S len fun A outer s H vs Q E p hot hr hsp => hbody cdv A outer s H vs Q E p hot hr hsp
theorem Fun_okN {x qual : Str} {st : Stmt} {f : Addr} {fd : FuncData} {N ps : List Str} {k : Nat} {sp : Sp} (F : Fun K x qual st f fd) (S : FnScope N ps (defScope st)) (len : ∀ vs H Q E, sp vs H Q E → vs.length = ps.length)
    (hbody : ∀ (cdv : Value) (A : Around) (outer : List Env) (s : Shared) (H : Hp) (vs : List V) (Q : VK) (E : XK), Room k (A.deeper (envOfC qual (defScope st) s.heap.objs.size f cdv)) → sp vs H Q E →
      ∃ t, PSs (cxOf (L2N.CX P w) P w K mg base N qual (defScope st) f cdv A outer s H E) (defBody st) t ∧ t { nx := fun _ H' => Q .non H', rt := Q } (L2.start N vs) H) : FnOk P w K mg base (L2N.CX P w) (k + 1) f fd ps sp := by
  obtain ⟨oc, od, kV, doc, pm, an, cdv, ct, osl, rfl, lk, hcd⟩ := F.ex
  exact fn_of lk hcd S len fun A outer s H vs Q E hr hsp => hbody cdv A outer s H vs Q E hr hsp
theorem hu_ofH {A : Around} {k : Nat} (hr : RoomH k A) : A.units + 1 < cLine := by
  have := hr.un
  omega
theorem passH0 {X : Cx} (σ : L2.St) : PassesAt CX0 X σ ((fun _ => E0) σ) := fun _ _ _ _ _ _ h => h.elim
theorem passHX {X : Cx} {E : XK} (tk : L2.Takes X (fun cls d _ H => E cls d H)) (σ : L2.St) : PassesAt (L2.CX X.prog X.w) X σ ((fun _ => E) σ) := fun pins H s e s' I h => passX tk pins σ H s e s' I h
theorem passNX {X : Cx} {E : XK} (tk : L2N.Takes X (fun cls d _ H => E cls d H)) : Passes (L2N.CX X.prog X.w) X E := L2N.passes_call tk fun _ _ _ _ h => h
end
section
open PySem PySem.Spec PyProof PyProof.Rows L2 L2H
variable {X : Cx}
theorem passesAt_of {K : Value → Shared → Prop} {E₁ : Value → Shared → Prop} (hx : X.xe = fun e s' => wpAny (model X.prog X.w) X.A (leaving X.env e) (fun _ s'' => K e s'') E₁ s') : ∀ hd : Option Value, PassesOwnAt (model X.prog X.w) (X.A.mark hd) X.A X.env X.xe := by
  rw [hx]
  exact fun hd => PassesOwnAt.leaving
theorem room_mark {k : Nat} {A : Around} {hd : Option Value} (hr : Room k A) : RoomH k (A.mark hd) := ⟨hr.dp, hr.un⟩
theorem passHL (σ : L2.St) : PassesAt (L2.CX X.prog X.w) X σ ((fun _ => E0) σ) := fun pins H s e s' I h => passL pins σ H s e s' I h
end
section
open PySem PySem.Spec PyProof.Rows L2H
variable {P : Program} {w : World} {K : PySem.W.Frag} {mg : Str → Option Value} {base : Heap} {a : Ad}
theorem okH_rank (T : Txt K mg a) : FnH P w K mg base CX0 1 a.f_rank a.d_rank ["places", "at"] (sp_rank K a) := by
  refine Fun_okH T.rank.fn sc_rank (fun vs H Q E h => by first | (obtain ⟨rfl, _⟩ := h; rfl) | (obtain ⟨_, rfl, _⟩ := h; rfl) | (obtain ⟨_, _, rfl, _⟩ := h; rfl) | (obtain ⟨_, _, _, rfl, _⟩ := h; rfl) | (obtain ⟨_, _, _, _, rfl, _⟩ := h; rfl) | (obtain ⟨_, _, _, _, _, rfl, _⟩ := h; rfl) | (obtain ⟨_, _, _, _, _, _, rfl, _⟩ := h; rfl) | (obtain ⟨_, _, _, _, _, _, _, rfl, _⟩ := h; rfl) | (obtain ⟨_, _, _, _, _, _, _, _, rfl, _⟩ := h; rfl) | (obtain ⟨_, _, _, _, _, _, _, _, _, rfl, _⟩ := h; rfl) | (obtain ⟨_, _, _, _, _, _, _, _, _, _, rfl, _⟩ := h; rfl) | (obtain ⟨_, _, _, _, _, _, _, _, _, _, _, rfl, _⟩ := h; rfl)) (fun cdv A outer s H vs Q E p hot hr h => ?_)
  refine ⟨_, pss_cons (ps_set (i := 2) sc_rank.nd rfl (Or.inl rfl) pe_int)
      (pss_cons (ps_set (i := 3) sc_rank.nd rfl (Or.inl rfl) (pe_callB call_len_seq (by rfl) T.z_len PySem.boot_len (pa_cons (pv 0) pa_nil)))
      (pss_cons (ps_while PassesOwn.never (pt_cmpR op_lt (pv 2) (pv 3) (nomark _)) (pss_cons (ps_set (i := 4) sc_rank.nd rfl (Or.inl rfl) (pe_op op_fdiv (pe_op op_add (pv 2) (pv 3)) pe_int))
      (pss_one (ps_if (pt_cmpR op_lt (pe_ix ix_list (pv 0) (pv 4) (fun _ _ => rfl)) (pv 1) (nomark _)) (pss_one (ps_set (i := 2) sc_rank.nd rfl (Or.inl rfl) (pe_op op_add (pv 4) pe_int))) (pss_one (ps_set (i := 3) sc_rank.nd rfl (Or.inl rfl) (pv 4)))))))
      (pss_one (ps_ret (pv 2))))), ?_⟩
  obtain ⟨l, x, ns, rfl, hS, rise, hz, q⟩ := h
  refine ⟨_, rfl, l, _, rfl, .inl hS, ?_⟩
  refine while_by (fun σ H' => H' = H ∧ ∃ (lo hi : Nat) (m : Option V), lo ≤ rk x ns ∧ rk x ns ≤ hi ∧ hi ≤ ns.length ∧ σ = [some (.ref l), some (nI x), some (nI lo), some (nI hi), m])
    (fun σ H' => match σ with | [_, _, some (.int lo), some (.int hi), _] => (hi - lo).toNat | _ => 0) ⟨rfl, 0, ns.length, none, Nat.zero_le _, rk_le _ _, Nat.le_refl _, ?_⟩ ?_ ?_
  · rw [List.length_map]
    rfl
  · rintro σ H' ⟨rfl, lo, hi, m, h1, h2, h3, rfl⟩
    refine ⟨_, rfl, _, rfl, _, _, rfl, rfl, _, rfl, ?_⟩
    by_cases c : lo < hi
    · refine iteTof (decide_eq_true (by omega)) ?_
      refine ⟨_, rfl, _, rfl, _, _, rfl, rfl, _, _, rfl, rfl, ⟨by decide, by decide⟩, ?_⟩
      have em : ((lo : Int) + (hi : Int)) / 2 = (((lo + hi) / 2 : Nat) : Int) := by omega
      generalize hmid : (lo + hi) / 2 = mid at em
      have mlt : mid < ns.length := by omega
      obtain ⟨v, hv⟩ : ∃ v, ns[mid]? = some v := ⟨_, List.getElem?_eq_getElem mlt⟩
      refine ⟨_, rfl, _, rfl, l, _, _, nI v, rfl, rfl, hS, at_of (j := mid) em (map_nI_get hv), _, rfl, _, _, rfl, rfl, _, rfl, ?_⟩
      have cmp := rk_lt (x := x) rise hv
      by_cases c2 : v < x
      · refine iteTof (decide_eq_true (by omega)) ?_
        have := cmp.mp c2
        refine ⟨_, rfl, _, _, rfl, rfl, ?_⟩
        refine ⟨⟨rfl, mid + 1, hi, some (.int (((lo : Int) + (hi : Int)) / 2)), by omega, h2, h3, ?_⟩, ?_⟩
        · show [some (V.ref l), some (nI x), some (V.int (((lo : Int) + (hi : Int)) / 2 + 1)), some (nI hi), some (V.int (((lo : Int) + (hi : Int)) / 2))] = _
          rw [em]
          rfl
        · show ((hi : Int) - (((lo : Int) + (hi : Int)) / 2 + 1)).toNat < ((hi : Int) - (lo : Int)).toNat
          omega
      · refine iteFof (decide_eq_false (by omega)) ?_
        have : ¬ mid < rk x ns := fun z => c2 (cmp.mpr z)
        refine ⟨_, rfl, ?_⟩
        refine ⟨⟨rfl, lo, mid, some (.int (((lo : Int) + (hi : Int)) / 2)), h1, by omega, by omega, ?_⟩, ?_⟩
        · show [some (V.ref l), some (nI x), some (nI lo), some (V.int (((lo : Int) + (hi : Int)) / 2)), some (V.int (((lo : Int) + (hi : Int)) / 2))] = _
          rw [em]
          rfl
        · show ((((lo : Int) + (hi : Int)) / 2) - (lo : Int)).toNat < ((hi : Int) - (lo : Int)).toNat
          omega
    · refine iteFof (decide_eq_false (by omega)) ?_
      have e : lo = rk x ns := by omega
      subst e
      exact ⟨_, rfl, q⟩
  · rintro σ H' Q1 Q2 hQ ⟨v, hv, y, hy, i, j, e1, e2, k, ek, h⟩
    exact ⟨v, hv, y, hy, i, j, e1, e2, k, ek, by cases k <;> exact hQ _ _ (by simpa using h)⟩
theorem okH_Pool_has (T : Txt K mg a) : FnH P w K mg base CX0 2 a.f_Pool_has a.d_Pool_has ["self", "at", "size"] (sp_Pool_has K a) := by
  have G_rank : FnH P w K mg base CX0 1 a.f_rank a.d_rank ["places", "at"] (sp_rank K a) := okH_rank T
  refine Fun_okH T.Pool_has sc_Pool_has (fun vs H Q E h => by first | (obtain ⟨rfl, _⟩ := h; rfl) | (obtain ⟨_, rfl, _⟩ := h; rfl) | (obtain ⟨_, _, rfl, _⟩ := h; rfl) | (obtain ⟨_, _, _, rfl, _⟩ := h; rfl) | (obtain ⟨_, _, _, _, rfl, _⟩ := h; rfl) | (obtain ⟨_, _, _, _, _, rfl, _⟩ := h; rfl) | (obtain ⟨_, _, _, _, _, _, rfl, _⟩ := h; rfl) | (obtain ⟨_, _, _, _, _, _, _, rfl, _⟩ := h; rfl) | (obtain ⟨_, _, _, _, _, _, _, _, rfl, _⟩ := h; rfl) | (obtain ⟨_, _, _, _, _, _, _, _, _, rfl, _⟩ := h; rfl) | (obtain ⟨_, _, _, _, _, _, _, _, _, _, rfl, _⟩ := h; rfl) | (obtain ⟨_, _, _, _, _, _, _, _, _, _, _, rfl, _⟩ := h; rfl)) (fun cdv A outer s H vs Q E p hot hr h => ?_)
  refine ⟨_, pss_cons (ps_set (i := 3) sc_Pool_has.nd rfl (Or.inl rfl) (pe_dget (hu_ofH hr) (pe_fld (pv 0) rfl) (pv 2) (fun _ _ => rfl)))
      (pss_cons (ps_set (i := 4) sc_Pool_has.nd rfl (Or.inl rfl) (pe_callH G_rank (hr.mono (by decide)) ⟨p, hot, List.mem_cons_self⟩ rfl T.rank.mg T.rank.fn.kp T.rank.bd passH0 (pa_cons (pv 3) (pa_cons (pv 1) pa_nil))))
      (pss_one (ps_ret (pe_and (pe_cmpR op_lt (pv 4) (pe_callB call_len_seq (by rfl) T.z_len PySem.boot_len (pa_cons (pv 3) pa_nil)) (nomark _)) (pe_one (pe_cmpR op_eq (pe_ix ix_list (pv 3) (pv 4) (fun _ _ => rfl)) (pv 1) (nomark _))))))), ?_⟩
  obtain ⟨Y, d, x, k, F, rfl, po, hk, q⟩ := h
  have hl := po.at_ k hk
  have lm := po.len k hk
  refine ⟨_, rfl, Y.p, a.c_Pool, Y.dp, _, _, rfl, po.ob, T.cl_Pool, T.n_Pool__places, pFs_at Y, _, rfl, Y.pd, _, rfl, dget_of po.dk (pdK_get hk), ?_⟩
  refine ⟨_, rfl, _, rfl, Y.ls k, x, F k, rfl, SqL.of hl, po.rise k hk, lm, ?_⟩
  refine ⟨_, rfl, _, rfl, Y.ls k, _, rfl, .inl (SqL.of hl), _, _, rfl, rfl, _, rfl, ?_⟩
  rw [List.length_map]
  by_cases c : rk x (F k) < (F k).length
  · refine iteTof (decide_eq_true (by omega)) ?_
    obtain ⟨v, hv⟩ : ∃ v, (F k)[rk x (F k)]? = some v := ⟨_, List.getElem?_eq_getElem c⟩
    refine ⟨_, rfl, _, rfl, Y.ls k, _, _, nI v, rfl, rfl, SqL.of hl, atI_nat (map_nI_get hv), _, rfl, rfl, ?_⟩
    have e : decide (nI v = nI x) = decide (x ∈ F k) := by
      rw [decide_eq_decide, ← rk_at (po.rise k hk), hv]
      constructor
      · intro z
        have z2 : (v : Int) = (x : Int) := by injection z
        have : v = x := by omega
        rw [this]
      · intro z
        rw [Option.some.inj z]
    show Q (.bl (decide (nI v = nI x))) _
    rw [e]
    exact q
  · refine iteFof (decide_eq_false (by omega)) ?_
    have e : decide (x ∈ F k) = false := by
      rw [decide_eq_false_iff_not, ← rk_at (po.rise k hk)]
      intro z
      exact c (List.getElem?_eq_some_iff.mp z).1
    rw [e] at q
    exact q
theorem okH_Pool_drop (T : Txt K mg a) : FnH P w K mg base CX0 2 a.f_Pool_drop a.d_Pool_drop ["self", "at", "size"] (sp_Pool_drop K a) := by
  have G_rank : FnH P w K mg base CX0 1 a.f_rank a.d_rank ["places", "at"] (sp_rank K a) := okH_rank T
  refine Fun_okH T.Pool_drop sc_Pool_drop (fun vs H Q E h => by first | (obtain ⟨rfl, _⟩ := h; rfl) | (obtain ⟨_, rfl, _⟩ := h; rfl) | (obtain ⟨_, _, rfl, _⟩ := h; rfl) | (obtain ⟨_, _, _, rfl, _⟩ := h; rfl) | (obtain ⟨_, _, _, _, rfl, _⟩ := h; rfl) | (obtain ⟨_, _, _, _, _, rfl, _⟩ := h; rfl) | (obtain ⟨_, _, _, _, _, _, rfl, _⟩ := h; rfl) | (obtain ⟨_, _, _, _, _, _, _, rfl, _⟩ := h; rfl) | (obtain ⟨_, _, _, _, _, _, _, _, rfl, _⟩ := h; rfl) | (obtain ⟨_, _, _, _, _, _, _, _, _, rfl, _⟩ := h; rfl) | (obtain ⟨_, _, _, _, _, _, _, _, _, _, rfl, _⟩ := h; rfl) | (obtain ⟨_, _, _, _, _, _, _, _, _, _, _, rfl, _⟩ := h; rfl)) (fun cdv A outer s H vs Q E p hot hr h => ?_)
  refine ⟨_, pss_cons (ps_set (i := 3) sc_Pool_drop.nd rfl (Or.inl rfl) (pe_dget (hu_ofH hr) (pe_fld (pv 0) rfl) (pv 2) (fun _ _ => rfl)))
      (pss_one (ps_delL (pv 3) (pe_callH G_rank (hr.mono (by decide)) ⟨p, hot, List.mem_cons_self⟩ rfl T.rank.mg T.rank.fn.kp T.rank.bd passH0 (pa_cons (pv 3) (pa_cons (pv 1) pa_nil))))), ?_⟩
  obtain ⟨Y, d, x, k, F, rfl, po, hk, hx, q⟩ := h
  have hl := po.at_ k hk
  have rl : rk x (F k) < (F k).length := (List.getElem?_eq_some_iff.mp ((rk_at (po.rise k hk)).mpr hx)).1
  have lm := po.len k hk
  refine ⟨_, rfl, Y.p, a.c_Pool, Y.dp, _, _, rfl, po.ob, T.cl_Pool, T.n_Pool__places, pFs_at Y, _, rfl, Y.pd, _, rfl, dget_of po.dk (pdK_get hk), ?_⟩
  refine ⟨_, rfl, _, rfl, _, rfl, Y.ls k, x, F k, rfl, SqL.of hl, po.rise k hk, lm, Y.ls k, _, _, rk x (F k), rfl, rfl, hl, ?_, ?_, ?_, ?_⟩
  · show -9223372036854775808 ≤ (rk x (F k) : Int)
    omega
  · show (rk x (F k) : Int) < 9223372036854775808
    omega
  · rw [List.length_map]
    unfold seqIndex?
    simp
    omega
  · rw [← del_eq (po.rise k hk) hx, DT.map_erase] at q
    exact q
theorem okH_Pool_put (T : Txt K mg a) : FnH P w K mg base CX0 2 a.f_Pool_put a.d_Pool_put ["self", "at", "size"] (sp_Pool_put K a) := by
  have G_rank : FnH P w K mg base CX0 1 a.f_rank a.d_rank ["places", "at"] (sp_rank K a) := okH_rank T
  refine Fun_okH T.Pool_put sc_Pool_put (fun vs H Q E h => by first | (obtain ⟨rfl, _⟩ := h; rfl) | (obtain ⟨_, rfl, _⟩ := h; rfl) | (obtain ⟨_, _, rfl, _⟩ := h; rfl) | (obtain ⟨_, _, _, rfl, _⟩ := h; rfl) | (obtain ⟨_, _, _, _, rfl, _⟩ := h; rfl) | (obtain ⟨_, _, _, _, _, rfl, _⟩ := h; rfl) | (obtain ⟨_, _, _, _, _, _, rfl, _⟩ := h; rfl) | (obtain ⟨_, _, _, _, _, _, _, rfl, _⟩ := h; rfl) | (obtain ⟨_, _, _, _, _, _, _, _, rfl, _⟩ := h; rfl) | (obtain ⟨_, _, _, _, _, _, _, _, _, rfl, _⟩ := h; rfl) | (obtain ⟨_, _, _, _, _, _, _, _, _, _, rfl, _⟩ := h; rfl) | (obtain ⟨_, _, _, _, _, _, _, _, _, _, _, rfl, _⟩ := h; rfl)) (fun cdv A outer s H vs Q E p hot hr h => ?_)
  refine ⟨_, pss_cons (ps_set (i := 3) sc_Pool_put.nd rfl (Or.inl rfl) (pe_dget (hu_ofH hr) (pe_fld (pv 0) rfl) (pv 2) (fun _ _ => rfl)))
      (pss_one (ps_expr (pe_bm PySem.F.plainAttrs_list PySem.F.slot_list_insert PySem.F.type_list_insert mt_insert (pv 3) (pa_cons (pe_callH G_rank (hr.mono (by decide)) ⟨p, hot, List.mem_cons_self⟩ rfl T.rank.mg T.rank.fn.kp T.rank.bd passH0 (pa_cons (pv 3) (pa_cons (pv 1) pa_nil))) (pa_cons (pv 1) pa_nil))))), ?_⟩
  obtain ⟨Y, d, x, k, F, rfl, po, hk, hx, hlen, q⟩ := h
  have hl := po.at_ k hk
  have lk : ((F k).map nI).length < sizeLine := by
    rw [List.length_map, sizeLine_eq]
    omega
  refine ⟨_, rfl, Y.p, a.c_Pool, Y.dp, _, _, rfl, po.ob, T.cl_Pool, T.n_Pool__places, pFs_at Y, _, rfl, Y.pd, _, rfl, dget_of po.dk (pdK_get hk), ?_⟩
  refine ⟨_, rfl, .inl ⟨rfl, _, SqL.of hl⟩, _, rfl, _, rfl, Y.ls k, x, F k, rfl, SqL.of hl, po.rise k hk, by omega, _, rfl, Y.ls k, _, _, _, rfl, rfl, hl, lk, by omega, ?_, ?_⟩
  · have := rk_le x (F k)
    have : (rk x (F k) : Int) < 2 ^ 63 := by
      show (rk x (F k) : Int) < 9223372036854775808
      omega
    exact this
  · rw [Int.toNat_natCast, ← List.map_take, ← List.map_drop]
    rw [← ins_eq (po.rise k hk) hx, List.map_append, List.map_append] at q
    exact q
theorem okH_twin_of (T : Txt K mg a) : FnH P w K mg base CX0 1 a.f_twin_of a.d_twin_of ["at", "size"] (sp_twin_of K a) := by
  refine Fun_okH T.twin_of.fn sc_twin_of (fun vs H Q E h => by first | (obtain ⟨rfl, _⟩ := h; rfl) | (obtain ⟨_, rfl, _⟩ := h; rfl) | (obtain ⟨_, _, rfl, _⟩ := h; rfl) | (obtain ⟨_, _, _, rfl, _⟩ := h; rfl) | (obtain ⟨_, _, _, _, rfl, _⟩ := h; rfl) | (obtain ⟨_, _, _, _, _, rfl, _⟩ := h; rfl) | (obtain ⟨_, _, _, _, _, _, rfl, _⟩ := h; rfl) | (obtain ⟨_, _, _, _, _, _, _, rfl, _⟩ := h; rfl) | (obtain ⟨_, _, _, _, _, _, _, _, rfl, _⟩ := h; rfl) | (obtain ⟨_, _, _, _, _, _, _, _, _, rfl, _⟩ := h; rfl) | (obtain ⟨_, _, _, _, _, _, _, _, _, _, rfl, _⟩ := h; rfl) | (obtain ⟨_, _, _, _, _, _, _, _, _, _, _, rfl, _⟩ := h; rfl)) (fun cdv A outer s H vs Q E p hot hr h => ?_)
  refine ⟨_, pss_one (ps_ret (pe_op op_xor (pv 0) (pv 1))), ?_⟩
  obtain ⟨i, k, rfl, q⟩ := h
  refine ⟨_, rfl, _, rfl, _, _, rfl, rfl, ?_⟩
  have e := Bits.bitXor_pp (x := ((i * 2 ^ k : Nat) : Int)) (y := ((2 ^ k : Nat) : Int)) (Int.natCast_nonneg _) (Int.natCast_nonneg _)
  rw [Int.toNat_natCast, Int.toNat_natCast, xor_pow] at e
  show Q (.int (Builtin.bitXor ((i * 2 ^ k : Nat) : Int) ((2 ^ k : Nat) : Int))) H
  rw [e]
  exact q
theorem okH_Yard_join (T : Txt K mg a) : FnH P w K mg base CX0 3 a.f_Yard_join a.d_Yard_join ["self", "at", "size"] (sp_Yard_join K a) := by
  have G_Pool_drop : FnH P w K mg base CX0 2 a.f_Pool_drop a.d_Pool_drop ["self", "at", "size"] (sp_Pool_drop K a) := okH_Pool_drop T
  have G_Pool_has : FnH P w K mg base CX0 2 a.f_Pool_has a.d_Pool_has ["self", "at", "size"] (sp_Pool_has K a) := okH_Pool_has T
  have G_Pool_put : FnH P w K mg base CX0 2 a.f_Pool_put a.d_Pool_put ["self", "at", "size"] (sp_Pool_put K a) := okH_Pool_put T
  have G_twin_of : FnH P w K mg base CX0 1 a.f_twin_of a.d_twin_of ["at", "size"] (sp_twin_of K a) := okH_twin_of T
  refine Fun_okH T.Yard_join sc_Yard_join (fun vs H Q E h => by first | (obtain ⟨rfl, _⟩ := h; rfl) | (obtain ⟨_, rfl, _⟩ := h; rfl) | (obtain ⟨_, _, rfl, _⟩ := h; rfl) | (obtain ⟨_, _, _, rfl, _⟩ := h; rfl) | (obtain ⟨_, _, _, _, rfl, _⟩ := h; rfl) | (obtain ⟨_, _, _, _, _, rfl, _⟩ := h; rfl) | (obtain ⟨_, _, _, _, _, _, rfl, _⟩ := h; rfl) | (obtain ⟨_, _, _, _, _, _, _, rfl, _⟩ := h; rfl) | (obtain ⟨_, _, _, _, _, _, _, _, rfl, _⟩ := h; rfl) | (obtain ⟨_, _, _, _, _, _, _, _, _, rfl, _⟩ := h; rfl) | (obtain ⟨_, _, _, _, _, _, _, _, _, _, rfl, _⟩ := h; rfl) | (obtain ⟨_, _, _, _, _, _, _, _, _, _, _, rfl, _⟩ := h; rfl)) (fun cdv A outer s H vs Q E p hot hr h => ?_)
  refine ⟨_, pss_cons (ps_set (i := 3) sc_Yard_join.nd rfl (Or.inl rfl) (pe_callH G_twin_of (hr.mono (by decide)) ⟨p, hot, List.mem_cons_self⟩ rfl T.twin_of.mg T.twin_of.fn.kp T.twin_of.bd passH0 (pa_cons (pv 1) (pa_cons (pv 2) pa_nil))))
      (pss_cons (ps_while PassesOwn.never (pt_val (pe_methH (pe_fld (pv 0) rfl) T.cl_Pool T.m_Pool_has G_Pool_has (hr.mono (by decide)) ⟨p, hot, List.mem_cons_self⟩ T.b_Pool_has passH0 (pa_cons (pv 3) (pa_cons (pv 2) pa_nil)))) (pss_cons (ps_expr (pe_methH (pe_fld (pv 0) rfl) T.cl_Pool T.m_Pool_drop G_Pool_drop (hr.mono (by decide)) ⟨p, hot, List.mem_cons_self⟩ T.b_Pool_drop passH0 (pa_cons (pv 3) (pa_cons (pv 2) pa_nil))))
      (pss_cons (ps_set (i := 1) sc_Yard_join.nd rfl (Or.inl rfl) (pe_callB (call_min2H ⟨p, hot, List.mem_cons_self⟩) (by rfl) T.z_min PyProof.Rows.boot_min (pa_cons (pv 1) (pa_cons (pv 3) pa_nil))))
      (pss_cons (ps_aug (i := 2) sc_Yard_join.nd rfl (Or.inl rfl) pe_int ip_mulX)
      (pss_one (ps_set (i := 3) sc_Yard_join.nd rfl (Or.inl rfl) (pe_callH G_twin_of (hr.mono (by decide)) ⟨p, hot, List.mem_cons_self⟩ rfl T.twin_of.mg T.twin_of.fn.kp T.twin_of.bd passH0 (pa_cons (pv 1) (pa_cons (pv 2) pa_nil)))))))))
      (pss_one (ps_expr (pe_methH (pe_fld (pv 0) rfl) T.cl_Pool T.m_Pool_put G_Pool_put (hr.mono (by decide)) ⟨p, hot, List.mem_cons_self⟩ T.b_Pool_put passH0 (pa_cons (pv 1) (pa_cons (pv 2) pa_nil)))))), ?_⟩
  obtain ⟨Y, d, x, k, m, F, rfl, yo, po, hk, hm, ha, hF, h1, h2, h3, q⟩ := h
  have d60 := po.d60
  have keep : ∀ {H'}, Only (lsA Y d) H H' → YOb a Y d H' := fun o => o _ _ yo (po.off yo (by intro xs z; cases z))
  refine ⟨_, rfl, _, rfl, x / 2 ^ k, k, by first | (rw [ha]; done) | (rw [ha]; rfl), ?_⟩
  refine while_by (fun σ H' => ∃ j : Nat, k ≤ j ∧ j ≤ m ∧ σ = [some (.ref Y.y), some (nI (x / 2 ^ j * 2 ^ j)), some (sI j), some (nI (sib (x / 2 ^ j) * 2 ^ j))] ∧ PoolAt a Y d (remF F x k j) H' ∧ Only (lsA Y d) H H')
    (fun σ H' => match σ with | [_, _, some (.int j), _] => (((2 ^ m : Nat) : Int) - j).toNat | _ => 0) ⟨k, Nat.le_refl _, hk, by first | (rw [ha]; done) | (rw [ha]; rfl), po.congr fun j hj => ?_, Only.refl _ _⟩ ?_ ?_
  · unfold remF
    rw [if_neg (by omega)]
  · rintro σ H' ⟨j, kj, jm, rfl, po', only⟩
    refine ⟨_, rfl, Y.y, a.c_Yard, Y.dy, _, _, rfl, keep only, T.cl_Yard, T.n_Yard__pool, yFs_pool Y d, Y.p, Y.dp, _, rfl, po'.ob, pFs_no Y (by decide +kernel), _, rfl, _, rfl, Y, d, sib (x / 2 ^ j) * 2 ^ j, j, _, rfl, po', by omega, ?_⟩
    rw [remF_at]
    by_cases c : j < m
    · have hin := hF j kj c
      rw [decide_eq_true hin]
      refine ⟨_, rfl, ?_⟩
      refine iteT ?_
      refine ⟨_, rfl, Y.y, a.c_Yard, Y.dy, _, _, rfl, keep only, T.cl_Yard, T.n_Yard__pool, yFs_pool Y d, Y.p, Y.dp, _, rfl, po'.ob, pFs_no Y (by decide +kernel), _, rfl, _, rfl, Y, d, sib (x / 2 ^ j) * 2 ^ j, j, _, rfl, po', by omega, by rw [remF_at]; exact hin, ?_⟩
      rw [remF_at]
      have r := po'.rise j (by omega)
      have le := po'.len j (by omega)
      rw [remF_at] at r le
      have po2 := (po'.upd (k := j) (by omega) (del_rise (x := sib (x / 2 ^ j) * 2 ^ j) r) (by have := List.length_filter_le (fun y => decide (y ≠ sib (x / 2 ^ j) * 2 ^ j)) (F j); unfold del; omega)).congr fun i hi => remF_step kj i
      have p1 : 0 < 2 ^ j := Nat.pow_pos (by decide)
      refine ⟨_, rfl, _, rfl, _, _, rfl, ?_⟩
      have pj := pow60 (show j ≤ 60 by omega)
      refine ⟨_, rfl, _, _, rfl, rfl, mulx_ok (a := 61) (b := 3) (by rw [Int.natAbs_natCast]; exact Nat.lt_of_le_of_lt pj (by decide)) (by decide) (by decide), ?_⟩
      have em : (if ((sib (x / 2 ^ j) * 2 ^ j : Nat) : Int) < ((x / 2 ^ j * 2 ^ j : Nat) : Int) then ((sib (x / 2 ^ j) * 2 ^ j : Nat) : Int) else ((x / 2 ^ j * 2 ^ j : Nat) : Int)) = ((x / 2 ^ (j + 1) * 2 ^ (j + 1) : Nat) : Int) := by
        rw [← min_sib]
        by_cases z : sib (x / 2 ^ j) * 2 ^ j < x / 2 ^ j * 2 ^ j
        · rw [if_pos (by omega), Nat.min_eq_right (by omega)]
        · rw [if_neg (by omega), Nat.min_eq_left (by omega)]
      have ez : ((2 ^ j : Nat) : Int) * 2 = ((2 ^ (j + 1) : Nat) : Int) := by rw [Nat.pow_succ, Int.natCast_mul]; rfl
      have only2 : Only (lsA Y d) H (L2.upd H' (Y.ls j) (.lst ((del (sib (x / 2 ^ j) * 2 ^ j) (F j)).map nI))) := only.trans (Only.upd _ (lsA_mem (by omega)))
      refine ⟨_, rfl, _, rfl, x / 2 ^ (j + 1), j + 1, ?_, ?_⟩
      · show [V.int (if ((sib (x / 2 ^ j) * 2 ^ j : Nat) : Int) < ((x / 2 ^ j * 2 ^ j : Nat) : Int) then ((sib (x / 2 ^ j) * 2 ^ j : Nat) : Int) else ((x / 2 ^ j * 2 ^ j : Nat) : Int)), V.int (((2 ^ j : Nat) : Int) * 2)] = [V.int ((x / 2 ^ (j + 1) * 2 ^ (j + 1) : Nat) : Int), sI (j + 1)]
        rw [em, ez]
      · refine ⟨⟨j + 1, by omega, by omega, ?_, po2, only2⟩, ?_⟩
        · show [some (V.ref Y.y), some (V.int (if ((sib (x / 2 ^ j) * 2 ^ j : Nat) : Int) < ((x / 2 ^ j * 2 ^ j : Nat) : Int) then ((sib (x / 2 ^ j) * 2 ^ j : Nat) : Int) else ((x / 2 ^ j * 2 ^ j : Nat) : Int))), some (V.int (((2 ^ j : Nat) : Int) * 2)), some (nI (sib (x / 2 ^ (j + 1)) * 2 ^ (j + 1)))] = _
          rw [em, ez]
          rfl
        · show (((2 ^ m : Nat) : Int) - ((2 ^ j : Nat) : Int) * 2).toNat < (((2 ^ m : Nat) : Int) - ((2 ^ j : Nat) : Int)).toNat
          have : 2 ^ j < 2 ^ m := Nat.pow_lt_pow_right (by decide) c
          omega
    · have e : j = m := by omega
      subst e
      rw [decide_eq_false h1]
      refine ⟨_, rfl, ?_⟩
      refine iteF ?_
      have r := po'.rise j (by omega)
      rw [remF_at] at r
      refine ⟨_, rfl, Y.y, a.c_Yard, Y.dy, _, _, rfl, keep only, T.cl_Yard, T.n_Yard__pool, yFs_pool Y d, Y.p, Y.dp, _, rfl, po'.ob, pFs_no Y (by decide +kernel), _, rfl, _, rfl, Y, d, x / 2 ^ j * 2 ^ j, j, _, rfl, po', by omega, by rw [remF_at]; exact h2, by rw [remF_at]; exact h3, ?_⟩
      rw [remF_at]
      refine q _ (po'.upd (by omega) (ins_rise r) ?_) (only.trans (Only.upd _ (lsA_mem (by omega))))
      have : (ins (x / 2 ^ j * 2 ^ j) (F j)).length = (F j).length + 1 := by
        rw [← ins_eq r h2]
        simp
        have := rk_le (x / 2 ^ j * 2 ^ j) (F j)
        omega
      omega
  · rintro σ H' Q1 Q2 hQ ⟨v, hv, y, C, dx, fs, u, e1, e2, e3, e4, e5, p, dp, gs, e6, e7, e8, v2, hv2, v3, hv3, Z, d2, x2, k2, F2, e9, e10, e11, b, e12, e13⟩
    exact ⟨v, hv, y, C, dx, fs, u, e1, e2, e3, e4, e5, p, dp, gs, e6, e7, e8, v2, hv2, v3, hv3, Z, d2, x2, k2, F2, e9, e10, e11, b, e12, hQ _ _ e13⟩
theorem okH_Yard_size_of (T : Txt K mg a) : FnH P w K mg base (L2.CX P w) 1 a.f_Yard_size_of a.d_Yard_size_of ["self", "at"] (sp_Yard_size_of K a) := by
  refine Fun_okHX T.Yard_size_of sc_Yard_size_of (fun vs H Q E h => by first | (obtain ⟨rfl, _⟩ := h; rfl) | (obtain ⟨_, rfl, _⟩ := h; rfl) | (obtain ⟨_, _, rfl, _⟩ := h; rfl) | (obtain ⟨_, _, _, rfl, _⟩ := h; rfl) | (obtain ⟨_, _, _, _, rfl, _⟩ := h; rfl) | (obtain ⟨_, _, _, _, _, rfl, _⟩ := h; rfl) | (obtain ⟨_, _, _, _, _, _, rfl, _⟩ := h; rfl) | (obtain ⟨_, _, _, _, _, _, _, rfl, _⟩ := h; rfl) | (obtain ⟨_, _, _, _, _, _, _, _, rfl, _⟩ := h; rfl) | (obtain ⟨_, _, _, _, _, _, _, _, _, rfl, _⟩ := h; rfl) | (obtain ⟨_, _, _, _, _, _, _, _, _, _, rfl, _⟩ := h; rfl) | (obtain ⟨_, _, _, _, _, _, _, _, _, _, _, rfl, _⟩ := h; rfl)) (fun cdv A outer s H vs Q E p hot hr h => ?_)
  refine ⟨_, pss_cons (ps_if (pt_cmp (pc_dnotin (hu_ofH hr) (pv 1) (pe_fld (pv 0) rfl))) (pss_one (ps_raiseH ⟨p, hot, List.mem_cons_self⟩ (takes_of rfl rfl rfl rfl) (L2N.pmk_own PySem.F.excBase_ValueError T.e_NotOut.x T.e_NotOut.g T.e_NotOut.k (raises_own T.e_NotOut.is.hs T.e_NotOut.t) (by exact rfl)))) pss_nil)
      (pss_one (ps_ret (pe_dget (hu_ofH hr) (pe_fld (pv 0) rfl) (pv 1) (fun _ _ => rfl)))), ?_⟩
  obtain ⟨Y, d, os, x, rfl, yo, so, g, q1, q2⟩ := h
  refine ⟨_, rfl, _, rfl, Y.y, a.c_Yard, Y.dy, _, _, rfl, yo, T.cl_Yard, T.n_Yard__sizes, yFs_sizes Y d, Y.sd, _, rfl, DGet.k (k := Sum.inl x) so, ?_⟩
  by_cases c : ∃ n k : Nat, (n, k) ∈ os ∧ x = (n : Int)
  · obtain ⟨n, k, m, rfl⟩ := c
    have e := valV_out g m
    rw [e]
    refine ⟨_, rfl, iteFof rfl ?_⟩
    exact ⟨_, rfl, Y.y, a.c_Yard, Y.dy, _, _, rfl, yo, T.cl_Yard, T.n_Yard__sizes, yFs_sizes Y d, _, rfl, Y.sd, _, rfl, dget_of so e, q2 n k m rfl⟩
  · have e : valV (os.map outI) (Sum.inl x) = none := valV_out_none fun q m z => c ⟨q.1, q.2, m, z.symm⟩
    rw [e]
    exact ⟨_, rfl, iteTof rfl (q1 fun q m z => c ⟨q.1, q.2, m, z.symm⟩)⟩
theorem okH_Yard_take_back (T : Txt K mg a) : FnH P w K mg base (L2.CX P w) 4 a.f_Yard_take_back a.d_Yard_take_back ["self", "at"] (sp_Yard_take_back K a) := by
  have G_Yard_join : FnH P w K mg base CX0 3 a.f_Yard_join a.d_Yard_join ["self", "at", "size"] (sp_Yard_join K a) := okH_Yard_join T
  have G_Yard_size_of : FnH P w K mg base (L2.CX P w) 1 a.f_Yard_size_of a.d_Yard_size_of ["self", "at"] (sp_Yard_size_of K a) := okH_Yard_size_of T
  refine Fun_okHX T.Yard_take_back sc_Yard_take_back (fun vs H Q E h => by first | (obtain ⟨rfl, _⟩ := h; rfl) | (obtain ⟨_, rfl, _⟩ := h; rfl) | (obtain ⟨_, _, rfl, _⟩ := h; rfl) | (obtain ⟨_, _, _, rfl, _⟩ := h; rfl) | (obtain ⟨_, _, _, _, rfl, _⟩ := h; rfl) | (obtain ⟨_, _, _, _, _, rfl, _⟩ := h; rfl) | (obtain ⟨_, _, _, _, _, _, rfl, _⟩ := h; rfl) | (obtain ⟨_, _, _, _, _, _, _, rfl, _⟩ := h; rfl) | (obtain ⟨_, _, _, _, _, _, _, _, rfl, _⟩ := h; rfl) | (obtain ⟨_, _, _, _, _, _, _, _, _, rfl, _⟩ := h; rfl) | (obtain ⟨_, _, _, _, _, _, _, _, _, _, rfl, _⟩ := h; rfl) | (obtain ⟨_, _, _, _, _, _, _, _, _, _, _, rfl, _⟩ := h; rfl)) (fun cdv A outer s H vs Q E p hot hr h => ?_)
  refine ⟨_, pss_cons (ps_set (i := 2) sc_Yard_take_back.nd rfl (Or.inl rfl) (pe_methH (pv 0) T.cl_Yard T.m_Yard_size_of G_Yard_size_of (hr.mono (by decide)) ⟨p, hot, List.mem_cons_self⟩ T.b_Yard_size_of (passHX (takes_of rfl rfl rfl rfl)) (pa_cons (pv 1) pa_nil)))
      (pss_cons (ps_ddel (pe_fld (pv 0) rfl) (pv 1))
      (pss_cons (ps_expr (pe_methH (pv 0) T.cl_Yard T.m_Yard_join G_Yard_join (hr.mono (by decide)) ⟨p, hot, List.mem_cons_self⟩ T.b_Yard_join passH0 (pa_cons (pv 1) (pa_cons (pv 2) pa_nil))))
      (pss_one (ps_ret (pv 2))))), ?_⟩
  obtain ⟨Y, d, os, x, rfl, ya, q1, q2⟩ := h
  have d60 := ya.po.d60
  refine ⟨_, rfl, Y.y, Y.dy, _, rfl, ya.yo, yFs_no Y d (by decide +kernel) (by decide +kernel) (by decide +kernel), _, rfl, Y, d, os, x, rfl, ya.yo, ya.so, ya.good, q1, fun n k m e => ?_⟩
  subst e
  have ev := valV_out ya.good m
  refine ⟨_, rfl, Y.y, a.c_Yard, Y.dy, _, _, rfl, ya.yo, T.cl_Yard, T.n_Yard__sizes, yFs_sizes Y d, _, rfl, Y.sd, _, Sum.inl (n : Int), rfl, ya.so, rfl, by rw [ev]; rfl, ?_⟩
  rw [out_drop]
  obtain ⟨K0, hK, hM⟩ := out_mx ya.good m
  have hO := fun c => Oc_outs (c := c) ya.good m
  have al := (ya.good.each _ m).2.1
  have g2 : Good d (outs os n) := ya.good.sub List.filter_sublist
  -- the sizes' dict first
  have yo1 : YOb a Y d (L2.upd H Y.sd (.dK ((outs os n).map outI))) := by
    show L2.upd H Y.sd _ Y.y = _
    rw [upd_ne (ne_of ya.yo ya.so (by intro z; cases z))]
    exact ya.yo
  have po1 : PoolAt a Y d (frl (Oc os) d) (L2.upd H Y.sd (.dK ((outs os n).map outI))) := by
    refine ⟨?_, ?_, fun j hj => ?_, ya.po.inj, ya.po.rise, ya.po.len, ya.po.d60⟩
    · rw [upd_ne (ne_of ya.po.ob ya.so (by intro z; cases z))]
      exact ya.po.ob
    · rw [upd_ne ya.ne]
      exact ya.po.dk
    · rw [upd_ne (ne_of (ya.po.at_ j hj) ya.so (by intro z; cases z))]
      exact ya.po.at_ j hj
  have stop := fun j h1 h2 => mx_stop hK hM hO j h1 h2
  refine ⟨_, rfl, Y.y, Y.dy, _, rfl, yo1, yFs_no Y d (by decide +kernel) (by decide +kernel) (by decide +kernel), _, rfl, _, rfl, Y, d, n, k, K0, frl (Oc os) d, rfl, yo1, po1, hK, hM.1, al, fun j h1 h2 => ?_, fun z => ?_, fun z => ?_, ?_, fun H2 po2 only2 => ?_⟩
  · rw [frl_mem']
    exact (stop j h1 (by omega)).mpr h2
  · rw [frl_mem', stop K0 hK (Nat.le_refl _)] at z
    omega
  · rw [frl_mem'] at z
    exact z.2.2.1 n rfl ((hO n).mpr (.inr rfl))
  · have := frl_len (d := d) (j := K0) (os := os)
    have := ya.few
    omega
  · refine ⟨_, rfl, ?_⟩
    refine q2 n k m rfl H2 ⟨only2 _ _ yo1 (po1.off yo1 (by intro xs z; cases z)), only2 _ _ upd_same (po1.off upd_same (by intro xs z; cases z)), po2.congr fun j hj => ?_, g2, ?_, ya.ne⟩ ((Only.upd _ List.mem_cons_self).trans (only2.mono lsA_own))
    · rw [← can_back hK hM hO j, remF_at]
    · exact Nat.le_trans (List.length_filter_le _ _) ya.few
theorem okN_size_for (T : Txt K mg a) : FnOk P w K mg base (L2N.CX P w) 1 a.f_size_for a.d_size_for ["want"] (sp_size_for K a) := by
  obtain ⟨tM, mM⟩ := T.v_MOST
  refine Fun_okN T.size_for.fn sc_size_for (fun vs H Q E h => by first | (obtain ⟨rfl, _⟩ := h; rfl) | (obtain ⟨_, rfl, _⟩ := h; rfl) | (obtain ⟨_, _, rfl, _⟩ := h; rfl) | (obtain ⟨_, _, _, rfl, _⟩ := h; rfl) | (obtain ⟨_, _, _, _, rfl, _⟩ := h; rfl) | (obtain ⟨_, _, _, _, _, rfl, _⟩ := h; rfl) | (obtain ⟨_, _, _, _, _, _, rfl, _⟩ := h; rfl) | (obtain ⟨_, _, _, _, _, _, _, rfl, _⟩ := h; rfl) | (obtain ⟨_, _, _, _, _, _, _, _, rfl, _⟩ := h; rfl) | (obtain ⟨_, _, _, _, _, _, _, _, _, rfl, _⟩ := h; rfl) | (obtain ⟨_, _, _, _, _, _, _, _, _, _, rfl, _⟩ := h; rfl) | (obtain ⟨_, _, _, _, _, _, _, _, _, _, _, rfl, _⟩ := h; rfl)) (fun cdv A outer s H vs Q E hr h => ?_)
  refine ⟨_, pss_cons (ps_if (PW.pt (pw_or (pt_cmpR op_lt (pv 0) pe_int (nomark _)) (pw_or1 (pt_cmpR op_gt (pv 0) (pe_glob (v := .int 1152921504606846976) rfl mM ⟨_, rfl⟩) (nomark _))))) (pss_one (L2N.ps_raise rfl (L2N.takes_of rfl rfl rfl rfl) (L2N.pmk_own PySem.F.excBase_ValueError T.e_NoWish.x T.e_NoWish.g T.e_NoWish.k (raises_own T.e_NoWish.is.hs T.e_NoWish.t) (by exact rfl)))) pss_nil)
      (pss_one (ps_ret (pe_op op_shlN pe_int (pe_bits (pe_op op_sub (pv 0) pe_int))))), ?_⟩
  obtain ⟨x, rfl, kE, kQ⟩ := h
  refine ⟨_, rfl, _, _, rfl, rfl, _, rfl, ?_⟩
  by_cases h1 : x < 1
  · exact iteTof (decide_eq_true h1) (iteTof rfl (kE (.inl h1)))
  · refine iteFof (decide_eq_false h1) ?_
    refine ⟨_, rfl, _, _, rfl, rfl, _, rfl, ?_⟩
    by_cases h2 : x > 1152921504606846976
    · exact iteTof (decide_eq_true h2) (kE (.inr h2))
    · refine iteFof (decide_eq_false h2) ?_
      have f := fit_spec (w := x) (by omega) (by omega)
      refine ⟨_, rfl, _, _, rfl, rfl, _, rfl, 1, fit x, rfl, rfl, shl_ok (n := 1) (by decide) (by omega), ?_⟩
      have e : (1 : Int) * 2 ^ fit x = ((2 ^ fit x : Nat) : Int) := by
        rw [Int.one_mul]
        exact PySem.W.kbt_cast _
      rw [e]
      exact kQ (by omega) (by omega)
theorem okN_Yard_fitting (T : Txt K mg a) : FnOk P w K mg base (L2N.CX P w) 2 a.f_Yard_fitting a.d_Yard_fitting ["self", "want"] (sp_Yard_fitting K a) := by
  have G_size_for : FnOk P w K mg base (L2N.CX P w) 1 a.f_size_for a.d_size_for ["want"] (sp_size_for K a) := okN_size_for T
  refine Fun_okN T.Yard_fitting sc_Yard_fitting (fun vs H Q E h => by first | (obtain ⟨rfl, _⟩ := h; rfl) | (obtain ⟨_, rfl, _⟩ := h; rfl) | (obtain ⟨_, _, rfl, _⟩ := h; rfl) | (obtain ⟨_, _, _, rfl, _⟩ := h; rfl) | (obtain ⟨_, _, _, _, rfl, _⟩ := h; rfl) | (obtain ⟨_, _, _, _, _, rfl, _⟩ := h; rfl) | (obtain ⟨_, _, _, _, _, _, rfl, _⟩ := h; rfl) | (obtain ⟨_, _, _, _, _, _, _, rfl, _⟩ := h; rfl) | (obtain ⟨_, _, _, _, _, _, _, _, rfl, _⟩ := h; rfl) | (obtain ⟨_, _, _, _, _, _, _, _, _, rfl, _⟩ := h; rfl) | (obtain ⟨_, _, _, _, _, _, _, _, _, _, rfl, _⟩ := h; rfl) | (obtain ⟨_, _, _, _, _, _, _, _, _, _, _, rfl, _⟩ := h; rfl)) (fun cdv A outer s H vs Q E hr h => ?_)
  refine ⟨_, pss_cons (ps_if (pt_cmpR op_gt (pv 1) (pe_fld (pv 0) rfl) (nomark _)) (pss_one (L2N.ps_raise rfl (L2N.takes_of rfl rfl rfl rfl) (L2N.pmk_own PySem.F.excBase_ValueError T.e_NoRoom.x T.e_NoRoom.g T.e_NoRoom.k (raises_own T.e_NoRoom.is.hs T.e_NoRoom.t) (by exact rfl)))) pss_nil)
      (pss_one (ps_ret (pe_call G_size_for (hr.mono (by decide)) rfl T.size_for.mg T.size_for.fn.kp T.size_for.bd .nil (passNX (L2N.takes_of rfl rfl rfl rfl)) (pa_cons (pv 1) pa_nil)))), ?_⟩
  obtain ⟨Y, d, x, rfl, yo, d60, q1, q2, q3⟩ := h
  have p60 := pow60 d60
  refine ⟨_, rfl, _, rfl, Y.y, a.c_Yard, Y.dy, _, _, rfl, yo, T.cl_Yard, T.n_Yard_cells, yFs_cells Y d, _, _, rfl, rfl, _, rfl, ?_⟩
  by_cases c : x > ((2 ^ d : Nat) : Int)
  · exact iteTof (decide_eq_true c) (q2 c)
  · refine iteFof (decide_eq_false c) ?_
    refine ⟨_, rfl, x, rfl, fun z => ?_, fun z1 z2 => q3 z1 (by omega)⟩
    rcases z with z | z
    · exact q1 z
    · omega
theorem okN_Yard_give (T : Txt K mg a) : FnOk P w K mg base (L2N.CX P w) 4 a.f_Yard_give a.d_Yard_give ["self", "want"] (sp_Yard_give K a) := by
  have G_Pool_best : FnOk P w K mg base CX0 1 a.f_Pool_best a.d_Pool_best ["self", "size"] (sp_Pool_best K a) := ok_Pool_best T
  have G_Pool_drop : FnOk P w K mg base CX0 2 a.f_Pool_drop a.d_Pool_drop ["self", "at", "size"] (sp_Pool_drop K a) := ok_Pool_drop T
  have G_Yard_cut : FnOk P w K mg base CX0 3 a.f_Yard_cut a.d_Yard_cut ["self", "at", "size", "least"] (sp_Yard_cut K a) := ok_Yard_cut T
  have G_Yard_fitting : FnOk P w K mg base (L2N.CX P w) 2 a.f_Yard_fitting a.d_Yard_fitting ["self", "want"] (sp_Yard_fitting K a) := okN_Yard_fitting T
  refine Fun_okN T.Yard_give sc_Yard_give (fun vs H Q E h => by first | (obtain ⟨rfl, _⟩ := h; rfl) | (obtain ⟨_, rfl, _⟩ := h; rfl) | (obtain ⟨_, _, rfl, _⟩ := h; rfl) | (obtain ⟨_, _, _, rfl, _⟩ := h; rfl) | (obtain ⟨_, _, _, _, rfl, _⟩ := h; rfl) | (obtain ⟨_, _, _, _, _, rfl, _⟩ := h; rfl) | (obtain ⟨_, _, _, _, _, _, rfl, _⟩ := h; rfl) | (obtain ⟨_, _, _, _, _, _, _, rfl, _⟩ := h; rfl) | (obtain ⟨_, _, _, _, _, _, _, _, rfl, _⟩ := h; rfl) | (obtain ⟨_, _, _, _, _, _, _, _, _, rfl, _⟩ := h; rfl) | (obtain ⟨_, _, _, _, _, _, _, _, _, _, rfl, _⟩ := h; rfl) | (obtain ⟨_, _, _, _, _, _, _, _, _, _, _, rfl, _⟩ := h; rfl)) (fun cdv A outer s H vs Q E hr h => ?_)
  refine ⟨_, pss_cons (ps_set (i := 2) sc_Yard_give.nd rfl (Or.inl rfl) (pe_meth (pv 0) T.cl_Yard T.m_Yard_fitting G_Yard_fitting (hr.mono (by decide)) T.b_Yard_fitting .nil (passNX (L2N.takes_of rfl rfl rfl rfl)) (pa_cons (pv 1) pa_nil)))
      (pss_cons (ps_set (i := 3) sc_Yard_give.nd rfl (Or.inl rfl) (pe_meth (pe_fld (pv 0) rfl) T.cl_Pool T.m_Pool_best G_Pool_best (hr.mono (by decide)) T.b_Pool_best .nil pass0 (pa_cons (pv 2) pa_nil)))
      (pss_cons (ps_if (pt_cmpR op_isN (pv 3) pe_non (nomark _)) (pss_one (L2N.ps_raise rfl (L2N.takes_of rfl rfl rfl rfl) (L2N.pmk_own PySem.F.excBase_ValueError T.e_NoRoom.x T.e_NoRoom.g T.e_NoRoom.k (raises_own T.e_NoRoom.is.hs T.e_NoRoom.t) (by exact rfl)))) pss_nil)
      (pss_cons (ps_asg (pv 3) (pg_tup rfl (pgs_cons (pg_name (i := 4) sc_Yard_give.nd rfl (Or.inl rfl)) (pgs_cons (pg_name (i := 5) sc_Yard_give.nd rfl (Or.inl rfl)) pgs_nil))))
      (pss_cons (ps_expr (pe_meth (pe_fld (pv 0) rfl) T.cl_Pool T.m_Pool_drop G_Pool_drop (hr.mono (by decide)) T.b_Pool_drop .nil pass0 (pa_cons (pv 4) (pa_cons (pv 5) pa_nil))))
      (pss_cons (ps_expr (pe_meth (pv 0) T.cl_Yard T.m_Yard_cut G_Yard_cut (hr.mono (by decide)) T.b_Yard_cut .nil pass0 (pa_cons (pv 4) (pa_cons (pv 5) (pa_cons (pv 2) pa_nil)))))
      (pss_cons (ps_dput (hu_of hr) (pe_fld (pv 0) rfl) (pv 4) (pv 2) rfl)
      (pss_one (ps_ret (pv 4))))))))), ?_⟩
  obtain ⟨Y, d, os, x, rfl, ya, few, q1, q2, q3⟩ := h
  have d60 := ya.po.d60
  refine ⟨_, rfl, Y.y, Y.dy, _, rfl, ya.yo, yFs_no Y d (by decide +kernel) (by decide +kernel) (by decide +kernel), _, rfl, Y, d, x, rfl, ya.yo, d60, q1, fun c => q2 (by have := Nat.pow_pos (n := d) (show 0 < 2 by decide); omega) (.inl c) H fun b o e => e, fun h1 h2 => ?_⟩
  have fd := fit_le h1 h2 d60
  refine ⟨_, rfl, Y.y, a.c_Yard, Y.dy, _, _, rfl, ya.yo, T.cl_Yard, T.n_Yard__pool, yFs_pool Y d, Y.p, Y.dp, _, rfl, ya.po.ob, pFs_no Y (by decide +kernel), _, rfl, Y, d, fit x, _, rfl, ya.po, fun none H1 same => ?_, fun m n r km md small eF t H1 same ht => ?_⟩
  · refine ⟨_, rfl, rfl, _, rfl, iteT ?_⟩
    refine q2 h1 (.inr fun j i hj z => ?_) H1 same
    have := none j hj z.1
    exact frl_nil.mp this i z
  · refine ⟨_, rfl, rfl, _, rfl, iteF ?_⟩
    refine ⟨_, rfl, t, _, rfl, SqT.of ht, rfl, _, _, rfl, _, _, rfl, rfl, ?_⟩
    have po1 := ya.po.keep same
    have yo1 : YOb a Y d H1 := same _ _ ya.yo
    have nin : n ∈ frl (Oc os) d m := by rw [eF]; exact List.mem_cons_self
    obtain ⟨i0, en, hM⟩ := frl_mem.mp nin
    have enm : n / 2 ^ m = i0 := by rw [en, blk_of]
    have al : n / 2 ^ m * 2 ^ m = n := by rw [enm]; exact en.symm
    rw [← enm] at hM
    have best : Best os d (fit x) m n := ⟨km, hM, al, fun j i h1 h2 => frl_nil.mp (small j h1 h2) i, fun i hi => by
      have r1 := frl_rise (Oc os) d m
      have hin := frl_mem'.mpr hi
      rw [eF] at r1 hin
      rcases List.mem_cons.mp hin with z | z
      · omega
      · have := (List.pairwise_cons.mp r1).1 _ z
        omega⟩
    refine ⟨_, rfl, Y.y, a.c_Yard, Y.dy, _, _, rfl, yo1, T.cl_Yard, T.n_Yard__pool, yFs_pool Y d, Y.p, Y.dp, _, rfl, po1.ob, pFs_no Y (by decide +kernel), _, rfl, _, rfl, Y, d, n, m, _, rfl, po1, md, nin, ?_⟩
    have lm := frl_len (d := d) (j := m) (os := os)
    have po2 := po1.upd (k := m) md (del_rise (x := n) (frl_rise (Oc os) d m)) (by
      have := List.length_filter_le (fun y => decide (y ≠ n)) (frl (Oc os) d m)
      unfold del
      omega)
    have only2 : Only (lsA Y d) H1 (L2.upd H1 (Y.ls m) (.lst ((del n (frl (Oc os) d m)).map nI))) := Only.upd _ (lsA_mem md)
    have yo2 := only2 _ _ yo1 (po1.off yo1 (by intro xs z; cases z))
    have hO := fun c => Oc_snoc (os := os) (x := n) (k := fit x) (c := c)
    refine ⟨_, rfl, Y.y, Y.dy, _, rfl, yo2, yFs_no Y d (by decide +kernel) (by decide +kernel) (by decide +kernel), _, rfl, _, rfl, _, rfl, Y, d, n, fit x, m, _, rfl, yo2, po2, md, fun j h1 h2 => ?_, fun H3 po3 only3 => ?_⟩
    · have e : setF (frl (Oc os) d) m (del n (frl (Oc os) d m)) j = frl (Oc os) d j := by
        unfold setF
        rw [if_neg (by omega)]
      rw [e, small j h1 h2]
      exact ⟨by simp, by simp⟩
    · have f : Fr (Oc os) (fit x) (n / 2 ^ fit x) := fr_down hM.2.2.1 km
      have g2 := ya.good.snoc fd (al_down al km) best.lt f
      have po4 : PoolAt a Y d (frl (Oc (os ++ [(n, fit x)])) d) H3 := po3.congr fun j hj => by
        rw [← can_give km hM hO j, cutF_add al (Nat.le_refl m), al]
      have so1 : H3 Y.sd = some (.dK (os.map outI)) := only3 _ _ (only2 _ _ (same _ _ ya.so) (po1.off (same _ _ ya.so) (by intro xs z; cases z))) (po2.off (only2 _ _ (same _ _ ya.so) (po1.off (same _ _ ya.so) (by intro xs z; cases z))) (by intro xs z; cases z))
      have yo3 : YOb a Y d H3 := only3 _ _ yo2 (po2.off yo2 (by intro xs z; cases z))
      refine ⟨_, rfl, _, rfl, Y.y, a.c_Yard, Y.dy, _, _, rfl, yo3, T.cl_Yard, T.n_Yard__sizes, yFs_sizes Y d, _, rfl, Y.sd, _, rfl, DPut.k (k := Sum.inl (n : Int)) so1 (by rw [List.length_map, sizeLine_eq]; omega), ?_⟩
      rw [out_put (fr_key f)]
      refine ⟨_, rfl, ?_⟩
      refine q3 h1 h2 m n best _ (YardAt.put yo3 so1 po4 ya.ne g2 (by rw [List.length_append]; show os.length + 1 ≤ 100000; omega)) ?_
      refine Only.trans ((Only.same same).trans ((only2.trans only3).mono lsA_own)) (Only.upd _ List.mem_cons_self)
end
/-! ### fitting_sizes -/
theorem take_snoc {α : Type} {xs : List α} {j : Nat} {x : α} (h : xs[j]? = some x) : xs.take (j + 1) = xs.take j ++ [x] := by
  rw [List.take_add_one, h]
  rfl
theorem none_back {H H' : Hp} {b : Addr} (k : ∀ b o, H b = some o → H' b = some o) (n : H' b = none) : H b = none := by
  cases e : H b with
  | none => rfl
  | some o =>
    rw [k _ _ e] at n
    cases n
def fits (ns : List Int) : List Int := ns.map fun x => ((2 ^ fit x : Nat) : Int)
theorem fits_snoc (xs : List Int) (x : Int) : fits (xs ++ [x]) = fits xs ++ [((2 ^ fit x : Nat) : Int)] := by
  unfold fits
  rw [List.map_append]
  rfl
def sp_fitting_sizes (K : PySem.W.Frag) (a : Ad) : Sp := fun vs H Q E => ∃ (Y : YA) (d : Nat) (os : List PN) (b : Addr) (ns : List Int), vs = [.ref Y.y, .ref b] ∧ YardAt a Y d os H ∧ SqL K H b (ns.map V.int) ∧ ns.length ≤ 4000 ∧
  ((∃ x ∈ ns, x < 1) → ∀ H', (∀ b o, H b = some o → H' b = some o) → E (.ref a.c_NoWish) none H') ∧
  ((∀ x ∈ ns, 1 ≤ x) → (∃ x ∈ ns, x > ((2 ^ d : Nat) : Int)) → ∀ H', (∀ b o, H b = some o → H' b = some o) → E (.ref a.c_NoRoom) none H') ∧
  ((∀ x ∈ ns, 1 ≤ x ∧ x ≤ ((2 ^ d : Nat) : Int)) → ∀ (l : Addr) (H' : Hp), (∀ b o, H b = some o → H' b = some o) → H l = none → H' l = some (.lst ((fits ns).map V.int)) → Q (.ref l) H')
section
variable {P : Program} {w : World} {K : PySem.W.Frag} {mg : Str → Option Value} {base : Heap} {a : Ad}
theorem ok_fitting_sizes (T : Txt K mg a) : FnOk P w K mg base (L2.CX P w) 2 a.f_fitting_sizes a.d_fitting_sizes ["yard", "wants"] (sp_fitting_sizes K a) := by
  have G_size_for : FnOk P w K mg base (L2.CX P w) 1 a.f_size_for a.d_size_for ["want"] (sp_size_for K a) := ok_size_for T
  refine T.fitting_sizes.fn.okX sc_fitting_sizes (fun vs H Q E h => by first | (obtain ⟨rfl, _⟩ := h; rfl) | (obtain ⟨_, rfl, _⟩ := h; rfl) | (obtain ⟨_, _, rfl, _⟩ := h; rfl) | (obtain ⟨_, _, _, rfl, _⟩ := h; rfl) | (obtain ⟨_, _, _, _, rfl, _⟩ := h; rfl) | (obtain ⟨_, _, _, _, _, rfl, _⟩ := h; rfl) | (obtain ⟨_, _, _, _, _, _, rfl, _⟩ := h; rfl) | (obtain ⟨_, _, _, _, _, _, _, rfl, _⟩ := h; rfl) | (obtain ⟨_, _, _, _, _, _, _, _, rfl, _⟩ := h; rfl) | (obtain ⟨_, _, _, _, _, _, _, _, _, rfl, _⟩ := h; rfl) | (obtain ⟨_, _, _, _, _, _, _, _, _, _, rfl, _⟩ := h; rfl) | (obtain ⟨_, _, _, _, _, _, _, _, _, _, _, rfl, _⟩ := h; rfl)) (fun cdv A outer s H vs Q E hr h => ?_)
  refine ⟨_, pss_cons (ps_if (pt_val (pe_callB (cr_any rfl) (by rfl) T.z_any (by decide +kernel) (pa_cons (pe_lc (own := [("want", 2)]) (g := gName 2) rfl sc_fitting_sizes.nd (pi_list (pv 1)) (blkOk_by (own := [("want", 2)]) (N := ["yard", "wants", "want"]) (sc := defScope s_fitting_sizes) (by decide +kernel)) (fun _ _ _ _ _ => (pg_name (i := 2) sc_fitting_sizes.nd rfl (Or.inl rfl))) (fun _ _ _ _ _ => pts_nil) (fun _ _ _ _ _ => (pe_cmpR op_lt (pv 2) pe_int (nomark _)))) pa_nil))) (pss_one (ps_raise rfl (takes_of rfl rfl rfl rfl) (pmk_own PySem.F.excBase_ValueError T.e_NoWish.x T.e_NoWish.g T.e_NoWish.k (raises_own T.e_NoWish.is.hs T.e_NoWish.t) (by exact rfl)))) pss_nil)
      (pss_cons (ps_if (pt_val (pe_callB (cr_any rfl) (by rfl) T.z_any (by decide +kernel) (pa_cons (pe_lc (own := [("want", 2)]) (g := gName 2) (te := (tOp (rI0 fun i j => .bl (decide (j < i))) (tVar 2) (tFld K (tVar 0) "cells"))) rfl sc_fitting_sizes.nd (pi_list (pv 1)) (blkOk_by (own := [("want", 2)]) (N := ["yard", "wants", "want"]) (sc := defScope s_fitting_sizes) (by decide +kernel)) (fun _ _ _ _ _ => (pg_name (i := 2) sc_fitting_sizes.nd rfl (Or.inl rfl))) (fun _ _ _ _ _ => pts_nil) (fun _ _ _ _ _ => (pe_cmpR op_gt (pv 2) (pe_fld (pv 0) rfl) (nomark _)))) pa_nil))) (pss_one (ps_raise rfl (takes_of rfl rfl rfl rfl) (pmk_own PySem.F.excBase_ValueError T.e_NoRoom.x T.e_NoRoom.g T.e_NoRoom.k (raises_own T.e_NoRoom.is.hs T.e_NoRoom.t) (by exact rfl)))) pss_nil)
      (pss_one (ps_ret (pe_lc (own := [("want", 2)]) (g := gName 2) (te := (tCall (sp_size_for K a) [] E0 (tCons (tVar 2) tNil))) rfl sc_fitting_sizes.nd (pi_list (pv 1)) (blkOk_by (own := [("want", 2)]) (N := ["yard", "wants", "want"]) (sc := defScope s_fitting_sizes) (by decide +kernel)) (fun _ _ _ _ _ => (pg_name (i := 2) sc_fitting_sizes.nd rfl (Or.inl rfl))) (fun _ _ _ _ _ => pts_nil) (fun _ _ _ _ _ => (pe_call G_size_for (hr.mono (by decide)) rfl T.size_for.mg T.size_for.fn.kp T.size_for.bd .nil passL (pa_cons (pv 2) pa_nil))))))), ?_⟩
  obtain ⟨Y, d, os, b, ns, rfl, ya, hS, few, q1, q2, q3⟩ := h
  have d60 := ya.po.d60
  refine ⟨_, rfl, b, rfl, ⟨_, hS⟩, fun D newD => ?_⟩
  refine lc_out walk_list (fun j H' => H' D = some (.lst (((ns.take j).map fun x => decide (x < 1)).map V.bl)) ∧ (∀ b o, H b = some o → H' b = some o))
    ⟨upd_same, fun b o e => by rw [upd_ne (ne_of_none e newD)]; exact e⟩ (fun j H' _ p => seq_keep hS fun o e => p.2 _ _ e) ?_ ?_
  · rintro j v H3 H4 hj ⟨hD, s2⟩ ⟨rfl, hv⟩
    rw [List.length_map] at hj
    obtain ⟨x, hx⟩ : ∃ x, ns[j]? = some x := ⟨_, List.getElem?_eq_getElem hj⟩
    rw [List.getElem?_map, hx] at hv
    have hv := Option.some.inj hv
    subst hv
    refine ⟨rfl, ?_⟩
    refine ⟨_, rfl, _, _, rfl, rfl, _, hD, ?_, ?_, fun b o e2 => ?_⟩
    · rw [List.length_map, List.length_map, sizeLine_eq, List.length_take]
      omega
    · rw [take_snoc hx, List.map_append, List.map_append]
      exact upd_same
    · rw [upd_ne (fun z => by rw [z, newD] at e2; cases e2)]
      exact s2 _ _ e2
  rintro H1 ⟨hD, s1⟩
  rw [List.length_map, List.take_length] at hD
  refine ⟨D, _, rfl, SqL.of hD, ?_⟩
  by_cases c1 : ∃ x ∈ ns, x < 1
  · exact ⟨_, rfl, iteTof (by rw [List.any_map, List.any_eq_true]; obtain ⟨x, hx, h1⟩ := c1; exact ⟨x, hx, decide_eq_true h1⟩) (q1 c1 H1 s1)⟩
  refine ⟨_, rfl, iteFof (by rw [List.any_map, List.any_eq_false]; exact fun x hx h1 => c1 ⟨x, hx, of_decide_eq_true h1⟩) ?_⟩
  have pos : ∀ x ∈ ns, 1 ≤ x := fun x hx => by
    have : ¬ x < 1 := fun z => c1 ⟨x, hx, z⟩
    omega
  have y1 := ya.keep s1
  refine ⟨_, rfl, b, rfl, ⟨_, seq_keep hS fun o e => s1 _ _ e⟩, fun D2 newD2 => ?_⟩
  refine lc_out walk_list (fun j H' => H' D2 = some (.lst (((ns.take j).map fun x => decide (((2 ^ d : Nat) : Int) < x)).map V.bl)) ∧ (∀ b o, H1 b = some o → H' b = some o))
    ⟨upd_same, fun b o e => by rw [upd_ne (ne_of_none e newD2)]; exact e⟩ (fun j H' _ p => seq_keep hS fun o e => p.2 _ _ (s1 _ _ e)) ?_ ?_
  · rintro j v H3 H4 hj ⟨hD, s2⟩ ⟨rfl, hv⟩
    rw [List.length_map] at hj
    obtain ⟨x, hx⟩ : ∃ x, ns[j]? = some x := ⟨_, List.getElem?_eq_getElem hj⟩
    rw [List.getElem?_map, hx] at hv
    have hv := Option.some.inj hv
    subst hv
    refine ⟨rfl, ?_⟩
    refine ⟨_, rfl, _, rfl, Y.y, a.c_Yard, Y.dy, _, _, rfl, s2 _ _ y1.yo, T.cl_Yard, T.n_Yard_cells, yFs_cells Y d, _, _, rfl, rfl, _, hD, ?_, ?_, fun b o e2 => ?_⟩
    · rw [List.length_map, List.length_map, sizeLine_eq, List.length_take]
      omega
    · rw [take_snoc hx, List.map_append, List.map_append]
      exact upd_same
    · rw [upd_ne (fun z => by rw [z, newD2] at e2; cases e2)]
      exact s2 _ _ e2
  rintro H2 ⟨hD2, s2⟩
  rw [List.length_map, List.take_length] at hD2
  have s12 : ∀ b o, H b = some o → H2 b = some o := fun b o e => s2 _ _ (s1 _ _ e)
  refine ⟨D2, _, rfl, SqL.of hD2, ?_⟩
  by_cases c2 : ∃ x ∈ ns, x > ((2 ^ d : Nat) : Int)
  · exact ⟨_, rfl, iteTof (by rw [List.any_map, List.any_eq_true]; obtain ⟨x, hx, h1⟩ := c2; exact ⟨x, hx, decide_eq_true h1⟩) (q2 pos c2 H2 s12)⟩
  refine ⟨_, rfl, iteFof (by rw [List.any_map, List.any_eq_false]; exact fun x hx h1 => c2 ⟨x, hx, of_decide_eq_true h1⟩) ?_⟩
  have top : ∀ x ∈ ns, x ≤ ((2 ^ d : Nat) : Int) := fun x hx => by
    have : ¬ x > ((2 ^ d : Nat) : Int) := fun z => c2 ⟨x, hx, z⟩
    omega
  have p60 := pow60 d60
  refine ⟨_, rfl, b, rfl, ⟨_, seq_keep hS fun o e => s12 _ _ e⟩, fun l newl => ?_⟩
  refine lc_out walk_list (fun j H' => H' l = some (.lst ((fits (ns.take j)).map V.int)) ∧ (∀ b o, H2 b = some o → H' b = some o))
    ⟨upd_same, fun b o e => by rw [upd_ne (ne_of_none e newl)]; exact e⟩ (fun j H' _ p => seq_keep hS fun o e => p.2 _ _ (s12 _ _ e)) ?_ ?_
  · rintro j v H3 H4 hj ⟨hD, s3⟩ ⟨rfl, hv⟩
    rw [List.length_map] at hj
    obtain ⟨x, hx⟩ : ∃ x, ns[j]? = some x := ⟨_, List.getElem?_eq_getElem hj⟩
    rw [List.getElem?_map, hx] at hv
    have hv := Option.some.inj hv
    subst hv
    have h1 := pos x (List.mem_of_getElem? hx)
    have h2 := top x (List.mem_of_getElem? hx)
    refine ⟨rfl, ?_⟩
    refine ⟨_, rfl, x, rfl, fun z => ?_, fun _ _ => ⟨_, hD, ?_, ?_, fun b o e2 => ?_⟩⟩
    · exfalso
      omega
    · rw [fits, List.length_map, List.length_map, sizeLine_eq, List.length_take]
      omega
    · rw [take_snoc hx, fits_snoc, List.map_append]
      exact upd_same
    · rw [upd_ne (fun z => by rw [z, newl] at e2; cases e2)]
      exact s3 _ _ e2
  rintro H5 ⟨hl, s5⟩
  rw [List.length_map, List.take_length] at hl
  exact q3 (fun x hx => ⟨pos x hx, top x hx⟩) l H5 (fun b o e => s5 _ _ (s12 _ _ e)) (none_back s12 newl) hl
end
/-! ### give_all, where all is granted -/
/-- the wishes, by their exponents, granted one behind the other: the places -/
inductive Gv (d : Nat) : List PN → List Nat → List Nat → Prop
  | nil {os : List PN} : Gv d os [] []
  | cons {os : List PN} {k m n : Nat} {ks ns : List Nat} : Best os d k m n → Gv d (os ++ [(n, k)]) ks ns → Gv d os (k :: ks) (n :: ns)
theorem Gv.len {d : Nat} {os : List PN} {ks ns : List Nat} (h : Gv d os ks ns) : ns.length = ks.length := by
  induction h with
  | nil => rfl
  | cons _ _ ih => rw [List.length_cons, List.length_cons, ih]
/-- all but the tables stays, and what is not in S -/
def OnlyN (S : List Addr) (H H' : Hp) : Prop := ∀ b o, H b = some o → (∀ ps, o ≠ .tbl ps) → b ∉ S → H' b = some o
theorem OnlyN.of {S : List Addr} {H H' : Hp} (h : Only S H H') : OnlyN S H H' := fun b o e _ n => h b o e n
theorem OnlyN.ext {S : List Addr} {H H' : Hp} (h : LamX.ExtN H H') : OnlyN S H H' := fun b o e n _ => h b o e n
theorem OnlyN.trans {S : List Addr} {H H1 H2 : Hp} (h : OnlyN S H H1) (g : OnlyN S H1 H2) : OnlyN S H H2 := fun b o e n m => g b o (h b o e n m) n m
theorem YardAt.keepN {a : Ad} {Y : YA} {d : Nat} {os : List PN} {H H' : Hp} (h : YardAt a Y d os H) (k : LamX.ExtN H H') : YardAt a Y d os H' :=
  ⟨k _ _ h.yo (fun _ z => by cases z), k _ _ h.so (fun _ z => by cases z), ⟨k _ _ h.po.ob (fun _ z => by cases z), k _ _ h.po.dk (fun _ z => by cases z), fun j hj => k _ _ (h.po.at_ j hj) (fun _ z => by cases z), h.po.inj, h.po.rise, h.po.len, h.po.d60⟩, h.good, h.few, h.ne⟩
theorem YardAt.wr {a : Ad} {Y : YA} {d : Nat} {os : List PN} {H : Hp} {b : Addr} {o : HO} (h : YardAt a Y d os H) (n0 : b ≠ Y.y) (n1 : b ≠ Y.p) (n2 : b ≠ Y.pd) (n3 : b ∉ own Y d) : YardAt a Y d os (L2.upd H b o) :=
  ⟨(upd_ne (Ne.symm n0)).trans h.yo, (upd_ne (fun z => n3 (List.mem_cons.mpr (.inl z.symm)))).trans h.so, ⟨(upd_ne (Ne.symm n1)).trans h.po.ob, (upd_ne (Ne.symm n2)).trans h.po.dk, fun j hj => (upd_ne (fun z : Y.ls j = b => n3 (List.mem_cons.mpr (.inr (by rw [← z]; exact lsA_mem hj))))).trans (h.po.at_ j hj), h.po.inj, h.po.rise, h.po.len, h.po.d60⟩, h.good, h.few, h.ne⟩
/-- the code table of give_all -/
def gaQ : Str := Str.ofString "give_all.<locals>.<lambda>"
def TabsG (a : Ad) (H : Hp) : Prop := LamX.Tabs [(a.p_give_all, gaQ)] H
theorem TabsG.only {a : Ad} {Y : YA} {d : Nat} {os : List PN} {H H' : Hp} (t : TabsG a H) (ya : YardAt a Y d os H) (o : Only (own Y d) H H') : TabsG a H' := fun p hp => by
  obtain ⟨ps, h1, h2, h3⟩ := t p hp
  refine ⟨ps, o _ _ h1 (ya.off h1 (fun _ z => by cases z) fun _ z => by cases z), h2, fun pos cv hc => ?_⟩
  obtain ⟨c, e1, e2⟩ := h3 pos cv hc
  exact ⟨c, e1, o _ _ e2 (ya.off e2 (fun _ z => by unfold LamX.CodeO at z; cases z) fun _ z => by unfold LamX.CodeO at z; cases z)⟩
theorem TabsG.keep {a : Ad} {H H' : Hp} (t : TabsG a H) (k : ∀ b o, H b = some o → H' b = some o) : TabsG a H' := LamX.Tabs.ext t k
theorem TabsG.wr {a : Ad} {H : Hp} {b : Addr} {o : HO} {kvs : List (L2.Key × V)} (t : TabsG a H) (e : H b = some (.dK kvs)) : TabsG a (L2.upd H b o) := fun p hp => by
  obtain ⟨ps, h1, h2, h3⟩ := t p hp
  refine ⟨ps, (upd_ne (ne_of h1 e (by intro z; cases z))).trans h1, h2, fun pos cv hc => ?_⟩
  obtain ⟨c, e1, e2⟩ := h3 pos cv hc
  exact ⟨c, e1, (upd_ne (ne_of e2 e (by intro z; unfold LamX.CodeO at z; cases z))).trans e2⟩
/-- which exponents are wished, in the order of the granting -/
def wishK (xs : List Int) : List Nat := (byFall (fits xs)).map fun k => fit (xs.getD k 0)
def placeOf (ord ns : List Nat) (k : Nat) : Nat := ((ord.zip ns).lookup k).getD 0
theorem ord_perm (zs : List Int) : (byFall zs).Perm (List.range zs.length) := List.mergeSort_perm _ _
theorem ord_nodup (zs : List Int) : (byFall zs).Nodup := (ord_perm zs).nodup_iff.mpr List.nodup_range
theorem ord_len (zs : List Int) : (byFall zs).length = zs.length := by rw [(ord_perm zs).length_eq, List.length_range]
theorem ord_lt {zs : List Int} {k : Nat} (h : k ∈ byFall zs) : k < zs.length := List.mem_range.mp ((ord_perm zs).mem_iff.mp h)
theorem wishK_len (xs : List Int) : (wishK xs).length = xs.length := by rw [wishK, List.length_map, ord_len, fits, List.length_map]
def kvP (q : Nat × Nat) : L2.Key × V := (Sum.inl (q.1 : Int), nI q.2)
theorem valP {k : Nat} : ∀ {ord ns : List Nat}, ns.length = ord.length → k ∈ ord → valV ((ord.zip ns).map kvP) (Sum.inl (k : Int)) = some (nI (placeOf ord ns k))
  | [], _, _, h => by cases h
  | c :: ord, [], e, _ => by cases e
  | c :: ord, n :: ns, e, h => by
    show valV (kvP (c, n) :: (ord.zip ns).map kvP) _ = some (nI ((((c, n) :: ord.zip ns).lookup k).getD 0))
    by_cases z : c = k
    · subst z
      rw [valV_pos (p := kvP (c, n)) (k := Sum.inl (c : Int)) rfl, List.lookup_cons_self]
      rfl
    · rw [valV_neg (p := kvP (c, n)) (k := Sum.inl (k : Int)) (fun e => z (by have e' : (Sum.inl (c : Int) : L2.Key) = Sum.inl (k : Int) := e; injection e' with e'; omega)), valP (by simpa using e) (by simpa [Ne.symm z] using h)]
      rw [List.lookup_cons, show (k == c) = false from beq_eq_false_iff_ne.mpr (Ne.symm z)]
      rfl
theorem valP_none {k : Nat} {l : List (Nat × Nat)} (h : ∀ q ∈ l, q.1 ≠ k) : valV (l.map kvP) (Sum.inl (k : Int)) = none := by
  unfold valV
  rw [Option.map_eq_none_iff, List.find?_eq_none]
  intro q hq z
  obtain ⟨p, hp, rfl⟩ := List.mem_map.mp hq
  have e : (Sum.inl (p.1 : Int) : L2.Key) = Sum.inl (k : Int) := of_decide_eq_true z
  injection e with e
  exact h p hp (by omega)
theorem Gv.at_ {d : Nat} : ∀ {j : Nat} {os : List PN} {ks ns : List Nat} {k n : Nat}, Gv d os ks ns → ks[j]? = some k → ns[j]? = some n → ∃ m, Best (os ++ (ns.zip ks).take j) d k m n
  | 0, os, _, _, k, n, .cons b _, e1, e2 => by
    cases e1
    cases e2
    exact ⟨_, by rw [List.take_zero, List.append_nil]; exact b⟩
  | j + 1, os, _, _, k, n, .cons (k := k0) (n := n0) b r, e1, e2 => by
    obtain ⟨m, h⟩ := Gv.at_ (j := j) r e1 e2
    refine ⟨m, ?_⟩
    rw [List.zip_cons_cons, List.take_succ_cons, ← List.singleton_append, ← List.append_assoc]
    exact h
/-! ### more of Gv -/
theorem Gv.uniq {d : Nat} : ∀ {ks : List Nat} {os : List PN} {ns ns' : List Nat}, Gv d os ks ns → Gv d os ks ns' → ns = ns'
  | [], _, _, _, .nil, .nil => rfl
  | k :: ks, os, _, _, .cons b r, .cons b' r' => by
    obtain ⟨_, e⟩ := b.uniq b'
    subst e
    rw [r.uniq r']
theorem Gv.take {d : Nat} : ∀ {j : Nat} {ks : List Nat} {os : List PN} {ns : List Nat}, Gv d os ks ns → Gv d os (ks.take j) (ns.take j)
  | 0, _, _, _, _ => .nil
  | j + 1, _, _, _, .nil => .nil
  | j + 1, _, _, _, .cons b r => .cons b r.take
theorem Gv.snoc {d k m n : Nat} : ∀ {ks : List Nat} {os : List PN} {ns : List Nat}, Gv d os ks ns → Best (os ++ ns.zip ks) d k m n → Gv d os (ks ++ [k]) (ns ++ [n])
  | _, os, _, .nil, b => .cons (by have b2 := b; rw [show (([] : List Nat).zip ([] : List Nat)) = [] from rfl, List.append_nil] at b2; exact b2) .nil
  | _, os, _, .cons (k := k0) (n := n0) b r, b' => .cons b (r.snoc (by rw [List.append_assoc]; exact b'))
/-! ### give_all, in general -/
theorem outs_mid {d n k : Nat} {os rest : List PN} (g : Good d (os ++ (n, k) :: rest)) : outs (os ++ (n, k) :: rest) n = os ++ rest := by
  have nd := g.nodup
  have key : ∀ q ∈ os ++ (n, k) :: rest, q.1 = n → q = (n, k) := fun q hq e => g.key hq (List.mem_append_right _ List.mem_cons_self) e
  obtain ⟨_, n2, n3⟩ := List.nodup_append.mp nd
  obtain ⟨n4, _⟩ := List.nodup_cons.mp n2
  unfold outs
  rw [List.filter_append, List.filter_cons, if_neg (by simp), List.filter_eq_self.mpr, List.filter_eq_self.mpr]
  · intro q hq
    refine decide_eq_true fun e => n4 ?_
    rw [← key q (List.mem_append_right _ (List.mem_cons_of_mem _ hq)) e]
    exact hq
  · intro q hq
    exact decide_eq_true fun e => n3 q hq (n, k) List.mem_cons_self (key q (List.mem_append_left _ hq) e)
theorem TabsG.wr' {a : Ad} {H : Hp} {b : Addr} {o o0 : HO} (t : TabsG a H) (e : H b = some o0) (n1 : ∀ ps, o0 ≠ .tbl ps) (n2 : ∀ φ, o0 ≠ .ext φ) : TabsG a (L2.upd H b o) := fun p hp => by
  obtain ⟨ps, h1, h2, h3⟩ := t p hp
  refine ⟨ps, (upd_ne (ne_of h1 e fun z => n1 ps z.symm)).trans h1, h2, fun pos cv hc => ?_⟩
  obtain ⟨c, e1, e2⟩ := h3 pos cv hc
  exact ⟨c, e1, (upd_ne (ne_of e2 e fun z => n2 _ z.symm)).trans e2⟩
def sp_give_all (K : PySem.W.Frag) (a : Ad) : Sp := fun vs H Q E => ∃ (Y : YA) (d : Nat) (os : List PN) (b : Addr) (xs : List Int), vs = [.ref Y.y, .ref b] ∧ YardAt a Y d os H ∧ SqL K H b (xs.map V.int) ∧ xs.length ≤ 4000 ∧ os.length + xs.length ≤ 90000 ∧ TabsG a H ∧
  ((∃ x ∈ xs, x < 1) → ∀ H', (∀ b o, H b = some o → H' b = some o) → E (.ref a.c_NoWish) none H') ∧
  ((∀ x ∈ xs, 1 ≤ x) → (¬ ((∀ x ∈ xs, x ≤ ((2 ^ d : Nat) : Int)) ∧ ∃ ns, Gv d os (wishK xs) ns)) → ∀ H', YardAt a Y d os H' → OnlyN (own Y d) H H' → TabsG a H' → E (.ref a.c_NoRoom) none H') ∧
  (∀ ns, (∀ x ∈ xs, 1 ≤ x ∧ x ≤ ((2 ^ d : Nat) : Int)) → Gv d os (wishK xs) ns → ∀ (l : Addr) (H' : Hp), YardAt a Y d (os ++ ns.zip (wishK xs)) H' → OnlyN (own Y d) H H' → TabsG a H' → l ∉ own Y d → (∀ zs, H l ≠ some (.lst zs)) → H' l = some (.lst ((List.range xs.length).map fun k => nI (placeOf (byFall (fits xs)) ns k))) → Q (.ref l) H')
section
open PySem PySem.Spec PyProof.Rows L2H
variable {P : Program} {w : World} {K : PySem.W.Frag} {mg : Str → Option Value} {base : Heap} {a : Ad}
theorem ok_give_all (T : Txt K mg a) (TB : LamX.TabB base mg a.q_give_all a.p_give_all) : FnOk P w K mg base (L2.CX P w) 5 a.f_give_all a.d_give_all ["yard", "wants"] (sp_give_all K a) := by
  have G_Yard_give : FnOk P w K mg base (L2.CX P w) 4 a.f_Yard_give a.d_Yard_give ["self", "want"] (sp_Yard_give K a) := ok_Yard_give T
  have G_Yard_take_back : FnOk P w K mg base (L2.CX P w) 4 a.f_Yard_take_back a.d_Yard_take_back ["self", "at"] (sp_Yard_take_back K a) := ok_Yard_take_back T
  have G_fitting_sizes : FnOk P w K mg base (L2.CX P w) 2 a.f_fitting_sizes a.d_fitting_sizes ["yard", "wants"] (sp_fitting_sizes K a) := ok_fitting_sizes T
  have GN_Yard_give : FnOk P w K mg base (L2N.CX P w) 4 a.f_Yard_give a.d_Yard_give ["self", "want"] (sp_Yard_give K a) := okN_Yard_give T
  have GH_Yard_take_back : L2H.FnH P w K mg base (L2.CX P w) 4 a.f_Yard_take_back a.d_Yard_take_back ["self", "at"] (sp_Yard_take_back K a) := okH_Yard_take_back T
  refine T.at_give_all.okX sc_give_all (fun vs H Q E h => by first | (obtain ⟨rfl, _⟩ := h; rfl) | (obtain ⟨_, rfl, _⟩ := h; rfl) | (obtain ⟨_, _, rfl, _⟩ := h; rfl) | (obtain ⟨_, _, _, rfl, _⟩ := h; rfl) | (obtain ⟨_, _, _, _, rfl, _⟩ := h; rfl) | (obtain ⟨_, _, _, _, _, rfl, _⟩ := h; rfl) | (obtain ⟨_, _, _, _, _, _, rfl, _⟩ := h; rfl) | (obtain ⟨_, _, _, _, _, _, _, rfl, _⟩ := h; rfl) | (obtain ⟨_, _, _, _, _, _, _, _, rfl, _⟩ := h; rfl) | (obtain ⟨_, _, _, _, _, _, _, _, _, rfl, _⟩ := h; rfl) | (obtain ⟨_, _, _, _, _, _, _, _, _, _, rfl, _⟩ := h; rfl) | (obtain ⟨_, _, _, _, _, _, _, _, _, _, _, rfl, _⟩ := h; rfl)) (fun A outer s H vs Q E hr h => ?_)
  refine ⟨_, pss_cons (ps_set (i := 6) sc_give_all.nd rfl (Or.inr rfl) (pe_call G_fitting_sizes (hr.mono (by decide)) rfl T.fitting_sizes.mg T.fitting_sizes.fn.kp T.fitting_sizes.bd .nil (passX (takes_of rfl rfl rfl rfl)) (pa_cons (pv 0) (pa_cons (pv 1) pa_nil))))
      (pss_cons (ps_set (i := 2) sc_give_all.nd rfl (Or.inl rfl) (pe_sortLam (i := 6) (k := 0) rfl (by rfl) T.z_sorted (pe_callTy cr_range1 (by rfl) T.z_range PyProof.Rows.boot_range (pa_cons (pe_callB call_len_seq (by rfl) T.z_len PySem.boot_len (pa_cons (pv 6) pa_nil)) pa_nil)) TB rfl (hr.mono (by decide)) rfl rfl))
      (pss_cons (ps_set (i := 3) sc_give_all.nd rfl (Or.inr rfl) pe_dnewK)
      (pss_cons (ps_try_re (tb := fun W => (tFor (iList K (tVar 2)) (gName 4) (sDPut (tVar 3) (tVar 4) (tMethS a.c_Yard "give" (sp_Yard_give K a) (WE W) (tVar 0) (tCons (tOp (rIxL K) (tVar 6) (tVar 4)) tNil))))) (ts := fun _ _ _ => (tLock (tFor (iVals (tVar 3)) (gName 5) (tDrop (tMethH a.c_Yard "take_back" (sp_Yard_take_back K a) (fun _ => E0) (tVar 0) (tCons (tVar 5) tNil)))))) (Wout := fun cls d _ H => E cls d H) rfl rfl rfl ⟨rfl, by decide, Or.inl T.e_NoRoom.g⟩ (passesAt_of rfl) (takes_of rfl rfl rfl rfl) (fun W pn xe tk po => (pss_one (ps_for po rfl (pi_list (pv 2)) (pg_name (i := 4) sc_give_all.nd rfl (Or.inl rfl)) (pss_one (ps_dput (hu_of hr) (pv 3) (pv 4) (pe_methS (pv 0) T.cl_Yard T.m_Yard_give GN_Yard_give (hr.mono (by decide)) T.b_Yard_give (fun σ => L2N.passAt tk σ) (pa_cons (pe_ix ix_list (pv 6) (pv 4) (fun _ _ => rfl)) pa_nil)) rfl))))) (fun a0 oe cls d pn hz hf hot => (ps_lock (ps_forH PassesOwn.never hot (pi_valuesH (pv 3)) (pg_name (i := 5) sc_give_all.nd rfl (Or.inl rfl)) (pss_one (ps_expr (pe_methH (pv 0) T.cl_Yard T.m_Yard_take_back GH_Yard_take_back (room_mark hr) hot T.b_Yard_take_back passHL (pa_cons (pv 5) pa_nil))))))))
      (pss_one (ps_ret (pe_lc (own := [("turn", 4)]) (g := gName 4) (te := (tDGet (tVar 3) (tVar 4))) rfl sc_give_all.nd (pi_range1 rfl T.z_range (pa_cons (pe_callB call_len_seq (by rfl) T.z_len PySem.boot_len (pa_cons (pv 6) pa_nil)) pa_nil)) (blkOk_by (own := [("turn", 4)]) (N := ["yard", "wants", "order", "places", "turn", "at", "sizes"]) (sc := defScope s_give_all) (by decide +kernel)) (fun _ _ _ _ _ => (pg_name (i := 4) sc_give_all.nd rfl (Or.inl rfl))) (fun _ _ _ _ _ => pts_nil) (fun _ _ _ _ _ => (pe_dget (hu_of hr) (pv 3) (pv 4) (fun _ _ => rfl))))))))), ?_⟩
  obtain ⟨Y, d, os, b, xs, rfl, ya, hS, few, few2, tb, q1, q2, q3⟩ := h
  refine ⟨_, rfl, _, rfl, Y, d, os, b, xs, rfl, ya, hS, few, q1, fun pos z H' s' => q2 pos (fun g => ?_) H' (ya.keep s') (OnlyN.of (Only.same s')) (tb.keep s'), fun fx ls H1 s1 nls hls => ?_⟩
  · obtain ⟨x, hx, h1⟩ := z
    have := g.1 x hx
    omega
  have lf : (fits xs).length = xs.length := by rw [fits, List.length_map]
  have y1 := ya.keep s1
  have t1 := tb.keep s1
  refine ⟨_, rfl, ls, _, rfl, .inl (SqL.of hls), ?_⟩
  rw [List.length_map]
  refine ⟨_, rfl, fun r nr => ?_⟩
  have k2 := newK (o := .rng 0 ((fits xs).length : Int)) nr
  refine ⟨r, ls, fits xs, rfl, upd_same, by omega, t1.keep k2, rfl, SqL.of (k2 _ _ hls), fun H3 p eN t3 np => ?_⟩
  have y3 := (y1.keep k2).keepN eN
  have ls3 := eN _ _ (k2 _ _ hls) fun _ z => by cases z
  have k3 := newK (o := .lst ((byFall (fits xs)).map fun (k : Nat) => V.int (k : Int))) np
  have hp : upd H3 p (.lst ((byFall (fits xs)).map fun (k : Nat) => V.int (k : Int))) p = _ := upd_same
  have t4 : TabsG a (upd H3 p (.lst ((byFall (fits xs)).map fun (k : Nat) => V.int (k : Int)))) := TabsG.keep t3 k3
  have y4 := y3.keep k3
  have ls4 := k3 _ _ ls3
  have o4 : OnlyN (own Y d) H (upd H3 p (.lst ((byFall (fits xs)).map fun (k : Nat) => V.int (k : Int)))) := fun b o e n m => k3 _ _ (eN _ _ (k2 _ _ (s1 _ _ e)) n)
  have npo : p ∉ own Y d := y3.new np
  have nlo : ls ∉ own Y d := ya.new nls
  generalize upd H3 p (.lst ((byFall (fits xs)).map fun (k : Nat) => V.int (k : Int))) = H4 at hp t4 y4 ls4 o4
  clear k3 k2 eN t3 t1 y1 s1 y3 ls3 np
  refine nm ?_
  dsimp only
  intro dd nd
  have k5 := newK (o := .dK []) nd
  have hd5 : L2.upd H4 dd (.dK []) dd = _ := upd_same
  have y5 := y4.keep k5
  have t5 := t4.keep k5
  have hp5 := k5 _ _ hp
  have ls5 := k5 _ _ ls4
  have o5 := o4.trans (OnlyN.of (Only.same (S := own Y d) k5))
  have ndo : dd ∉ own Y d := y4.new nd
  have ny : dd ≠ Y.y := Ne.symm (ne_of_none y4.yo nd)
  have npp : dd ≠ Y.p := Ne.symm (ne_of_none y4.po.ob nd)
  have npd : dd ≠ Y.pd := Ne.symm (ne_of_none y4.po.dk nd)
  have od : ∀ b o, H b = some o → (∀ ps, o ≠ .tbl ps) → b ∉ own Y d → b ≠ dd := fun b o e n m => ne_of_none (o4 b o e n m) nd
  have pdd : p ≠ dd := ne_of_none hp nd
  have lsd : ls ≠ dd := ne_of_none ls4 nd
  generalize L2.upd H4 dd (.dK []) = H5 at hd5 y5 t5 hp5 ls5 o5
  clear k5 y4 t4 hp ls4 o4 nd H4
  refine nm ?_
  dsimp only
  have wl := wishK_len xs
  have ol : (byFall (fits xs)).length = xs.length := by rw [ord_len, lf]
  refine ⟨_, rfl, p, rfl, ⟨_, SqL.of hp5⟩, ?_⟩
  refine for_list (xs := (byFall (fits xs)).map fun (k : Nat) => V.int (k : Int)) (fun j σ H' => ∃ (ns : List Nat) (x4 : Option V), σ = [some (.ref Y.y), some (.ref b), some (.ref p), some (.ref dd), x4, none, some (.ref ls)] ∧ Gv d os ((wishK xs).take j) ns ∧ YardAt a Y d (os ++ ns.zip ((wishK xs).take j)) H' ∧ H' dd = some (.dK ((((byFall (fits xs)).take j).zip ns).map kvP)) ∧ H' p = some (.lst ((byFall (fits xs)).map fun (k : Nat) => V.int (k : Int))) ∧ H' ls = some (.lst ((fits xs).map V.int)) ∧ TabsG a H' ∧ OnlyN (own Y d) H H')
    ⟨[], none, rfl, .nil, by rw [List.zip_nil_left, List.append_nil]; exact y5, hd5, hp5, ls5, t5, o5⟩ (fun j σ H' _ ⟨_, _, _, _, _, _, e, _⟩ => SqL.of e) ?_ ?_
  · rintro j v σ H6 hv ⟨ns, x4, rfl, gv, y6, hd6, hp6, ls6, t6, o6⟩
    have hj := (List.getElem?_eq_some_iff.mp hv).1
    rw [List.length_map, ol] at hj
    obtain ⟨k, hk⟩ : ∃ k, (byFall (fits xs))[j]? = some k := ⟨_, List.getElem?_eq_getElem (by omega)⟩
    rw [List.getElem?_map, hk] at hv
    have hv := Option.some.inj hv
    subst hv
    have nlen := gv.len
    rw [List.length_take] at nlen
    have kl := ord_lt (List.mem_of_getElem? hk)
    rw [lf] at kl
    obtain ⟨x, hx⟩ : ∃ x, xs[k]? = some x := ⟨_, List.getElem?_eq_getElem kl⟩
    have hw : (wishK xs)[j]? = some (fit x) := by
      rw [wishK, List.getElem?_map, hk]
      show some (fit (xs.getD k 0)) = _
      rw [List.getD, hx]
      rfl
    have fx1 := fx x (List.mem_of_getElem? hx)
    have fk : fit x ≤ d := fit_le fx1.1 fx1.2 ya.po.d60
    have f2 : fit ((2 ^ fit x : Nat) : Int) = fit x := fit_two (Nat.le_trans fk ya.po.d60)
    have pk : 0 < 2 ^ fit x := Nat.pow_pos (by decide)
    have pkd : 2 ^ fit x ≤ 2 ^ d := Nat.pow_le_pow_right (by decide) fk
    refine nm ?_
    dsimp only
    refine ⟨_, rfl, Y.y, Y.dy, _, rfl, y6.yo, yFs_no Y d (by decide) (by decide) (by decide), _, rfl, _, rfl, ls, _, _, .int ((2 ^ fit x : Nat) : Int), rfl, rfl, SqL.of ls6, at_of (j := k) rfl (by rw [fits, List.map_map, List.getElem?_map, hx]; rfl), Y, d, _, _, rfl, y6, ?_, fun z => ?_, fun _ z H7 s7 => ?_, fun _ _ m n best H7 y7 o7 => ?_⟩
    · rw [List.length_append, List.length_zip, List.length_take]
      omega
    · omega
    · rw [f2] at z
      have nog : ¬ ((∀ x ∈ xs, x ≤ ((2 ^ d : Nat) : Int)) ∧ ∃ ns, Gv d os (wishK xs) ns) := by
        rintro ⟨_, ns', gv'⟩
        obtain ⟨n', hn'⟩ : ∃ n', ns'[j]? = some n' := ⟨_, List.getElem?_eq_getElem (by rw [gv'.len]; omega)⟩
        obtain ⟨m, best⟩ := gv'.at_ hw hn'
        have e := gv.uniq (gv'.take (j := j))
        have ez : (ns'.zip (wishK xs)).take j = ns.zip ((wishK xs).take j) := by
          rw [e, List.zip_eq_zipWith, List.take_zipWith, List.zip_eq_zipWith]
        rw [ez] at best
        rcases z with z | z
        · omega
        · exact z _ _ best.le best.mx
      have y7 := y6.keep s7
      have hd7 := s7 _ _ hd6
      have t7 := t6.keep s7
      have o7 := o6.trans (OnlyN.of (Only.same s7))
      refine ⟨true, T.x_NoRoom_NoRoom, fun _ a0 na => ?_, fun z => Bool.noConfusion z⟩
      refine ⟨dd, _, hd7, trivial, fun od' => ?_⟩
      generalize hkv : ((((byFall (fits xs)).take j).zip ns).map kvP) = kvs at hd7
      have kl2 : kvs.length = ns.length := by rw [← hkv, List.length_map, List.length_zip, List.length_take, Nat.min_eq_right]; omega
      have kat : ∀ {i : Nat} {q : L2.Key} {v : V}, kvs[i]? = some (q, v) → ∃ n, ns[i]? = some n ∧ v = nI n := fun {i q v} e => by
        rw [← hkv, List.getElem?_map] at e
        obtain ⟨⟨c, n⟩, e1, e2⟩ := Option.map_eq_some_iff.mp e
        exact ⟨n, (List.getElem?_zip_eq_some.mp e1).2, (congrArg Prod.snd e2).symm⟩
      generalize hz : ns.zip ((wishK xs).take j) = zs at y7
      have zl : zs.length = ns.length := by rw [← hz, List.length_zip, List.length_take, Nat.min_eq_left]; omega
      have zat : ∀ {i n : Nat}, ns[i]? = some n → ∃ k, zs[i]? = some (n, k) := fun {i n} e => by
        have lt := (List.getElem?_eq_some_iff.mp e).1
        obtain ⟨k, hk⟩ : ∃ k, ((wishK xs).take j)[i]? = some k := ⟨_, List.getElem?_eq_getElem (by rw [List.length_take]; omega)⟩
        exact ⟨k, by rw [← hz]; exact List.getElem?_zip_eq_some.mpr ⟨e, hk⟩⟩
      have yF : YardAt a Y d (os ++ zs) (L2.upd H7 dd (.frz od' (.dK kvs))) := y7.wr ny npp npd ndo
      have tF : TabsG a (L2.upd H7 dd (.frz od' (.dK kvs))) := t7.wr hd7
      refine ⟨_, rfl, dd, od', kvs, rfl, upd_same, ?_⟩
      refine for_it walk_values (fun i σ H' => (∃ x5, σ = [some (.ref Y.y), some (.ref b), some (.ref p), some (.ref dd), some (.int (k : Int)), x5, some (.ref ls)]) ∧ YardAt a Y d (os ++ zs.drop i) H' ∧ H' dd = some (.frz od' (.dK kvs)) ∧ TabsG a H' ∧ OnlyN (own Y d) H H')
        ⟨⟨none, rfl⟩, by rw [List.drop_zero]; exact yF, upd_same, tF, fun b o e n m => (upd_ne (od b o e n m)).trans (o7 b o e n m)⟩ (fun i σ H' _ p => p.2.2.1) ?_ ?_
      · rintro i v σ H8 H9 hi ⟨⟨x5, rfl⟩, y8, hd8, t8, o8⟩ ⟨rfl, q, hq⟩
        obtain ⟨n, hn, rfl⟩ := kat hq
        obtain ⟨m, hm⟩ := zat hn
        have hdrop : zs.drop i = (n, m) :: zs.drop (i + 1) := by
          rw [List.drop_eq_getElem_cons (by omega)]
          congr 1
          exact Option.some.inj ((List.getElem?_eq_getElem (by omega)).symm.trans hm)
        rw [hdrop] at y8
        have mem : (n, m) ∈ os ++ (n, m) :: zs.drop (i + 1) := List.mem_append_right _ List.mem_cons_self
        refine nm ?_
        dsimp only
        refine ⟨_, rfl, Y.y, Y.dy, _, rfl, y8.yo, yFs_no Y d (by decide) (by decide) (by decide), _, rfl, Y, d, _, (n : Int), rfl, y8, fun z => absurd rfl (z (n, m) mem), fun n' m' mem' en H10 y10 o10 => ?_⟩
        obtain rfl : n = n' := by omega
        rw [outs_mid y8.good] at y10
        exact ⟨⟨_, rfl⟩, y10, o10 _ _ hd8 (y8.off hd8 (fun _ z => by cases z) fun _ z => by cases z), t8.only y8 o10, o8.trans (OnlyN.of o10)⟩
      · rintro σ H8 ⟨⟨x5, rfl⟩, y8, hd8, t8, o8⟩
        rw [kl2, ← zl, List.drop_length, List.append_nil] at y8
        refine ⟨hd8, q2 (fun x hx => (fx x hx).1) nog _ (y8.wr ny npp npd ndo) (fun b o e n m => (upd_ne (od b o e n m)).trans (o8 b o e n m)) (t8.wr' hd8 (fun _ z => by cases z) fun _ z => by cases z)⟩
    · rw [f2] at best y7
      have hd7 := o7 _ _ hd6 ndo
      have nk : k ∉ (byFall (fits xs)).take j := fun z => by
        obtain ⟨i, hi⟩ := List.mem_iff_getElem?.mp z
        have hlt := (List.getElem?_eq_some_iff.mp hi).1
        rw [List.length_take] at hlt
        rw [List.getElem?_take_of_lt (by omega)] at hi
        have := (List.getElem?_inj (by omega) (ord_nodup (fits xs))).mp (hi.trans hk.symm)
        omega
      refine ⟨_, rfl, _, rfl, dd, _, rfl, DPut.k (k := Sum.inl (k : Int)) hd7 (by rw [List.length_map, List.length_zip, List.length_take, sizeLine_eq]; omega), ?_⟩
      have e8 : putK (((((byFall (fits xs)).take j).zip ns)).map kvP) (Sum.inl (k : Int)) (nI n) = (((byFall (fits xs)).take (j + 1)).zip (ns ++ [n])).map kvP := by
        rw [putK_new _ (valP_none fun q hq z => nk (by rw [← z]; exact (List.of_mem_zip hq).1)), take_snoc hk, List.zip_append (by rw [List.length_take]; omega), List.map_append]
        rfl
      rw [e8]
      have z8 : (ns ++ [n]).zip ((wishK xs).take (j + 1)) = ns.zip ((wishK xs).take j) ++ [(n, fit x)] := by
        rw [take_snoc hw, List.zip_append (by rw [nlen, List.length_take])]
        rfl
      refine ⟨ns ++ [n], some (.int (k : Int)), rfl, ?_, ?_, upd_same, ?_, ?_, ?_, ?_⟩
      · rw [take_snoc hw]
        exact gv.snoc best
      · rw [z8, ← List.append_assoc]
        exact y7.wr ny npp npd ndo
      · rw [upd_ne pdd]
        exact o7 _ _ hp6 npo
      · rw [upd_ne lsd]
        exact o7 _ _ ls6 nlo
      · exact (t6.only y6 o7).wr hd7
      · exact fun b o e n m => (upd_ne (od b o e n m)).trans (o7 _ _ (o6 b o e n m) m)
  · rintro σ H6 ⟨ns, x4, rfl, gv, y6, hd6, hp6, ls6, t6, o6⟩
    rw [List.length_map, ol] at gv y6 hd6
    rw [List.take_of_length_le (by omega)] at gv y6 hd6
    have nl := gv.len
    rw [wl] at nl
    dsimp only
    refine ⟨_, rfl, ls, _, rfl, .inl (SqL.of ls6), ?_⟩
    rw [List.length_map, lf]
    refine ⟨_, rfl, by omega, by omega, fun l nl2 => ?_⟩
    refine lc_out walk_range (fun i H' => H' l = some (.lst ((List.range i).map fun k => nI (placeOf (byFall (fits xs)) ns k))) ∧ (∀ b o, H6 b = some o → H' b = some o))
      ⟨upd_same, newK nl2⟩ (fun i H' _ _ => True.intro) ?_ ?_
    · rintro i v H8 H9 hi ⟨hl, s8⟩ ⟨rfl, rfl⟩
      have hi : i < xs.length := by have hi' : i < ((xs.length : Int) - 0).toNat := hi; omega
      have mi : i ∈ byFall (fits xs) := (ord_perm (fits xs)).mem_iff.mpr (List.mem_range.mpr (by omega))
      refine ⟨rfl, ?_⟩
      refine ⟨_, rfl, _, rfl, dd, nI (placeOf (byFall (fits xs)) ns i), rfl, ?_, _, hl, ?_, ?_, fun b o e => ?_⟩
      · have g := DGet.k (k := Sum.inl (i : Int)) (s8 _ _ hd6)
        rw [valP (by omega) mi] at g
        show DGet _ dd (V.int (0 + (i : Int))) _
        rw [show (0 : Int) + (i : Int) = (i : Int) by omega]
        exact g
      · rw [List.length_map, List.length_range, sizeLine_eq]
        omega
      · rw [List.range_succ, List.map_append]
        exact upd_same
      · rw [upd_ne (fun z => by rw [z, nl2] at e; cases e)]
        exact s8 _ _ e
    · rintro H7 ⟨hl, s7⟩
      exact q3 ns fx gv l H7 (y6.keep s7) (o6.trans (OnlyN.of (Only.same s7))) (t6.keep s7) (y6.new nl2) (fun zs e => by
        have e6 := o6 _ _ e (fun _ z => by cases z) (y6.new nl2)
        rw [nl2] at e6
        cases e6) hl
end
/-! ### give_all: what was given, by the wishes' order -/
theorem Gv.perm {d : Nat} {ks ns : List Nat} : ∀ {os os' : List PN}, Gv d os ks ns → os'.Perm os → Gv d os' ks ns
  | _, _, .nil, _ => .nil
  | _, _, .cons b r, p => .cons (b.perm p) (r.perm (p.append_right _))
theorem HeldAt.onlyN {a : Ad} {Y : YA} {d : Nat} {os held : List PN} {H H' : Hp} {l : Addr} (h : HeldAt (own Y d) H l held) (ya : YardAt a Y d os H) (o : OnlyN (own Y d) H H') : HeldAt (own Y d) H' l held := by
  obtain ⟨n, ts, h1, h2⟩ := h
  exact ⟨n, ts, o _ _ h1 (fun _ z => by cases z) n, h2.keep fun t xs e => o _ _ e (fun _ z => by cases z) (ya.off e (by intro xs z; cases z) (by intro xs z; cases z))⟩
def gotPN (xs : List Int) (ns : List Nat) : List PN := (List.range xs.length).map fun k => (placeOf (byFall (fits xs)) ns k, fit (xs.getD k 0))
theorem place_at : ∀ {ord ns : List Nat} {j k n : Nat}, ord.Nodup → ord[j]? = some k → ns[j]? = some n → placeOf ord ns k = n
  | _ :: _, [], _, _, _, _, _, e => by simp at e
  | c :: ord, m :: ns, 0, k, n, _, e1, e2 => by
    cases e1
    cases e2
    unfold placeOf
    rw [List.zip_cons_cons, List.lookup_cons_self]
    rfl
  | c :: ord, m :: ns, j + 1, k, n, nd, e1, e2 => by
    obtain ⟨h1, h2⟩ := List.nodup_cons.mp nd
    have ne : k ≠ c := fun z => h1 (by rw [← z]; exact List.mem_of_getElem? e1)
    have := place_at (j := j) h2 e1 e2
    unfold placeOf at this ⊢
    rw [List.zip_cons_cons, List.lookup_cons, show (k == c) = false from beq_eq_false_iff_ne.mpr ne]
    exact this
theorem got_perm {xs : List Int} {ns : List Nat} (l : ns.length = xs.length) : (gotPN xs ns).Perm (ns.zip (wishK xs)) := by
  have lf : (fits xs).length = xs.length := by rw [fits, List.length_map]
  have e : ns.zip (wishK xs) = (byFall (fits xs)).map fun k => (placeOf (byFall (fits xs)) ns k, fit (xs.getD k 0)) := by
    apply List.ext_getElem?
    intro j
    have ol := ord_len (fits xs)
    rcases Nat.lt_or_ge j xs.length with h | h
    · obtain ⟨n, hn⟩ : ∃ n, ns[j]? = some n := ⟨_, List.getElem?_eq_getElem (by omega)⟩
      obtain ⟨k, hk⟩ : ∃ k, (byFall (fits xs))[j]? = some k := ⟨_, List.getElem?_eq_getElem (by omega)⟩
      have h1 : (ns.zip (wishK xs))[j]? = some (n, fit (xs.getD k 0)) := List.getElem?_zip_eq_some.mpr ⟨hn, by rw [wishK, List.getElem?_map, hk]; rfl⟩
      rw [h1, List.getElem?_map, hk]
      show some (n, fit (xs.getD k 0)) = some (placeOf (byFall (fits xs)) ns k, fit (xs.getD k 0))
      rw [place_at (ord_nodup (fits xs)) hk hn]
    · rw [List.getElem?_eq_none (by rw [List.length_zip, wishK_len]; omega), List.getElem?_eq_none (by rw [List.length_map]; omega)]
  rw [e]
  unfold gotPN
  rw [← lf]
  exact (ord_perm (fits xs)).symm.map _
def spLawT (K : PySem.W.Frag) (p : Addr) : Sp := fun vs H Q _ => ∃ (a : Addr) (ns : List Int), vs = [.ref a] ∧ SqL K H a (ns.map V.int) ∧ ns.length ≤ 63 ∧ (∀ z ∈ ns, Builtin.Int.intBits z ≤ 1048576) ∧ H p = some (.tbl #[]) ∧ ∀ H', Q (.bl true) H'
abbrev sp_lawT (K : PySem.W.Frag) (a : Ad) : Sp := spLawT K a.p_give_all
/-! ### len(set(xs)) of whole numbers, also where some come twice -/
section
open PySem PySem.Spec PyProof PyProof.Rows L2
theorem firstMet_list {ns : List Int} : ∀ i, i ≤ ns.length → (firstMet (fun j => ns.getD j 0) i).Nodup ∧ ∀ z, z ∈ firstMet (fun j => ns.getD j 0) i ↔ z ∈ ns.take i := by
  intro i
  induction i with
  | zero => intro _; exact ⟨List.nodup_nil, fun z => by rw [List.take_zero]; exact Iff.rfl⟩
  | succ i ih =>
    intro hi
    obtain ⟨n1, m1⟩ := ih (by omega)
    have hlt : i < ns.length := hi
    have e1 : ns.getD i 0 = ns[i] := by
      rw [List.getD_eq_getElem?_getD, List.getElem?_eq_getElem hlt] <;> rfl
    have e2 : ns.take (i + 1) = ns.take i ++ [ns[i]] := by
      rw [List.take_add_one, List.getElem?_eq_getElem hlt] <;> rfl
    have key : ∀ (L : List Int) (v : Int), L.Nodup → (step_dedup L v).Nodup ∧ ∀ z, z ∈ step_dedup L v ↔ z ∈ L ∨ z = v := fun L v nd => by
      show (if (L.any (· == v)) = true then L else L ++ [v]).Nodup ∧ ∀ z, z ∈ (if (L.any (· == v)) = true then L else L ++ [v]) ↔ _
      by_cases h : L.any (· == v) = true
      · rw [if_pos h]
        obtain ⟨y, hy, ey⟩ := List.any_eq_true.mp h
        have ey : y = v := eq_of_beq ey
        exact ⟨nd, fun z => ⟨.inl, fun g => g.elim id fun g => by rw [g, ← ey]; exact hy⟩⟩
      · rw [if_neg h]
        have no : v ∉ L := fun g => h (List.any_eq_true.mpr ⟨v, g, by simp⟩)
        refine ⟨List.nodup_append.mpr ⟨nd, by simp, fun x hx y hy e => no ?_⟩, fun z => by rw [List.mem_append, List.mem_singleton]⟩
        rw [← List.mem_singleton.mp hy, ← e]
        exact hx
    rw [firstMet_succ, e1, e2]
    obtain ⟨k1, k2⟩ := key _ ns[i] n1
    exact ⟨k1, fun z => by rw [k2 z, m1 z, List.mem_append, List.mem_singleton]⟩
theorem intsOf : ∀ {ns : List Int} {us : List Value}, Vals (ns.map V.int) us → IntsAre us ns
  | [], _, .nil => .nil
  | n :: ns, _, .cons r t => by
    obtain ⟨k, rfl⟩ := r
    exact .cons n k (intsOf t)
def tLenSetD (K : PySem.W.Frag) (ta : TE) : TE := fun σ H Q => ta σ H fun x H1 => ∃ (l : Addr) (ns : List Int), x = .ref l ∧ SqL K H1 l (ns.map V.int) ∧ ns.length ≤ 4000 ∧ ∀ ds : List Int, ds.Nodup → (∀ z, z ∈ ds ↔ z ∈ ns) → Q (.int (ds.length : Nat)) H1
theorem pe_lenSetD {X : Cx} {a : Expr} {ta : TE} {p p2 q pos : Pos} (hg : Gl X "len") (hm : X.mg "len" = none) (hg2 : Gl X "set") (hm2 : X.mg "set" = none) (ha : PE X a ta) (hc : X.calm = true := by rfl)
    (na : starEach [a] X.env = (false, eval a X.env) :: starEach [] X.env := by rfl) : PE X (.Call (.Name "len" p) [.Call (.Name "set" p2) [a] [] q] [] pos) (tLenSetD X.K ta) := by
  refine ⟨fun pins s σ H Q I h => ?_⟩
  refine Call_ (ld_blt I hg hm boot_len ?_)
  refine PyProof.Rows.callWith_builtin1 (PyProof.Rows.args_cons ?_ rfl) rfl rfl
  refine Call_ (ld_blt I hg2 hm2 boot_set ?_)
  refine PyProof.Rows.callWith_type1 (PyProof.Rows.args_cons (thn (ha.run pins s σ H _ I h) fun v s1 ⟨x, H1, I1, r1, q1⟩ => PyProof.Rows.args_nil ?_) na) na rfl
  obtain ⟨l, ns, rfl, hq, hl, q1⟩ := q1
  cases r1
  obtain ⟨its, r, pl, hz⟩ := I1.list hq
  have hlen : its.toArray.size = ns.length := by rw [List.size_toArray, ← r.length, List.length_map]
  obtain ⟨nd, mem⟩ := firstMet_list (ns := ns) ns.length (Nat.le_refl _)
  rw [List.take_length] at mem
  have small : (firstMet (fun j => ns.getD j 0) ns.length).length ≤ ns.length :=
    nodup_le (R := fun x y => x = y) nd (fun x hx => ⟨x, (mem x).mp hx, rfl⟩) fun x x' y _ _ e1 e2 => e1.trans e2.symm
  refine call_set_list (I1.ok.hd hc) pl.isList (by simpa using intsOf r) (by rw [hlen]; unfold scanBound; omega) fun h' tk hS hk => ?_
  refine PyProof.Rows.args_nil ?_
  rw [hlen] at hS
  obtain ⟨o, es, ep, t, ho, hex, hd, _, _, _, hf, hn⟩ := hS
  have I2 : Inv X pins σ H1 { s1 with heap := h', toks := tk } := I1.kept fun b o e => hk b o (Heap.lt_size e) e
  exact call_len_set ho hex hd hf (by rw [hn] <;> omega) ⟨.int (firstMet (fun j => ns.getD j 0) ns.length).length, H1, I2.tok _, ⟨_, by rw [hn]⟩, q1 _ nd mem⟩
end
/-! ### law_k08: the blocks that are touched -/
theorem full_iff {l : List Nat} {N : Nat} (nd : l.Nodup) (lt : ∀ i ∈ l, i < N) : l.length = N ↔ ∀ i, i < N → i ∈ l := by
  have le : ∀ {l : List Nat}, l.Nodup → (∀ i ∈ l, i < N) → l.length ≤ N := fun {l} nd lt => by
    have := nodup_le (R := fun x y => x = y) (m := List.range N) nd (fun x hx => ⟨x, List.mem_range.mpr (lt x hx), rfl⟩) fun x x' y _ _ e1 e2 => e1.trans e2.symm
    rwa [List.length_range] at this
  constructor
  · intro e i hi
    refine Classical.byContradiction fun no => ?_
    have := le (l := i :: l) (List.nodup_cons.mpr ⟨no, nd⟩) fun j hj => by
      rcases List.mem_cons.mp hj with rfl | hj
      · exact hi
      · exact lt j hj
    rw [List.length_cons] at this
    omega
  · intro h
    have a := le nd lt
    have b := nodup_le (R := fun x y => x = y) (l := List.range N) (m := l) List.nodup_range (fun x hx => ⟨x, h x (List.mem_range.mp hx), rfl⟩) fun x x' y _ _ e1 e2 => e1.trans e2.symm
    rw [List.length_range] at b
    omega
/-- the blocks of exponent k in a greater piece -/
def blks (k : Nat) (q : PN) : List Nat := (List.range (2 ^ (q.2 - k))).map fun i => q.1 / 2 ^ k + i
theorem blks_mem {k i : Nat} {q : PN} (h : k ≤ q.2) (al : q.1 / 2 ^ q.2 * 2 ^ q.2 = q.1) : i ∈ blks k q ↔ i / 2 ^ (q.2 - k) = q.1 / 2 ^ q.2 := by
  have pm : 0 < 2 ^ (q.2 - k) := Nat.pow_pos (by decide)
  have pk : 0 < 2 ^ k := Nat.pow_pos (by decide)
  have e : 2 ^ q.2 = 2 ^ (q.2 - k) * 2 ^ k := by rw [← Nat.pow_add]; congr 1; omega
  have ea : q.1 / 2 ^ k = q.1 / 2 ^ q.2 * 2 ^ (q.2 - k) := by
    have : q.1 = q.1 / 2 ^ q.2 * 2 ^ (q.2 - k) * 2 ^ k := by rw [Nat.mul_assoc, ← e]; exact al.symm
    rw [this, Nat.mul_div_cancel _ pk, ← this]
  unfold blks
  rw [List.mem_map, ea]
  generalize q.1 / 2 ^ q.2 = t
  generalize 2 ^ (q.2 - k) = m at pm
  constructor
  · rintro ⟨j, hj, rfl⟩
    have hj := List.mem_range.mp hj
    rw [Nat.mul_comm, Nat.mul_add_div pm, Nat.div_eq_of_lt hj]
    rfl
  · intro ei
    have h1 := Nat.div_add_mod i m
    have h2 := Nat.mod_lt i pm
    rw [ei, Nat.mul_comm] at h1
    exact ⟨i % m, List.mem_range.mpr h2, h1⟩
theorem in_big {k c : Nat} {q : PN} (h : k ≤ q.2) : c / 2 ^ q.2 = c / 2 ^ k / 2 ^ (q.2 - k) := by
  rw [Nat.div_div_eq_div_mul, ← Nat.pow_add]
  congr 2
  omega
def bigs (held : List PN) (k : Nat) : List PN := held.filter fun q => decide (((2 ^ k : Nat) : Int) ≤ ((2 ^ q.2 : Nat) : Int))
def smalls (held : List PN) (k : Nat) : List PN := held.filter fun q => decide (((2 ^ q.2 : Nat) : Int) < ((2 ^ k : Nat) : Int))
theorem pow_le_iff {a b : Nat} : ((2 ^ a : Nat) : Int) ≤ ((2 ^ b : Nat) : Int) ↔ a ≤ b := by
  rw [Int.ofNat_le]
  exact Nat.pow_le_pow_iff_right (by decide)
theorem pow_lt_iff {a b : Nat} : ((2 ^ a : Nat) : Int) < ((2 ^ b : Nat) : Int) ↔ a < b := by
  rw [Int.ofNat_lt]
  exact Nat.pow_lt_pow_iff_right (by decide)
theorem bigs_mem {held : List PN} {k : Nat} {q : PN} : q ∈ bigs held k ↔ q ∈ held ∧ k ≤ q.2 := by
  unfold bigs
  rw [List.mem_filter, decide_eq_true_iff, pow_le_iff]
theorem smalls_mem {held : List PN} {k : Nat} {q : PN} : q ∈ smalls held k ↔ q ∈ held ∧ q.2 < k := by
  unfold smalls
  rw [List.mem_filter, decide_eq_true_iff, pow_lt_iff]
theorem touch {d : Nat} {held : List PN} (g : Good d held) {k i : Nat} : ¬ Fr (Oc held) k i ↔ (∃ q ∈ bigs held k, i ∈ blks k q) ∨ ∃ q ∈ smalls held k, q.1 / 2 ^ k = i := by
  have pk : 0 < 2 ^ k := Nat.pow_pos (by decide)
  constructor
  · intro h
    obtain ⟨c, ec, q, hq, eq⟩ : ∃ c, c / 2 ^ k = i ∧ ∃ q ∈ held, c / 2 ^ q.2 = q.1 / 2 ^ q.2 := Classical.byContradiction fun z => h fun c ec ⟨q, hq, eq⟩ => z ⟨c, ec, q, hq, eq⟩
    by_cases l : k ≤ q.2
    · refine .inl ⟨q, bigs_mem.mpr ⟨hq, l⟩, (blks_mem l (g.each q hq).2.1).mpr ?_⟩
      rw [← eq, in_big l, ec]
    · refine .inr ⟨q, smalls_mem.mpr ⟨hq, by omega⟩, ?_⟩
      rw [← ec]
      exact (blk_mono (by omega) eq).symm
  · rintro (⟨q, hq, hi⟩ | ⟨q, hq, rfl⟩) f
    · obtain ⟨hq, l⟩ := bigs_mem.mp hq
      have hi := (blks_mem l (g.each q hq).2.1).mp hi
      refine f (i * 2 ^ k) (Nat.mul_div_cancel _ pk) ⟨q, hq, ?_⟩
      rw [in_big l, Nat.mul_div_cancel _ pk, hi]
    · exact f q.1 rfl ⟨q, (smalls_mem.mp hq).1, rfl⟩
theorem touched_iff {d : Nat} {held : List PN} (g : Good d held) {k : Nat} (kd : k ≤ d) {ds : List Int} (nd : ds.Nodup) (mem : ∀ z, z ∈ ds ↔ z ∈ (smalls held k).map fun q => (q.1 : Int) / ((2 ^ k : Nat) : Int)) :
    ((bigs held k).map fun q => 2 ^ (q.2 - k)).sum + ds.length = 2 ^ (d - k) ↔ ∀ i, i < 2 ^ (d - k) → ¬ Fr (Oc held) k i := by
  have pk : 0 < 2 ^ k := Nat.pow_pos (by decide)
  have dm : ∀ z, z ∈ ds ↔ ∃ q ∈ smalls held k, z = ((q.1 / 2 ^ k : Nat) : Int) := fun z => by
    rw [mem z, List.mem_map]
    constructor
    · rintro ⟨q, hq, rfl⟩
      exact ⟨q, hq, (Int.natCast_ediv _ _).symm⟩
    · rintro ⟨q, hq, rfl⟩
      exact ⟨q, hq, (Int.natCast_ediv _ _).symm⟩
  have tm : ∀ i, i ∈ ds.map Int.toNat ↔ ∃ q ∈ smalls held k, q.1 / 2 ^ k = i := fun i => by
    rw [List.mem_map]
    constructor
    · rintro ⟨z, hz, rfl⟩
      obtain ⟨q, hq, rfl⟩ := (dm z).mp hz
      exact ⟨q, hq, (Int.toNat_natCast _).symm⟩
    · rintro ⟨q, hq, rfl⟩
      exact ⟨_, (dm _).mpr ⟨q, hq, rfl⟩, Int.toNat_natCast _⟩
  have all : ∀ i, i ∈ (bigs held k).flatMap (blks k) ++ ds.map Int.toNat ↔ ¬ Fr (Oc held) k i := fun i => by
    rw [touch g, List.mem_append, List.mem_flatMap, tm]
  have cell_in : ∀ {q : PN} {i : Nat}, q ∈ bigs held k → i ∈ blks k q → ∀ c, c / 2 ^ k = i → c / 2 ^ q.2 = q.1 / 2 ^ q.2 := fun {q i} hq hi c ec => by
    obtain ⟨hq, l⟩ := bigs_mem.mp hq
    rw [in_big l, ec]
    exact (blks_mem l (g.each q hq).2.1).mp hi
  have ndA : ((bigs held k).flatMap (blks k) ++ ds.map Int.toNat).Nodup := by
    refine List.nodup_append.mpr ⟨?_, ?_, fun i hi j hj e => ?_⟩
    · refine List.pairwise_flatMap.mpr ⟨fun q _ => ?_, ?_⟩
      · unfold blks
        exact List.pairwise_map.mpr ((List.nodup_range (n := 2 ^ (q.2 - k))).imp fun {x y} h e => h (by omega))
      · have hd : (bigs held k).Pairwise Apart := g.disj.sublist List.filter_sublist
        refine (List.pairwise_iff_forall_sublist.mpr fun {p q} hs => ?_)
        have ap := List.pairwise_iff_forall_sublist.mp hd hs
        have mp : p ∈ bigs held k := hs.subset (by simp)
        have mq : q ∈ bigs held k := hs.subset (by simp)
        intro x hx y hy e
        subst e
        have e0 : x * 2 ^ k / 2 ^ k = x := Nat.mul_div_cancel _ pk
        exact ap _ (cell_in mp hx _ e0) (cell_in mq hy _ e0)
    · refine List.pairwise_map.mpr (nd.imp_of_mem fun {x y} hx hy h e => h ?_)
      obtain ⟨q, _, rfl⟩ := (dm x).mp hx
      obtain ⟨p, _, rfl⟩ := (dm y).mp hy
      rw [Int.toNat_natCast, Int.toNat_natCast] at e
      rw [e]
    · subst e
      obtain ⟨p, hp, hi⟩ := List.mem_flatMap.mp hi
      obtain ⟨q, hq, eq⟩ := (tm i).mp hj
      have e1 := cell_in hp hi q.1 eq
      obtain ⟨hp, lp⟩ := bigs_mem.mp hp
      obtain ⟨hq, lq⟩ := smalls_mem.mp hq
      have := g.one hp hq e1 rfl
      subst this
      omega
  have lt : ∀ i ∈ (bigs held k).flatMap (blks k) ++ ds.map Int.toNat, i < 2 ^ (d - k) := fun i hi => by
    have nf := (all i).mp hi
    have ed : 2 ^ d = 2 ^ (d - k) * 2 ^ k := by rw [← Nat.pow_add]; congr 1; omega
    rcases (touch g).mp nf with ⟨q, hq, hb⟩ | ⟨q, hq, rfl⟩
    · have e1 := cell_in hq hb (i * 2 ^ k) (Nat.mul_div_cancel _ pk)
      obtain ⟨hq, l⟩ := bigs_mem.mp hq
      obtain ⟨g1, g2, g3⟩ := g.each q hq
      have e : 2 ^ d = 2 ^ (d - q.2) * 2 ^ q.2 := by rw [← Nat.pow_add]; congr 1; omega
      have pq : 0 < 2 ^ q.2 := Nat.pow_pos (by decide)
      have l1 : q.1 / 2 ^ q.2 < 2 ^ (d - q.2) := Nat.div_lt_of_lt_mul (by rw [Nat.mul_comm, ← e]; exact g3)
      have l2 : i * 2 ^ k < 2 ^ d := by
        rw [e]
        rw [← e1] at l1
        exact (Nat.div_lt_iff_lt_mul pq).mp l1
      rw [ed] at l2
      exact Nat.lt_of_mul_lt_mul_right l2
    · obtain ⟨hq, l⟩ := smalls_mem.mp hq
      have g3 := (g.each q hq).2.2
      exact Nat.div_lt_of_lt_mul (by rw [Nat.mul_comm, ← ed]; exact g3)
  have f := full_iff ndA lt
  have el : ((bigs held k).flatMap (blks k) ++ ds.map Int.toNat).length = ((bigs held k).map fun q => 2 ^ (q.2 - k)).sum + ds.length := by
    rw [List.length_append, List.length_map, List.length_flatMap]
    congr 2
    refine List.map_congr_left fun q _ => ?_
    unfold blks
    rw [List.length_map, List.length_range]
  rw [el] at f
  rw [f]
  exact ⟨fun h i hi => (all i).mp (h i hi), fun h i hi => (all i).mpr (h i hi)⟩
theorem sum_bigs {k : Nat} : ∀ {l : List PN}, (∀ q ∈ l, k ≤ q.2) → (l.map fun q => ((2 ^ q.2 : Nat) : Int) / ((2 ^ k : Nat) : Int)).sum = (((l.map fun q => 2 ^ (q.2 - k)).sum : Nat) : Int)
  | [], _ => rfl
  | q :: l, h => by
    have pk : 0 < 2 ^ k := Nat.pow_pos (by decide)
    have e : 2 ^ q.2 / 2 ^ k = 2 ^ (q.2 - k) := Nat.pow_div (h q List.mem_cons_self) (by decide)
    rw [List.map_cons, List.map_cons, List.sum_cons, List.sum_cons, sum_bigs fun p hp => h p (List.mem_cons_of_mem _ hp), ← Int.natCast_ediv, e, Int.natCast_add]
theorem free_iff {O : Nat → Prop} {d k : Nat} (kd : k ≤ d) : (∀ i, i < 2 ^ (d - k) → ¬ Fr O k i) ↔ ∀ j i, k ≤ j → ¬ Mx O d j i := by
  have pk : 0 < 2 ^ k := Nat.pow_pos (by decide)
  constructor
  · rintro h j i kj ⟨jd, hi, f, _⟩
    have pj : 0 < 2 ^ j := Nat.pow_pos (by decide)
    have e : i * 2 ^ j / 2 ^ j = i := Nat.mul_div_cancel _ pj
    have ed : 2 ^ d = 2 ^ (d - j) * 2 ^ j := by rw [← Nat.pow_add]; congr 1; omega
    have lt : i * 2 ^ j < 2 ^ d := by rw [ed]; exact (Nat.mul_lt_mul_right pj).mpr hi
    rw [← e] at f
    exact h _ (blk_lt lt kd) (fr_down f kj)
  · intro h i hi f
    have e : i * 2 ^ k / 2 ^ k = i := Nat.mul_div_cancel _ pk
    have ed : 2 ^ d = 2 ^ (d - k) * 2 ^ k := by rw [← Nat.pow_add]; congr 1; omega
    have lt : i * 2 ^ k < 2 ^ d := by rw [ed]; exact (Nat.mul_lt_mul_right pk).mpr hi
    rw [← e] at f
    obtain ⟨m, km, hM⟩ := mx_exists lt _ k rfl kd f
    exact h m _ km hM
/-! ### give_all: what is granted, by counting -/
open Classical in
noncomputable def frc (O : Nat → Prop) (d j : Nat) : List Nat := (List.range (2 ^ (d - j))).filter fun i => decide (Fr O j i)
theorem frc_mem {O : Nat → Prop} {d j i : Nat} : i ∈ frc O d j ↔ i < 2 ^ (d - j) ∧ Fr O j i := by
  unfold frc
  rw [List.mem_filter, List.mem_range]
  exact and_congr Iff.rfl (by simp)
def need (ks : List Nat) (j : Nat) : Nat := ((ks.filter fun k => decide (j ≤ k)).map fun k => 2 ^ (k - j)).sum
theorem need_cons {k j : Nat} {ks : List Nat} : need (k :: ks) j = (if j ≤ k then 2 ^ (k - j) else 0) + need ks j := by
  unfold need
  rw [List.filter_cons]
  by_cases h : j ≤ k
  · rw [if_pos (by simpa using h), if_pos h, List.map_cons, List.sum_cons]
  · rw [if_neg (by simpa using h), if_neg h, Nat.zero_add]
theorem need_zero {j : Nat} {ks : List Nat} (h : ∀ k ∈ ks, k < j) : need ks j = 0 := by
  unfold need
  rw [List.filter_eq_nil_iff.mpr fun k hk => by have := h k hk; simpa using this]
  rfl
theorem blk_count {N M b : Nat} (h : (b + 1) * M ≤ N) (M0 : 0 < M) : ((List.range N).filter fun i => decide (i / M = b)).length = M := by
  rw [Nat.succ_mul] at h
  refine Nat.le_antisymm ?_ ?_
  · have := nodup_le (R := fun i t : Nat => i = b * M + t) (l := (List.range N).filter fun i => decide (i / M = b)) (m := List.range M) (List.nodup_range.filter _) (fun i hi => ?_) (fun x x' y _ _ e1 e2 => by omega)
    · rwa [List.length_range] at this
    · have e := of_decide_eq_true (List.mem_filter.mp hi).2
      have h1 := Nat.div_mul_le_self i M
      have h2 := Nat.lt_div_mul_add (a := i) M0
      rw [e] at h1 h2
      exact ⟨i - b * M, List.mem_range.mpr (by omega), by omega⟩
  · have := nodup_le (R := fun t i : Nat => i = b * M + t) (l := List.range M) (m := (List.range N).filter fun i => decide (i / M = b)) List.nodup_range (fun t ht => ?_) (fun x x' y _ _ e1 e2 => by omega)
    · rwa [List.length_range] at this
    · have lt := List.mem_range.mp ht
      refine ⟨b * M + t, List.mem_filter.mpr ⟨List.mem_range.mpr (by omega), decide_eq_true ?_⟩, rfl⟩
      rw [Nat.mul_comm, Nat.mul_add_div M0, Nat.div_eq_of_lt lt, Nat.add_zero]
theorem filter_split {α : Type} (p q : α → Bool) (l : List α) : (l.filter p).length = (l.filter fun x => p x && q x).length + (l.filter fun x => p x && !q x).length := by
  induction l with
  | nil => rfl
  | cons x l ih =>
    simp only [List.filter_cons]
    cases p x <;> cases q x <;> simp <;> omega
/-- a piece more is out -/
theorem frc_give {os : List PN} {d k m n j : Nat} (b : Best os d k m n) (jk : j ≤ k) : (frc (Oc os) d j).length = (frc (Oc (os ++ [(n, k)])) d j).length + 2 ^ (k - j) := by
  classical
  have pk : 0 < 2 ^ k := Nat.pow_pos (by decide)
  have pj : 0 < 2 ^ j := Nat.pow_pos (by decide)
  have md := b.mx.1
  have km := b.le
  -- the block that is given is free
  have frk : Fr (Oc os) k (n / 2 ^ k) := fr_down b.mx.2.2.1 km
  have ej : 2 ^ k = 2 ^ j * 2 ^ (k - j) := by rw [← Nat.pow_add]; congr 1; omega
  have up : ∀ i : Nat, i * 2 ^ j / 2 ^ k = i / 2 ^ (k - j) := fun i => by rw [ej, ← Nat.div_div_eq_div_mul, Nat.mul_div_cancel _ pj]
  have inside : ∀ i, i / 2 ^ (k - j) = n / 2 ^ k → Fr (Oc os) j i := fun i e => by
    have h : Fr (Oc os) k (i * 2 ^ j / 2 ^ k) := by rw [up, e]; exact frk
    have := fr_down h jk
    rwa [blk_of] at this
  have new : ∀ i, Fr (Oc (os ++ [(n, k)])) j i ↔ Fr (Oc os) j i ∧ ¬ i / 2 ^ (k - j) = n / 2 ^ k := fun i => by
    constructor
    · intro h
      refine ⟨fun c e o => h c e (Oc_snoc.mpr (.inl o)), fun e => ?_⟩
      exact h (i * 2 ^ j) (blk_of _ _) (Oc_snoc.mpr (.inr (by rw [up, e])))
    · rintro ⟨h1, h2⟩ c e o
      rcases Oc_snoc.mp o with o | o
      · exact h1 c e o
      · refine h2 ?_
        rw [← o, ← up, ← e]
        exact blk_mono jk (blk_of _ _)
  have lt : n / 2 ^ k < 2 ^ (d - k) := by
    have h1 := b.mx.2.1
    have e1 : n / 2 ^ m = n / 2 ^ k / 2 ^ (m - k) := by rw [Nat.div_div_eq_div_mul, ← Nat.pow_add]; congr 2; omega
    rw [e1] at h1
    have pp : 0 < 2 ^ (m - k) := Nat.pow_pos (by decide)
    have := (Nat.div_lt_iff_lt_mul pp).mp h1
    have e2 : 2 ^ (d - m) * 2 ^ (m - k) = 2 ^ (d - k) := by rw [← Nat.pow_add]; congr 1; omega
    rwa [e2] at this
  have cnt := blk_count (N := 2 ^ (d - j)) (M := 2 ^ (k - j)) (b := n / 2 ^ k) (by
    have e2 : 2 ^ (d - j) = 2 ^ (d - k) * 2 ^ (k - j) := by rw [← Nat.pow_add]; congr 1; omega
    rw [e2]
    exact Nat.mul_le_mul_right _ lt) (Nat.pow_pos (by decide))
  unfold frc
  rw [filter_split (fun i => decide (Fr (Oc os) j i)) (fun i => decide (i / 2 ^ (k - j) = n / 2 ^ k)), Nat.add_comm]
  congr 1
  · congr 1
    refine List.filter_congr fun i _ => ?_
    rw [Bool.eq_iff_iff, Bool.and_eq_true, Bool.not_eq_true', decide_eq_true_iff, decide_eq_false_iff_not, decide_eq_true_iff]
    exact (new i).symm
  · refine Eq.trans ?_ cnt
    congr 1
    refine List.filter_congr fun i _ => ?_
    rw [Bool.eq_iff_iff, Bool.and_eq_true, decide_eq_true_iff, decide_eq_true_iff]
    exact ⟨fun h => h.2, fun h => ⟨inside i h, h⟩⟩
theorem gv_iff {d : Nat} : ∀ {ks : List Nat} {os : List PN}, ks.Pairwise (fun x y => y ≤ x) → (∀ k ∈ ks, k ≤ d) → ((∃ ns, Gv d os ks ns) ↔ ∀ j, j ≤ d → need ks j ≤ (frc (Oc os) d j).length)
  | [], os, _, _ => ⟨fun _ j _ => by rw [need_zero (by simp)]; exact Nat.zero_le _, fun _ => ⟨[], .nil⟩⟩
  | k :: ks, os, pw, le => by
    obtain ⟨p1, p2⟩ := List.pairwise_cons.mp pw
    have kd := le k List.mem_cons_self
    have le' : ∀ x ∈ ks, x ≤ d := fun x hx => le x (List.mem_cons_of_mem _ hx)
    have zero : ∀ j, k < j → need (k :: ks) j = 0 := fun j h => need_zero fun x hx => by
      rcases List.mem_cons.mp hx with rfl | hx
      · exact h
      · have := p1 x hx
        omega
    constructor
    · rintro ⟨ns, gv⟩ j jd
      cases gv with
      | cons b r =>
        by_cases jk : j ≤ k
        · have ih := (gv_iff p2 le').mp ⟨_, r⟩ j jd
          rw [need_cons, if_pos jk, frc_give b jk]
          omega
        · rw [zero j (by omega)]
          exact Nat.zero_le _
    · intro h
      have hk := h k kd
      rw [need_cons, if_pos (Nat.le_refl _), Nat.sub_self, Nat.pow_zero] at hk
      obtain ⟨i, hi⟩ := List.exists_mem_of_length_pos (l := frc (Oc os) d k) (by omega)
      obtain ⟨i1, i2⟩ := frc_mem.mp hi
      rcases best_or os d k with z | ⟨m, n, b⟩
      · exact absurd i2 ((free_iff kd).mpr z i i1)
      · obtain ⟨ns, r⟩ := (gv_iff (os := os ++ [(n, k)]) p2 le').mpr fun j jd => by
          by_cases jk : j ≤ k
          · have hj := h j jd
            rw [need_cons, if_pos jk, frc_give b jk] at hj
            omega
          · have := zero j (by omega)
            rw [need_cons] at this
            omega
        exact ⟨n :: ns, .cons b r⟩
/-! ### law_k11: touched blocks, counted -/
theorem cnt_compl {L : List Nat} {N : Nat} {p : Nat → Bool} (nd : L.Nodup) (lt : ∀ i ∈ L, i < N) (h : ∀ i, i < N → (i ∈ L ↔ ¬ p i = true)) : L.length + ((List.range N).filter p).length = N := by
  have e1 : L.length = ((List.range N).filter fun i => !p i).length := by
    refine Nat.le_antisymm ?_ ?_
    · exact nodup_le (R := fun x y : Nat => x = y) nd (fun x hx => ⟨x, List.mem_filter.mpr ⟨List.mem_range.mpr (lt x hx), by have := (h x (lt x hx)).mp hx; simpa using this⟩, rfl⟩) fun x x' y _ _ a b => a.trans b.symm
    · refine nodup_le (R := fun x y : Nat => x = y) (List.nodup_range.filter _) (fun x hx => ?_) fun x x' y _ _ a b => a.trans b.symm
      obtain ⟨a, b⟩ := List.mem_filter.mp hx
      exact ⟨x, (h x (List.mem_range.mp a)).mpr (by simpa using b), rfl⟩
  have e2 : ((List.range N).filter fun _ => true).length = ((List.range N).filter p).length + ((List.range N).filter fun i => !p i).length := filter_split (fun _ => true) p (List.range N)
  have e3 : ((List.range N).filter fun _ => true).length = N := by rw [List.filter_eq_self.mpr (by simp), List.length_range]
  omega
theorem touched_num {d : Nat} {held : List PN} (g : Good d held) {k : Nat} (kd : k ≤ d) {ds : List Int} (nd : ds.Nodup) (mem : ∀ z, z ∈ ds ↔ z ∈ (smalls held k).map fun q => (q.1 : Int) / ((2 ^ k : Nat) : Int)) :
    ((bigs held k).map fun q => 2 ^ (q.2 - k)).sum + ds.length + (frc (Oc held) d k).length = 2 ^ (d - k) := by
  have pk : 0 < 2 ^ k := Nat.pow_pos (by decide)
  have dm : ∀ z, z ∈ ds ↔ ∃ q ∈ smalls held k, z = ((q.1 / 2 ^ k : Nat) : Int) := fun z => by
    rw [mem z, List.mem_map]
    constructor
    · rintro ⟨q, hq, rfl⟩
      exact ⟨q, hq, (Int.natCast_ediv _ _).symm⟩
    · rintro ⟨q, hq, rfl⟩
      exact ⟨q, hq, (Int.natCast_ediv _ _).symm⟩
  have tm : ∀ i, i ∈ ds.map Int.toNat ↔ ∃ q ∈ smalls held k, q.1 / 2 ^ k = i := fun i => by
    rw [List.mem_map]
    constructor
    · rintro ⟨z, hz, rfl⟩
      obtain ⟨q, hq, rfl⟩ := (dm z).mp hz
      exact ⟨q, hq, (Int.toNat_natCast _).symm⟩
    · rintro ⟨q, hq, rfl⟩
      exact ⟨_, (dm _).mpr ⟨q, hq, rfl⟩, Int.toNat_natCast _⟩
  have all : ∀ i, i ∈ (bigs held k).flatMap (blks k) ++ ds.map Int.toNat ↔ ¬ Fr (Oc held) k i := fun i => by
    rw [touch g, List.mem_append, List.mem_flatMap, tm]
  have cell_in : ∀ {q : PN} {i : Nat}, q ∈ bigs held k → i ∈ blks k q → ∀ c, c / 2 ^ k = i → c / 2 ^ q.2 = q.1 / 2 ^ q.2 := fun {q i} hq hi c ec => by
    obtain ⟨hq, l⟩ := bigs_mem.mp hq
    rw [in_big l, ec]
    exact (blks_mem l (g.each q hq).2.1).mp hi
  have ndA : ((bigs held k).flatMap (blks k) ++ ds.map Int.toNat).Nodup := by
    refine List.nodup_append.mpr ⟨?_, ?_, fun i hi j hj e => ?_⟩
    · refine List.pairwise_flatMap.mpr ⟨fun q _ => ?_, ?_⟩
      · unfold blks
        exact List.pairwise_map.mpr ((List.nodup_range (n := 2 ^ (q.2 - k))).imp fun {x y} h e => h (by omega))
      · have hd : (bigs held k).Pairwise Apart := g.disj.sublist List.filter_sublist
        refine (List.pairwise_iff_forall_sublist.mpr fun {p q} hs => ?_)
        have ap := List.pairwise_iff_forall_sublist.mp hd hs
        have mp : p ∈ bigs held k := hs.subset (by simp)
        have mq : q ∈ bigs held k := hs.subset (by simp)
        intro x hx y hy e
        subst e
        have e0 : x * 2 ^ k / 2 ^ k = x := Nat.mul_div_cancel _ pk
        exact ap _ (cell_in mp hx _ e0) (cell_in mq hy _ e0)
    · refine List.pairwise_map.mpr (nd.imp_of_mem fun {x y} hx hy h e => h ?_)
      obtain ⟨q, _, rfl⟩ := (dm x).mp hx
      obtain ⟨p, _, rfl⟩ := (dm y).mp hy
      rw [Int.toNat_natCast, Int.toNat_natCast] at e
      rw [e]
    · subst e
      obtain ⟨p, hp, hi⟩ := List.mem_flatMap.mp hi
      obtain ⟨q, hq, eq⟩ := (tm i).mp hj
      have e1 := cell_in hp hi q.1 eq
      obtain ⟨hp, lp⟩ := bigs_mem.mp hp
      obtain ⟨hq, lq⟩ := smalls_mem.mp hq
      have := g.one hp hq e1 rfl
      subst this
      omega
  have lt : ∀ i ∈ (bigs held k).flatMap (blks k) ++ ds.map Int.toNat, i < 2 ^ (d - k) := fun i hi => by
    have nf := (all i).mp hi
    have ed : 2 ^ d = 2 ^ (d - k) * 2 ^ k := by rw [← Nat.pow_add]; congr 1; omega
    rcases (touch g).mp nf with ⟨q, hq, hb⟩ | ⟨q, hq, rfl⟩
    · have e1 := cell_in hq hb (i * 2 ^ k) (Nat.mul_div_cancel _ pk)
      obtain ⟨hq, l⟩ := bigs_mem.mp hq
      obtain ⟨g1, g2, g3⟩ := g.each q hq
      have e : 2 ^ d = 2 ^ (d - q.2) * 2 ^ q.2 := by rw [← Nat.pow_add]; congr 1; omega
      have pq : 0 < 2 ^ q.2 := Nat.pow_pos (by decide)
      have l1 : q.1 / 2 ^ q.2 < 2 ^ (d - q.2) := Nat.div_lt_of_lt_mul (by rw [Nat.mul_comm, ← e]; exact g3)
      have l2 : i * 2 ^ k < 2 ^ d := by
        rw [e]
        rw [← e1] at l1
        exact (Nat.div_lt_iff_lt_mul pq).mp l1
      rw [ed] at l2
      exact Nat.lt_of_mul_lt_mul_right l2
    · obtain ⟨hq, l⟩ := smalls_mem.mp hq
      have g3 := (g.each q hq).2.2
      exact Nat.div_lt_of_lt_mul (by rw [Nat.mul_comm, ← ed]; exact g3)
  have el : ((bigs held k).flatMap (blks k) ++ ds.map Int.toNat).length = ((bigs held k).map fun q => 2 ^ (q.2 - k)).sum + ds.length := by
    rw [List.length_append, List.length_map, List.length_flatMap]
    congr 2
    refine List.map_congr_left fun q _ => ?_
    unfold blks
    rw [List.length_map, List.length_range]
  rw [← el]
  unfold frc
  exact cnt_compl ndA lt fun i _ => by
    rw [all]
    simp
/-! ### the order of the granting -/
section
theorem fall_le (zs : List Int) (a b : Nat) : PySem.W.dataLe false (fun k : Nat => PyData.int (-(zs.getD k 0))) a b = decide (-(zs.getD a 0) ≤ -(zs.getD b 0)) := by
  rw [PySem.W.dataLe_int]
theorem range_zipIdx (n : Nat) : (List.range n).zipIdx = (List.range n).map fun k => (k, k) := by
  apply List.ext_getElem
  · simp
  · intro i h1 h2
    simp
theorem fall_pairs (zs : List Int) : ((byFall zs).map fun k => (0 - zs.getD k 0, (k : Int))).Pairwise fun x y => leP x y = true := by
  rw [byFall, ← List.mergeSort_zipIdx, range_zipIdx, List.map_map, List.pairwise_map]
  have tr : ∀ a b c : Nat, PySem.W.dataLe false (fun k : Nat => PyData.int (-(zs.getD k 0))) a b = true → PySem.W.dataLe false (fun k : Nat => PyData.int (-(zs.getD k 0))) b c = true → PySem.W.dataLe false (fun k : Nat => PyData.int (-(zs.getD k 0))) a c = true := by
    intro a b c h1 h2
    rw [fall_le, decide_eq_true_iff] at h1 h2 ⊢
    omega
  have tot : ∀ a b : Nat, (PySem.W.dataLe false (fun k : Nat => PyData.int (-(zs.getD k 0))) a b || PySem.W.dataLe false (fun k : Nat => PyData.int (-(zs.getD k 0))) b a) = true := by
    intro a b
    rw [Bool.or_eq_true, fall_le, fall_le, decide_eq_true_iff, decide_eq_true_iff]
    omega
  have pw := List.pairwise_mergeSort (List.zipIdxLE_trans tr) (List.zipIdxLE_total tot) ((List.range zs.length).map fun k => (k, k))
  refine (List.pairwise_iff_forall_sublist.mpr ?_)
  intro p q hpq
  have h := List.pairwise_iff_forall_sublist.mp pw hpq
  have mp : ∀ r ∈ [p, q], r.1 = r.2 := fun r hr => by
    obtain ⟨k, _, e⟩ := List.mem_map.mp ((List.mergeSort_perm _ _).mem_iff.mp (hpq.subset hr))
    rw [← e]
  have e1 := mp p (by simp)
  have e2 := mp q (by simp)
  unfold List.zipIdxLE at h
  rw [fall_le, fall_le] at h
  rw [leP_iff]
  show 0 - zs.getD p.1 0 < 0 - zs.getD q.1 0 ∨ (0 - zs.getD p.1 0 = 0 - zs.getD q.1 0 ∧ (p.1 : Int) ≤ (q.1 : Int))
  split at h
  · rename_i c1
    rw [decide_eq_true_iff] at c1
    split at h
    · rename_i c2
      rw [decide_eq_true_iff] at c2
      have h3 : p.2 ≤ q.2 := by simpa using h
      omega
    · rename_i c2
      rw [decide_eq_true_iff] at c2
      omega
  · cases h
theorem fall_srt (zs : List Int) : srt ((List.range zs.length).map fun k => (0 - zs.getD k 0, (k : Int))) = (byFall zs).map fun k => (0 - zs.getD k 0, (k : Int)) :=
  sorted_uniq ((srt_perm _).trans ((ord_perm zs).symm.map _)) (srt_sorted _) (fall_pairs zs)
end
/-! ### the wishes' exponents -/
theorem wishK_fall (xs : List Int) : (wishK xs).Pairwise fun x y => y ≤ x := by
  have h := fall_pairs (fits xs)
  unfold wishK
  rw [List.pairwise_map] at h ⊢
  have lf : (fits xs).length = xs.length := by rw [fits, List.length_map]
  refine h.imp_of_mem fun {i j} hi hj l => ?_
  have hi := ord_lt hi
  have hj := ord_lt hj
  rw [lf] at hi hj
  have e : ∀ i, i < xs.length → (fits xs).getD i 0 = ((2 ^ fit (xs.getD i 0) : Nat) : Int) := fun i hi => by
    rw [List.getD, List.getD, fits, List.getElem?_map, List.getElem?_eq_getElem hi]
    rfl
  have l : leP (0 - (fits xs).getD i 0, (i : Int)) (0 - (fits xs).getD j 0, (j : Int)) = true := l
  rw [e i hi, e j hj] at l
  have l2 : ((2 ^ fit (xs.getD j 0) : Nat) : Int) ≤ ((2 ^ fit (xs.getD i 0) : Nat) : Int) := by
    rcases leP_iff.mp l with h | h
    · have h : 0 - ((2 ^ fit (xs.getD i 0) : Nat) : Int) < 0 - ((2 ^ fit (xs.getD j 0) : Nat) : Int) := h
      omega
    · have h : 0 - ((2 ^ fit (xs.getD i 0) : Nat) : Int) = 0 - ((2 ^ fit (xs.getD j 0) : Nat) : Int) := h.1
      omega
  exact (Nat.pow_le_pow_iff_right (a := 2) (by decide)).mp (by omega)
theorem wishK_perm (xs : List Int) : (wishK xs).Perm (xs.map fit) := by
  have lf : (fits xs).length = xs.length := by rw [fits, List.length_map]
  have h := (ord_perm (fits xs)).map fun k => fit (xs.getD k 0)
  have e : (List.range (fits xs).length).map (fun k => fit (xs.getD k 0)) = xs.map fit := by
    rw [lf]
    apply List.ext_getElem?
    intro i
    rw [List.getElem?_map, List.getElem?_map]
    rcases Nat.lt_or_ge i xs.length with h | h
    · rw [List.getElem?_range h, List.getElem?_eq_getElem h]
      show some (fit (xs.getD i 0)) = _
      rw [List.getD, List.getElem?_eq_getElem h]
      rfl
    · rw [List.getElem?_eq_none (by rw [List.length_range]; omega), List.getElem?_eq_none (by omega)]
      rfl
  rw [e] at h
  exact h
theorem need_perm {ks ks' : List Nat} {j : Nat} (p : ks.Perm ks') : need ks j = need ks' j := ((p.filter _).map _).sum_nat
/-! ### give_all in an empty yard: side by side -/
theorem best_low {os : List PN} {d k m n S : Nat} (b : Best os d k m n) (oc : ∀ c, Oc os c ↔ c < S) (dv : 2 ^ k ∣ S) : n = S := by
  have start : ∀ {j i : Nat}, Mx (Oc os) d j i → S ≤ i * 2 ^ j := fun {j i} h => by
    have := h.2.2.1 (i * 2 ^ j) (blk_of _ _)
    rw [oc] at this
    omega
  have Sd : S < 2 ^ d := by
    have h := start b.mx
    have h1 := b.mx.2.1
    have e : 2 ^ d = 2 ^ (d - m) * 2 ^ m := by rw [← Nat.pow_add]; congr 1; have := b.mx.1; omega
    have := (Nat.mul_lt_mul_right (a := 2 ^ m) (Nat.pow_pos (by decide))).mpr h1
    omega
  -- the largest block that begins at S
  obtain ⟨v, kv, vd, dvd, odd⟩ : ∃ v, k ≤ v ∧ v ≤ d ∧ 2 ^ v ∣ S ∧ (v < d → ¬ 2 ^ (v + 1) ∣ S) := by
    have kd : k ≤ d := Nat.le_trans b.le b.mx.1
    have go : ∀ r v, d - v = r → k ≤ v → v ≤ d → 2 ^ v ∣ S → ∃ v, k ≤ v ∧ v ≤ d ∧ 2 ^ v ∣ S ∧ (v < d → ¬ 2 ^ (v + 1) ∣ S) := by
      intro r
      induction r with
      | zero => exact fun v e h1 h2 h3 => ⟨v, h1, h2, h3, fun z => by omega⟩
      | succ r ih =>
        intro v e h1 h2 h3
        by_cases z : 2 ^ (v + 1) ∣ S
        · exact ih (v + 1) (by omega) (by omega) (by omega) z
        · exact ⟨v, h1, h2, h3, fun _ => z⟩
    exact go _ k rfl (Nat.le_refl _) kd dv
  have pv : 0 < 2 ^ v := Nat.pow_pos (by decide)
  have eS : S / 2 ^ v * 2 ^ v = S := Nat.div_mul_cancel dvd
  have mxS : Mx (Oc os) d v (S / 2 ^ v) := by
    refine ⟨vd, ?_, fun c e o => ?_, fun l f => odd l ?_⟩
    · refine (Nat.div_lt_iff_lt_mul pv).mpr ?_
      rw [← Nat.pow_add, show d - v + v = d by omega]
      exact Sd
    · have h1 := Nat.div_mul_le_self c (2 ^ v)
      rw [e, eS] at h1
      have := (oc c).mp o
      omega
    · -- the block around begins at S
      have h := f (S / 2 ^ v / 2 * 2 ^ (v + 1)) (blk_of _ _)
      rw [oc] at h
      have h2 : S / 2 ^ v / 2 * 2 ^ (v + 1) = S / 2 ^ v / 2 * 2 * 2 ^ v := by rw [Nat.pow_succ, Nat.mul_comm (2 ^ v) 2, Nat.mul_assoc]
      have h3 := Nat.mul_le_mul_right (2 ^ v) (Nat.div_mul_le_self (S / 2 ^ v) 2)
      exact ⟨S / 2 ^ v / 2, by rw [Nat.mul_comm]; omega⟩
  have low : ∀ {j i : Nat}, Mx (Oc os) d j i → v ≤ j := fun {j i} h => Classical.byContradiction fun z => by
    have l : j < d := by omega
    refine h.2.2.2 l fun c e o => ?_
    have hs := start h
    obtain ⟨t, ht⟩ : 2 ^ (j + 1) ∣ S := Nat.dvd_trans (Nat.pow_dvd_pow 2 (by omega)) dvd
    have pj : 0 < 2 ^ (j + 1) := Nat.pow_pos (by decide)
    have pj0 : 0 < 2 ^ j := Nat.pow_pos (by decide)
    have h1 : t ≤ i / 2 := by
      rw [ht, Nat.pow_succ] at hs
      have h5 : t * 2 * 2 ^ j ≤ i * 2 ^ j := by
        have : 2 ^ j * 2 * t = t * 2 * 2 ^ j := by rw [Nat.mul_comm, Nat.mul_comm (2 ^ j) 2, Nat.mul_assoc]
        omega
      have := Nat.le_of_mul_le_mul_right h5 pj0
      omega
    have h2 := Nat.div_mul_le_self c (2 ^ (j + 1))
    rw [e] at h2
    have h3 := Nat.mul_le_mul_right (2 ^ (j + 1)) h1
    have h4 := (oc c).mp o
    rw [ht, Nat.mul_comm] at h4
    omega
  have mv : m = v := by
    have h1 := low b.mx
    rcases Nat.lt_or_ge v m with z | z
    · exact absurd mxS (b.small v _ kv z)
    · omega
  subst mv
  have h1 := b.first _ mxS
  have h2 := start b.mx
  rw [b.al] at h2
  omega
/-- the places, one behind the other -/
def turnN : Nat → List Nat → List Nat
  | _, [] => []
  | s, k :: ks => s :: turnN (s + 2 ^ k) ks
theorem gv_turn {d : Nat} : ∀ {ks : List Nat} {os : List PN} {ns : List Nat} {S : Nat}, Gv d os ks ns → ks.Pairwise (fun x y => y ≤ x) → (∀ c, Oc os c ↔ c < S) → (∀ k ∈ ks, 2 ^ k ∣ S) → ns = turnN S ks
  | _, _, _, _, .nil, _, _, _ => rfl
  | k :: ks, os, n :: ns, S, .cons b r, pw, oc, dv => by
    have e := best_low b oc (dv k List.mem_cons_self)
    subst e
    obtain ⟨p1, p2⟩ := List.pairwise_cons.mp pw
    have dk := dv k List.mem_cons_self
    have pk : 0 < 2 ^ k := Nat.pow_pos (by decide)
    have ih := gv_turn (S := n + 2 ^ k) r p2 (fun c => by
      rw [Oc_snoc, oc]
      have ea : n / 2 ^ k * 2 ^ k = n := Nat.div_mul_cancel dk
      constructor
      · rintro (h | h)
        · omega
        · have := Nat.lt_div_mul_add (a := c) pk
          rw [h, ea] at this
          exact this
      · intro h
        rcases Nat.lt_or_ge c n with z | z
        · exact .inl z
        · refine .inr (Nat.div_eq_of_lt_le ?_ ?_)
          · omega
          · rw [Nat.succ_mul]
            omega) fun x hx => Nat.dvd_add (dv x (List.mem_cons_of_mem _ hx)) (Nat.pow_dvd_pow 2 (p1 x hx))
    rw [ih]
    rfl
/-! ### law_k11: touched -/
def sp_law_touched (_ : PySem.W.Frag) (_ : Ad) : Sp := fun vs H Q _ => ∃ (l : Addr) (ts : List Addr) (held : List PN) (k d : Nat), vs = [.ref l, sI k] ∧ H l = some (.lst (ts.map V.ref)) ∧ Tups H ts (held.map toI) ∧ Good d held ∧ held.length ≤ 4000 ∧ k ≤ d ∧ d ≤ 60 ∧
  ∀ (m : Nat) (H' : Hp), m + (frc (Oc held) d k).length = 2 ^ (d - k) → (∀ b o, H b = some o → H' b = some o) → Q (.int (m : Nat)) H'
section
variable {P : Program} {w : World} {K : PySem.W.Frag} {mg : Str → Option Value} {base : Heap} {a : Ad}
theorem ok_law_touched (T : Txt K mg a) : FnOk P w K mg base CX0 1 a.f_law_touched a.d_law_touched ["_law_held", "_law_size"] (sp_law_touched K a) := by
  refine T.law_touched.fn.ok sc_law_touched (fun vs H Q E h => by first | (obtain ⟨rfl, _⟩ := h; rfl) | (obtain ⟨_, rfl, _⟩ := h; rfl) | (obtain ⟨_, _, rfl, _⟩ := h; rfl) | (obtain ⟨_, _, _, rfl, _⟩ := h; rfl) | (obtain ⟨_, _, _, _, rfl, _⟩ := h; rfl) | (obtain ⟨_, _, _, _, _, rfl, _⟩ := h; rfl) | (obtain ⟨_, _, _, _, _, _, rfl, _⟩ := h; rfl) | (obtain ⟨_, _, _, _, _, _, _, rfl, _⟩ := h; rfl) | (obtain ⟨_, _, _, _, _, _, _, _, rfl, _⟩ := h; rfl) | (obtain ⟨_, _, _, _, _, _, _, _, _, rfl, _⟩ := h; rfl) | (obtain ⟨_, _, _, _, _, _, _, _, _, _, rfl, _⟩ := h; rfl) | (obtain ⟨_, _, _, _, _, _, _, _, _, _, _, rfl, _⟩ := h; rfl)) (fun cdv A outer s H vs Q E hr h => ?_)
  refine ⟨_, pss_cons (ps_set (i := 2) sc_law_touched.nd rfl (Or.inl rfl) (pe_callB (cr_sum rfl) (by rfl) T.z_sum (by decide +kernel) (pa_cons (pe_lc (own := [("_law_piece", 3)]) (g := gName 3) (te := (tOp (rI CDivW fun i j => .int (i / j)) (tOp (rIxT K) (tVar 3) (tC (.int 1))) (tVar 1))) (tt := (tTest (tOp (rI0 fun i j => .bl (decide (j ≤ i))) (tOp (rIxT K) (tVar 3) (tC (.int 1))) (tVar 1)))) rfl sc_law_touched.nd (pi_list (pv 0)) (blkOk_by (own := [("_law_piece", 3)]) (N := ["_law_held", "_law_size", "_law_covered", "_law_piece"]) (sc := defScope s_law_touched) (by decide +kernel)) (fun _ _ _ _ _ => (pg_name (i := 3) sc_law_touched.nd rfl (Or.inl rfl))) (fun _ _ _ _ _ => (pts_one (pt_cmpR op_ge (pe_ix ix_tup (pv 3) pe_int (fun _ _ => rfl)) (pv 1) (nomark _)))) (fun _ _ _ _ _ => (pe_op op_fdivW (pe_ix ix_tup (pv 3) pe_int (fun _ _ => rfl)) (pv 1)))) pa_nil)))
      (pss_one (ps_ret (pe_op op_add (pv 2) (pe_lenSetD (by rfl) T.z_len (by rfl) T.z_set (pe_lc (own := [("_law_piece", 3)]) (g := gName 3) (te := (tOp (rI CDivW fun i j => .int (i / j)) (tOp (rIxT K) (tVar 3) (tC (.int 0))) (tVar 1))) (tt := (tTest (tOp (rI0 fun i j => .bl (decide (i < j))) (tOp (rIxT K) (tVar 3) (tC (.int 1))) (tVar 1)))) rfl sc_law_touched.nd (pi_list (pv 0)) (blkOk_by (own := [("_law_piece", 3)]) (N := ["_law_held", "_law_size", "_law_covered", "_law_piece"]) (sc := defScope s_law_touched) (by decide +kernel)) (fun _ _ _ _ _ => (pg_name (i := 3) sc_law_touched.nd rfl (Or.inl rfl))) (fun _ _ _ _ _ => (pts_one (pt_cmpR op_lt (pe_ix ix_tup (pv 3) pe_int (fun _ _ => rfl)) (pv 1) (nomark _)))) (fun _ _ _ _ _ => (pe_op op_fdivW (pe_ix ix_tup (pv 3) pe_int (fun _ _ => rfl)) (pv 1)))))))), ?_⟩
  obtain ⟨l, ts, held, k, d, rfl, hat, tups, g, few, kd, d60, q⟩ := h
  have lts := tups.len
  rw [List.length_map] at lts
  have pk : 0 < 2 ^ k := Nat.pow_pos (by decide)
  have k61 : 2 ^ k < 2 ^ 61 := Nat.pow_lt_pow_right (by decide) (by omega)
  refine ⟨_, rfl, l, rfl, ⟨_, SqL.of hat⟩, fun D newD => ?_⟩
  refine lc_out walk_list (fun j H' => H' D = some (.lst ((((held.take j).filter (fun q : PN => decide (((2 ^ k : Nat) : Int) ≤ ((2 ^ q.2 : Nat) : Int)))).map fun q => ((2 ^ q.2 : Nat) : Int) / ((2 ^ k : Nat) : Int)).map V.int)) ∧ (∀ b o, H b = some o → H' b = some o))
    ⟨upd_same, fun b o e => by rw [upd_ne (ne_of_none e newD)]; exact e⟩ (fun j H' _ p => SqL.of (p.2 _ _ hat)) ?_ ?_
  · rintro j v H3 H4 hj ⟨hD, s2⟩ ⟨rfl, hv⟩
    rw [List.length_map, lts] at hj
    obtain ⟨qq, hq⟩ : ∃ qq, held[j]? = some qq := ⟨_, List.getElem?_eq_getElem hj⟩
    obtain ⟨t2, ht2, hatt2⟩ := tups.get (i := j) (q := toI qq) (by rw [List.getElem?_map, hq]; rfl)
    rw [List.getElem?_map, ht2] at hv
    have hv := Option.some.inj hv
    subst hv
    have hatt3 := s2 _ _ (id hatt2)
    refine ⟨rfl, ?_⟩
    refine ⟨_, rfl, t2, _, _, sI qq.2, rfl, rfl, SqT.of hatt3, at_of (j := 1) rfl rfl, _, rfl, _, _, rfl, rfl, _, rfl, ?_⟩
    by_cases c : ((2 ^ k : Nat) : Int) ≤ ((2 ^ qq.2 : Nat) : Int)
    · refine iteTof (decide_eq_true c) ?_
      refine ⟨_, rfl, t2, _, _, sI qq.2, rfl, rfl, SqT.of hatt3, at_of (j := 1) rfl rfl, _, rfl, _, _, rfl, rfl, wide_div (b := 61) (by omega) (by rw [Int.natAbs_natCast]; exact k61) (by decide) (by decide), _, hD, ?_, ?_, fun b o e2 => ?_⟩
      · rw [List.length_map, List.length_map, sizeLine_eq]
        have l2 := List.length_filter_le (fun q : PN => decide (((2 ^ k : Nat) : Int) ≤ ((2 ^ q.2 : Nat) : Int))) (held.take j)
        rw [List.length_take] at l2
        omega
      · rw [filter_take hq, if_pos (by simpa using c), List.map_append, List.map_append]
        exact upd_same
      · rw [upd_ne (fun z => by rw [z, newD] at e2; cases e2)]
        exact s2 _ _ e2
    · refine iteFof (decide_eq_false c) ?_
      rw [filter_take hq, if_neg (by simpa using c), List.append_nil]
      exact ⟨hD, s2⟩
  rintro H2 ⟨hD, s02⟩
  rw [List.length_map, lts, List.take_length] at hD
  have hat2 := s02 _ _ hat
  refine ⟨D, _, rfl, SqL.of hD, ?_⟩
  refine ⟨_, rfl, _, rfl, l, rfl, ⟨_, SqL.of hat2⟩, fun G newG => ?_⟩
  refine lc_out walk_list (fun j H' => H' G = some (.lst ((((held.take j).filter (fun q : PN => decide (((2 ^ q.2 : Nat) : Int) < ((2 ^ k : Nat) : Int)))).map fun q => (q.1 : Int) / ((2 ^ k : Nat) : Int)).map V.int)) ∧ (∀ b o, H2 b = some o → H' b = some o))
    ⟨upd_same, fun b o e => by rw [upd_ne (ne_of_none e newG)]; exact e⟩ (fun j H' _ p => SqL.of (p.2 _ _ hat2)) ?_ ?_
  · rintro j v H3 H4 hj ⟨hD, s2⟩ ⟨rfl, hv⟩
    rw [List.length_map, lts] at hj
    obtain ⟨qq, hq⟩ : ∃ qq, held[j]? = some qq := ⟨_, List.getElem?_eq_getElem hj⟩
    obtain ⟨t2, ht2, hatt2⟩ := tups.get (i := j) (q := toI qq) (by rw [List.getElem?_map, hq]; rfl)
    rw [List.getElem?_map, ht2] at hv
    have hv := Option.some.inj hv
    subst hv
    have hatt3 := s2 _ _ (s02 _ _ hatt2)
    refine ⟨rfl, ?_⟩
    refine ⟨_, rfl, t2, _, _, sI qq.2, rfl, rfl, SqT.of hatt3, at_of (j := 1) rfl rfl, _, rfl, _, _, rfl, rfl, _, rfl, ?_⟩
    by_cases c : ((2 ^ qq.2 : Nat) : Int) < ((2 ^ k : Nat) : Int)
    · refine iteTof (decide_eq_true c) ?_
      refine ⟨_, rfl, t2, _, _, nI qq.1, rfl, rfl, SqT.of hatt3, at_of (j := 0) rfl rfl, _, rfl, _, _, rfl, rfl, wide_div (b := 61) (by omega) (by rw [Int.natAbs_natCast]; exact k61) (by decide) (by decide), _, hD, ?_, ?_, fun b o e2 => ?_⟩
      · rw [List.length_map, List.length_map, sizeLine_eq]
        have l2 := List.length_filter_le (fun q : PN => decide (((2 ^ q.2 : Nat) : Int) < ((2 ^ k : Nat) : Int))) (held.take j)
        rw [List.length_take] at l2
        omega
      · rw [filter_take hq, if_pos (by simpa using c), List.map_append, List.map_append]
        exact upd_same
      · rw [upd_ne (fun z => by rw [z, newG] at e2; cases e2)]
        exact s2 _ _ e2
    · refine iteFof (decide_eq_false c) ?_
      rw [filter_take hq, if_neg (by simpa using c), List.append_nil]
      exact ⟨hD, s2⟩
  rintro H5 ⟨hG, s5⟩
  rw [List.length_map, lts, List.take_length] at hG
  refine ⟨G, _, rfl, SqL.of hG, by rw [List.length_map]; exact Nat.le_trans (List.length_filter_le _ _) few, fun ds nd mem => ?_⟩
  refine ⟨_, _, rfl, rfl, ?_⟩
  have es := sum_bigs (l := bigs held k) (k := k) fun q hq => (bigs_mem.mp hq).2
  have := q (((bigs held k).map fun q => 2 ^ (q.2 - k)).sum + ds.length) H5 (touched_num g kd nd mem) fun b o e => s5 _ _ (s02 _ _ e)
  rw [Int.natCast_add, ← es] at this
  exact this
end
/-! ### min(ns, default=d), max(ns, default=d) of a list of ints -/
section
open PySem PySem.Spec PyProof.Rows
theorem minOf_is : ∀ (xs : List Int) (x : Int), PySem.W.minOf x xs ∈ x :: xs ∧ ∀ a ∈ x :: xs, PySem.W.minOf x xs ≤ a
  | [], x => ⟨List.mem_singleton.mpr rfl, fun a h => by rw [List.mem_singleton.mp h]; exact Int.le_refl _⟩
  | y :: xs, x => by
    have e : PySem.W.minOf x (y :: xs) = PySem.W.minOf (if y < x then y else x) xs := by
      unfold PySem.W.minOf
      rw [List.foldl_cons]
      congr 1
      show (if decide (y < x) = true then y else x) = _
      by_cases h : y < x
      · rw [if_pos (decide_eq_true h), if_pos h]
      · rw [if_neg (by simpa using h), if_neg h]
    rw [e]
    obtain ⟨h1, h2⟩ := minOf_is xs (if y < x then y else x)
    have h3 := h2 _ List.mem_cons_self
    refine ⟨?_, fun a ha => ?_⟩
    · rcases List.mem_cons.mp h1 with z | z
      · rw [z]
        split
        · exact List.mem_cons_of_mem _ List.mem_cons_self
        · exact List.mem_cons_self
      · exact List.mem_cons_of_mem _ (List.mem_cons_of_mem _ z)
    · rcases List.mem_cons.mp ha with rfl | ha
      · split at h3 <;> split <;> omega
      · rcases List.mem_cons.mp ha with rfl | ha
        · split at h3 <;> split <;> omega
        · exact h2 a (List.mem_cons_of_mem _ ha)
theorem maxOf_is : ∀ (xs : List Int) (x : Int), PySem.W.maxOf x xs ∈ x :: xs ∧ ∀ a ∈ x :: xs, a ≤ PySem.W.maxOf x xs
  | [], x => ⟨List.mem_singleton.mpr rfl, fun a h => by rw [List.mem_singleton.mp h]; exact Int.le_refl _⟩
  | y :: xs, x => by
    have e : PySem.W.maxOf x (y :: xs) = PySem.W.maxOf (if x < y then y else x) xs := by
      unfold PySem.W.maxOf
      rw [List.foldl_cons]
      congr 1
      show (if decide (x < y) = true then y else x) = _
      by_cases h : x < y
      · rw [if_pos (decide_eq_true h), if_pos h]
      · rw [if_neg (by simpa using h), if_neg h]
    rw [e]
    obtain ⟨h1, h2⟩ := maxOf_is xs (if x < y then y else x)
    have h3 := h2 _ List.mem_cons_self
    refine ⟨?_, fun a ha => ?_⟩
    · rcases List.mem_cons.mp h1 with z | z
      · rw [z]
        split
        · exact List.mem_cons_of_mem _ List.mem_cons_self
        · exact List.mem_cons_self
      · exact List.mem_cons_of_mem _ (List.mem_cons_of_mem _ z)
    · rcases List.mem_cons.mp ha with rfl | ha
      · split at h3 <;> split <;> omega
      · rcases List.mem_cons.mp ha with rfl | ha
        · split at h3 <;> split <;> omega
        · exact h2 a (List.mem_cons_of_mem _ ha)
def rMinD (K : PySem.W.Frag) (up : Bool) : List V → List V → Hp → VK → Prop := fun vs zs H Q => ∃ (a : Addr) (ns : List Int) (d : V), vs = [.ref a] ∧ zs = [d] ∧ SqL K H a (ns.map V.int) ∧ (ns = [] → Q d H) ∧ ∀ M, M ∈ ns → (∀ x ∈ ns, if up = true then x ≤ M else M ≤ x) → Q (.int M) H
variable {X : Cx}
theorem cr_minD (hc : X.calm = true) (hu : X.A.units + 64 < cLine) : CallRK X (.builtin "min") [Str.ofString "default"] (rMinD X.K false) := by
  intro pins s σ H xs zs us ws Q I rx rz h
  obtain ⟨a, ns, d, rfl, rfl, hs, q0, q1⟩ := h
  obtain rfl := Vals.ref1 rx
  obtain ⟨w', rfl, rw'⟩ := rz.one
  obtain ⟨its, rv, hl, _⟩ := I.list hs
  refine PySem.W.min_list_datum_default (α := Int) (I.ok.hd hc) hl.isList (PySem.W.HoldAll.of_ints rv.ints) (by show X.A.units + 1 + 0 < _; omega) (fun e h' tk k => ?_) fun y ys i v h' tk e hi r k => ?_
  · exact ⟨d, H, I.kept k, rw', q0 e⟩
  · subst e
    obtain ⟨as, r⟩ := r
    obtain ⟨m1, m2⟩ := minOf_is ys y
    have e : ∃ t, v = .int (PySem.W.minOf y ys) t := by
      have r' : Reads h' v (.int (PySem.W.minOf y ys)) as := r
      cases r'
      exact ⟨_, rfl⟩
    obtain ⟨t, rfl⟩ := e
    exact ⟨.int _, H, I.kept k, ⟨_, rfl⟩, q1 _ m1 fun x hx => by rw [if_neg Bool.false_ne_true]; exact m2 x hx⟩
theorem cr_maxD (hc : X.calm = true) (hu : X.A.units + 64 < cLine) : CallRK X (.builtin "max") [Str.ofString "default"] (rMinD X.K true) := by
  intro pins s σ H xs zs us ws Q I rx rz h
  obtain ⟨a, ns, d, rfl, rfl, hs, q0, q1⟩ := h
  obtain rfl := Vals.ref1 rx
  obtain ⟨w', rfl, rw'⟩ := rz.one
  obtain ⟨its, rv, hl, _⟩ := I.list hs
  refine PySem.W.max_list_datum_default (α := Int) (I.ok.hd hc) hl.isList (PySem.W.HoldAll.of_ints rv.ints) (by show X.A.units + 1 + 0 < _; omega) (fun e h' tk k => ?_) fun y ys i v h' tk e hi r k => ?_
  · exact ⟨d, H, I.kept k, rw', q0 e⟩
  · subst e
    obtain ⟨as, r⟩ := r
    obtain ⟨m1, m2⟩ := maxOf_is ys y
    have e : ∃ t, v = .int (PySem.W.maxOf y ys) t := by
      have r' : Reads h' v (.int (PySem.W.maxOf y ys)) as := r
      cases r'
      exact ⟨_, rfl⟩
    obtain ⟨t, rfl⟩ := e
    exact ⟨.int _, H, I.kept k, ⟨_, rfl⟩, q1 _ m1 fun x hx => by rw [if_pos rfl]; exact m2 x hx⟩
end
/-! ### lists of ints compared -/
def dI (ns : List Int) : PyData := .list (ns.map .int)
theorem dIAll_eqv : ∀ zs ws : List Int, PyData.eqvAll (zs.map PyData.int) (ws.map PyData.int) = decide (zs = ws)
  | [], [] => by simp [PyData.eqvAll]
  | [], _ :: _ => by simp [PyData.eqvAll]
  | _ :: _, [] => by simp [PyData.eqvAll]
  | z :: zs, w :: ws => by
    show PyData.eqvAll (PyData.int z :: zs.map PyData.int) (PyData.int w :: ws.map PyData.int) = _
    rw [PyData.eqvAll, dIAll_eqv zs ws]
    by_cases h1 : z = w <;> simp [PyData.eqv, h1]
theorem dI_eqv (zs ws : List Int) : PyData.eqv (dI zs) (dI ws) = decide (zs = ws) := by
  show PyData.eqv (.list _) (.list _) = _
  rw [PyData.eqv, dIAll_eqv]
theorem dI_lay (zs : List Int) : (dI zs).canLay0 = true := by
  have e : ∀ zs : List Int, PyData.canLayAll0 (zs.map PyData.int) = true := fun zs => by
    induction zs with
    | nil => simp [PyData.canLayAll0]
    | cons z zs ih => simp [PyData.canLayAll0, PyData.canLay0, ih]
  simp [dI, PyData.canLay0, e]
theorem dI_shaped (zs : List Int) : SeqAt.shaped (dI zs) = true := by
  have e : (dI zs).depth = 1 := by
    show PyData.depth (.list (zs.map .int)) = 1
    rw [PyData.depth, PySem.W.depth_ints]
  unfold SeqAt.shaped
  rw [dI_lay, e]
  rfl
theorem dp_ints {K : PySem.W.Frag} {H : Hp} {l : Addr} {ns : List Int} (h : SqL K H l (ns.map V.int)) : Dp K H (.ref l) (dI ns) := .lst h (by
  clear h
  induction ns with
  | nil => exact .nil
  | cons n ns ih => exact .cons (.int _) ih)
/-! ### law_due: the first piece of the smallest that is large enough -/
/-! ### law_k11: told -/
def sp_law_told (K : PySem.W.Frag) (a : Ad) : Sp := fun vs H Q _ => ∃ (Y : YA) (d : Nat) (os : List PN) (b : Addr) (xs : List Int), vs = [.ref Y.y, .ref b] ∧ YardAt a Y d os H ∧ SqL K H b (xs.map V.int) ∧ xs.length ≤ 4000 ∧ os.length + xs.length ≤ 90000 ∧ TabsG a H ∧
  ((∃ x ∈ xs, x < 1) → ∀ (t e : Addr) (H' : Hp), (∀ b o, H b = some o → H' b = some o) → H' t = some (.tup [.str "wish", .ref e]) → H' e = some (.lst []) → Q (.ref t) H') ∧
  ((∀ x ∈ xs, 1 ≤ x) → (¬ ((∀ x ∈ xs, x ≤ ((2 ^ d : Nat) : Int)) ∧ ∃ ns, Gv d os (wishK xs) ns)) → ∀ (t e : Addr) (H' : Hp), YardAt a Y d os H' → OnlyN (own Y d) H H' → TabsG a H' → H' t = some (.tup [.str "room", .ref e]) → H' e = some (.lst []) → Q (.ref t) H') ∧
  (∀ ns, (∀ x ∈ xs, 1 ≤ x ∧ x ≤ ((2 ^ d : Nat) : Int)) → Gv d os (wishK xs) ns → ∀ (t l : Addr) (H' : Hp), YardAt a Y d (os ++ ns.zip (wishK xs)) H' → OnlyN (own Y d) H H' → TabsG a H' → l ∉ own Y d → (∀ zs, H l ≠ some (.lst zs)) → H' l = some (.lst ((List.range xs.length).map fun k => nI (placeOf (byFall (fits xs)) ns k))) → H' t = some (.tup [.str "", .ref l]) → Q (.ref t) H')
section
variable {P : Program} {w : World} {K : PySem.W.Frag} {mg : Str → Option Value} {base : Heap} {a : Ad}
theorem ok_law_told (T : Txt K mg a) (TB : LamX.TabB base mg a.q_give_all a.p_give_all) : FnOk P w K mg base CX0 6 a.f_law_told a.d_law_told ["_law_yard", "_law_wants"] (sp_law_told K a) := by
  have G_give_all : FnOk P w K mg base (L2.CX P w) 5 a.f_give_all a.d_give_all ["yard", "wants"] (sp_give_all K a) := ok_give_all T TB
  refine T.law_told.fn.ok sc_law_told (fun vs H Q E h => by first | (obtain ⟨rfl, _⟩ := h; rfl) | (obtain ⟨_, rfl, _⟩ := h; rfl) | (obtain ⟨_, _, rfl, _⟩ := h; rfl) | (obtain ⟨_, _, _, rfl, _⟩ := h; rfl) | (obtain ⟨_, _, _, _, rfl, _⟩ := h; rfl) | (obtain ⟨_, _, _, _, _, rfl, _⟩ := h; rfl) | (obtain ⟨_, _, _, _, _, _, rfl, _⟩ := h; rfl) | (obtain ⟨_, _, _, _, _, _, _, rfl, _⟩ := h; rfl) | (obtain ⟨_, _, _, _, _, _, _, _, rfl, _⟩ := h; rfl) | (obtain ⟨_, _, _, _, _, _, _, _, _, rfl, _⟩ := h; rfl) | (obtain ⟨_, _, _, _, _, _, _, _, _, _, rfl, _⟩ := h; rfl) | (obtain ⟨_, _, _, _, _, _, _, _, _, _, _, rfl, _⟩ := h; rfl)) (fun cdv A outer s H vs Q E hr h => ?_)
  refine ⟨_, pss_cons (ps_try_many (tb := fun W => (tAsg (tCallS (sp_give_all K a) (WE W) (tCons (tVar 0) (tCons (tVar 1) tNil))) (gName 2))) (Wout := fun _ _ _ _ => False) rfl rfl takes0 (fun W pn xe tk _ => (pss_one (ps_set (i := 2) sc_law_told.nd rfl (Or.inl rfl) (pe_callS G_give_all (hr.mono (by decide)) rfl T.give_all.mg T.give_all.fn.kp T.give_all.bd (fun σ => passAt tk σ) (by exact (pa_cons (pv 0) (pa_cons (pv 1) pa_nil))))))) (HdsOk.cons (ts := fun _ _ _ => (tRet (tTup (tCons (tC (.str "wish")) (tCons (tLst tNil) tNil))))) ⟨rfl, by decide, Or.inl T.e_NoWish.g⟩ (fun _ _ _ _ _ _ _ => (pss_one (ps_ret (pe_tup (pa_cons pe_str (pa_cons (pe_lst pa_nil) pa_nil)))))) (HdsOk.cons (ts := fun _ _ _ => (tRet (tTup (tCons (tC (.str "room")) (tCons (tLst tNil) tNil))))) ⟨rfl, by decide, Or.inl T.e_NoRoom.g⟩ (fun _ _ _ _ _ _ _ => (pss_one (ps_ret (pe_tup (pa_cons pe_str (pa_cons (pe_lst pa_nil) pa_nil)))))) HdsOk.nil)))
      (pss_one (ps_ret (pe_tup (pa_cons pe_str (pa_cons (pv 2) pa_nil))))), ?_⟩
  obtain ⟨Y, d, os, b, xs, rfl, ya, hS, few, few2, tb, q1, q2, q3⟩ := h
  refine ⟨_, rfl, _, rfl, Y, d, os, b, xs, rfl, ya, hS, few, few2, tb, fun z H1 s1 => ?_, fun pos no H1 y1 o1 t1 => ?_, fun ns fx gv l H1 y1 o1 t1 nl nw hl => ?_⟩
  · refine ⟨true, T.x_NoWish_NoWish, fun _ a0 _ => ?_, fun z => Bool.noConfusion z⟩
    refine ⟨by show 0 ≤ sizeLine; decide, fun e ne => ⟨by show 2 ≤ sizeLine; decide, fun t nt => ?_⟩⟩
    exact q1 z t e _ (fun b o x => newK nt _ _ (newK ne _ _ (s1 _ _ x))) upd_same (newK nt _ _ upd_same)
  · refine ⟨false, T.x_NoRoom_NoWish, fun z => Bool.noConfusion z, fun _ => ?_⟩
    refine ⟨true, T.x_NoRoom_NoRoom, fun _ a0 _ => ?_, fun z => Bool.noConfusion z⟩
    refine ⟨by show 0 ≤ sizeLine; decide, fun e ne => ⟨by show 2 ≤ sizeLine; decide, fun t nt => ?_⟩⟩
    have k2 := fun b o x => newK (o := .tup [.str "room", .ref e]) nt b o (newK (o := .lst []) ne _ _ x)
    exact q2 pos no t e _ (y1.keep k2) (o1.trans (OnlyN.of (Only.same k2))) (t1.keep k2) upd_same (newK nt _ _ upd_same)
  · refine nm ?_
    dsimp only
    refine ⟨_, rfl, by show 2 ≤ sizeLine; decide, fun t nt => ?_⟩
    have k2 := newK (o := .tup [.str "", .ref l]) nt
    exact q3 ns fx gv t l _ (y1.keep k2) (o1.trans (OnlyN.of (Only.same k2))) (t1.keep k2) nl nw (k2 _ _ hl) upd_same
end
/-! ### law_k11: owners -/
def InP (q : PN) (c : Int) : Prop := (q.1 : Int) ≤ c ∧ c < (q.1 : Int) + ((2 ^ q.2 : Nat) : Int)
def sp_law_owner (_ : PySem.W.Frag) (_ : Ad) : Sp := fun vs H Q _ => ∃ (l : Addr) (ts : List Addr) (held : List PN) (c : Int), vs = [.ref l, .int c] ∧ H l = some (.lst (ts.map V.ref)) ∧ Tups H ts (held.map toI) ∧
  ((∀ q ∈ held, ¬ InP q c) → Q .non H) ∧ (∀ q ∈ held, InP q c → Q (nI q.1) H)
theorem inP_one {d : Nat} {os : List PN} (g : Good d os) {p q : PN} {c : Int} (hp : p ∈ os) (hq : q ∈ os) (h1 : InP p c) (h2 : InP q c) : p = q := by
  obtain ⟨n, rfl⟩ : ∃ n : Nat, c = (n : Int) := ⟨c.toNat, by have := h1.1; omega⟩
  have e : ∀ p : PN, p ∈ os → InP p (n : Int) → n / 2 ^ p.2 = p.1 / 2 ^ p.2 := fun p hp h => by
    have a := (g.each p hp).2.1
    obtain ⟨i1, i2⟩ := h
    generalize p.1 / 2 ^ p.2 = i at a
    have pp : 0 < 2 ^ p.2 := Nat.pow_pos (by decide)
    refine Nat.div_eq_of_lt_le (by omega) ?_
    rw [Nat.succ_mul]
    omega
  exact g.one hp hq (e p hp h1) (e q hq h2)
theorem updL {a : Ad} {Y : YA} {d : Nat} {os : List PN} {H : Hp} (h : YardAt a Y d os H) {b : Addr} {xs : List V} {o : HO} (e : H b = some (.lst xs)) (n : b ∉ own Y d) : YardAt a Y d os (L2.upd H b o) := by
  have k : ∀ {c u}, H c = some u → (∀ xs, u ≠ .lst xs) → L2.upd H b o c = some u := fun {c u} ec nu => by
    rw [upd_ne (fun z => by rw [z, e] at ec; exact nu _ (Option.some.inj ec).symm)]
    exact ec
  refine ⟨k h.yo (by intro xs z; cases z), k h.so (by intro xs z; cases z), ⟨k h.po.ob (by intro xs z; cases z), k h.po.dk (by intro xs z; cases z), fun j hj => ?_, h.po.inj, h.po.rise, h.po.len, h.po.d60⟩, h.good, h.few, h.ne⟩
  rw [upd_ne (fun z => n (by rw [← z]; exact lsA_own _ (lsA_mem hj)))]
  exact h.po.at_ j hj
def sp_law_owners (_ : PySem.W.Frag) (a : Ad) : Sp := fun vs H Q _ => ∃ (Y : YA) (d : Nat) (os held : List PN) (lh lp : Addr) (ts : List Addr) (ns : List Int), vs = [.ref Y.y, .ref lh, sI d, .ref lp] ∧ YardAt a Y d os H ∧ H lh = some (.lst (ts.map V.ref)) ∧ Tups H ts (held.map toI) ∧
  held.Perm os ∧ held.length ≤ 400 ∧ H lp = some (.lst (ns.map V.int)) ∧ ns.length ≤ 300 ∧ ∀ H', (∀ b o, H b = some o → H' b = some o) → Q (.bl true) H'
section
variable {P : Program} {w : World} {K : PySem.W.Frag} {mg : Str → Option Value} {base : Heap} {a : Ad}
theorem ok_law_owner (T : Txt K mg a) : FnOk P w K mg base CX0 1 a.f_law_owner a.d_law_owner ["_law_held", "_law_cell"] (sp_law_owner K a) := by
  refine T.law_owner.fn.ok sc_law_owner (fun vs H Q E h => by first | (obtain ⟨rfl, _⟩ := h; rfl) | (obtain ⟨_, rfl, _⟩ := h; rfl) | (obtain ⟨_, _, rfl, _⟩ := h; rfl) | (obtain ⟨_, _, _, rfl, _⟩ := h; rfl) | (obtain ⟨_, _, _, _, rfl, _⟩ := h; rfl) | (obtain ⟨_, _, _, _, _, rfl, _⟩ := h; rfl) | (obtain ⟨_, _, _, _, _, _, rfl, _⟩ := h; rfl) | (obtain ⟨_, _, _, _, _, _, _, rfl, _⟩ := h; rfl) | (obtain ⟨_, _, _, _, _, _, _, _, rfl, _⟩ := h; rfl) | (obtain ⟨_, _, _, _, _, _, _, _, _, rfl, _⟩ := h; rfl) | (obtain ⟨_, _, _, _, _, _, _, _, _, _, rfl, _⟩ := h; rfl) | (obtain ⟨_, _, _, _, _, _, _, _, _, _, _, rfl, _⟩ := h; rfl)) (fun cdv A outer s H vs Q E hr h => ?_)
  refine ⟨_, pss_cons (ps_for PassesOwn.never rfl (pi_list (pv 0)) (pg_name (i := 2) sc_law_owner.nd rfl (Or.inl rfl)) (pss_one (ps_if (PW.pt (pw_and (pt_cmpR op_le (pe_ix ix_tup (pv 2) pe_int (fun _ _ => rfl)) (pv 1) (nomark _)) (pw_and1 (pt_cmpR op_lt (pv 1) (pe_op op_add (pe_ix ix_tup (pv 2) pe_int (fun _ _ => rfl)) (pe_ix ix_tup (pv 2) pe_int (fun _ _ => rfl))) (nomark _))))) (pss_one (ps_ret (pe_ix ix_tup (pv 2) pe_int (fun _ _ => rfl)))) pss_nil)))
      (pss_one (ps_ret pe_non)), ?_⟩
  obtain ⟨l, ts, held, c, rfl, at_, tups, q1, q2⟩ := h
  refine ⟨_, rfl, l, rfl, ⟨_, SqL.of at_⟩, ?_⟩
  have lts := tups.len
  rw [List.length_map] at lts
  refine for_list (xs := ts.map V.ref) (fun i σ H' => H' = H ∧ (∃ x, σ = [some (.ref l), some (.int c), x]) ∧ ∀ j q, j < i → held[j]? = some q → ¬ InP q c) ⟨rfl, ⟨none, rfl⟩, fun j q h => by omega⟩ (fun i σ H' _ p => by rw [p.1]; exact SqL.of at_) ?_ ?_
  · rintro i v σ H' hv ⟨rfl, ⟨x, rfl⟩, no⟩
    have hj := (List.getElem?_eq_some_iff.mp hv).1
    rw [List.length_map, lts] at hj
    obtain ⟨pq, hq⟩ : ∃ z, held[i]? = some z := ⟨_, List.getElem?_eq_getElem hj⟩
    obtain ⟨t, ht, hatt⟩ := tups.get (i := i) (q := toI pq) (by rw [List.getElem?_map, hq]; rfl)
    rw [List.getElem?_map, ht] at hv
    have hv := Option.some.inj hv
    subst hv
    have next : ¬ InP pq c → H' = H' ∧ (∃ x, [some (V.ref l), some (V.int c), some (V.ref t)] = [some (V.ref l), some (V.int c), x]) ∧ ∀ j q, j < i + 1 → held[j]? = some q → ¬ InP q c := fun z => ⟨rfl, ⟨_, rfl⟩, fun j q hj e => by
      by_cases ej : j = i
      · subst ej
        rw [hq] at e
        rw [← Option.some.inj e]
        exact z
      · exact no j q (by omega) e⟩
    refine ⟨_, rfl, t, _, _, nI pq.1, rfl, rfl, SqT.of hatt, at_of (j := 0) rfl rfl, _, rfl, _, _, rfl, rfl, _, rfl, ?_⟩
    by_cases c1 : (pq.1 : Int) ≤ c
    · refine iteTof (decide_eq_true c1) ?_
      refine ⟨_, rfl, _, rfl, t, _, _, nI pq.1, rfl, rfl, SqT.of hatt, at_of (j := 0) rfl rfl, _, rfl, t, _, _, sI pq.2, rfl, rfl, SqT.of hatt, at_of (j := 1) rfl rfl, _, _, rfl, rfl, _, _, rfl, rfl, _, rfl, ?_⟩
      by_cases c2 : c < (pq.1 : Int) + ((2 ^ pq.2 : Nat) : Int)
      · refine iteTof (decide_eq_true c2) ?_
        exact ⟨_, rfl, t, _, _, nI pq.1, rfl, rfl, SqT.of hatt, at_of (j := 0) rfl rfl, q2 pq (List.mem_of_getElem? hq) ⟨c1, c2⟩⟩
      · refine iteFof (decide_eq_false c2) ?_
        exact next fun z => c2 z.2
    · refine iteFof (decide_eq_false c1) (iteFof rfl ?_)
      exact next fun z => c1 z.1
  · rintro σ H' ⟨rfl, ⟨x, rfl⟩, no⟩
    rw [List.length_map, lts] at no
    refine q1 fun q hq => ?_
    obtain ⟨j, hj⟩ := List.mem_iff_getElem?.mp hq
    exact no j q (List.getElem?_eq_some_iff.mp hj).1 hj
theorem ok_law_owners (T : Txt K mg a) : FnOk P w K mg base CX0 2 a.f_law_owners a.d_law_owners ["_law_yard", "_law_held", "_law_cells", "_law_wants"] (sp_law_owners K a) := by
  have G_Yard_owner : FnOk P w K mg base CX0 1 a.f_Yard_owner a.d_Yard_owner ["self", "cell"] (sp_Yard_owner K a) := ok_Yard_owner T
  have G_law_owner : FnOk P w K mg base CX0 1 a.f_law_owner a.d_law_owner ["_law_held", "_law_cell"] (sp_law_owner K a) := ok_law_owner T
  refine T.law_owners.fn.ok sc_law_owners (fun vs H Q E h => by first | (obtain ⟨rfl, _⟩ := h; rfl) | (obtain ⟨_, rfl, _⟩ := h; rfl) | (obtain ⟨_, _, rfl, _⟩ := h; rfl) | (obtain ⟨_, _, _, rfl, _⟩ := h; rfl) | (obtain ⟨_, _, _, _, rfl, _⟩ := h; rfl) | (obtain ⟨_, _, _, _, _, rfl, _⟩ := h; rfl) | (obtain ⟨_, _, _, _, _, _, rfl, _⟩ := h; rfl) | (obtain ⟨_, _, _, _, _, _, _, rfl, _⟩ := h; rfl) | (obtain ⟨_, _, _, _, _, _, _, _, rfl, _⟩ := h; rfl) | (obtain ⟨_, _, _, _, _, _, _, _, _, rfl, _⟩ := h; rfl) | (obtain ⟨_, _, _, _, _, _, _, _, _, _, rfl, _⟩ := h; rfl) | (obtain ⟨_, _, _, _, _, _, _, _, _, _, _, rfl, _⟩ := h; rfl)) (fun cdv A outer s H vs Q E hr h => ?_)
  refine ⟨_, pss_cons (ps_for PassesOwn.never rfl (pi_list (pe_op op_cat (pe_lst (pa_cons pe_int (pa_cons (pe_op op_sub (pv 2) pe_int) (pa_cons (pe_op op_fdiv (pv 2) pe_int) (pa_cons (pe_op op_fdiv (pv 2) pe_int) pa_nil))))) (pv 3))) (pg_name (i := 4) sc_law_owners.nd rfl (Or.inl rfl)) (pss_one (ps_if (pt_cmpR op_ne (pe_meth (pv 0) T.cl_Yard T.m_Yard_owner G_Yard_owner (hr.mono (by decide)) T.b_Yard_owner .nil pass0 (pa_cons (pv 4) pa_nil)) (pe_call G_law_owner (hr.mono (by decide)) rfl T.law_owner.mg T.law_owner.fn.kp T.law_owner.bd .nil pass0 (pa_cons (pv 1) (pa_cons (pv 4) pa_nil))) (nomark _)) (pss_one (ps_ret pe_bl)) pss_nil)))
      (pss_one (ps_ret pe_bl)), ?_⟩
  obtain ⟨Y, d, os, held, lh, lp, ts, ns, rfl, ya, hat, tups, pm, few, hp, lns, q⟩ := h
  refine ⟨_, rfl, _, _, rfl, rfl, _, rfl, _, _, rfl, rfl, ⟨by decide, by decide⟩, _, rfl, _, _, rfl, rfl, ⟨by decide, by decide⟩, ?_⟩
  refine ⟨by show 4 ≤ sizeLine; decide, fun z nz => ?_⟩
  have kz := newK (o := .lst ([.int 0, .int (((2 ^ d : Nat) : Int) - 1), .int (((2 ^ d : Nat) : Int) / 2), .int (((2 ^ d : Nat) : Int) / 3)])) nz
  refine ⟨_, rfl, z, lp, _, _, rfl, rfl, upd_same, kz _ _ hp, by rw [List.length_map, sizeLine_eq]; show 4 + ns.length ≤ _; omega, fun l nl => ?_⟩
  have kl := newK (o := .lst ([.int 0, .int (((2 ^ d : Nat) : Int) - 1), .int (((2 ^ d : Nat) : Int) / 2), .int (((2 ^ d : Nat) : Int) / 3)] ++ ns.map V.int)) nl
  have hl : L2.upd (L2.upd H z (.lst ([.int 0, .int (((2 ^ d : Nat) : Int) - 1), .int (((2 ^ d : Nat) : Int) / 2), .int (((2 ^ d : Nat) : Int) / 3)]))) l (.lst ([.int 0, .int (((2 ^ d : Nat) : Int) - 1), .int (((2 ^ d : Nat) : Int) / 2), .int (((2 ^ d : Nat) : Int) / 3)] ++ ns.map V.int)) l = some (.lst (([0, ((2 ^ d : Nat) : Int) - 1, ((2 ^ d : Nat) : Int) / 2, ((2 ^ d : Nat) : Int) / 3] ++ ns).map V.int)) := by
    rw [upd_same, List.map_append]
    rfl
  have k2 : ∀ b o, H b = some o → _ := fun b o e => kl _ _ (kz b o e)
  refine ⟨l, rfl, ⟨_, SqL.of hl⟩, ?_⟩
  generalize L2.upd (L2.upd H z _) l _ = H2 at k2 hl ⊢
  generalize [0, ((2 ^ d : Nat) : Int) - 1, ((2 ^ d : Nat) : Int) / 2, ((2 ^ d : Nat) : Int) / 3] ++ ns = ms at hl
  have ya2 := ya.keep k2
  refine for_list (xs := ms.map V.int) (fun i σ H' => ∃ (x4 : Option V), σ = [some (.ref Y.y), some (.ref lh), some (sI d), some (.ref lp), x4] ∧ H' = H2)
    ⟨none, rfl, rfl⟩ (fun i σ H' _ p => by obtain ⟨_, _, rfl⟩ := p; exact SqL.of hl) ?_ ?_
  · rintro i v σ H3 hv ⟨y4, rfl, rfl⟩
    rw [List.getElem?_map] at hv
    obtain ⟨x, _, rfl⟩ := Option.map_eq_some_iff.mp hv
    have tups3 := tups.keep fun t xs e => k2 _ _ e
    refine nm ?_
    have inst : ∀ q : PN, InP q x → 0 < 2 ^ q.2 := fun q _ => Nat.pow_pos (by decide)
    by_cases hq : ∃ q ∈ os, InP q x
    · obtain ⟨qq, hqq, inq⟩ := hq
      refine ⟨_, rfl, Y.y, Y.dy, _, rfl, ya2.yo, yFs_no Y d (by decide +kernel) (by decide +kernel) (by decide +kernel), _, rfl, Y, d, os, x, rfl, ya2, fun no => absurd inq (no qq hqq), fun q2 hq2 c1 c2 => ?_⟩
      refine ⟨_, rfl, _, rfl, lh, ts, held, x, rfl, k2 _ _ hat, tups3, fun no => absurd ⟨c1, c2⟩ (no q2 (pm.mem_iff.mpr hq2)), fun q3 hq3 in3 => ?_⟩
      have e := inP_one ya.good hq2 (pm.mem_iff.mp hq3) ⟨c1, c2⟩ in3
      subst e
      exact ⟨rfl, _, rfl, iteFof (by simp) ⟨_, rfl, rfl⟩⟩
    · have no : ∀ q ∈ os, ¬ InP q x := fun q h z => hq ⟨q, h, z⟩
      refine ⟨_, rfl, Y.y, Y.dy, _, rfl, ya2.yo, yFs_no Y d (by decide +kernel) (by decide +kernel) (by decide +kernel), _, rfl, Y, d, os, x, rfl, ya2, fun _ => ?_, fun q2 hq2 c1 c2 => absurd ⟨c1, c2⟩ (no q2 hq2)⟩
      refine ⟨_, rfl, _, rfl, lh, ts, held, x, rfl, k2 _ _ hat, tups3, fun _ => ?_, fun q3 hq3 in3 => absurd in3 (no q3 (pm.mem_iff.mp hq3))⟩
      exact ⟨rfl, _, rfl, iteFof rfl ⟨_, rfl, rfl⟩⟩
  · rintro σ H3 ⟨y4, rfl, rfl⟩
    exact q _ k2
end
/-! ### law_k11: what is due -/
theorem sum_need (xs : List Int) (i : Nat) : (((fits xs).filter fun z => decide (((2 ^ i : Nat) : Int) ≤ z)).map fun z => z / ((2 ^ i : Nat) : Int)).sum = ((need (xs.map fit) i : Nat) : Int) := by
  induction xs with
  | nil => rfl
  | cons x xs ih =>
    have e : fits (x :: xs) = ((2 ^ fit x : Nat) : Int) :: fits xs := rfl
    rw [e, List.map_cons, need_cons, List.filter_cons]
    by_cases h : i ≤ fit x
    · rw [if_pos (decide_eq_true (pow_le_iff.mpr h)), if_pos h, List.map_cons, List.sum_cons, ih, Int.natCast_add, ← Int.natCast_ediv, Nat.pow_div h (by decide)]
    · rw [if_neg (by simpa using fun z => h (pow_le_iff.mp z)), if_neg h, ih, Nat.zero_add]
theorem filter_take' {α : Type} {f : α → Bool} {l : List α} {i : Nat} {x : α} (h : l[i]? = some x) : (l.take (i + 1)).filter f = (l.take i).filter f ++ (if f x then [x] else []) := filter_take h
theorem fits_take {xs : List Int} {i : Nat} {x : Int} (h : xs[i]? = some x) : fits (xs.take (i + 1)) = fits (xs.take i) ++ [((2 ^ fit x : Nat) : Int)] := by
  rw [List.take_add_one, h]
  exact fits_snoc _ _
def sp_law_due (_ : PySem.W.Frag) (_ : Ad) : Sp := fun vs H Q _ => ∃ (l b : Addr) (ts : List Addr) (held : List PN) (d : Nat) (xs : List Int), vs = [.ref l, .ref b, sI d] ∧ H l = some (.lst (ts.map V.ref)) ∧ Tups H ts (held.map toI) ∧ Good d held ∧ held.length ≤ 4000 ∧ d ≤ 60 ∧ H b = some (.lst (xs.map V.int)) ∧ xs.length ≤ 4000 ∧ (∀ x ∈ xs, x ≤ ((2 ^ 200 : Nat) : Int)) ∧
  ((∃ x ∈ xs, x < 1) → ∀ H', (∀ b o, H b = some o → H' b = some o) → Q (.str "wish") H') ∧
  ((∀ x ∈ xs, 1 ≤ x) → ¬ ((∀ x ∈ xs, x ≤ ((2 ^ d : Nat) : Int)) ∧ ∃ ns, Gv d held (wishK xs) ns) → ∀ H', (∀ b o, H b = some o → H' b = some o) → Q (.str "room") H') ∧
  (∀ ns, (∀ x ∈ xs, 1 ≤ x ∧ x ≤ ((2 ^ d : Nat) : Int)) → Gv d held (wishK xs) ns → ∀ H', (∀ b o, H b = some o → H' b = some o) → Q (.str "") H')
section
variable {P : Program} {w : World} {K : PySem.W.Frag} {mg : Str → Option Value} {base : Heap} {a : Ad}
theorem ok_law_due (T : Txt K mg a) : FnOk P w K mg base CX0 2 a.f_law_due a.d_law_due ["_law_held", "_law_wants", "_law_cells"] (sp_law_due K a) := by
  have G_law_fitting : FnOk P w K mg base CX0 1 a.f_law_fitting a.d_law_fitting ["_law_want_here"] (sp_law_fitting K a) := ok_law_fitting T
  have G_law_touched : FnOk P w K mg base CX0 1 a.f_law_touched a.d_law_touched ["_law_held", "_law_size"] (sp_law_touched K a) := ok_law_touched T
  refine T.law_due.fn.ok sc_law_due (fun vs H Q E h => by first | (obtain ⟨rfl, _⟩ := h; rfl) | (obtain ⟨_, rfl, _⟩ := h; rfl) | (obtain ⟨_, _, rfl, _⟩ := h; rfl) | (obtain ⟨_, _, _, rfl, _⟩ := h; rfl) | (obtain ⟨_, _, _, _, rfl, _⟩ := h; rfl) | (obtain ⟨_, _, _, _, _, rfl, _⟩ := h; rfl) | (obtain ⟨_, _, _, _, _, _, rfl, _⟩ := h; rfl) | (obtain ⟨_, _, _, _, _, _, _, rfl, _⟩ := h; rfl) | (obtain ⟨_, _, _, _, _, _, _, _, rfl, _⟩ := h; rfl) | (obtain ⟨_, _, _, _, _, _, _, _, _, rfl, _⟩ := h; rfl) | (obtain ⟨_, _, _, _, _, _, _, _, _, _, rfl, _⟩ := h; rfl) | (obtain ⟨_, _, _, _, _, _, _, _, _, _, _, rfl, _⟩ := h; rfl)) (fun cdv A outer s H vs Q E hr h => ?_)
  refine ⟨_, pss_cons (ps_if (pt_cmpR op_lt (pe_callBK (cr_minD rfl hr.units) (by rfl) T.z_min PyProof.Rows.boot_min (pa_cons (pv 1) pa_nil) (pk_cons pe_int pk_nil)) pe_int (nomark _)) (pss_one (ps_ret pe_str)) pss_nil)
      (pss_cons (ps_if (pt_cmpR op_gt (pe_callBK (cr_maxD rfl hr.units) (by rfl) T.z_max PyProof.Rows.boot_max (pa_cons (pv 1) pa_nil) (pk_cons pe_int pk_nil)) (pv 2) (nomark _)) (pss_one (ps_ret pe_str)) pss_nil)
      (pss_cons (ps_setLc (i := 3) (own := [("_law_want_here", 6)]) (g := gName 6) (te := (tCall (sp_law_fitting K a) [] E0 (tCons (tVar 6) tNil))) rfl sc_law_due.nd rfl rfl (sw_true rfl rfl rfl (by decide +kernel)) (pi_list (pv 1)) (blkOk_by (own := [("_law_want_here", 6)]) (N := ["_law_held", "_law_wants", "_law_cells", "_law_fitting_here", "_law_size", "_law_needed", "_law_want_here", "_law_part"]) (sc := defScope s_law_due) (by decide +kernel)) (fun _ _ _ _ _ => (pg_name (i := 6) sc_law_due.nd rfl (Or.inl rfl))) (fun _ _ _ _ _ => pts_nil) (fun _ _ _ _ _ => (pe_call G_law_fitting (hr.mono (by decide)) rfl T.law_fitting.mg T.law_fitting.fn.kp T.law_fitting.bd .nil pass0 (pa_cons (pv 6) pa_nil))))
      (pss_cons (ps_set (i := 4) sc_law_due.nd rfl (Or.inr rfl) pe_int)
      (pss_cons (ps_while PassesOwn.never (pt_cmpR op_le (pv 4) (pv 2) (nomark _)) (pss_cons (ps_set (i := 5) sc_law_due.nd rfl (Or.inl rfl) (pe_callB (cr_sum rfl) (by rfl) T.z_sum (by decide +kernel) (pa_cons (pe_lc (own := [("_law_part", 7)]) (g := gName 7) rfl sc_law_due.nd (pi_list (pv 3)) (blkOk_by (own := [("_law_part", 7)]) (N := ["_law_held", "_law_wants", "_law_cells", "_law_fitting_here", "_law_size", "_law_needed", "_law_want_here", "_law_part"]) (sc := defScope s_law_due) (by decide +kernel)) (fun _ _ _ _ _ => (pg_name (i := 7) sc_law_due.nd rfl (Or.inl rfl))) (fun _ _ _ _ _ => (pts_one (pt_cmpR op_ge (pv 7) (pv 4) (nomark _)))) (fun _ _ _ _ _ => (pe_op op_fdivW (pv 7) (pv 4)))) pa_nil)))
      (pss_cons (ps_if (pt_cmpR op_gt (pv 5) (pe_op op_sub (pe_op op_fdivW (pv 2) (pv 4)) (pe_call G_law_touched (hr.mono (by decide)) rfl T.law_touched.mg T.law_touched.fn.kp T.law_touched.bd .nil pass0 (pa_cons (pv 0) (pa_cons (pv 4) pa_nil)))) (nomark _)) (pss_one (ps_ret pe_str)) pss_nil)
      (pss_one (ps_set (i := 4) sc_law_due.nd rfl (Or.inr rfl) (pe_op op_mulX (pv 4) pe_int))))))
      (pss_one (ps_ret pe_str)))))), ?_⟩
  obtain ⟨l, b, ts, held, d, xs, rfl, hat, tups, g, few, d60, hb, lx, le200, q1, q2, q3⟩ := h
  refine split_seq (fun σ' H' => σ' = [some (.ref l), some (.ref b), some (sI d), none, none, none, none, none] ∧ H' = H ∧ ∀ x ∈ xs, 1 ≤ x) (fun tail => ?_) ?_
  · refine ⟨_, rfl, b, xs, _, rfl, rfl, SqL.of hb, fun e => ?_, fun M hM lo => ?_⟩
    · refine ⟨_, _, rfl, rfl, _, rfl, iteFof (by decide) ?_⟩
      exact tail _ _ ⟨rfl, rfl, fun x hx => by rw [e] at hx; cases hx⟩
    · have lo : ∀ x ∈ xs, M ≤ x := fun x hx => by have := lo x hx; rwa [if_neg Bool.false_ne_true] at this
      refine ⟨_, _, rfl, rfl, _, rfl, ?_⟩
      by_cases c : M < 1
      · exact iteTof (decide_eq_true c) (q1 ⟨M, hM, c⟩ H fun b o e => e)
      · exact iteFof (decide_eq_false c) (tail _ _ ⟨rfl, rfl, fun x hx => by have := lo x hx; omega⟩)
  rintro σ H' ⟨rfl, rfl, pos⟩
  refine split_seq (fun σ' H1 => σ' = [some (.ref l), some (.ref b), some (sI d), none, none, none, none, none] ∧ H1 = H' ∧ ∀ x ∈ xs, x ≤ ((2 ^ d : Nat) : Int)) (fun tail => ?_) ?_
  · refine ⟨_, rfl, b, xs, _, rfl, rfl, SqL.of hb, fun e => ?_, fun M hM hi => ?_⟩
    · have pd : 0 < 2 ^ d := Nat.pow_pos (by decide)
      refine ⟨_, rfl, _, _, rfl, rfl, _, rfl, iteFof (decide_eq_false (by omega)) ?_⟩
      exact tail _ _ ⟨rfl, rfl, fun x hx => by rw [e] at hx; cases hx⟩
    · have hi : ∀ x ∈ xs, x ≤ M := fun x hx => by have := hi x hx; rwa [if_pos rfl] at this
      refine ⟨_, rfl, _, _, rfl, rfl, _, rfl, ?_⟩
      by_cases c : ((2 ^ d : Nat) : Int) < M
      · exact iteTof (decide_eq_true c) (q2 pos (fun z => by have := z.1 M hM; omega) H' fun b o e => e)
      · exact iteFof (decide_eq_false c) (tail _ _ ⟨rfl, rfl, fun x hx => by have := hi x hx; omega⟩)
  rintro σ H1 ⟨rfl, rfl, le⟩
  -- the exponents
  have kd : ∀ k ∈ wishK xs, k ≤ d := fun k hk => by
    obtain ⟨x, hx, rfl⟩ := List.mem_map.mp ((wishK_perm xs).mem_iff.mp hk)
    exact fit_le (pos x hx) (le x hx) d60
  have iff := gv_iff (os := held) (wishK_fall xs) kd
  have np : ∀ j, need (wishK xs) j = need (xs.map fit) j := fun j => need_perm (wishK_perm xs)
  refine ⟨_, rfl, b, rfl, ⟨_, SqL.of hb⟩, fun D nD => ?_⟩
  refine lc_out walk_list (fun j H' => H' D = some (.lst ((fits (xs.take j)).map V.int)) ∧ (∀ b o, H1 b = some o → H' b = some o)) ⟨upd_same, newK nD⟩ (fun j H' _ p => SqL.of (p.2 _ _ hb)) ?_ ?_
  · rintro j v H3 H4 hj ⟨hD, s3⟩ ⟨rfl, hv⟩
    rw [List.length_map] at hj
    rw [List.getElem?_map] at hv
    obtain ⟨x, hx, rfl⟩ := Option.map_eq_some_iff.mp hv
    have mx := List.mem_of_getElem? hx
    refine ⟨rfl, ?_⟩
    refine ⟨_, rfl, x, rfl, le200 x mx, fun z => by have := pos x mx; omega, fun _ => ?_⟩
    refine ⟨_, hD, by rw [List.length_map, fits, List.length_map, List.length_take, sizeLine_eq]; omega, ?_, fun b o e => ?_⟩
    · rw [upd_same, fits_take hx, List.map_append]
      rfl
    · rw [upd_ne (fun z => by rw [z, nD] at e; cases e)]
      exact s3 _ _ e
  rintro H2 ⟨hD, s2⟩
  rw [List.length_map, List.take_length] at hD
  refine nm ?_
  dsimp only
  refine nm ?_
  dsimp only
  have lf : (fits xs).length = xs.length := by rw [fits, List.length_map]
  refine while_by (fun σ H' => ∃ (j : Nat) (x5 x6 x7 : Option V), σ = [some (.ref l), some (.ref b), some (sI d), some (.ref D), some (sI j), x5, x6, x7] ∧ j ≤ d + 1 ∧ (∀ b o, H2 b = some o → H' b = some o) ∧ ∀ i, i < j → need (xs.map fit) i ≤ (frc (Oc held) d i).length)
    (fun σ H' => match σ with | [_, _, _, _, some (.int j), _, _, _] => (((2 ^ (d + 1) : Nat) : Int) - j).toNat | _ => 0) ⟨0, none, none, none, rfl, by omega, fun b o e => e, fun i h => by omega⟩ ?_ ?_
  · rintro σ H4 ⟨j, x5, x6, x7, rfl, hj, s4, all⟩
    have pj : 0 < 2 ^ j := Nat.pow_pos (by decide)
    refine ⟨_, rfl, _, rfl, _, _, rfl, rfl, _, rfl, ?_⟩
    have hD4 := s4 _ _ hD
    have k04 : ∀ b o, H1 b = some o → H4 b = some o := fun b o e => s4 _ _ (s2 _ _ e)
    by_cases c : ((2 ^ j : Nat) : Int) ≤ ((2 ^ d : Nat) : Int)
    · have jd : j ≤ d := pow_le_iff.mp c
      have k61 : 2 ^ j < 2 ^ 61 := Nat.pow_lt_pow_right (by decide) (by omega)
      refine iteTof (decide_eq_true c) ?_
      refine ⟨_, rfl, D, rfl, ⟨_, SqL.of hD4⟩, fun G nG => ?_⟩
      refine lc_out walk_list (fun i H' => H' G = some (.lst (((((fits xs).take i).filter fun z => decide (((2 ^ j : Nat) : Int) ≤ z)).map fun z => z / ((2 ^ j : Nat) : Int)).map V.int)) ∧ (∀ b o, H4 b = some o → H' b = some o)) ⟨upd_same, newK nG⟩ (fun i H' _ p => SqL.of (p.2 _ _ hD4)) ?_ ?_
      · rintro i v H5 H6 hi ⟨hG, s5⟩ ⟨rfl, hv⟩
        rw [List.length_map, lf] at hi
        rw [List.getElem?_map] at hv
        obtain ⟨z, hz, rfl⟩ := Option.map_eq_some_iff.mp hv
        refine ⟨rfl, ?_⟩
        refine ⟨_, rfl, _, rfl, _, _, rfl, rfl, _, rfl, ?_⟩
        by_cases c2 : ((2 ^ j : Nat) : Int) ≤ z
        · refine iteTof (decide_eq_true c2) ?_
          refine ⟨_, rfl, _, rfl, _, _, rfl, rfl, wide_div (b := 61) (by omega) (by rw [Int.natAbs_natCast]; exact k61) (by decide) (by decide), _, hG, ?_, ?_, fun b o e => ?_⟩
          · rw [List.length_map, List.length_map, sizeLine_eq]
            have l2 := List.length_filter_le (fun z : Int => decide (((2 ^ j : Nat) : Int) ≤ z)) ((fits xs).take i)
            rw [List.length_take] at l2
            omega
          · rw [filter_take' hz, if_pos (by simpa using c2), List.map_append, List.map_append]
            exact upd_same
          · rw [upd_ne (fun z => by rw [z, nG] at e; cases e)]
            exact s5 _ _ e
        · refine iteFof (decide_eq_false c2) ?_
          rw [filter_take' hz, if_neg (by simpa using c2), List.append_nil]
          exact ⟨hG, s5⟩
      rintro H5 ⟨hG, s5⟩
      rw [List.length_map, List.take_length] at hG
      refine ⟨G, _, rfl, SqL.of hG, ?_⟩
      rw [sum_need]
      refine nm ?_
      dsimp only
      have k05 : ∀ b o, H1 b = some o → H5 b = some o := fun b o e => s5 _ _ (k04 _ _ e)
      refine ⟨_, rfl, _, rfl, _, rfl, _, _, rfl, rfl, wide_div (b := 61) (by omega) (by rw [Int.natAbs_natCast]; exact k61) (by decide) (by decide), ?_⟩
      refine ⟨_, rfl, _, rfl, l, ts, held, j, d, rfl, k05 _ _ hat, tups.keep (fun t xs e => k05 _ _ e), g, few, jd, d60, fun m H6 hm s6 => ?_⟩
      have ed : ((2 ^ d : Nat) : Int) / ((2 ^ j : Nat) : Int) = ((2 ^ (d - j) : Nat) : Int) := by rw [← Int.natCast_ediv, Nat.pow_div jd (by decide)]
      refine ⟨_, _, rfl, rfl, _, _, rfl, rfl, _, rfl, ?_⟩
      rw [ed]
      by_cases c3 : ((2 ^ (d - j) : Nat) : Int) - (m : Int) < ((need (xs.map fit) j : Nat) : Int)
      · refine iteTof (decide_eq_true c3) (q2 pos (fun z => ?_) H6 fun b o e => s6 _ _ (k05 _ _ e))
        have := iff.mp z.2 j jd
        rw [np] at this
        omega
      · refine iteFof (decide_eq_false c3) ?_
        have ez : ((2 ^ j : Nat) : Int) * 2 = ((2 ^ (j + 1) : Nat) : Int) := by rw [Nat.pow_succ, Int.natCast_mul]; rfl
        refine ⟨_, rfl, _, _, rfl, rfl, mulx_ok (a := 201) (b := 3) (by rw [Int.natAbs_natCast]; exact Nat.pow_lt_pow_right (by decide) (by omega)) (by decide) (by decide), ?_⟩
        refine ⟨⟨j + 1, some (.int ((need (xs.map fit) j : Nat) : Int)), x6, x7, ?_, by omega, fun b o e => s6 _ _ (s5 _ _ (s4 _ _ e)), fun i hi => ?_⟩, ?_⟩
        · show [some (V.ref l), some (V.ref b), some (sI d), some (V.ref D), some (V.int (((2 ^ j : Nat) : Int) * 2)), _, _, _] = _
          rw [ez]
        · rcases Nat.lt_or_ge i j with h | h
          · exact all i h
          · obtain rfl : i = j := by omega
            omega
        · have c4 : 2 ^ j ≤ 2 ^ d := Nat.pow_le_pow_right (by decide) jd
          have e4 : 2 ^ (d + 1) = 2 * 2 ^ d := by rw [Nat.pow_succ]; omega
          show (((2 ^ (d + 1) : Nat) : Int) - ((2 ^ j : Nat) : Int) * 2).toNat < (((2 ^ (d + 1) : Nat) : Int) - ((2 ^ j : Nat) : Int)).toNat
          omega
    · refine iteFof (decide_eq_false c) ?_
      have jd : d < j := by
        rcases Nat.lt_or_ge d j with h | h
        · exact h
        · exact absurd (pow_le_iff.mpr h) c
      obtain ⟨ns, gv⟩ := iff.mpr fun i hi => by rw [np]; exact all i (by omega)
      exact q3 ns (fun x hx => ⟨pos x hx, le x hx⟩) gv H4 k04
  · rintro σ H' Q1 Q2 hQ ⟨v, hv, y, hy, i, j, e1, e2, k, ek, h⟩
    exact ⟨v, hv, y, hy, i, j, e1, e2, k, ek, by cases k <;> exact hQ _ _ (by simpa using h)⟩
end
/-! ### law_k11: in turn -/
theorem ixN_at {n j : Nat} (hj : j < n) : ixN n (j : Int) = some j := by
  unfold ixN
  rw [if_pos (by omega), if_pos (by omega)]
  simp
theorem place_snoc {ord ns : List Nat} {k0 n k : Nat} (l : ns.length = ord.length) (no : k0 ∉ ord) : placeOf (ord ++ [k0]) (ns ++ [n]) k = if k = k0 then n else placeOf ord ns k := by
  unfold placeOf
  rw [List.zip_append l.symm, List.lookup_append]
  by_cases e : k = k0
  · subst e
    have z : (ord.zip ns).lookup k = none := by
      rw [List.lookup_eq_none_iff]
      intro p hp
      rw [bne_iff_ne]
      intro z
      exact no (by rw [z]; exact (List.of_mem_zip hp).1)
    rw [z, if_pos rfl]
    show (([(k, n)] : List (Nat × Nat)).lookup k).getD 0 = n
    rw [List.lookup_cons_self]
    rfl
  · rw [if_neg e]
    show (((ord.zip ns).lookup k).or (([(k0, n)] : List (Nat × Nat)).lookup k)).getD 0 = _
    rw [List.lookup_cons, show (k == k0) = false from beq_eq_false_iff_ne.mpr e]
    simp
/-- the places so far, 0 where none is known -/
def plc (n : Nat) (ord ns : List Nat) : List V := (List.range n).map fun k => nI (placeOf ord ns k)
theorem plc_len (n : Nat) (ord ns : List Nat) : (plc n ord ns).length = n := by rw [plc, List.length_map, List.length_range]
theorem plc_snoc {N : Nat} {ord ns : List Nat} {k0 n : Nat} (l : ns.length = ord.length) (no : k0 ∉ ord) : (plc N ord ns).set k0 (nI n) = plc N (ord ++ [k0]) (ns ++ [n]) := by
  unfold plc
  apply List.ext_getElem
  · simp
  · intro i h1 h2
    rw [List.getElem_set, List.getElem_map, List.getElem_map, List.getElem_range, place_snoc l no]
    by_cases e : k0 = i
    · rw [if_pos e, if_pos e.symm]
    · rw [if_neg e, if_neg (Ne.symm e)]
theorem turn_get : ∀ {ks : List Nat} {s i : Nat}, i < ks.length → (turnN s ks)[i]? = some (s + ((ks.take i).map fun k => 2 ^ k).sum)
  | k :: ks, s, 0, _ => by simp [turnN]
  | k :: ks, s, i + 1, h => by
    rw [turnN, List.getElem?_cons_succ, turn_get (by simpa using h), List.take_succ_cons, List.map_cons, List.sum_cons, Nat.add_assoc]
theorem turn_len : ∀ {ks : List Nat} {s : Nat}, (turnN s ks).length = ks.length
  | [], _ => rfl
  | k :: ks, s => by rw [turnN, List.length_cons, List.length_cons, turn_len]
theorem unK' {H H' : Hp} {p : Addr} (k : ∀ b u, H b = some u → H' b = some u) (h : H' p = none) : H p = none := Classical.byContradiction fun z => by
  obtain ⟨o, ho⟩ := Option.ne_none_iff_exists'.mp z
  rw [k _ _ ho] at h
  cases h
def sp_law_in_turn (_ : PySem.W.Frag) (_ : Ad) : Sp := fun vs H Q _ => ∃ (b : Addr) (xs : List Int), vs = [.ref b] ∧ H b = some (.lst (xs.map V.int)) ∧ xs.length ≤ 4000 ∧ (∀ x ∈ xs, 1 ≤ x ∧ x ≤ ((2 ^ 200 : Nat) : Int)) ∧
  ∀ (D : Addr) H', (∀ b o, H b = some o → H' b = some o) → H' D = some (.lst (plc xs.length (byFall (fits xs)) (turnN 0 (wishK xs)))) → H D = none → Q (.ref D) H'
section
variable {P : Program} {w : World} {K : PySem.W.Frag} {mg : Str → Option Value} {base : Heap} {a : Ad}
theorem ok_law_in_turn (T : Txt K mg a) : FnOk P w K mg base CX0 2 a.f_law_in_turn a.d_law_in_turn ["_law_wants"] (sp_law_in_turn K a) := by
  have G_law_fitting : FnOk P w K mg base CX0 1 a.f_law_fitting a.d_law_fitting ["_law_want_here"] (sp_law_fitting K a) := ok_law_fitting T
  refine T.law_in_turn.fn.ok sc_law_in_turn (fun vs H Q E h => by first | (obtain ⟨rfl, _⟩ := h; rfl) | (obtain ⟨_, rfl, _⟩ := h; rfl) | (obtain ⟨_, _, rfl, _⟩ := h; rfl) | (obtain ⟨_, _, _, rfl, _⟩ := h; rfl) | (obtain ⟨_, _, _, _, rfl, _⟩ := h; rfl) | (obtain ⟨_, _, _, _, _, rfl, _⟩ := h; rfl) | (obtain ⟨_, _, _, _, _, _, rfl, _⟩ := h; rfl) | (obtain ⟨_, _, _, _, _, _, _, rfl, _⟩ := h; rfl) | (obtain ⟨_, _, _, _, _, _, _, _, rfl, _⟩ := h; rfl) | (obtain ⟨_, _, _, _, _, _, _, _, _, rfl, _⟩ := h; rfl) | (obtain ⟨_, _, _, _, _, _, _, _, _, _, rfl, _⟩ := h; rfl) | (obtain ⟨_, _, _, _, _, _, _, _, _, _, _, rfl, _⟩ := h; rfl)) (fun cdv A outer s H vs Q E hr h => ?_)
  refine ⟨_, pss_cons (ps_set (i := 1) sc_law_in_turn.nd rfl (Or.inl rfl) (pe_callB cr_sortedTups (by rfl) T.z_sorted (by decide +kernel) (pa_cons (pe_lc (own := [("_law_k", 6)]) (g := gName 6) (te := (tTup (tCons (tOp (rI0 fun i j => .int (i - j)) (tC (.int 0)) (tCall (sp_law_fitting K a) [] E0 (tCons (tOp (rIxL K) (tVar 0) (tVar 6)) tNil))) (tCons (tVar 6) tNil)))) rfl sc_law_in_turn.nd (pi_range1 rfl T.z_range (pa_cons (pe_callB call_len_seq (by rfl) T.z_len PySem.boot_len (pa_cons (pv 0) pa_nil)) pa_nil)) (blkOk_by (own := [("_law_k", 6)]) (N := ["_law_wants", "_law_order", "_law_places", "_law_behind_here", "_law_pair", "_law_want_here", "_law_k"]) (sc := defScope s_law_in_turn) (by decide +kernel)) (fun _ _ _ _ _ => (pg_name (i := 6) sc_law_in_turn.nd rfl (Or.inl rfl))) (fun _ _ _ _ _ => pts_nil) (fun _ _ _ _ _ => (pe_tup (pa_cons (pe_op op_sub pe_int (pe_call G_law_fitting (hr.mono (by decide)) rfl T.law_fitting.mg T.law_fitting.fn.kp T.law_fitting.bd .nil pass0 (pa_cons (pe_ix ix_list (pv 0) (pv 6) (fun _ _ => rfl)) pa_nil))) (pa_cons (pv 6) pa_nil))))) pa_nil)))
      (pss_cons (ps_setLc (i := 2) (own := [("_law_want_here", 5)]) (g := gName 5) rfl sc_law_in_turn.nd rfl rfl (sw_true rfl rfl rfl (by decide +kernel)) (pi_list (pv 0)) (blkOk_by (own := [("_law_want_here", 5)]) (N := ["_law_wants", "_law_order", "_law_places", "_law_behind_here", "_law_pair", "_law_want_here", "_law_k"]) (sc := defScope s_law_in_turn) (by decide +kernel)) (fun _ _ _ _ _ => (pg_name (i := 5) sc_law_in_turn.nd rfl (Or.inl rfl))) (fun _ _ _ _ _ => pts_nil) (fun _ _ _ _ _ => pe_int))
      (pss_cons (ps_set (i := 3) sc_law_in_turn.nd rfl (Or.inl rfl) pe_int)
      (pss_cons (ps_for PassesOwn.never rfl (pi_list (pv 1)) (pg_name (i := 4) sc_law_in_turn.nd rfl (Or.inl rfl)) (pss_cons (ps_asg (pv 3) (pg_sub (pv 2) (pe_ix ix_tup (pv 4) pe_int (fun _ _ => rfl)) set_list))
      (pss_one (ps_set (i := 3) sc_law_in_turn.nd rfl (Or.inl rfl) (pe_op op_sub (pv 3) (pe_ix ix_tup (pv 4) pe_int (fun _ _ => rfl)))))))
      (pss_one (ps_ret (pv 2)))))), ?_⟩
  obtain ⟨b, xs, rfl, hb, few, fx, q⟩ := h
  have hS : SqL K H b (xs.map V.int) := SqL.of hb
  have lf : (fits xs).length = xs.length := by rw [fits, List.length_map]
  have fk : ∀ {i : Nat} {x : Int}, xs[i]? = some x → (fits xs).getD i 0 = ((2 ^ fit x : Nat) : Int) := fun {i x} e => by rw [List.getD, fits, List.getElem?_map, e]; rfl
  refine ⟨_, rfl, b, _, rfl, .inl hS, ?_⟩
  rw [List.length_map]
  refine ⟨_, rfl, by omega, by omega, fun D newD => ?_⟩
  refine lc_out walk_range (fun i H' => ∃ ts : List Addr, H' D = some (.lst (ts.map V.ref)) ∧ Tups H' ts ((List.range i).map fun k => (0 - (fits xs).getD k 0, (k : Int))) ∧ (∀ b o, H b = some o → H' b = some o))
    ⟨[], upd_same, .nil, newK newD⟩ (fun i H' _ _ => True.intro) ?_ ?_
  · rintro i v H3 H4 hi ⟨ts, hD, tu, s3⟩ ⟨rfl, rfl⟩
    have hi : i < xs.length := by have hi' : i < ((xs.length : Int) - 0).toNat := hi; omega
    obtain ⟨x, hx⟩ : ∃ x, xs[i]? = some x := ⟨_, List.getElem?_eq_getElem hi⟩
    have x1 := fx x (List.mem_of_getElem? hx)
    have lts := tu.len
    rw [List.length_map, List.length_range] at lts
    refine ⟨rfl, ?_⟩
    refine ⟨_, rfl, _, rfl, b, _, _, .int x, rfl, rfl, seq_keep hS fun o e => s3 _ _ e, at_of (j := i) (by show (0 : Int) + i = _; omega) (by rw [List.getElem?_map, hx]; rfl), x, rfl, x1.2, fun z => by exfalso; omega, fun _ => ?_⟩
    refine ⟨_, _, rfl, rfl, _, rfl, by show 2 ≤ sizeLine; decide, fun t nt => ?_⟩
    have k4 := newK (o := .tup [.int (0 - ((2 ^ fit x : Nat) : Int)), .int (0 + (i : Int))]) nt
    refine ⟨ts.map V.ref, k4 _ _ hD, by rw [List.length_map, sizeLine_eq]; omega, ts ++ [t], ?_, ?_, fun b o e => ?_⟩
    · rw [List.map_append]
      exact upd_same
    · have nD : ∀ {t' : Addr} {o : HO}, H t' = some o → t' ≠ D := fun e z => by rw [z, newD] at e; cases e
      rw [List.range_succ, List.map_append]
      refine Tups.snoc ?_ (tu.keep fun t' xs e => ?_)
      · rw [upd_ne (ne_of upd_same (k4 _ _ hD) (by intro z; cases z)), upd_same]
        show some (HO.tup [V.int (0 - ((2 ^ fit x : Nat) : Int)), V.int (0 + (i : Int))]) = some (HO.tup [V.int (0 - (fits xs).getD i 0), V.int (i : Int)])
        rw [fk hx, show (0 : Int) + i = i by omega]
      · rw [upd_ne (ne_of (k4 _ _ e) (k4 _ _ hD) (by intro z; cases z))]
        exact k4 _ _ e
    · rw [upd_ne (fun z => by rw [z, newD] at e; cases e)]
      exact k4 _ _ (s3 _ _ e)
  rintro H1 ⟨ts, hD, tu, s1⟩
  have tu : Tups H1 ts ((List.range (fits xs).length).map fun k => (0 - (fits xs).getD k 0, (k : Int))) := by
    rw [lf]
    exact tu
  refine ⟨D, ts, _, rfl, SqL.of hD, tu, fun p us np tu2 => ?_⟩
  rw [fall_srt] at tu2
  have hp : L2.upd H1 p (.lst (us.map V.ref)) p = _ := upd_same
  have s2 : ∀ b o, H b = some o → L2.upd H1 p (.lst (us.map V.ref)) b = some o := fun b o e => newK np _ _ (s1 _ _ e)
  generalize L2.upd H1 p (.lst (us.map V.ref)) = H2 at hp tu2 s2
  refine nm ?_
  dsimp only
  have lus := tu2.len
  rw [List.length_map] at lus
  have lo := ord_len (fits xs)
  have ol : (byFall (fits xs)).length = xs.length := by rw [ord_len, lf]
  have wl := wishK_len xs
  have nDp : ∀ {o}, H D = some o → False := fun e => by rw [newD] at e; cases e
  refine ⟨_, rfl, b, rfl, ⟨_, SqL.of (s2 _ _ hb)⟩, fun D2 nD2 => ?_⟩
  refine lc_out walk_list (fun j H' => H' D2 = some (.lst (List.replicate j (nI 0))) ∧ (∀ b o, H2 b = some o → H' b = some o))
    ⟨upd_same, newK nD2⟩ (fun j H' _ p => SqL.of (p.2 _ _ (s2 _ _ hb))) ?_ ?_
  · rintro j v H3 H4 hj ⟨hD, s4⟩ ⟨rfl, hv⟩
    rw [List.length_map] at hj
    refine ⟨rfl, ?_⟩
    refine ⟨_, hD, by rw [List.length_replicate, sizeLine_eq]; omega, ?_, fun b o e2 => ?_⟩
    · rw [List.replicate_succ']
      exact upd_same
    · rw [upd_ne (fun z => by rw [z, nD2] at e2; cases e2)]
      exact s4 _ _ e2
  rintro H3 ⟨hD2, s3⟩
  rw [List.length_map] at hD2
  have e0 : List.replicate xs.length (nI 0) = plc xs.length [] [] := by
    unfold plc
    apply List.ext_getElem
    · simp
    · intro i h1 h2
      simp [placeOf]
  rw [e0] at hD2
  refine nm ?_
  dsimp only
  refine nm ?_
  dsimp only
  have hp3 := s3 _ _ hp
  have tu3 := tu2.keep fun t xs e => s3 _ _ e
  have nDp3 : D2 ≠ p := fun z => by rw [z, hp] at nD2; cases nD2
  refine ⟨_, rfl, p, rfl, ⟨_, SqL.of hp3⟩, ?_⟩
  refine for_list (xs := us.map V.ref) (fun j σ H' => ∃ (x4 x5 x6 : Option V), σ = [some (.ref b), some (.ref p), some (.ref D2), some (nI (((wishK xs).take j).map fun k => 2 ^ k).sum), x4, x5, x6] ∧ H' D2 = some (.lst (plc xs.length ((byFall (fits xs)).take j) ((turnN 0 (wishK xs)).take j))) ∧
      H' p = some (.lst (us.map V.ref)) ∧ Tups H' us ((byFall (fits xs)).map fun k => (0 - (fits xs).getD k 0, (k : Int))) ∧ (∀ b o, H b = some o → H' b = some o))
    ⟨_, _, _, rfl, hD2, hp3, tu3, fun b o e => s3 _ _ (s2 _ _ e)⟩ (fun j σ H' _ ⟨_, _, _, _, _, e, _⟩ => SqL.of e) ?_ ?_
  · rintro j v σ H4 hv ⟨x4, x5, x6, rfl, hD4, hp4, tu4, s4⟩
    have hj := (List.getElem?_eq_some_iff.mp hv).1
    rw [List.length_map, lus] at hj
    obtain ⟨k, hk⟩ : ∃ k, (byFall (fits xs))[j]? = some k := ⟨_, List.getElem?_eq_getElem (by omega)⟩
    obtain ⟨t2, ht2, hatt2⟩ := tu4.get (i := j) (q := (0 - (fits xs).getD k 0, (k : Int))) (by rw [List.getElem?_map, hk]; rfl)
    rw [List.getElem?_map, ht2] at hv
    have hv := Option.some.inj hv
    subst hv
    refine nm ?_
    dsimp only
    have kl := ord_lt (List.mem_of_getElem? hk)
    rw [lf] at kl
    obtain ⟨x, hx⟩ : ∃ x, xs[k]? = some x := ⟨_, List.getElem?_eq_getElem kl⟩
    have hw : (wishK xs)[j]? = some (fit x) := by
      rw [wishK, List.getElem?_map, hk]
      show some (fit (xs.getD k 0)) = _
      rw [List.getD, hx]
      rfl
    have jl : j < (wishK xs).length := (List.getElem?_eq_some_iff.mp hw).1
    have ht := turn_get (s := 0) jl
    rw [Nat.zero_add] at ht
    have nk : k ∉ (byFall (fits xs)).take j := fun z => by
      obtain ⟨i, hi⟩ := List.mem_iff_getElem?.mp z
      have hlt := (List.getElem?_eq_some_iff.mp hi).1
      rw [List.length_take] at hlt
      rw [List.getElem?_take_of_lt (by omega)] at hi
      have := (List.getElem?_inj (by omega) (ord_nodup (fits xs))).mp (hi.trans hk.symm)
      omega
    have lo2 : ((turnN 0 (wishK xs)).take j).length = ((byFall (fits xs)).take j).length := by rw [List.length_take, List.length_take, turn_len, ol, wl]
    refine ⟨_, rfl, _, rfl, _, rfl, t2, _, _, V.int (k : Int), rfl, rfl, SqT.of hatt2, at_of (j := 1) rfl rfl, D2, _, _, k, rfl, rfl, hD4, by rw [plc_len]; exact ixN_at kl, ?_⟩
    rw [plc_snoc lo2 nk, ← take_snoc hk, ← take_snoc ht]
    have k5 : ∀ b' o, H4 b' = some o → b' ≠ D2 → L2.upd H4 D2 (.lst (plc xs.length ((byFall (fits xs)).take (j + 1)) ((turnN 0 (wishK xs)).take (j + 1)))) b' = some o := fun b' o e nb => (upd_ne nb).trans e
    have hD5 : L2.upd H4 D2 (.lst (plc xs.length ((byFall (fits xs)).take (j + 1)) ((turnN 0 (wishK xs)).take (j + 1)))) D2 = _ := upd_same
    generalize L2.upd H4 D2 (.lst (plc xs.length ((byFall (fits xs)).take (j + 1)) ((turnN 0 (wishK xs)).take (j + 1)))) = H5 at k5 hD5
    have hatt5 := k5 t2 _ hatt2 (ne_of hatt2 hD4 (by intro z; cases z))
    refine ⟨_, rfl, _, rfl, t2, _, _, V.int (0 - (fits xs).getD k 0), rfl, rfl, SqT.of hatt5, at_of (j := 0) rfl rfl, _, _, rfl, rfl, ?_⟩
    refine ⟨some (.ref t2), x5, x6, ?_, hD5, k5 _ _ hp4 (Ne.symm nDp3), tu4.keep fun t xs e => k5 t _ e (ne_of e hD4 (by intro z; cases z)), fun b' o e => k5 _ _ (s4 _ _ e) (ne_of_none (s2 _ _ e) nD2)⟩
    rw [take_snoc hw, List.map_append, List.sum_append]
    show [_, _, _, some (V.int (((((wishK xs).take j).map fun k => 2 ^ k).sum : Nat) - (0 - (fits xs).getD k 0))), _, _, _] = _
    rw [fk hx, show ((((((wishK xs).take j).map fun k => 2 ^ k).sum : Nat) : Int) - (0 - ((2 ^ fit x : Nat) : Int))) = ((((((wishK xs).take j).map fun k => 2 ^ k).sum + ([fit x].map fun k => 2 ^ k).sum : Nat)) : Int) by simp]
    rfl
  · rintro σ H4 ⟨x4, x5, x6, rfl, hD4, hp4, tu4, s4⟩
    rw [List.length_map, lus, lo, lf, List.take_of_length_le (by omega), List.take_of_length_le (by rw [turn_len]; omega)] at hD4
    exact ⟨_, rfl, q D2 H4 s4 hD4 (unK' s2 nD2)⟩
end
/-! ### law_k11: halves -/
theorem cut_to' {xs : List V} {j : Nat} : cutV xs none (some (j : Int)) = xs.take j := by
  unfold cutV
  rw [HT.sIx_none, HT.sIx_nat, List.drop_zero, Nat.sub_zero, List.take_eq_take_iff]
  omega
theorem cut_from' {xs : List V} {j : Nat} : cutV xs (some (j : Int)) none = xs.drop j := by
  unfold cutV
  rw [HT.sIx_none, HT.sIx_nat]
  rcases Nat.le_total j xs.length with h | h
  · rw [Nat.min_eq_left h]
    exact List.take_of_length_le (by rw [List.length_drop]; omega)
  · rw [Nat.min_eq_right h, List.drop_of_length_le h, List.drop_of_length_le (Nat.le_refl _), List.take_nil]
theorem pos_mod' (x : Int) {n : Nat} (h : 0 < n) : ∃ j : Nat, x.fmod (n : Int) = (j : Int) ∧ j < n := by
  rw [Int.fmod_eq_emod_of_nonneg _ (by omega)]
  exact emod_nat x h
def sp_law_halves (_ : PySem.W.Frag) (_ : Ad) : Sp := fun vs H Q _ => ∃ (r : Addr) (row : List Int) (d : Nat), vs = [sI d, .ref r] ∧ H r = some (.lst (row.map V.int)) ∧ row.length ≤ 20 ∧ d ≤ 60 ∧
  ∀ (b : Addr) (xs : List Int) (H' : Hp), (∀ b o, H b = some o → H' b = some o) → H b = none → H' b = some (.lst (xs.map V.int)) → xs.length ≤ 41 → (∀ x ∈ xs, x ≤ ((2 ^ 60 : Nat) : Int)) → Q (.ref b) H'
section
variable {P : Program} {w : World} {K : PySem.W.Frag} {mg : Str → Option Value} {base : Heap} {a : Ad}
theorem ok_law_halves (T : Txt K mg a) : FnOk P w K mg base CX0 1 a.f_law_halves a.d_law_halves ["_law_cells", "_law_row"] (sp_law_halves K a) := by
  refine T.law_halves.fn.ok sc_law_halves (fun vs H Q E h => by first | (obtain ⟨rfl, _⟩ := h; rfl) | (obtain ⟨_, rfl, _⟩ := h; rfl) | (obtain ⟨_, _, rfl, _⟩ := h; rfl) | (obtain ⟨_, _, _, rfl, _⟩ := h; rfl) | (obtain ⟨_, _, _, _, rfl, _⟩ := h; rfl) | (obtain ⟨_, _, _, _, _, rfl, _⟩ := h; rfl) | (obtain ⟨_, _, _, _, _, _, rfl, _⟩ := h; rfl) | (obtain ⟨_, _, _, _, _, _, _, rfl, _⟩ := h; rfl) | (obtain ⟨_, _, _, _, _, _, _, _, rfl, _⟩ := h; rfl) | (obtain ⟨_, _, _, _, _, _, _, _, _, rfl, _⟩ := h; rfl) | (obtain ⟨_, _, _, _, _, _, _, _, _, _, rfl, _⟩ := h; rfl) | (obtain ⟨_, _, _, _, _, _, _, _, _, _, _, rfl, _⟩ := h; rfl)) (fun cdv A outer s H vs Q E hr h => ?_)
  refine ⟨_, pss_cons (ps_set (i := 2) sc_law_halves.nd rfl (Or.inl rfl) (pe_lst (pa_cons (pv 0) pa_nil)))
      (pss_cons (ps_for PassesOwn.never rfl (pi_list (pv 1)) (pg_name (i := 3) sc_law_halves.nd rfl (Or.inl rfl)) (pss_cons (ps_set (i := 4) sc_law_halves.nd rfl (Or.inl rfl) (pe_op op_modN (pv 3) (pe_callB call_len_seq (by rfl) T.z_len PySem.boot_len (pa_cons (pv 2) pa_nil))))
      (pss_cons (ps_set (i := 5) sc_law_halves.nd rfl (Or.inl rfl) (pe_op op_fdiv (pe_ix ix_list (pv 2) (pv 4) (fun _ _ => rfl)) pe_int))
      (pss_one (ps_if (pt_cmpR op_gt (pv 5) pe_int (nomark _)) (pss_cons (ps_set (i := 2) sc_law_halves.nd rfl (Or.inl rfl) (pe_op op_cat (pe_op op_cat (pe_slice sl_list (pv 2) po_none (po_some (pv 4))) (pe_lst (pa_cons (pv 5) pa_nil))) (pe_slice sl_list (pv 2) (po_some (pe_op op_add (pv 4) pe_int)) po_none)))
      (pss_cons (ps_set (i := 6) sc_law_halves.nd rfl (Or.inl rfl) (pe_op op_modN (pe_op op_fdiv (pv 3) pe_int) (pe_op op_add (pe_callB call_len_seq (by rfl) T.z_len PySem.boot_len (pa_cons (pv 2) pa_nil)) pe_int)))
      (pss_one (ps_set (i := 2) sc_law_halves.nd rfl (Or.inl rfl) (pe_op op_cat (pe_op op_cat (pe_slice sl_list (pv 2) po_none (po_some (pv 6))) (pe_lst (pa_cons (pe_op op_sub (pv 5) (pe_op op_modN (pe_op op_fdiv (pv 3) pe_int) (pe_callB (call_max2 rfl) (by rfl) T.z_max PyProof.Rows.boot_max (pa_cons pe_int (pa_cons (pe_op op_sub (pv 5) (pe_op op_fdiv (pv 5) pe_int)) pa_nil))))) pa_nil))) (pe_slice sl_list (pv 2) (po_some (pv 6)) po_none)))))) pss_nil)))))
      (pss_one (ps_ret (pv 2)))), ?_⟩
  obtain ⟨r, row, d, rfl, hr0, lr, d60, q⟩ := h
  have p60 : 2 ^ d ≤ 2 ^ 60 := Nat.pow_le_pow_right (by decide) d60
  refine ⟨_, rfl, by show 1 ≤ sizeLine; decide, fun b0 n0 => nm ?_⟩
  dsimp only
  have k0 := newK (o := .lst [sI d]) n0
  refine ⟨_, rfl, r, rfl, ⟨_, SqL.of (k0 _ _ hr0)⟩, ?_⟩
  refine for_list (xs := row.map V.int) (fun i σ H' => ∃ (b : Addr) (xs : List Int) (x3 x4 x5 x6 : Option V), σ = [some (sI d), some (.ref r), some (.ref b), x3, x4, x5, x6] ∧ H b = none ∧ H' b = some (.lst (xs.map V.int)) ∧ 1 ≤ xs.length ∧ xs.length ≤ i + 1 ∧ (∀ x ∈ xs, x ≤ ((2 ^ 60 : Nat) : Int)) ∧ (∀ b o, H b = some o → H' b = some o))
    ⟨b0, [((2 ^ d : Nat) : Int)], none, none, none, none, rfl, n0, upd_same, Nat.le_refl _, Nat.le_refl _, (fun x hx => by rw [List.mem_singleton.mp hx]; omega), k0⟩ (fun i σ H' _ ⟨_, _, _, _, _, _, _, _, _, _, _, _, k⟩ => SqL.of (k _ _ hr0)) ?_ ?_
  · rintro i v σ H2 hv ⟨b, xs, x3, x4, x5, x6, rfl, nb, hb, l1, l2, le, k2⟩
    have hi := (List.getElem?_eq_some_iff.mp hv).1
    rw [List.length_map] at hi
    rw [List.getElem?_map] at hv
    obtain ⟨c, _, rfl⟩ := Option.map_eq_some_iff.mp hv
    obtain ⟨p, hp, lp⟩ := pos_mod' c (show 0 < xs.length by omega)
    obtain ⟨x, hx⟩ : ∃ x, xs[p]? = some x := ⟨_, List.getElem?_eq_getElem lp⟩
    have lex := le x (List.mem_of_getElem? hx)
    refine nm ?_
    refine ⟨_, rfl, _, rfl, b, _, rfl, .inl (SqL.of hb), _, _, rfl, rfl, by show ((xs.map V.int).length : Int) ≠ 0; rw [List.length_map]; omega, nm ?_⟩
    have ep : c.fmod ((xs.map V.int).length : Int) = (p : Int) := by rw [List.length_map]; exact hp
    dsimp only
    rw [ep]
    refine ⟨_, rfl, _, rfl, b, _, _, .int x, rfl, rfl, SqL.of hb, at_of (j := p) rfl (by rw [List.getElem?_map, hx]; rfl), _, _, rfl, rfl, ⟨by decide, by decide⟩, nm ?_⟩
    dsimp only
    refine ⟨_, rfl, _, _, rfl, rfl, _, rfl, ?_⟩
    by_cases c0 : 0 < x / 2
    · refine iteTof (decide_eq_true c0) ?_
      refine ⟨_, rfl, _, rfl, _, rfl, b, _, rfl, SqL.of hb, fun s1 ns1 => ?_⟩
      rw [cut_to', ← List.map_take]
      have k3 := newK (o := .lst ((xs.take p).map V.int)) ns1
      have h3 : L2.upd H2 s1 (.lst ((xs.take p).map V.int)) s1 = _ := upd_same
      generalize L2.upd H2 s1 (.lst ((xs.take p).map V.int)) = H3 at k3 h3 ⊢
      refine ⟨_, rfl, by show 1 ≤ sizeLine; decide, fun z nz => ?_⟩
      have k4 := newK (o := .lst [.int (x / 2)]) nz
      have h4 : L2.upd H3 z (.lst [.int (x / 2)]) z = _ := upd_same
      generalize L2.upd H3 z (.lst [.int (x / 2)]) = H4 at k4 h4 ⊢
      refine ⟨s1, z, _, _, rfl, rfl, k4 _ _ h3, h4, by rw [List.length_map, List.length_take, sizeLine_eq]; show _ + 1 ≤ _; omega, fun c1 nc1 => ?_⟩
      have k5 := newK (o := .lst ((xs.take p).map V.int ++ [.int (x / 2)])) nc1
      have h5 : L2.upd H4 c1 (.lst ((xs.take p).map V.int ++ [.int (x / 2)])) c1 = _ := upd_same
      generalize L2.upd H4 c1 (.lst ((xs.take p).map V.int ++ [.int (x / 2)])) = H5 at k5 h5 ⊢
      have hb5 := k5 _ _ (k4 _ _ (k3 _ _ hb))
      refine ⟨_, rfl, _, rfl, _, _, rfl, rfl, _, rfl, b, _, rfl, SqL.of hb5, fun s2 ns2 => ?_⟩
      rw [show (p : Int) + 1 = ((p + 1 : Nat) : Int) by omega, cut_from', ← List.map_drop]
      have k6 := newK (o := .lst ((xs.drop (p + 1)).map V.int)) ns2
      have h6 : L2.upd H5 s2 (.lst ((xs.drop (p + 1)).map V.int)) s2 = _ := upd_same
      generalize L2.upd H5 s2 (.lst ((xs.drop (p + 1)).map V.int)) = H6 at k6 h6 ⊢
      refine ⟨c1, s2, _, _, rfl, rfl, k6 _ _ h5, h6, by rw [List.length_append, List.length_map, List.length_map, List.length_take, List.length_drop, sizeLine_eq]; show _ + 1 + _ ≤ _; omega, fun b7 nb7 => nm ?_⟩
      have e7 : (xs.take p).map V.int ++ [V.int (x / 2)] ++ (xs.drop (p + 1)).map V.int = (xs.take p ++ [x / 2] ++ xs.drop (p + 1)).map V.int := by rw [List.map_append, List.map_append]; rfl
      rw [e7]
      have l7 : (xs.take p ++ [x / 2] ++ xs.drop (p + 1)).length = xs.length := by
        rw [List.length_append, List.length_append, List.length_take, List.length_drop]
        show _ + 1 + _ = _
        omega
      have le7 : ∀ y ∈ xs.take p ++ [x / 2] ++ xs.drop (p + 1), y ≤ ((2 ^ 60 : Nat) : Int) := fun y hy => by
        rcases List.mem_append.mp hy with hy | hy
        · rcases List.mem_append.mp hy with hy | hy
          · exact le y (List.mem_of_mem_take hy)
          · rw [List.mem_singleton.mp hy]
            omega
        · exact le y (List.mem_of_mem_drop hy)
      generalize xs.take p ++ [x / 2] ++ xs.drop (p + 1) = ys at l7 le7 ⊢
      have k7 := newK (o := .lst (ys.map V.int)) nb7
      have h7 : L2.upd H6 b7 (.lst (ys.map V.int)) b7 = _ := upd_same
      generalize L2.upd H6 b7 (.lst (ys.map V.int)) = H7 at k7 h7 ⊢
      dsimp only
      obtain ⟨q7, hq7, lq7⟩ := pos_mod' (c / 21) (show 0 < ys.length + 1 by omega)
      refine ⟨_, rfl, _, _, rfl, rfl, ⟨by decide, by decide⟩, _, rfl, b7, _, rfl, .inl (SqL.of h7), _, _, rfl, rfl, _, _, rfl, rfl, by show ((ys.map V.int).length : Int) + 1 ≠ 0; omega, nm ?_⟩
      have eq7 : (c / 21).fmod (((ys.map V.int).length : Int) + 1) = (q7 : Int) := by
        rw [List.length_map]
        exact hq7
      dsimp only
      rw [eq7]
      refine ⟨_, rfl, _, rfl, _, rfl, b7, _, rfl, SqL.of h7, fun s1' ns1 => ?_⟩
      rw [cut_to', ← List.map_take]
      have k8 := newK (o := .lst ((ys.take q7).map V.int)) ns1
      have h8 : L2.upd H7 s1' (.lst ((ys.take q7).map V.int)) s1' = _ := upd_same
      generalize L2.upd H7 s1' (.lst ((ys.take q7).map V.int)) = H8 at k8 h8 ⊢
      refine ⟨_, rfl, _, rfl, _, _, rfl, rfl, ⟨by decide, by decide⟩, _, rfl, _, rfl, _, _, rfl, rfl, ⟨by decide, by decide⟩, _, _, rfl, rfl, _, _, rfl, _, _, rfl, rfl, by split <;> omega, _, _, rfl, rfl, by show 1 ≤ sizeLine; decide, fun z' nz => ?_⟩
      obtain ⟨y, ey, ly⟩ : ∃ y : Int, y = x / 2 - (c / 441).fmod (if x / 2 - x / 2 / 2 > 1 then x / 2 - x / 2 / 2 else 1) ∧ y ≤ ((2 ^ 60 : Nat) : Int) := by
        refine ⟨_, rfl, ?_⟩
        have h1 : 0 ≤ (c / 441).fmod (if x / 2 - x / 2 / 2 > 1 then x / 2 - x / 2 / 2 else 1) := by
          rw [Int.fmod_eq_emod_of_nonneg _ (by split <;> omega)]
          exact Int.emod_nonneg _ (by split <;> omega)
        omega
      dsimp only
      rw [← ey]
      have k9 := newK (o := .lst [.int y]) nz
      have h9 : L2.upd H8 z' (.lst [.int y]) z' = _ := upd_same
      generalize L2.upd H8 z' (.lst [.int y]) = H9 at k9 h9 ⊢
      refine ⟨s1', z', _, _, rfl, rfl, k9 _ _ h8, h9, by rw [List.length_map, List.length_take, sizeLine_eq]; show _ + 1 ≤ _; omega, fun c1' nc1 => ?_⟩
      have k10 := newK (o := .lst ((ys.take q7).map V.int ++ [.int y])) nc1
      have h10 : L2.upd H9 c1' (.lst ((ys.take q7).map V.int ++ [.int y])) c1' = _ := upd_same
      generalize L2.upd H9 c1' (.lst ((ys.take q7).map V.int ++ [.int y])) = H10 at k10 h10 ⊢
      have hb10 := k10 _ _ (k9 _ _ (k8 _ _ h7))
      refine ⟨_, rfl, _, rfl, _, rfl, b7, _, rfl, SqL.of hb10, fun s2' ns2 => ?_⟩
      rw [cut_from', ← List.map_drop]
      have k11 := newK (o := .lst ((ys.drop q7).map V.int)) ns2
      have h11 : L2.upd H10 s2' (.lst ((ys.drop q7).map V.int)) s2' = _ := upd_same
      generalize L2.upd H10 s2' (.lst ((ys.drop q7).map V.int)) = H11 at k11 h11 ⊢
      refine ⟨c1', s2', _, _, rfl, rfl, k11 _ _ h10, h11, by rw [List.length_append, List.length_map, List.length_map, List.length_take, List.length_drop, sizeLine_eq]; show _ + 1 + _ ≤ _; omega, fun b12 nb12 => ?_⟩
      have e12 : (ys.take q7).map V.int ++ [V.int y] ++ (ys.drop q7).map V.int = (ys.take q7 ++ [y] ++ ys.drop q7).map V.int := by rw [List.map_append, List.map_append]; rfl
      rw [e12]
      have all : ∀ b o, H b = some o → H11 b = some o := fun b o e => k11 _ _ (k10 _ _ (k9 _ _ (k8 _ _ (k7 _ _ (k6 _ _ (k5 _ _ (k4 _ _ (k3 _ _ (k2 _ _ e)))))))))
      refine ⟨b12, ys.take q7 ++ [y] ++ ys.drop q7, _, _, _, _, rfl, unK' all nb12, upd_same, ?_, ?_, fun w hw => ?_, fun b o e => newK nb12 _ _ (all _ _ e)⟩
      · rw [List.length_append, List.length_append, List.length_take, List.length_drop]
        show 1 ≤ _ + 1 + _
        omega
      · rw [List.length_append, List.length_append, List.length_take, List.length_drop]
        show _ + 1 + _ ≤ _
        omega
      · rcases List.mem_append.mp hw with hw | hw
        · rcases List.mem_append.mp hw with hw | hw
          · exact le7 w (List.mem_of_mem_take hw)
          · rw [List.mem_singleton.mp hw]
            exact ly
        · exact le7 w (List.mem_of_mem_drop hw)
    · refine iteFof (decide_eq_false c0) ?_
      exact ⟨b, xs, _, _, _, _, rfl, nb, hb, l1, by omega, le, k2⟩
  · rintro σ H2 ⟨b, xs, x3, x4, x5, x6, rfl, nb, hb, l1, l2, le, k2⟩
    rw [List.length_map] at l2
    exact ⟨_, rfl, q b xs H2 k2 nb hb (by omega) le⟩
end
/-! ### law_k11: the wishes -/
def sp_law_wishes (K : PySem.W.Frag) (_ : Ad) : Sp := fun vs H Q _ => ∃ (l lh : Addr) (ns : List Int) (ts : List Addr) (held : List PN) (d : Nat), vs = [.ref l, .ref lh, sI d] ∧ SqL K H l (ns.map V.int) ∧ ns.length ≤ 63 ∧ (∀ z ∈ ns, Builtin.Int.intBits z ≤ 1048576) ∧ H lh = some (.lst (ts.map V.ref)) ∧ Tups H ts (held.map toI) ∧ d ≤ 60 ∧
  ∀ (b : Addr) (xs : List Int) (H' : Hp), (∀ b o, H b = some o → H' b = some o) → H b = none → H' b = some (.lst (xs.map V.int)) → xs.length ≤ 200 → (∀ x ∈ xs, x ≤ ((2 ^ 200 : Nat) : Int)) → Q (.ref b) H'
section
variable {P : Program} {w : World} {K : PySem.W.Frag} {mg : Str → Option Value} {base : Heap} {a : Ad}
theorem ok_law_wishes (T : Txt K mg a) : FnOk P w K mg base CX0 3 a.f_law_wishes a.d_law_wishes ["_law_script", "_law_held", "_law_cells"] (sp_law_wishes K a) := by
  have G_law_cell_at : FnOk P w K mg base CX0 1 a.f_law_cell_at a.d_law_cell_at ["_law_script", "_law_k"] (sp_law_cell_at K a) := ok_law_cell_at T
  have G_law_halves : FnOk P w K mg base CX0 1 a.f_law_halves a.d_law_halves ["_law_cells", "_law_row"] (sp_law_halves K a) := ok_law_halves T
  have G_law_want : FnOk P w K mg base CX0 2 a.f_law_want a.d_law_want ["_law_cell", "_law_cells"] (sp_law_want K a) := ok_law_want T
  refine T.law_wishes.fn.ok sc_law_wishes (fun vs H Q E h => by first | (obtain ⟨rfl, _⟩ := h; rfl) | (obtain ⟨_, rfl, _⟩ := h; rfl) | (obtain ⟨_, _, rfl, _⟩ := h; rfl) | (obtain ⟨_, _, _, rfl, _⟩ := h; rfl) | (obtain ⟨_, _, _, _, rfl, _⟩ := h; rfl) | (obtain ⟨_, _, _, _, _, rfl, _⟩ := h; rfl) | (obtain ⟨_, _, _, _, _, _, rfl, _⟩ := h; rfl) | (obtain ⟨_, _, _, _, _, _, _, rfl, _⟩ := h; rfl) | (obtain ⟨_, _, _, _, _, _, _, _, rfl, _⟩ := h; rfl) | (obtain ⟨_, _, _, _, _, _, _, _, _, rfl, _⟩ := h; rfl) | (obtain ⟨_, _, _, _, _, _, _, _, _, _, rfl, _⟩ := h; rfl) | (obtain ⟨_, _, _, _, _, _, _, _, _, _, _, rfl, _⟩ := h; rfl)) (fun cdv A outer s H vs Q E hr h => ?_)
  refine ⟨_, pss_cons (ps_set (i := 3) sc_law_wishes.nd rfl (Or.inr rfl) (pe_call G_law_cell_at (hr.mono (by decide)) rfl T.law_cell_at.mg T.law_cell_at.fn.kp T.law_cell_at.bd .nil pass0 (pa_cons (pv 0) (pa_cons pe_int pa_nil))))
      (pss_cons (ps_if (PW.pt (pw_and (pt_cmpR (op_eqD hr.units) (pv 1) (pe_lst pa_nil) (nomark _)) (pw_and1 (pt_cmpR op_eq (pe_op op_mod (pe_op op_fdiv (pv 3) pe_int) pe_int) pe_int (nomark _))))) (pss_one (ps_ret (pe_lc (own := [("_law_k", 7)]) (g := gName 7) rfl sc_law_wishes.nd (pi_range1 rfl T.z_range (pa_cons (pe_op op_mod (pe_op op_fdiv (pv 3) pe_int) pe_int) pa_nil)) (blkOk_by (own := [("_law_k", 7)]) (N := ["_law_script", "_law_held", "_law_cells", "_law_draw", "_law_behind_here", "_law_wants", "_law_cell", "_law_k", "_law_want_here"]) (sc := defScope s_law_wishes) (by decide +kernel)) (fun _ _ _ _ _ => (pg_name (i := 7) sc_law_wishes.nd rfl (Or.inl rfl))) (fun _ _ _ _ _ => pts_nil) (fun _ _ _ _ _ => (pe_op op_add pe_int (pe_op op_mod (pe_op op_add (pv 3) (pe_op op_mulX (pe_op op_fdiv (pv 3) pe_int) (pv 7))) pe_int)))))) pss_nil)
      (pss_cons (ps_if (pt_cmpR (op_eqD hr.units) (pv 1) (pe_lst pa_nil) (nomark _)) (pss_one (ps_ret (pe_op op_cat (pe_call G_law_halves (hr.mono (by decide)) rfl T.law_halves.mg T.law_halves.fn.kp T.law_halves.bd .nil pass0 (pa_cons (pv 2) (pa_cons (pe_slice sl_list (pv 0) (po_some pe_int) (po_some pe_int)) pa_nil))) (pe_lc (own := [("_law_k", 7)]) (g := gName 7) rfl sc_law_wishes.nd (pi_range1 rfl T.z_range (pa_cons (pe_callTy call_int1 (by rfl) T.z_int (by decide +kernel) (pa_cons (pe_cmpR op_eq (pe_op op_mod (pe_op op_fdiv (pv 3) pe_int) pe_int) pe_int (nomark _)) pa_nil)) pa_nil)) (blkOk_by (own := [("_law_k", 7)]) (N := ["_law_script", "_law_held", "_law_cells", "_law_draw", "_law_behind_here", "_law_wants", "_law_cell", "_law_k", "_law_want_here"]) (sc := defScope s_law_wishes) (by decide +kernel)) (fun _ _ _ _ _ => (pg_name (i := 7) sc_law_wishes.nd rfl (Or.inl rfl))) (fun _ _ _ _ _ => pts_nil) (fun _ _ _ _ _ => (pe_op op_add pe_int (pe_op op_mod (pv 3) pe_int))))))) pss_nil)
      (pss_cons (ps_set (i := 4) sc_law_wishes.nd rfl (Or.inl rfl) (pe_op op_add pe_int (pe_op op_mod (pv 3) pe_int)))
      (pss_cons (ps_setLc (i := 5) (own := [("_law_cell", 6)]) (g := gName 6) (te := (tCall (sp_law_want K a) [] E0 (tCons (tVar 6) (tCons (tVar 2) tNil)))) rfl sc_law_wishes.nd rfl rfl (sw_true rfl rfl rfl (by decide +kernel)) (pi_list (pe_slice sl_list (pv 0) (po_some (pv 4)) (po_some (pe_op op_add (pv 4) (pe_op op_mod (pe_op op_fdiv (pv 3) pe_int) pe_int))))) (blkOk_by (own := [("_law_cell", 6)]) (N := ["_law_script", "_law_held", "_law_cells", "_law_draw", "_law_behind_here", "_law_wants", "_law_cell", "_law_k", "_law_want_here"]) (sc := defScope s_law_wishes) (by decide +kernel)) (fun _ _ _ _ _ => (pg_name (i := 6) sc_law_wishes.nd rfl (Or.inl rfl))) (fun _ _ _ _ _ => pts_nil) (fun _ _ _ _ _ => (pe_call G_law_want (hr.mono (by decide)) rfl T.law_want.mg T.law_want.fn.kp T.law_want.bd .nil pass0 (pa_cons (pv 6) (pa_cons (pv 2) pa_nil)))))
      (pss_cons (ps_if (pt_cmpR op_ne (pe_op op_mod (pe_op op_fdiv (pv 3) pe_int) pe_int) pe_int (nomark _)) (pss_one (ps_setLc (i := 5) (own := [("_law_want_here", 8)]) (g := gName 8) (te := (tCB (fun xs H Q => ∃ i j, xs = [.int i, .int j] ∧ Q (.int (if j > i then j else i)) H) (tCons (tC (.int 1)) (tCons (tCB (fun xs H Q => ∃ i j, xs = [.int i, .int j] ∧ Q (.int (if j < i then j else i)) H) (tCons (tVar 8) (tCons (tVar 2) tNil))) tNil)))) rfl sc_law_wishes.nd rfl rfl (sw_true rfl rfl rfl (by decide +kernel)) (pi_list (pv 5)) (blkOk_by (own := [("_law_want_here", 8)]) (N := ["_law_script", "_law_held", "_law_cells", "_law_draw", "_law_behind_here", "_law_wants", "_law_cell", "_law_k", "_law_want_here"]) (sc := defScope s_law_wishes) (by decide +kernel)) (fun _ _ _ _ _ => (pg_name (i := 8) sc_law_wishes.nd rfl (Or.inl rfl))) (fun _ _ _ _ _ => pts_nil) (fun _ _ _ _ _ => (pe_callB (call_max2 rfl) (by rfl) T.z_max PyProof.Rows.boot_max (pa_cons pe_int (pa_cons (pe_callB (call_min2 rfl) (by rfl) T.z_min PyProof.Rows.boot_min (pa_cons (pv 8) (pa_cons (pv 2) pa_nil))) pa_nil)))))) pss_nil)
      (pss_one (ps_ret (pv 5)))))))), ?_⟩
  obtain ⟨l, lh, ns, ts, held, d, rfl, hS, hl, hB, hat, tups, d60, q⟩ := h
  refine ⟨_, rfl, l, ns, 2, rfl, hS, hl, nm ?_⟩
  dsimp only
  refine ⟨_, rfl, by show 0 ≤ sizeLine; decide, fun e1 ne1 => ?_⟩
  have k1 := newK (o := .lst []) ne1
  have g1 : L2.upd H e1 (.lst []) e1 = some (.lst []) := upd_same
  generalize L2.upd H e1 (.lst []) = H1 at k1 g1 ⊢
  refine ⟨_, _, dp_list (k1 _ _ hat) (tups.keep fun t xs e => k1 _ _ e), dp_nil g1, dL_shaped _, dL_shaped _, _, rfl, ?_⟩
  rw [dL_eqv]
  have cb : Builtin.Int.intBits (cell ns 2) ≤ 1048576 := by
    unfold cell
    cases e : ns[2]? with
    | none =>
      rw [List.getD, e]
      exact (by decide : Builtin.Int.intBits 0 ≤ 1048576)
    | some z =>
      rw [List.getD, e]
      exact hB z (List.mem_of_getElem? e)
  generalize cell ns 2 = c at cb ⊢
  by_cases eh : held.map toI = []
  · refine iteTof (decide_eq_true eh) ?_
    refine ⟨_, rfl, _, _, rfl, rfl, ⟨by decide, by decide⟩, _, _, rfl, rfl, by show (0 : Int) < 6; decide, rfl, _, rfl, ite2 (fun _ => ?_) (fun _ => ?_)⟩
    · obtain ⟨m, em, lm⟩ := emod_nat (c / 270) (n := 199) (by decide)
      have em : c / 270 % 199 = (m : Int) := em
      refine ⟨_, rfl, _, _, rfl, rfl, ⟨by decide, by decide⟩, _, _, rfl, rfl, by show (0 : Int) < 199; decide, ?_⟩
      dsimp only
      rw [em]
      refine ⟨_, rfl, by omega, by omega, fun D nD => ?_⟩
      refine lc_out walk_range (fun j H' => ∃ xs : List Int, H' D = some (.lst (xs.map V.int)) ∧ xs.length = j ∧ (∀ x ∈ xs, x ≤ ((2 ^ 200 : Nat) : Int)) ∧ (∀ b o, H1 b = some o → H' b = some o))
        ⟨[], upd_same, rfl, (fun x hx => by cases hx), newK nD⟩ (fun j H' _ _ => True.intro) ?_ ?_
      · rintro j v H5 H6 hj ⟨xs, hD, lx, bx, s5⟩ ⟨rfl, rfl⟩
        have hj : j < m := by have hj' : j < ((m : Int) - 0).toNat := hj; omega
        have cm : CMulX (c / 270) ((0 : Int) + j) := by
          have h1 : Builtin.Int.intBits (c / 270) ≤ 1048576 := by
            have h := intBits_fdiv_le (y := 270) cb
            rwa [Int.fdiv_eq_ediv_of_nonneg c (by decide)] at h
          have h2 : Builtin.Int.intBits ((0 : Int) + j) ≤ 64 := PyProof.Rows.intBits_le (by omega)
          unfold CMulX
          omega
        refine ⟨rfl, ?_⟩
        refine ⟨_, rfl, _, rfl, _, _, rfl, rfl, ⟨by decide, by decide⟩, _, rfl, _, _, rfl, rfl, cm, _, _, rfl, rfl, _, _, rfl, rfl, by show (0 : Int) < 9; decide, _, _, rfl, rfl, ?_⟩
        generalize c + c / 270 * ((0 : Int) + j) = y
        have y9 := Int.emod_lt_of_pos y (show (0 : Int) < 9 by decide)
        have p200 : (10 : Int) ≤ ((2 ^ 200 : Nat) : Int) := by decide
        refine ⟨_, hD, by rw [List.length_map, sizeLine_eq]; omega, xs ++ [1 + y % 9], ?_, ?_, fun x hx => ?_, fun b2 o e => ?_⟩
        · rw [List.map_append]
          exact upd_same
        · rw [List.length_append, lx]
          rfl
        · rcases List.mem_append.mp hx with z | z
          · exact bx x z
          · rw [List.mem_singleton.mp z]
            omega
        · rw [upd_ne (fun z => by rw [z, nD] at e; cases e)]
          exact s5 _ _ e
      rintro H5 ⟨xs, hD, lx, bx, s5⟩
      have lx : xs.length = m := by have lx' : xs.length = ((m : Int) - 0).toNat := lx; omega
      exact q D xs H5 (fun b o e => s5 _ _ (k1 _ _ e)) (unK' k1 nD) hD (by omega) bx
    · refine ⟨_, rfl, by show 0 ≤ sizeLine; decide, fun e2 ne2 => ?_⟩
      have k2 := newK (o := .lst []) ne2
      have g2 : L2.upd H1 e2 (.lst []) e2 = some (.lst []) := upd_same
      generalize L2.upd H1 e2 (.lst []) = H2 at k2 g2 ⊢
      have k02 : ∀ b o, H b = some o → H2 b = some o := fun b o e => k2 _ _ (k1 _ _ e)
      refine ⟨_, _, dp_list (k02 _ _ hat) (tups.keep fun t xs e => k02 _ _ e), dp_nil g2, dL_shaped _, dL_shaped _, _, rfl, ?_⟩
      rw [dL_eqv]
      refine iteTof (decide_eq_true eh) ?_
      obtain ⟨row, er⟩ : ∃ row : List Int, cutV (ns.map V.int) (some 3) (some 23) = row.map V.int := ⟨_, by
        unfold cutV
        rw [← List.map_drop, ← List.map_take, List.length_map]⟩
      have lrow : row.length ≤ 20 := by
        have e := congrArg List.length er
        rw [List.length_map] at e
        have hl := cutV_length (ns.map V.int) (some 3) (some 23)
        rw [← e]
        unfold cutV
        rw [show (some 3 : Option Int) = some ((3 : Nat) : Int) from rfl, show (some 23 : Option Int) = some ((23 : Nat) : Int) from rfl, HT.sIx_nat, HT.sIx_nat, List.length_take]
        omega
      refine ⟨_, rfl, _, rfl, _, rfl, _, rfl, l, _, rfl, seq_keep hS fun o e => k02 _ _ e, fun D nD => ?_⟩
      rw [er]
      have k3 := newK (o := .lst (row.map V.int)) nD
      have h3 : L2.upd H2 D (.lst (row.map V.int)) D = _ := upd_same
      generalize L2.upd H2 D (.lst (row.map V.int)) = H3 at k3 h3 ⊢
      refine ⟨D, row, d, rfl, h3, lrow, d60, fun b xs H4 k4 nb hb lx lex => ?_⟩
      have k04 : ∀ b o, H b = some o → H4 b = some o := fun b o e => k4 _ _ (k3 _ _ (k02 _ _ e))
      refine ⟨_, rfl, _, _, rfl, rfl, ⟨by decide, by decide⟩, _, _, rfl, rfl, by show (0 : Int) < 5; decide, rfl, .inr ⟨_, rfl, ?_⟩⟩
      obtain ⟨m, em, lm⟩ : ∃ m : Nat, (if (decide (V.int (c / 9 % 5) = V.int 1)) = true then (1 : Int) else 0) = (m : Int) ∧ m ≤ 1 := by
        split
        · exact ⟨1, rfl, by omega⟩
        · exact ⟨0, rfl, by omega⟩
      dsimp only
      rw [em]
      refine ⟨_, rfl, by omega, by omega, fun G nG => ?_⟩
      have y9 := Int.emod_lt_of_pos c (show (0 : Int) < 9 by decide)
      have p200 : (10 : Int) ≤ ((2 ^ 200 : Nat) : Int) := by decide
      have p60 : ((2 ^ 60 : Nat) : Int) ≤ ((2 ^ 200 : Nat) : Int) := by decide
      refine lc_out walk_range (fun j H' => ∃ zs : List Int, H' G = some (.lst (zs.map V.int)) ∧ zs.length = j ∧ (∀ x ∈ zs, x ≤ ((2 ^ 200 : Nat) : Int)) ∧ (∀ b o, H4 b = some o → H' b = some o))
        ⟨[], upd_same, rfl, (fun x hx => by cases hx), newK nG⟩ (fun j H' _ _ => True.intro) ?_ ?_
      · rintro j v H5 H6 hj ⟨zs, hG, lz, bz, s5⟩ ⟨rfl, rfl⟩
        have hj : j < m := by have hj' : j < ((m : Int) - 0).toNat := hj; omega
        refine ⟨rfl, ?_⟩
        refine ⟨_, rfl, _, _, rfl, rfl, by show (0 : Int) < 9; decide, _, _, rfl, rfl, ?_⟩
        refine ⟨_, hG, by rw [List.length_map, sizeLine_eq]; omega, zs ++ [1 + c % 9], ?_, ?_, fun x hx => ?_, fun b2 o e => ?_⟩
        · rw [List.map_append]
          exact upd_same
        · rw [List.length_append, lz]
          rfl
        · rcases List.mem_append.mp hx with z | z
          · exact bz x z
          · rw [List.mem_singleton.mp z]
            omega
        · rw [upd_ne (fun z => by rw [z, nG] at e; cases e)]
          exact s5 _ _ e
      rintro H5 ⟨zs, hG, lz, bz, s5⟩
      have lz : zs.length = m := by have lz' : zs.length = ((m : Int) - 0).toNat := lz; omega
      refine ⟨b, G, _, _, rfl, rfl, s5 _ _ hb, hG, by rw [List.length_map, List.length_map, sizeLine_eq]; omega, fun F nF => ?_⟩
      have k05 : ∀ b o, H b = some o → H5 b = some o := fun b o e => s5 _ _ (k04 _ _ e)
      refine q F (xs ++ zs) _ (fun b o e => newK nF _ _ (k05 _ _ e)) (unK' k05 nF) (by rw [upd_same, List.map_append]) (by rw [List.length_append]; omega) fun x hx => ?_
      rcases List.mem_append.mp hx with z | z
      · have := lex x z
        omega
      · exact bz x z
  · refine iteFof (decide_eq_false eh) (iteFof rfl ?_)
    refine ⟨_, rfl, by show 0 ≤ sizeLine; decide, fun e2 ne2 => ?_⟩
    have k2 := newK (o := .lst []) ne2
    have g2 : L2.upd H1 e2 (.lst []) e2 = some (.lst []) := upd_same
    generalize L2.upd H1 e2 (.lst []) = H2 at k2 g2 ⊢
    have k02 : ∀ b o, H b = some o → H2 b = some o := fun b o e => k2 _ _ (k1 _ _ e)
    refine ⟨_, _, dp_list (k02 _ _ hat) (tups.keep fun t xs e => k02 _ _ e), dp_nil g2, dL_shaped _, dL_shaped _, _, rfl, ?_⟩
    rw [dL_eqv]
    refine iteFof (decide_eq_false eh) (nm ?_)
    dsimp only
    refine ⟨_, rfl, _, _, rfl, rfl, by show (0 : Int) < 11; decide, _, _, rfl, rfl, nm ?_⟩
    dsimp only
    refine ⟨_, rfl, _, rfl, _, rfl, _, rfl, _, rfl, _, _, rfl, rfl, ⟨by decide, by decide⟩, _, _, rfl, rfl, by show (0 : Int) < 21; decide, _, _, rfl, rfl, _, rfl, l, _, rfl, seq_keep hS fun o e => k02 _ _ e, fun D nD => ?_⟩
    dsimp only
    generalize 3 + c % 11 = u
    obtain ⟨row, er⟩ : ∃ row : List Int, cutV (ns.map V.int) (some u) (some (u + c / 11 % 21)) = row.map V.int := ⟨_, by
      unfold cutV
      rw [← List.map_drop, ← List.map_take, List.length_map]⟩
    have lrow : row.length ≤ 63 := by
      have e := congrArg List.length er
      rw [List.length_map] at e
      have hl2 := cutV_length (ns.map V.int) (some u) (some (u + c / 11 % 21))
      rw [List.length_map] at hl2
      omega
    rw [er]
    have k3 := newK (o := .lst (row.map V.int)) nD
    have h3 : L2.upd H2 D (.lst (row.map V.int)) D = _ := upd_same
    generalize L2.upd H2 D (.lst (row.map V.int)) = H3 at k3 h3 ⊢
    refine ⟨D, rfl, ⟨_, SqL.of h3⟩, fun G nG => ?_⟩
    have k03 : ∀ b o, H b = some o → H3 b = some o := fun b o e => k3 _ _ (k02 _ _ e)
    refine lc_out walk_list (fun j H' => ∃ zs : List Int, H' G = some (.lst (zs.map V.int)) ∧ zs.length = j ∧ (∀ x ∈ zs, x ≤ ((2 ^ 200 : Nat) : Int)) ∧ (∀ b o, H3 b = some o → H' b = some o))
      ⟨[], upd_same, rfl, (fun x hx => by cases hx), newK nG⟩ (fun j H' _ ⟨_, _, _, _, k⟩ => SqL.of (k _ _ h3)) ?_ ?_
    · rintro j v H5 H6 hj ⟨zs, hG, lz, bz, s5⟩ ⟨rfl, hv⟩
      rw [List.length_map] at hj
      rw [List.getElem?_map] at hv
      obtain ⟨c', hc', rfl⟩ := Option.map_eq_some_iff.mp hv
      refine ⟨rfl, ?_⟩
      refine ⟨_, rfl, _, rfl, c', d, rfl, d60, fun H7 s7 => ?_⟩
      have wl := wantF_le (c := c') d60
      refine ⟨_, s7 _ _ hG, by rw [List.length_map, sizeLine_eq]; omega, zs ++ [wantF c' d], ?_, ?_, fun x hx => ?_, fun b2 o e => ?_⟩
      · rw [List.map_append]
        exact upd_same
      · rw [List.length_append, lz]
        rfl
      · rcases List.mem_append.mp hx with z | z
        · exact bz x z
        · rw [List.mem_singleton.mp z]
          exact wl
      · rw [upd_ne (fun z => by rw [z, nG] at e; cases e)]
        exact s7 _ _ (s5 _ _ e)
    rintro H5 ⟨zs, hG, lz, bz, s5⟩
    rw [List.length_map] at lz
    have k05 : ∀ b o, H b = some o → H5 b = some o := fun b o e => s5 _ _ (k03 _ _ e)
    refine nm ?_
    refine ⟨_, rfl, _, _, rfl, rfl, ⟨by decide, by decide⟩, _, _, rfl, rfl, by show (0 : Int) < 4; decide, rfl, _, rfl, ite2 (fun _ => ?_) (fun _ => ?_)⟩
    · refine ⟨_, rfl, G, rfl, ⟨_, SqL.of hG⟩, fun F nF => ?_⟩
      refine lc_out walk_list (fun j H' => ∃ ys : List Int, H' F = some (.lst (ys.map V.int)) ∧ ys.length = j ∧ (∀ x ∈ ys, x ≤ ((2 ^ 200 : Nat) : Int)) ∧ (∀ b o, H5 b = some o → H' b = some o))
        ⟨[], upd_same, rfl, (fun x hx => by cases hx), newK nF⟩ (fun j H' _ ⟨_, _, _, _, k⟩ => SqL.of (k _ _ hG)) ?_ ?_
      · rintro j v H6 H7 hj ⟨ys, hF, ly, by_, s6⟩ ⟨rfl, hv⟩
        rw [List.length_map] at hj
        rw [List.getElem?_map] at hv
        obtain ⟨c', hc', rfl⟩ := Option.map_eq_some_iff.mp hv
        have bc := bz c' (List.mem_of_getElem? hc')
        have p200 : (10 : Int) ≤ ((2 ^ 200 : Nat) : Int) := by decide
        have pd : ((2 ^ d : Nat) : Int) ≤ ((2 ^ 200 : Nat) : Int) := pow_le_iff.mpr (by omega)
        refine ⟨rfl, ?_⟩
        refine ⟨_, rfl, _, rfl, _, _, rfl, _, _, rfl, ?_⟩
        refine ⟨_, hF, by rw [List.length_map, sizeLine_eq]; omega, ys ++ [_], by rw [upd_same, List.map_append]; rfl, by rw [List.length_append, ly]; rfl, fun x hx => ?_, fun b2 o e => ?_⟩
        · rcases List.mem_append.mp hx with z | z
          · exact by_ x z
          · rw [List.mem_singleton.mp z]
            split <;> split <;> omega
        · rw [upd_ne (fun z => by rw [z, nF] at e; cases e)]
          exact s6 _ _ e
      rintro H6 ⟨ys, hF, ly, by_, s6⟩
      rw [List.length_map] at ly
      exact ⟨_, rfl, q F ys H6 (fun b o e => s6 _ _ (k05 _ _ e)) (unK' k05 nF) hF (by omega) by_⟩
    · exact ⟨_, rfl, q G zs H5 k05 (unK' k03 nG) hG (by omega) bz⟩
end
/-! ### law_k11: behind, what is granted there -/
theorem wishK_nil : wishK [] = [] := List.length_eq_zero_iff.mp (wishK_len [])
theorem wishK_one : wishK [1] = [0] := by
  have p := wishK_perm [1]
  have e : ([1] : List Int).map fit = [0] := by rw [List.map_cons, List.map_nil, fit_one]
  rw [e] at p
  exact List.perm_singleton.mp p
theorem gv_nil {d : Nat} {os : List PN} {ns : List Nat} (h : Gv d os [] ns) : ns = [] := by
  cases h
  rfl
/-- a cell is free: a piece of one cell is granted -/
theorem gv_one {d c : Nat} {os : List PN} (hc : c < 2 ^ d) (no : ¬ Oc os c) : ∃ ns, Gv d os [0] ns := by
  rcases best_or os d 0 with z | ⟨m, n, b⟩
  · have f : Fr (Oc os) 0 c := fun x e => by
      rw [Nat.pow_zero, Nat.div_one] at e
      rw [e]
      exact no
    exact absurd f ((free_iff (Nat.zero_le d)).mpr z c hc)
  · exact ⟨[n], .cons b .nil⟩
theorem gv_single {d : Nat} {os : List PN} {k : Nat} {ns : List Nat} (h : Gv d os [k] ns) : ∃ n m, ns = [n] ∧ Best os d k m n := by
  cases h with
  | cons b r =>
    cases r
    exact ⟨_, _, rfl, b⟩
/-! ### law_k11: behind -/
def sp_law_behind (K : PySem.W.Frag) (a : Ad) : Sp := fun vs H Q _ => ∃ (Y : YA) (d : Nat) (os held : List PN) (lp lh : Addr) (pl : List Int) (ts : List Addr), vs = [.ref Y.y, .ref lp, .ref lh] ∧ YardAt a Y d os H ∧ H lp = some (.lst (pl.map V.int)) ∧ lp ∉ own Y d ∧ HeldAt (own Y d) H lh held ∧ held.Perm os ∧ os.length ≤ 400 ∧ d ≤ 60 ∧ pl.length ≤ 400 ∧ TabsG a H ∧
  ∀ H', (∀ b o, H b = some o → (∀ ps, o ≠ .tbl ps) → b ∉ own Y d → b ≠ lp → H' b = some o) → Q (.bl true) H'
section
variable {P : Program} {w : World} {K : PySem.W.Frag} {mg : Str → Option Value} {base : Heap} {a : Ad}
theorem ok_law_behind (T : Txt K mg a) (TB : LamX.TabB base mg a.q_give_all a.p_give_all) : FnOk P w K mg base CX0 6 a.f_law_behind a.d_law_behind ["_law_yard", "_law_places", "_law_held"] (sp_law_behind K a) := by
  have G_Yard_out : FnOk P w K mg base CX0 1 a.f_Yard_out a.d_Yard_out ["self"] (sp_Yard_out K a) := ok_Yard_out T
  have G_Yard_owner : FnOk P w K mg base CX0 1 a.f_Yard_owner a.d_Yard_owner ["self", "cell"] (sp_Yard_owner K a) := ok_Yard_owner T
  have G_Yard_take_back : FnOk P w K mg base (L2.CX P w) 4 a.f_Yard_take_back a.d_Yard_take_back ["self", "at"] (sp_Yard_take_back K a) := ok_Yard_take_back T
  have G_give_all : FnOk P w K mg base (L2.CX P w) 5 a.f_give_all a.d_give_all ["yard", "wants"] (sp_give_all K a) := ok_give_all T TB
  refine T.law_behind.fn.ok sc_law_behind (fun vs H Q E h => by first | (obtain ⟨rfl, _⟩ := h; rfl) | (obtain ⟨_, rfl, _⟩ := h; rfl) | (obtain ⟨_, _, rfl, _⟩ := h; rfl) | (obtain ⟨_, _, _, rfl, _⟩ := h; rfl) | (obtain ⟨_, _, _, _, rfl, _⟩ := h; rfl) | (obtain ⟨_, _, _, _, _, rfl, _⟩ := h; rfl) | (obtain ⟨_, _, _, _, _, _, rfl, _⟩ := h; rfl) | (obtain ⟨_, _, _, _, _, _, _, rfl, _⟩ := h; rfl) | (obtain ⟨_, _, _, _, _, _, _, _, rfl, _⟩ := h; rfl) | (obtain ⟨_, _, _, _, _, _, _, _, _, rfl, _⟩ := h; rfl) | (obtain ⟨_, _, _, _, _, _, _, _, _, _, rfl, _⟩ := h; rfl) | (obtain ⟨_, _, _, _, _, _, _, _, _, _, _, rfl, _⟩ := h; rfl)) (fun cdv A outer s H vs Q E hr h => ?_)
  refine ⟨_, pss_cons (ps_set (i := 3) sc_law_behind.nd rfl (Or.inl rfl) (pe_callTy call_list_of (by rfl) T.z_list (by decide +kernel) (pa_cons (pv 1) pa_nil)))
      (pss_cons (ps_if (PW.pt (pw_or (pt_cmpR (op_neD hr.units) (pe_call G_give_all (hr.mono (by decide)) rfl T.give_all.mg T.give_all.fn.kp T.give_all.bd .nil passL (pa_cons (pv 0) (pa_cons (pe_lst pa_nil) pa_nil))) (pe_lst pa_nil) (nomark _)) (pw_or (pt_cmpR (op_neD hr.units) (pv 1) (pv 3) (nomark _)) (pw_or1 (pt_cmpR (op_neD hr.units) (pe_meth0 (pv 0) T.cl_Yard T.m_Yard_out G_Yard_out (hr.mono (by decide)) T.b_Yard_out .nil pass0) (pe_callB cr_sortedTups (by rfl) T.z_sorted (by decide +kernel) (pa_cons (pv 2) pa_nil)) (nomark _)))))) (pss_one (ps_ret pe_bl)) pss_nil)
      (pss_cons (ps_for PassesOwn.never rfl (pi_list (pv 2)) (pg_name (i := 4) sc_law_behind.nd rfl (Or.inl rfl)) (pss_one (ps_if (pt_cmpR op_ne (pe_meth (pv 0) T.cl_Yard T.m_Yard_owner G_Yard_owner (hr.mono (by decide)) T.b_Yard_owner .nil pass0 (pa_cons (pe_op op_sub (pe_op op_add (pe_ix ix_tup (pv 4) pe_int (fun _ _ => rfl)) (pe_ix ix_tup (pv 4) pe_int (fun _ _ => rfl))) pe_int) pa_nil)) (pe_ix ix_tup (pv 4) pe_int (fun _ _ => rfl)) (nomark _)) (pss_one (ps_ret pe_bl)) pss_nil)))
      (pss_cons (ps_for PassesOwn.never rfl (pi_list (pe_slice sl_list (pv 2) po_none (po_some pe_int))) (pg_name (i := 4) sc_law_behind.nd rfl (Or.inl rfl)) (pss_cons (ps_expr (pe_meth (pv 0) T.cl_Yard T.m_Yard_take_back G_Yard_take_back (hr.mono (by decide)) T.b_Yard_take_back .nil passL (pa_cons (pe_ix ix_tup (pv 4) pe_int (fun _ _ => rfl)) pa_nil)))
      (pss_cons (ps_set (i := 5) sc_law_behind.nd rfl (Or.inl rfl) (pe_call G_give_all (hr.mono (by decide)) rfl T.give_all.mg T.give_all.fn.kp T.give_all.bd .nil passL (pa_cons (pv 0) (pa_cons (pe_lst (pa_cons pe_int pa_nil)) pa_nil))))
      (pss_cons (ps_if (PW.pt (pw_or (pt_not (pt_val (pe_callB call_isi (by rfl) T.z_isinstance PyProof.Rows.boot_isinstance (pa_cons (pv 5) (pa_cons (pe_bltn (v := .ty "list") (by rfl) T.z_list (by decide +kernel) rfl) pa_nil))))) (pw_or (pt_cmpR op_ne (pe_callB call_len_seq (by rfl) T.z_len PySem.boot_len (pa_cons (pv 5) pa_nil)) pe_int (nomark _)) (pw_or1 (pt_cmpR (op_neD hr.units) (pv 1) (pv 3) (nomark _)))))) (pss_one (ps_ret pe_bl)) pss_nil)
      (pss_one (ps_expr (pe_meth (pv 0) T.cl_Yard T.m_Yard_take_back G_Yard_take_back (hr.mono (by decide)) T.b_Yard_take_back .nil passL (pa_cons (pe_ix ix_list (pv 5) pe_int (fun _ _ => rfl)) pa_nil))))))))
      (pss_cons (ps_expr (pe_bm0 PySem.F.plainAttrs_list PySem.F.slot_list_clear PySem.F.type_list_clear mt_clear (pv 1)))
      (pss_one (ps_ret (pe_cmpR (op_eqD hr.units) (pe_meth0 (pv 0) T.cl_Yard T.m_Yard_out G_Yard_out (hr.mono (by decide)) T.b_Yard_out .nil pass0) (pe_callB cr_sortedTups (by rfl) T.z_sorted (by decide +kernel) (pa_cons (pe_slice sl_list (pv 2) (po_some pe_int) po_none) pa_nil)) (nomark _)))))))), ?_⟩
  obtain ⟨Y, d, os, held, lp, lh, pl, _, rfl, ya, hp, nlp, ha, pm, few, d60, lpl, tb, q⟩ := h
  refine ⟨_, rfl, lp, _, rfl, .inl (SqL.of hp), fun lk nk => nm ?_⟩
  dsimp only
  have k1 := newK (o := .lst (pl.map V.int)) nk
  have hk1 : L2.upd H lk (.lst (pl.map V.int)) lk = _ := upd_same
  have nlk : lk ∉ own Y d := ya.new nk
  generalize L2.upd H lk (.lst (pl.map V.int)) = H1 at k1 hk1 ⊢
  refine ⟨_, rfl, by show 0 ≤ sizeLine; decide, fun e1 ne1 => ?_⟩
  have k2 := newK (o := .lst []) ne1
  have g2 : L2.upd H1 e1 (.lst []) e1 = some (.lst []) := upd_same
  generalize L2.upd H1 e1 (.lst []) = H2 at k2 g2 ⊢
  have k02 : ∀ b o, H b = some o → H2 b = some o := fun b o e => k2 _ _ (k1 _ _ e)
  have y2 := ya.keep k02
  have t2 := tb.keep k02
  refine ⟨Y, d, os, e1, [], rfl, y2, SqL.of g2, by simp, by simp; omega, t2, fun z => ?_, fun pos no H3 _ _ _ => ?_, fun ns fx gv g0 H3 y3 o3 t3 ng _ hg => ?_⟩
  · obtain ⟨x, hx, _⟩ := z
    cases hx
  · exact absurd ⟨(fun x hx => by cases hx), [], by rw [wishK_nil]; exact .nil⟩ no
  rw [wishK_nil] at gv y3
  have en := gv_nil gv
  subst en
  rw [List.zip_nil_left, List.append_nil] at y3
  have o03 : OnlyN (own Y d) H H3 := (OnlyN.of (Only.same k02)).trans o3
  have hp3 := o03 _ _ hp (fun _ z => by cases z) nlp
  have hk3 := o3 _ _ (k2 _ _ hk1) (fun _ z => by cases z) nlk
  have h3 := ha.onlyN ya o03
  have hg : H3 g0 = some (.lst (([] : List Int).map V.int)) := hg
  refine ⟨by show 0 ≤ sizeLine; decide, fun e3 ne3 => ?_⟩
  have k4 := newK (o := .lst []) ne3
  refine ⟨_, _, dp_ints (SqL.of (k4 _ _ hg)), dp_ints (ns := []) (SqL.of upd_same), dI_shaped _, dI_shaped _, _, rfl, iteFof ?_ ?_⟩
  · rw [dI_eqv, decide_eq_true rfl]
    rfl
  refine ⟨_, rfl, _, rfl, _, _, dp_ints (SqL.of (k4 _ _ hp3)), dp_ints (SqL.of (k4 _ _ hk3)), dI_shaped _, dI_shaped _, _, rfl, iteFof ?_ ?_⟩
  · rw [dI_eqv, decide_eq_true rfl]
    rfl
  have hp4 := k4 _ _ hp3
  have hk4 := k4 _ _ hk3
  have y4 := y3.keep k4
  have t4 := t3.keep k4
  have h4 := h3.same k4
  generalize L2.upd H3 e3 (.lst []) = H4 at k4 hp4 hk4 y4 t4 h4 ⊢
  refine ⟨_, rfl, Y.y, Y.dy, _, rfl, y4.yo, yFs_no Y d (by decide +kernel) (by decide +kernel) (by decide +kernel), Y, d, os, rfl, y4, fun lo uo H5 s5 n5 at5 tu5 => ?_⟩
  obtain ⟨_, ts5, hat5, tups5⟩ := id (h4.same s5)
  refine ⟨_, rfl, _, ts5, _, rfl, SqL.of hat5, tups5, fun pc uc nc tc => ?_⟩
  have kc := newK (o := .lst (uc.map V.ref)) nc
  refine ⟨_, _, dp_list (kc _ _ at5) (tu5.keep fun t xs e => kc _ _ e), dp_list upd_same tc, dL_shaped _, dL_shaped _, _, rfl, iteFof ?_ ?_⟩
  · rw [dL_eqv, decide_eq_true (show outZ os = srt (held.map toI) from srt_eq (pm.symm.map toI))]
    rfl
  generalize L2.upd H5 pc (.lst (uc.map V.ref)) = H6 at kc
  have k46 : ∀ b o, H4 b = some o → H6 b = some o := fun b o e => kc _ _ (s5 _ _ e)
  have y6 := y4.keep k46
  have t6 := t4.keep k46
  have h6 := h4.same k46
  have hp6 := k46 _ _ hp4
  have hk6 := k46 _ _ hk4
  obtain ⟨nlh, ts6, hat6, tups6⟩ := id h6
  have lts := tups6.len
  rw [List.length_map] at lts
  refine nm ?_
  refine ⟨_, rfl, lh, rfl, ⟨_, SqL.of hat6⟩, ?_⟩
  refine for_list (xs := ts6.map V.ref) (fun i σ H' => ∃ (x4 x5 : Option V), σ = [some (.ref Y.y), some (.ref lp), some (.ref lh), some (.ref lk), x4, x5] ∧ H' = H6)
    ⟨_, _, rfl, rfl⟩ (fun i σ H' _ p => by obtain ⟨_, _, _, rfl⟩ := p; exact SqL.of hat6) ?_ ?_
  · rintro i v σ H7 hv ⟨x4, x5, rfl, rfl⟩
    have hj := (List.getElem?_eq_some_iff.mp hv).1
    rw [List.length_map, lts] at hj
    obtain ⟨p, hq⟩ : ∃ z, held[i]? = some z := ⟨_, List.getElem?_eq_getElem hj⟩
    obtain ⟨t, ht, hatt⟩ := tups6.get (i := i) (q := toI p) (by rw [List.getElem?_map, hq]; rfl)
    rw [List.getElem?_map, ht] at hv
    have hv := Option.some.inj hv
    subst hv
    have mo := pm.mem_iff.mp (List.mem_of_getElem? hq)
    have pk : 0 < 2 ^ p.2 := Nat.pow_pos (by decide)
    have inp : InP p ((p.1 : Int) + ((2 ^ p.2 : Nat) : Int) - 1) := ⟨by omega, by omega⟩
    refine ⟨_, rfl, Y.y, Y.dy, _, rfl, y6.yo, yFs_no Y d (by decide +kernel) (by decide +kernel) (by decide +kernel), _, rfl, t, _, _, nI p.1, rfl, rfl, SqT.of hatt, at_of (j := 0) rfl rfl, _, rfl, t, _, _, sI p.2, rfl, rfl, SqT.of hatt, at_of (j := 1) rfl rfl, _, _, rfl, rfl, _, _, rfl, rfl, Y, d, os, _, rfl, y6, fun no => absurd inp (no p mo), fun q2 hq2 c1 c2 => ?_⟩
    have e := inP_one y6.good hq2 mo ⟨c1, c2⟩ inp
    subst e
    refine ⟨_, rfl, t, _, _, nI q2.1, rfl, rfl, SqT.of hatt, at_of (j := 0) rfl rfl, rfl, _, rfl, iteFof (by simp) ?_⟩
    exact ⟨_, _, rfl, rfl⟩
  rintro σ H7 ⟨x4, x5, rfl, rfl⟩
  dsimp only
  refine ⟨_, rfl, _, rfl, lh, _, rfl, SqL.of hat6, fun D nD => ?_⟩
  rw [show (1 : Int) = ((1 : Nat) : Int) from rfl, cut_to']
  have k8 := newK (o := .lst ((ts6.map V.ref).take 1)) nD
  have hD : L2.upd H7 D (.lst ((ts6.map V.ref).take 1)) D = _ := upd_same
  generalize L2.upd H7 D (.lst ((ts6.map V.ref).take 1)) = H8 at k8 hD ⊢
  refine ⟨D, rfl, ⟨_, SqL.of hD⟩, ?_⟩
  have nDo : D ∉ own Y d := y6.new nD
  refine for_list (xs := (ts6.map V.ref).take 1) (fun i σ H' => ∃ (os' : List PN) (x4 x5 : Option V), σ = [some (.ref Y.y), some (.ref lp), some (.ref lh), some (.ref lk), x4, x5] ∧ YardAt a Y d os' H' ∧ (held.drop i).Perm os' ∧ TabsG a H' ∧ OnlyN (own Y d) H8 H')
    ⟨os, _, _, rfl, y6.keep k8, pm, t6.keep k8, OnlyN.of (Only.refl _ _)⟩ (fun i σ H' _ ⟨_, _, _, _, _, _, _, o⟩ => SqL.of (o _ _ hD (fun _ z => by cases z) nDo)) ?_ ?_
  · rintro i v σ H9 hv ⟨os9, x4, x5, rfl, y9, p9, t9, o9⟩
    have hj := (List.getElem?_eq_some_iff.mp hv).1
    rw [List.length_take, List.length_map, lts] at hj
    obtain rfl : i = 0 := by omega
    rw [List.drop_zero] at p9
    obtain ⟨p, hq⟩ : ∃ z, held[0]? = some z := ⟨_, List.getElem?_eq_getElem (by omega)⟩
    obtain ⟨t, ht, hatt⟩ := tups6.get (i := 0) (q := toI p) (by rw [List.getElem?_map, hq]; rfl)
    rw [List.getElem?_take_of_lt (by omega), List.getElem?_map, ht] at hv
    have hv := Option.some.inj hv
    subst hv
    have mo := p9.mem_iff.mp (List.mem_of_getElem? hq)
    have f9 := p9.length_eq
    have f0 := pm.length_eq
    have hatt9 := o9 _ _ (k8 _ _ hatt) (fun _ z => by cases z) (y6.off hatt (by intro xs z; cases z) (by intro xs z; cases z))
    have hp9 := o9 _ _ (k8 _ _ hp6) (fun _ z => by cases z) nlp
    have hk9 := o9 _ _ (k8 _ _ hk6) (fun _ z => by cases z) nlk
    refine nm ?_
    refine ⟨_, rfl, Y.y, Y.dy, _, rfl, y9.yo, yFs_no Y d (by decide +kernel) (by decide +kernel) (by decide +kernel), _, rfl, t, _, _, nI p.1, rfl, rfl, SqT.of hatt9, at_of (j := 0) rfl rfl, Y, d, os9, (p.1 : Int), rfl, y9, fun no => absurd rfl (no p mo), fun n k mk en H10 y10 o10 => ?_⟩
    have ep : p = (n, k) := y9.good.key mo mk (by show p.1 = n; omega)
    subst ep
    have t10 := t9.only y9 o10
    have o10 := OnlyN.of o10
    obtain ⟨g1, g2, g3⟩ := y9.good.each _ mk
    have nOc : ¬ Oc (outs os9 n) n := fun ⟨q, mq, e⟩ => by
      obtain ⟨m1, m2⟩ := List.mem_filter.mp mq
      have e2 := y9.good.one (c := n) mk m1 rfl e
      rw [← e2] at m2
      simp at m2
    refine ⟨_, rfl, by show 1 ≤ sizeLine; decide, fun l1 nl1 => ?_⟩
    have k11 := newK (o := .lst [V.int 1]) nl1
    have h11 : L2.upd H10 l1 (.lst [V.int 1]) l1 = _ := upd_same
    generalize L2.upd H10 l1 (.lst [V.int 1]) = H11 at k11 h11 ⊢
    have y11 := y10.keep k11
    have pd : 0 < 2 ^ d := Nat.pow_pos (by decide)
    have lo9 : (outs os9 n).length ≤ os9.length := List.length_filter_le _ _
    refine ⟨Y, d, outs os9 n, l1, [1], rfl, y11, SqL.of h11, by simp, by simp; omega, t10.keep k11, fun z => ?_, fun pos no H12 _ _ _ => ?_, fun ns fx2 gv2 g H12 y12 o12 t12 ngo _ hg => ?_⟩
    · obtain ⟨x, hx, h1⟩ := z
      rw [List.mem_singleton.mp hx] at h1
      omega
    · refine absurd ⟨fun x hx => ?_, ?_⟩ no
      · rw [List.mem_singleton.mp hx]
        omega
      · rw [wishK_one]
        exact gv_one g3 nOc
    rw [wishK_one] at gv2 y12
    obtain ⟨m, mm, rfl, bst⟩ := gv_single gv2
    have eo : byFall (fits [1]) = [0] := List.perm_singleton.mp (ord_perm (fits [1]))
    rw [eo] at hg
    have hg : H12 g = some (.lst ([(m : Int)].map V.int)) := hg
    have y12 : YardAt a Y d (outs os9 n ++ [(m, 0)]) H12 := y12
    have o912 : OnlyN (own Y d) H9 H12 := o10.trans ((OnlyN.of (Only.same k11)).trans o12)
    have hp12 := o912 _ _ hp9 (fun _ z => by cases z) nlp
    have hk12 := o912 _ _ hk9 (fun _ z => by cases z) nlk
    refine nm ?_
    refine ⟨_, rfl, _, _, _, _, true, rfl, .ty _, .base (.lst hg), kit_ty (by decide +kernel), true, rfl, iteFof rfl ?_⟩
    refine ⟨_, rfl, g, _, rfl, .inl (SqL.of hg), rfl, _, rfl, iteFof rfl ?_⟩
    refine ⟨_, rfl, _, rfl, _, _, dp_ints (SqL.of hp12), dp_ints (SqL.of hk12), dI_shaped _, dI_shaped _, _, rfl, iteFof ?_ ?_⟩
    · rw [dI_eqv, decide_eq_true rfl]
      rfl
    refine ⟨_, rfl, Y.y, Y.dy, _, rfl, y12.yo, yFs_no Y d (by decide +kernel) (by decide +kernel) (by decide +kernel), _, rfl, g, _, _, V.int (m : Int), rfl, rfl, SqL.of hg, at_of (j := 0) rfl rfl, Y, d, _, (m : Int), rfl, y12, fun no => absurd rfl (no (m, 0) (List.mem_append_right _ List.mem_cons_self)), fun n2 k2 mk2 en2 H13 y13 o13 => ?_⟩
    have en2 : n2 = m := by omega
    subst en2
    have eout : outs (outs os9 n ++ [(n2, 0)]) n2 = outs os9 n ++ [] := outs_mid (rest := []) y12.good
    rw [eout, List.append_nil] at y13
    refine ⟨outs os9 n, _, _, rfl, y13, ?_, t12.only y12 o13, o9.trans (o912.trans (OnlyN.of o13))⟩
    have gh : Good d held := y9.good.perm p9
    obtain ⟨rest, eh⟩ : ∃ rest, held = (n, k) :: rest := by
      cases held with
      | nil => cases hq
      | cons c rest => exact ⟨rest, by rw [Option.some.inj hq]⟩
    rw [eh] at gh p9
    have e3 : outs ((n, k) :: rest) n = rest := outs_mid (os := []) (rest := rest) gh
    have p10 := outs_perm p9 n
    rw [e3] at p10
    rw [eh]
    exact p10
  · rintro σ H9 ⟨os9, x4, x5, rfl, y9, p9, t9, o9⟩
    dsimp only
    have ep : held.drop ((ts6.map V.ref).take 1).length = held.drop 1 := by
      rw [List.length_take, List.length_map, lts]
      rcases Nat.lt_or_ge held.length 1 with z | z
      · rw [Nat.min_eq_right (by omega), List.drop_length, List.drop_of_length_le (by omega)]
      · rw [Nat.min_eq_left z]
    rw [ep] at p9
    have hp9 := o9 _ _ (k8 _ _ hp6) (fun _ z => by cases z) nlp
    have hat9 := o9 _ _ (k8 _ _ hat6) (fun _ z => by cases z) nlh
    have tups9 : Tups H9 ts6 (held.map toI) := tups6.keep fun t xs e => o9 _ _ (k8 _ _ e) (fun _ z => by cases z) (y6.off e (by intro xs z; cases z) (by intro xs z; cases z))
    refine ⟨_, rfl, .inl ⟨rfl, _, SqL.of hp9⟩, lp, _, rfl, rfl, hp9, ?_⟩
    have y10 := updL (o := .lst []) y9 hp9 nlp
    have hat10 : L2.upd H9 lp (.lst []) lh = some (.lst (ts6.map V.ref)) := by
      by_cases e : lh = lp
      · rw [e, hp9] at hat9
        rw [e, upd_same]
        have z : pl.map V.int = ts6.map V.ref := by injection (Option.some.inj hat9)
        cases ts6 with
        | nil => rfl
        | cons t ts =>
          cases pl with
          | nil => cases z
          | cons x xs => injection z with z1 _; cases z1
      · rw [upd_ne e]
        exact hat9
    have tups10 : Tups (L2.upd H9 lp (.lst [])) ts6 (held.map toI) := tups9.keep fun t xs e => by
      rw [upd_ne (ne_of e hp9 (by intro z; cases z))]
      exact e
    have k10 : ∀ b o, H9 b = some o → b ≠ lp → L2.upd H9 lp (.lst []) b = some o := fun b o e n => by
      rw [upd_ne n]
      exact e
    generalize L2.upd H9 lp (.lst []) = H10 at y10 hat10 tups10 k10 ⊢
    refine ⟨_, rfl, Y.y, Y.dy, _, rfl, y10.yo, yFs_no Y d (by decide +kernel) (by decide +kernel) (by decide +kernel), Y, d, os9, rfl, y10, fun l2 u2 H11 s11 n11 at11 tu11 => ?_⟩
    refine ⟨_, rfl, _, rfl, lh, _, rfl, SqL.of (s11 _ _ hat10), fun D2 nD2 => ?_⟩
    rw [cut_from', ← List.map_drop]
    have k12 := newK (o := .lst ((ts6.drop 1).map V.ref)) nD2
    have hD2 : L2.upd H11 D2 (.lst ((ts6.drop 1).map V.ref)) D2 = _ := upd_same
    generalize L2.upd H11 D2 (.lst ((ts6.drop 1).map V.ref)) = H12 at k12 hD2 ⊢
    have tupsD : Tups H12 (ts6.drop 1) ((held.drop 1).map toI) := by
      have z := tups10.keep fun t xs e => k12 _ _ (s11 _ _ e)
      cases ts6 with
      | nil =>
        cases held with
        | nil => exact z
        | cons _ _ => exact nomatch lts
      | cons t ts =>
        cases held with
        | nil => exact nomatch lts
        | cons p ps =>
          cases z with
          | cons _ z => exact z
    refine ⟨_, ts6.drop 1, _, rfl, SqL.of hD2, tupsD, fun pc2 uc2 nc2 tc2 => ?_⟩
    have k13 := newK (o := .lst (uc2.map V.ref)) nc2
    refine ⟨_, _, dp_list (k13 _ _ (k12 _ _ at11)) (tu11.keep fun t xs e => k13 _ _ (k12 _ _ e)), dp_list upd_same tc2, dL_shaped _, dL_shaped _, ?_⟩
    rw [dL_eqv, decide_eq_true (show outZ os9 = srt ((held.drop 1).map toI) from srt_eq (p9.symm.map toI))]
    refine q _ fun b o e nt no nb => k13 _ _ (k12 _ _ (s11 _ _ (k10 _ _ ?_ nb)))
    exact o9 _ _ (k8 _ _ (k46 _ _ (k4 _ _ (o03 _ _ e nt no)))) nt no
end
/-! ### law_k11 -/
theorem BefAt.onlyN {S : List Addr} {H H' : Hp} {b : Addr} {zs ws : List PI2} (h : BefAt S H b zs ws) (o : OnlyN S H H') (n : ∀ t xs, H t = some (.tup xs) → t ∉ S) : BefAt S H' b zs ws := by
  obtain ⟨n0, c1, c2, u1, u2, n1, n2, e0, e1, e2, t1, t2⟩ := h
  exact ⟨n0, c1, c2, u1, u2, n1, n2, o _ _ e0 (fun _ z => by cases z) n0, o _ _ e1 (fun _ z => by cases z) n1, o _ _ e2 (fun _ z => by cases z) n2, t1.keep fun t xs e => o _ _ e (fun _ z => by cases z) (n t _ e), t2.keep fun t xs e => o _ _ e (fun _ z => by cases z) (n t _ e)⟩
theorem cut_seq {A B : TS} {D : Ends} {σ : St} {H : Hp} (C : St → Hp → Prop) (main : (∀ σ' H', C σ' H' → B D σ' H') → tSeq A B D σ H) (tail : ∀ σ' H', C σ' H' → B D σ' H') : tSeq A B D σ H := main tail
section
variable {P : Program} {w : World} {K : PySem.W.Frag} {mg : Str → Option Value} {base : Heap} {a : Ad}
theorem ok_law (T : Txt K mg a) (TB : LamX.TabB base mg a.q_give_all a.p_give_all) : FnOk P w K mg base CX0 7 a.f_law a.d_law ["_law_script"] (sp_lawT K a) := by
  have G_Yard_init : FnOk P w K mg base (L2.CX P w) 3 a.f_Yard_init a.d_Yard_init ["self", "cells"] (sp_Yard_init K a) := ok_Yard_init T
  have G_Yard_free : FnOk P w K mg base CX0 2 a.f_Yard_free a.d_Yard_free ["self"] (sp_Yard_free K a) := ok_Yard_free T
  have G_Yard_out : FnOk P w K mg base CX0 1 a.f_Yard_out a.d_Yard_out ["self"] (sp_Yard_out K a) := ok_Yard_out T
  have G_law_behind : FnOk P w K mg base CX0 6 a.f_law_behind a.d_law_behind ["_law_yard", "_law_places", "_law_held"] (sp_law_behind K a) := ok_law_behind T TB
  have G_law_cell_at : FnOk P w K mg base CX0 1 a.f_law_cell_at a.d_law_cell_at ["_law_script", "_law_k"] (sp_law_cell_at K a) := ok_law_cell_at T
  have G_law_done : FnOk P w K mg base CX0 5 a.f_law_done a.d_law_done ["_law_yard", "_law_held", "_law_cell", "_law_cells"] (sp_law_done K a) := ok_law_done T
  have G_law_due : FnOk P w K mg base CX0 2 a.f_law_due a.d_law_due ["_law_held", "_law_wants", "_law_cells"] (sp_law_due K a) := ok_law_due T
  have G_law_fitting : FnOk P w K mg base CX0 1 a.f_law_fitting a.d_law_fitting ["_law_want_here"] (sp_law_fitting K a) := ok_law_fitting T
  have G_law_in_turn : FnOk P w K mg base CX0 2 a.f_law_in_turn a.d_law_in_turn ["_law_wants"] (sp_law_in_turn K a) := ok_law_in_turn T
  have G_law_owners : FnOk P w K mg base CX0 2 a.f_law_owners a.d_law_owners ["_law_yard", "_law_held", "_law_cells", "_law_wants"] (sp_law_owners K a) := ok_law_owners T
  have G_law_told : FnOk P w K mg base CX0 6 a.f_law_told a.d_law_told ["_law_yard", "_law_wants"] (sp_law_told K a) := ok_law_told T TB
  have G_law_whole : FnOk P w K mg base CX0 1 a.f_law_whole a.d_law_whole ["_law_found"] (sp_law_whole K a) := ok_law_whole T
  have G_law_wishes : FnOk P w K mg base CX0 3 a.f_law_wishes a.d_law_wishes ["_law_script", "_law_held", "_law_cells"] (sp_law_wishes K a) := ok_law_wishes T
  have G_law_yard_size : FnOk P w K mg base CX0 2 a.f_law_yard_size a.d_law_yard_size ["_law_script"] (sp_law_yard_size K a) := ok_law_yard_size T
  refine T.law.fn.ok sc_law (fun vs H Q E h => by first | (obtain ⟨rfl, _⟩ := h; rfl) | (obtain ⟨_, rfl, _⟩ := h; rfl) | (obtain ⟨_, _, rfl, _⟩ := h; rfl) | (obtain ⟨_, _, _, rfl, _⟩ := h; rfl) | (obtain ⟨_, _, _, _, rfl, _⟩ := h; rfl) | (obtain ⟨_, _, _, _, _, rfl, _⟩ := h; rfl) | (obtain ⟨_, _, _, _, _, _, rfl, _⟩ := h; rfl) | (obtain ⟨_, _, _, _, _, _, _, rfl, _⟩ := h; rfl) | (obtain ⟨_, _, _, _, _, _, _, _, rfl, _⟩ := h; rfl) | (obtain ⟨_, _, _, _, _, _, _, _, _, rfl, _⟩ := h; rfl) | (obtain ⟨_, _, _, _, _, _, _, _, _, _, rfl, _⟩ := h; rfl) | (obtain ⟨_, _, _, _, _, _, _, _, _, _, _, rfl, _⟩ := h; rfl)) (fun cdv A outer s H vs Q E hr h => ?_)
  refine ⟨_, pss_cons (ps_set (i := 1) sc_law.nd rfl (Or.inl rfl) (pe_call G_law_yard_size (hr.mono (by decide)) rfl T.law_yard_size.mg T.law_yard_size.fn.kp T.law_yard_size.bd .nil pass0 (pa_cons (pv 0) pa_nil)))
      (pss_cons (ps_set (i := 2) sc_law.nd rfl (Or.inl rfl) (pe_make T.m_Yard_init G_Yard_init (hr.mono (by decide)) rfl T.g_Yard T.b_Yard_init .nil passL (pa_cons (pv 1) pa_nil)))
      (pss_cons (ps_set (i := 3) sc_law.nd rfl (Or.inl rfl) (pe_lst pa_nil))
      (pss_cons (ps_if (pt_cmpR op_ne (pe_op op_mod (pe_op op_fdiv (pe_call G_law_cell_at (hr.mono (by decide)) rfl T.law_cell_at.mg T.law_cell_at.fn.kp T.law_cell_at.bd .nil pass0 (pa_cons (pv 0) (pa_cons pe_int pa_nil))) pe_int) pe_int) pe_int (nomark _)) (pss_one (ps_for PassesOwn.never rfl (pi_list (pe_slice sl_list (pv 0) (po_some pe_int) (po_some (pe_op op_add pe_int (pe_op op_mod (pe_call G_law_cell_at (hr.mono (by decide)) rfl T.law_cell_at.mg T.law_cell_at.fn.kp T.law_cell_at.bd .nil pass0 (pa_cons (pv 0) (pa_cons pe_int pa_nil))) pe_int))))) (pg_name (i := 4) sc_law.nd rfl (Or.inl rfl)) (pss_one (ps_set (i := 3) sc_law.nd rfl (Or.inl rfl) (pe_call G_law_done (hr.mono (by decide)) rfl T.law_done.mg T.law_done.fn.kp T.law_done.bd .nil pass0 (pa_cons (pv 2) (pa_cons (pv 3) (pa_cons (pv 4) (pa_cons (pv 1) pa_nil))))))))) pss_nil)
      (pss_cons (ps_set (i := 5) sc_law.nd rfl (Or.inl rfl) (pe_call G_law_wishes (hr.mono (by decide)) rfl T.law_wishes.mg T.law_wishes.fn.kp T.law_wishes.bd .nil pass0 (pa_cons (pv 0) (pa_cons (pv 3) (pa_cons (pv 1) pa_nil)))))
      (pss_cons (ps_set (i := 6) sc_law.nd rfl (Or.inl rfl) (pe_call G_law_due (hr.mono (by decide)) rfl T.law_due.mg T.law_due.fn.kp T.law_due.bd .nil pass0 (pa_cons (pv 3) (pa_cons (pv 5) (pa_cons (pv 1) pa_nil)))))
      (pss_cons (ps_set (i := 7) sc_law.nd rfl (Or.inl rfl) (pe_lst (pa_cons (pe_callTy call_list_of (by rfl) T.z_list (by decide +kernel) (pa_cons (pe_meth0 (pv 2) T.cl_Yard T.m_Yard_out G_Yard_out (hr.mono (by decide)) T.b_Yard_out .nil pass0) pa_nil)) (pa_cons (pe_callTy call_list_of (by rfl) T.z_list (by decide +kernel) (pa_cons (pe_meth0 (pv 2) T.cl_Yard T.m_Yard_free G_Yard_free (hr.mono (by decide)) T.b_Yard_free .nil pass0) pa_nil)) pa_nil))))
      (pss_cons (ps_set (i := 8) sc_law.nd rfl (Or.inl rfl) (pe_callTy call_list_of (by rfl) T.z_list (by decide +kernel) (pa_cons (pv 5) pa_nil)))
      (pss_cons (ps_set (i := 9) sc_law.nd rfl (Or.inl rfl) (pe_call G_law_told (hr.mono (by decide)) rfl T.law_told.mg T.law_told.fn.kp T.law_told.bd .nil pass0 (pa_cons (pv 2) (pa_cons (pv 8) pa_nil))))
      (pss_cons (ps_if (PW.pt (pw_or (pt_cmpR op_ne (pe_ix ix_tup (pv 9) pe_int (fun _ _ => rfl)) (pv 6) (nomark _)) (pw_or1 (pt_cmpR (op_neD hr.units) (pv 8) (pv 5) (nomark _))))) (pss_one (ps_ret pe_bl)) pss_nil)
      (pss_cons (ps_expr (pe_bm0 PySem.F.plainAttrs_list PySem.F.slot_list_clear PySem.F.type_list_clear mt_clear (pv 8)))
      (pss_cons (ps_if (pt_cmpR op_ne (pv 6) pe_str (nomark _)) (pss_one (ps_ret (pe_and (pe_cmpR (op_eqD hr.units) (pe_lst (pa_cons (pe_meth0 (pv 2) T.cl_Yard T.m_Yard_out G_Yard_out (hr.mono (by decide)) T.b_Yard_out .nil pass0) (pa_cons (pe_meth0 (pv 2) T.cl_Yard T.m_Yard_free G_Yard_free (hr.mono (by decide)) T.b_Yard_free .nil pass0) pa_nil))) (pv 7) (nomark _)) (pe_one (pe_call G_law_owners (hr.mono (by decide)) rfl T.law_owners.mg T.law_owners.fn.kp T.law_owners.bd .nil pass0 (pa_cons (pv 2) (pa_cons (pv 3) (pa_cons (pv 1) (pa_cons (pv 5) pa_nil))))))))) pss_nil)
      (pss_cons (ps_if (PW.pt (pw_or (pt_not (pt_val (pe_callB call_isi (by rfl) T.z_isinstance PyProof.Rows.boot_isinstance (pa_cons (pe_ix ix_tup (pv 9) pe_int (fun _ _ => rfl)) (pa_cons (pe_bltn (v := .ty "list") (by rfl) T.z_list (by decide +kernel) rfl) pa_nil))))) (pw_or1 (pt_cmpR op_ne (pe_callB call_len_seq (by rfl) T.z_len PySem.boot_len (pa_cons (pe_ix ix_tup (pv 9) pe_int (fun _ _ => rfl)) pa_nil)) (pe_callB call_len_seq (by rfl) T.z_len PySem.boot_len (pa_cons (pv 5) pa_nil)) (nomark _))))) (pss_one (ps_ret pe_bl)) pss_nil)
      (pss_cons (ps_if (PW.pt (pw_and (pt_cmpR (op_eqD hr.units) (pv 3) (pe_lst pa_nil) (nomark _)) (pw_and1 (pt_cmpR (op_neD hr.units) (pe_ix ix_tup (pv 9) pe_int (fun _ _ => rfl)) (pe_call G_law_in_turn (hr.mono (by decide)) rfl T.law_in_turn.mg T.law_in_turn.fn.kp T.law_in_turn.bd .nil pass0 (pa_cons (pv 5) pa_nil)) (nomark _))))) (pss_one (ps_ret pe_bl)) pss_nil)
      (pss_cons (ps_for PassesOwn.never rfl (pi_range1 rfl T.z_range (pa_cons (pe_callB call_len_seq (by rfl) T.z_len PySem.boot_len (pa_cons (pv 5) pa_nil)) pa_nil)) (pg_name (i := 10) sc_law.nd rfl (Or.inl rfl)) (pss_cons (ps_if (pt_not (pt_val (pe_call G_law_whole (hr.mono (by decide)) rfl T.law_whole.mg T.law_whole.fn.kp T.law_whole.bd .nil pass0 (pa_cons (pe_ix ix_list (pe_ix ix_tup (pv 9) pe_int (fun _ _ => rfl)) (pv 10) (fun _ _ => rfl)) pa_nil)))) (pss_one (ps_ret pe_bl)) pss_nil)
      (pss_one (ps_set (i := 3) sc_law.nd rfl (Or.inl rfl) (pe_op op_cat (pv 3) (pe_lst (pa_cons (pe_tup (pa_cons (pe_ix ix_list (pe_ix ix_tup (pv 9) pe_int (fun _ _ => rfl)) (pv 10) (fun _ _ => rfl)) (pa_cons (pe_call G_law_fitting (hr.mono (by decide)) rfl T.law_fitting.mg T.law_fitting.fn.kp T.law_fitting.bd .nil pass0 (pa_cons (pe_ix ix_list (pv 5) (pv 10) (fun _ _ => rfl)) pa_nil)) pa_nil))) pa_nil)))))))
      (pss_cons (ps_set (i := 11) sc_law.nd rfl (Or.inl rfl) (pe_lst (pa_cons (pe_meth0 (pv 2) T.cl_Yard T.m_Yard_out G_Yard_out (hr.mono (by decide)) T.b_Yard_out .nil pass0) (pa_cons (pe_meth0 (pv 2) T.cl_Yard T.m_Yard_free G_Yard_free (hr.mono (by decide)) T.b_Yard_free .nil pass0) pa_nil))))
      (pss_cons (ps_set (i := 12) sc_law.nd rfl (Or.inl rfl) (pe_lst (pa_cons (pe_callTy call_list_of (by rfl) T.z_list (by decide +kernel) (pa_cons (pe_ix ix_list (pv 11) pe_int (fun _ _ => rfl)) pa_nil)) (pa_cons (pe_callTy call_list_of (by rfl) T.z_list (by decide +kernel) (pa_cons (pe_ix ix_list (pv 11) pe_int (fun _ _ => rfl)) pa_nil)) pa_nil))))
      (pss_one (ps_ret (pe_and (pe_call G_law_behind (hr.mono (by decide)) rfl T.law_behind.mg T.law_behind.fn.kp T.law_behind.bd .nil pass0 (pa_cons (pv 2) (pa_cons (pe_ix ix_tup (pv 9) pe_int (fun _ _ => rfl)) (pa_cons (pv 3) pa_nil)))) (pe_one (pe_cmpR (op_eqD hr.units) (pv 11) (pv 12) (nomark _)))))))))))))))))))))), ?_⟩
  obtain ⟨l, ns, rfl, hS, hl, hB, hT, q⟩ := h
  have tb : TabsG a H := fun p hp => by
    rw [List.mem_singleton.mp hp]
    exact .nil hT
  refine ⟨_, rfl, l, ns, rfl, hS, hl, fun d d60 => ?_⟩
  refine ⟨_, rfl, fun y dy n1 n2 n3 => ⟨y, dy, _, rfl, upd_same, fun z => absurd ⟨d, d60, rfl⟩ z, fun d' d60' e Y H2 ey ya fr only => ⟨rfl, ?_⟩⟩⟩
  have ed := pow_inj e
  subst ed
  subst ey
  have pd : 0 < 2 ^ d := Nat.pow_pos (by decide)
  -- what was stays
  have k01 : ∀ b o, H b = some o → L2.upd (L2.upd H dy (.own Y.y)) Y.y (.ins a.c_Yard dy []) b = some o := fun b o eo => by
    have b1 : b ≠ Y.y := fun z => by rw [z, n1] at eo; cases eo
    have b2 : b ≠ dy := fun z => by rw [z, n2] at eo; cases eo
    rw [upd_ne b1, upd_ne b2]
    exact eo
  have k02 : ∀ b o, H b = some o → H2 b = some o := fun b o eo => by
    have b1 : b ≠ Y.y := fun z => by rw [z, n1] at eo; cases eo
    exact only _ _ (k01 _ _ eo) (by simp [b1])
  have nl0 : ∀ o, H l = some o → l ∉ own Y d := fun o eo z => by
    have e1 := k01 _ _ eo
    rw [fr l z] at e1
    cases e1
  have hSk : ∀ H', OnlyN (own Y d) H2 H' → SqL K H' l (ns.map V.int) := fun H' o2 => by
    rcases hS with (h | ⟨o, h⟩) | h
    · exact .inl (.inl (o2 _ _ (k02 _ _ h) (fun _ z => by cases z) (nl0 _ h)))
    · exact .inl (.inr ⟨o, o2 _ _ (k02 _ _ h) (fun _ z => by cases z) (nl0 _ h)⟩)
    · exact .inr h
  have t2 := tb.keep k02
  refine nm ?_
  dsimp only
  refine ⟨by show 0 ≤ sizeLine; decide, fun lh0 nlh0 => nm ?_⟩
  dsimp only
  have k3 := newK (o := .lst []) nlh0
  have hl0 : L2.upd H2 lh0 (.lst []) lh0 = some (.lst []) := upd_same
  have nlo : lh0 ∉ own Y d := ya.new nlh0
  generalize L2.upd H2 lh0 (.lst []) = H3 at k3 hl0 ⊢
  have y3 := ya.keep k3
  have t3 := t2.keep k3
  have o3 : OnlyN (own Y d) H2 H3 := OnlyN.of (Only.same k3)
  have h3 : HeldAt (own Y d) H3 lh0 [] := ⟨nlo, [], hl0, .nil⟩
  -- the first deeds
  refine split_seq (fun σ' H' => ∃ (os held : List PN) (lh : Addr) (x4 : Option V), σ' = [some (.ref l), some (sI d), some (.ref Y.y), some (.ref lh), x4, none, none, none, none, none, none, none, none] ∧
      YardAt a Y d os H' ∧ HeldAt (own Y d) H' lh held ∧ held.Perm os ∧ os.length ≤ 100 ∧ TabsG a H' ∧ OnlyN (own Y d) H2 H') (fun tail => ?_) ?_
  · refine ⟨_, rfl, l, ns, 0, rfl, hSk _ o3, hl, _, _, rfl, rfl, ⟨by decide, by decide⟩, _, _, rfl, rfl, by show (0 : Int) < 3; decide, rfl, _, rfl, ite2 (fun _ => ?_) (fun _ => ?_)⟩
    · refine ⟨_, rfl, 3, rfl, _, rfl, l, ns, 2, rfl, hSk _ o3, hl, _, _, rfl, rfl, by show (0 : Int) < 11; decide, _, _, rfl, rfl, _, rfl, l, _, rfl, hSk _ o3, fun D0 new0 => ?_⟩
      refine ⟨D0, rfl, ⟨_, SqL.of upd_same⟩, ?_⟩
      have len0 : (cutV (ns.map V.int) (some 3) (some (3 + cell ns 2 % 11))).length ≤ 63 := Nat.le_trans (cutV_length _ _ _) (by rw [List.length_map]; exact hl)
      have nD0 : D0 ∉ own Y d := y3.new new0
      have k0 := newK (o := .lst (cutV (ns.map V.int) (some 3) (some (3 + cell ns 2 % 11)))) new0
      refine for_list (xs := cutV (ns.map V.int) (some 3) (some (3 + cell ns 2 % 11))) (fun i σ H' => i ≤ 63 ∧ ∃ (os held : List PN) (lh : Addr) (x4 : Option V), σ = [some (.ref l), some (sI d), some (.ref Y.y), some (.ref lh), x4, none, none, none, none, none, none, none, none] ∧
          YardAt a Y d os H' ∧ HeldAt (own Y d) H' lh held ∧ held.Perm os ∧ os.length ≤ i ∧ TabsG a H' ∧ H' D0 = some (.lst (cutV (ns.map V.int) (some 3) (some (3 + cell ns 2 % 11)))) ∧ OnlyN (own Y d) H2 H')
        ⟨Nat.zero_le _, [], [], lh0, none, rfl, y3.keep k0, h3.same k0, List.Perm.refl _, Nat.le_refl _, t3.keep k0, upd_same, o3.trans (OnlyN.of (Only.same k0))⟩
        (fun i σ H' _ p => by obtain ⟨_, _, _, _, _, _, _, _, _, _, _, p, _⟩ := p; exact SqL.of p) ?_ ?_
      · rintro i v σ H4 hv ⟨hi, os, held, lh, x4, rfl, y4, h4, p4, f4, t4, at4, o4⟩
        have hi : i < 63 := Nat.lt_of_lt_of_le (List.getElem?_eq_some_iff.mp hv).1 len0
        obtain ⟨c, rfl⟩ := cut_int hv
        refine ⟨_, rfl, _, rfl, _, rfl, _, rfl, Y, d, os, held, lh, c, rfl, y4, h4, p4, by omega, fun os5 lh5 H5 y5 h5 p5 f5 o5 => ?_⟩
        exact ⟨by omega, os5, _, lh5, _, rfl, y5, h5, p5, by omega, t4.only y4 o5, o5 _ _ at4 nD0, o4.trans (OnlyN.of o5)⟩
      · rintro σ H4 ⟨hi, os, held, lh, x4, rfl, y4, h4, p4, f4, t4, at4, o4⟩
        exact tail _ _ ⟨os, held, lh, x4, rfl, y4, h4, p4, by omega, t4, o4⟩
    · exact tail _ _ ⟨[], [], lh0, _, rfl, y3, h3, List.Perm.refl _, by simp, t3, o3⟩
  rintro σ H4 ⟨os, held, lh, x4, rfl, y4, h4, p4, f4, t4, o4⟩
  clear o3 t3 h3 y3
  obtain ⟨nlh, ts, hat, tups⟩ := id h4
  have lts := tups.len
  rw [List.length_map] at lts
  have lp := p4.length_eq
  have gh : Good d held := y4.good.perm p4
  refine ⟨_, rfl, _, rfl, _, rfl, l, lh, ns, ts, held, d, rfl, hSk _ o4, hl, hB, hat, tups, d60, fun b xs H5 s5 nb hb lx le200 => nm ?_⟩
  dsimp only
  have y5 := y4.keep s5
  have h5 := h4.same s5
  have t5 := t4.keep s5
  have nbo : b ∉ own Y d := y4.new nb
  have o45 : OnlyN (own Y d) H4 H5 := OnlyN.of (Only.same s5)
  have hat5 := s5 _ _ hat
  have tups5 : Tups H5 ts (held.map toI) := tups.keep fun t xs e => s5 _ _ e
  -- what is due
  refine cut_seq (fun σ' H' => ∃ (w : Str), σ' = [some (.ref l), some (sI d), some (.ref Y.y), some (.ref lh), x4, some (.ref b), some (.str w), none, none, none, none, none, none] ∧ (∀ b o, H5 b = some o → H' b = some o) ∧
    (w = "wish" ∧ (∃ x ∈ xs, x < 1) ∨ w = "room" ∧ (∀ x ∈ xs, 1 ≤ x) ∧ ¬ ((∀ x ∈ xs, x ≤ ((2 ^ d : Nat) : Int)) ∧ ∃ ns, Gv d held (wishK xs) ns) ∨ w = "" ∧ (∀ x ∈ xs, 1 ≤ x ∧ x ≤ ((2 ^ d : Nat) : Int)) ∧ ∃ ns, Gv d held (wishK xs) ns)) (fun tail => ?_) ?_
  · refine ⟨_, rfl, _, rfl, _, rfl, lh, b, ts, held, d, xs, rfl, hat5, tups5, gh, by omega, d60, hb, by omega, le200, fun z H6 s6 => ?_, fun pos no H6 s6 => ?_, fun ps fx gv H6 s6 => ?_⟩
    · exact nm (tail _ _ ⟨_, rfl, s6, .inl ⟨rfl, z⟩⟩)
    · exact nm (tail _ _ ⟨_, rfl, s6, .inr (.inl ⟨rfl, pos, no⟩)⟩)
    · exact nm (tail _ _ ⟨_, rfl, s6, .inr (.inr ⟨rfl, fx, ps, gv⟩)⟩)
  rintro σ H6 ⟨wd, rfl, s6, due⟩
  have y6 := y5.keep s6
  have t6 := t5.keep s6
  have hb6 := s6 _ _ hb
  -- what was before
  refine ⟨_, rfl, Y.y, Y.dy, _, rfl, y6.yo, yFs_no Y d (by decide +kernel) (by decide +kernel) (by decide +kernel), Y, d, os, rfl, y6, fun lo uo H7 s7 n7 at7 tu7 => ?_⟩
  refine ⟨lo, _, rfl, .inl (SqL.of at7), fun c1 hc1 => ?_⟩
  have k7 := newK (o := .lst (uo.map V.ref)) hc1
  have atc1 : L2.upd H7 c1 (.lst (uo.map V.ref)) c1 = _ := upd_same
  have s67 : ∀ b o, H6 b = some o → L2.upd H7 c1 (.lst (uo.map V.ref)) b = some o := fun b o e => k7 _ _ (s7 _ _ e)
  have nc1 : c1 ∉ own Y d := (y6.keep s7).new hc1
  have tu7' := tu7.keep fun t xs e => k7 _ _ e
  generalize L2.upd H7 c1 (.lst (uo.map V.ref)) = H8 at atc1 s67 tu7' ⊢
  have y8 := y6.keep s67
  refine ⟨_, rfl, Y.y, Y.dy, _, rfl, y8.yo, yFs_no Y d (by decide +kernel) (by decide +kernel) (by decide +kernel), Y, d, os, rfl, y8, fun lf uf H9 s9 n9 at9 tu9 => ?_⟩
  refine ⟨lf, _, rfl, .inl (SqL.of at9), fun c2 hc2 => ?_⟩
  have k9 := newK (o := .lst (uf.map V.ref)) hc2
  have atc2 : L2.upd H9 c2 (.lst (uf.map V.ref)) c2 = _ := upd_same
  have s89 : ∀ b o, H8 b = some o → L2.upd H9 c2 (.lst (uf.map V.ref)) b = some o := fun b o e => k9 _ _ (s9 _ _ e)
  have nc2 : c2 ∉ own Y d := (y8.keep s9).new hc2
  have tu9' := tu9.keep fun t xs e => k9 _ _ e
  generalize L2.upd H9 c2 (.lst (uf.map V.ref)) = H10 at atc2 s89 tu9' ⊢
  refine ⟨by show 2 ≤ sizeLine; decide, fun lb hlb => nm ?_⟩
  dsimp only
  have k11 := newK (o := .lst [.ref c1, .ref c2]) hlb
  have atb : L2.upd H10 lb (.lst [.ref c1, .ref c2]) lb = _ := upd_same
  have nlb : lb ∉ own Y d := (y8.keep s89).new hlb
  generalize L2.upd H10 lb (.lst [.ref c1, .ref c2]) = H11 at k11 atb ⊢
  have s611 : ∀ b o, H6 b = some o → H11 b = some o := fun b o e => k11 _ _ (s89 _ _ (s67 _ _ e))
  have y11 := y6.keep s611
  have t11 := t6.keep s611
  have b11 : BefAt (own Y d) H11 lb (outZ os) (frees os d) := ⟨nlb, c1, c2, uo, uf, nc1, nc2, atb, k11 _ _ (s89 _ _ atc1), k11 _ _ atc2, tu7'.keep fun t xs e => k11 _ _ (s89 _ _ e), tu9'.keep fun t xs e => k11 _ _ e⟩
  clear tu9 tu9' tu7 tu7' at7 at9 atc1 atc2
  -- what is handed
  refine ⟨_, rfl, b, _, rfl, .inl (SqL.of (s611 _ _ hb6)), fun hd nhd => nm ?_⟩
  dsimp only
  have k12 := newK (o := .lst (xs.map V.int)) nhd
  have hh12 : L2.upd H11 hd (.lst (xs.map V.int)) hd = _ := upd_same
  have nho : hd ∉ own Y d := y11.new nhd
  generalize L2.upd H11 hd (.lst (xs.map V.int)) = H12 at k12 hh12 ⊢
  have s612 : ∀ b o, H6 b = some o → H12 b = some o := fun b o e => k12 _ _ (s611 _ _ e)
  have y12 := y6.keep s612
  have t12 := t6.keep s612
  have b12 := b11.only (Only.same k12) (fun t xs e => y11.off e (by intro xs z; cases z) (by intro xs z; cases z))
  -- what is told
  refine cut_seq (fun σ' H' => ∃ (t lt : Addr) (os' : List PN), σ' = [some (.ref l), some (sI d), some (.ref Y.y), some (.ref lh), x4, some (.ref b), some (.str wd), some (.ref lb), some (.ref hd), some (.ref t), none, none, none] ∧ H' t = some (.tup [.str wd, .ref lt]) ∧ YardAt a Y d os' H' ∧ OnlyN (own Y d) H12 H' ∧ TabsG a H' ∧
    (wd ≠ "" ∧ os' = os ∨ wd = "" ∧ (∀ x ∈ xs, 1 ≤ x ∧ x ≤ ((2 ^ d : Nat) : Int)) ∧ ∃ ps, Gv d os (wishK xs) ps ∧ os' = os ++ ps.zip (wishK xs) ∧ lt ∉ own Y d ∧ (∀ zs, H12 lt ≠ some (.lst zs)) ∧ H' lt = some (.lst ((List.range xs.length).map fun k => nI (placeOf (byFall (fits xs)) ps k))))) (fun tail => ?_) ?_
  · refine ⟨_, rfl, _, rfl, Y, d, os, hd, xs, rfl, y12, SqL.of hh12, by omega, by omega, t12, fun z t e H13 s13 et ee => ?_, fun pos no t e H13 y13 o13 t13 et ee => ?_, fun ps fx gv t lt H13 y13 o13 t13 nlt nwl elt et => ?_⟩
    · have ew : wd = "wish" := by
        obtain ⟨x, hx, h1⟩ := z
        rcases due with ⟨e, _⟩ | ⟨e, pos, _⟩ | ⟨e, fx, _⟩
        · exact e
        · exact absurd (pos x hx) (by omega)
        · exact absurd (fx x hx).1 (by omega)
      subst ew
      exact nm (tail _ _ ⟨t, e, os, rfl, et, y12.keep s13, OnlyN.of (Only.same s13), t12.keep s13, .inl ⟨by decide, rfl⟩⟩)
    · have ew : wd = "room" := by
        rcases due with ⟨e, x, hx, h1⟩ | ⟨e, _⟩ | ⟨e, fx, ns, gv⟩
        · exact absurd (pos x hx) (by omega)
        · exact e
        · exact absurd ⟨fun x hx => (fx x hx).2, ns, gv.perm p4.symm⟩ no
      subst ew
      exact nm (tail _ _ ⟨t, e, os, rfl, et, y13, o13, t13, .inl ⟨by decide, rfl⟩⟩)
    · have ew : wd = "" := by
        rcases due with ⟨e, x, hx, h1⟩ | ⟨e, pos, no⟩ | ⟨e, _⟩
        · exact absurd (fx x hx).1 (by omega)
        · exact absurd ⟨fun x hx => (fx x hx).2, ps, gv.perm p4⟩ no
        · exact e
      subst ew
      exact nm (tail _ _ ⟨t, lt, _, rfl, et, y13, o13, t13, .inr ⟨rfl, fx, ps, gv, rfl, nlt, nwl, elt⟩⟩)
  rintro σ H13 ⟨t, lt, os', rfl, et, y13, o13, t13, alt⟩
  have hh13 := o13 _ _ hh12 (fun _ z => by cases z) nho
  have hb13 := o13 _ _ (s612 _ _ hb6) (fun _ z => by cases z) nbo
  refine ⟨_, rfl, t, _, _, .str wd, rfl, rfl, SqT.of et, at_of (j := 0) rfl rfl, _, rfl, rfl, _, rfl, iteFof (by simp) ?_⟩
  refine ⟨_, rfl, _, rfl, _, _, dp_ints (SqL.of hh13), dp_ints (SqL.of hb13), dI_shaped _, dI_shaped _, _, rfl, iteFof ?_ ?_⟩
  · rw [dI_eqv, decide_eq_true rfl]
    rfl
  refine ⟨_, rfl, .inl ⟨rfl, _, SqL.of hh13⟩, hd, _, rfl, rfl, hh13, ?_⟩
  dsimp only
  have y14 := updL (o := .lst []) y13 hh13 nho
  have t14 : TabsG a (L2.upd H13 hd (.lst [])) := t13.wr' hh13 (fun _ z => by cases z) (fun _ z => by cases z)
  have k14 : ∀ b o, H13 b = some o → b ≠ hd → L2.upd H13 hd (.lst []) b = some o := fun b o e n => by
    rw [upd_ne n]
    exact e
  generalize L2.upd H13 hd (.lst []) = H14 at y14 t14 k14 ⊢
  have o1114 : OnlyN (own Y d) H11 H14 := fun b o e nt no => k14 _ _ (o13 _ _ (k12 _ _ e) nt no) (ne_of_none e nhd)
  have et14 := k14 _ _ et (ne_of et hh13 (by intro z; cases z))
  have b14 := b11.onlyN o1114 (fun t xs e => y11.off e (by intro xs z; cases z) (by intro xs z; cases z))
  have h14 := ((h5.same s6).same s611).onlyN y11 o1114
  have hb14 := o1114 _ _ (s611 _ _ hb6) (fun _ z => by cases z) nbo
  obtain ⟨_, ts14, hat14, tups14⟩ := id h14
  rcases alt with ⟨ne, rfl⟩ | ⟨rfl, fx, ps, gv, rfl, nlt, nwl, elt⟩
  · refine ⟨_, rfl, rfl, _, rfl, iteTof (by simpa using ne) ?_⟩
    refine ⟨_, rfl, Y.y, Y.dy, _, rfl, y14.yo, yFs_no Y d (by decide +kernel) (by decide +kernel) (by decide +kernel), Y, d, _, rfl, y14, fun lo4 uo4 HQ sQ nQ atQ tuQ => ?_⟩
    have yQ := y14.keep sQ
    refine ⟨_, rfl, Y.y, Y.dy, _, rfl, yQ.yo, yFs_no Y d (by decide +kernel) (by decide +kernel) (by decide +kernel), Y, d, _, rfl, yQ, fun lf4 uf4 HR sR nR atR tuR => ?_⟩
    refine ⟨by show 2 ≤ sizeLine; decide, fun pR hpR => ?_⟩
    have kR := newK (o := .lst [.ref lo4, .ref lf4]) hpR
    have atRp : L2.upd HR pR (.lst [.ref lo4, .ref lf4]) pR = some (.lst [.ref lo4, .ref lf4]) := upd_same
    generalize L2.upd HR pR (.lst [.ref lo4, .ref lf4]) = HS at kR atRp
    have s14S : ∀ b o, H14 b = some o → HS b = some o := fun b o e => kR _ _ (sR _ _ (sQ _ _ e))
    have bS := b14.only (Only.same s14S) (fun t xs e => y14.off e (by intro xs z; cases z) (by intro xs z; cases z))
    refine ⟨_, rfl, _, _, .lst (SqL.of atRp) (.cons (dp_list (kR _ _ (sR _ _ atQ)) (tuQ.keep fun t xs e => kR _ _ (sR _ _ e))) (.cons (dp_list (kR _ _ atR) (tuR.keep fun t xs e => kR _ _ e)) .nil)), bS.dp, dLL_shaped [outZ os', frees os' d], dLL_shaped _, true, ?_, iteTof rfl ?_⟩
    · show V.bl ((dLL [outZ os', frees os' d]).eqv (dLL [outZ os', frees os' d])) = _
      rw [dLL_eqv, decide_eq_true rfl]
    refine ⟨_, rfl, _, rfl, _, rfl, _, rfl, Y, d, os', held, lh, b, _, xs, rfl, y14.keep s14S, s14S _ _ hat14, tups14.keep (fun t xs e => s14S _ _ e), p4, by omega, s14S _ _ hb14, by omega, fun H' _ => q _⟩
  have nlth : lt ≠ hd := fun z => nwl _ (by rw [z]; exact hh12)
  have elt14 : H14 lt = some (.lst (((List.range xs.length).map fun k => ((placeOf (byFall (fits xs)) ps k : Nat) : Int)).map V.int)) := by
    rw [List.map_map]
    exact k14 _ _ elt nlth
  have epl : plc xs.length (byFall (fits xs)) ps = ((List.range xs.length).map fun k => ((placeOf (byFall (fits xs)) ps k : Nat) : Int)).map V.int := by
    rw [List.map_map]
    rfl
  have lps := gv.len
  rw [wishK_len] at lps
  refine ⟨_, rfl, rfl, _, rfl, iteFof (by decide) ?_⟩
  dsimp only
  refine ⟨_, rfl, t, _, _, .ref lt, rfl, rfl, SqT.of et14, at_of (j := 1) rfl rfl, _, _, _, _, true, rfl, .ty _, .base (.lst elt14), kit_ty (by decide +kernel), true, rfl, iteFof rfl ?_⟩
  refine ⟨_, rfl, t, _, _, .ref lt, rfl, rfl, SqT.of et14, at_of (j := 1) rfl rfl, lt, _, rfl, .inl (SqL.of elt14), _, rfl, b, _, rfl, .inl (SqL.of hb14), rfl, _, rfl, iteFof ?_ ?_⟩
  · simp
  unfold tNext
  dsimp only
  -- in turn, where nothing was out
  refine split_seq (fun σ' H' => σ' = [some (.ref l), some (sI d), some (.ref Y.y), some (.ref lh), x4, some (.ref b), some (.str ""), some (.ref lb), some (.ref hd), some (.ref t), none, none, none] ∧ ∀ b o, H14 b = some o → H' b = some o) (fun tail => ?_) ?_
  · refine ⟨_, rfl, by show 0 ≤ sizeLine; decide, fun e1 ne1 => ?_⟩
    have k15 := newK (o := .lst []) ne1
    have g15 : L2.upd H14 e1 (.lst []) e1 = some (.lst []) := upd_same
    generalize L2.upd H14 e1 (.lst []) = H15 at k15 g15 ⊢
    refine ⟨_, _, dp_list (k15 _ _ hat14) (tups14.keep fun t xs e => k15 _ _ e), dp_nil g15, dL_shaped _, dL_shaped _, _, rfl, ?_⟩
    rw [dL_eqv]
    by_cases eh : held.map toI = []
    · refine iteTof (decide_eq_true eh) ?_
      have eh := List.map_eq_nil_iff.mp eh
      rw [eh] at p4
      have eo := p4.symm.eq_nil
      rw [eo] at gv
      have ep := gv_turn (S := 0) gv (wishK_fall xs) (fun c => ⟨fun ⟨q, m, _⟩ => (nomatch m), fun z => absurd z (Nat.not_lt_zero c)⟩) (fun k _ => Nat.dvd_zero _)
      refine ⟨_, rfl, t, _, _, .ref lt, rfl, rfl, SqT.of (k15 _ _ et14), at_of (j := 1) rfl rfl, _, rfl, b, xs, rfl, k15 _ _ hb14, by omega, fun x hx => ⟨(fx x hx).1, le200 x hx⟩, fun D H16 s16 hD _ => ?_⟩
      rw [← ep, epl] at hD
      refine ⟨_, _, dp_ints (SqL.of (s16 _ _ (k15 _ _ elt14))), dp_ints (SqL.of hD), dI_shaped _, dI_shaped _, _, rfl, iteFof ?_ ?_⟩
      · rw [dI_eqv, decide_eq_true rfl]
        rfl
      exact tail _ _ ⟨rfl, fun b o e => s16 _ _ (k15 _ _ e)⟩
    · refine iteFof (decide_eq_false eh) (iteF ?_)
      exact tail _ _ ⟨rfl, k15⟩
  rintro σ H16 ⟨rfl, s16⟩
  have et16 := s16 _ _ et14
  have elt16 := s16 _ _ elt14
  have hb16 := s16 _ _ hb14
  have y16 := y14.keep s16
  have t16 := t14.keep s16
  have h16 := h14.same s16
  refine ⟨_, rfl, b, _, rfl, .inl (SqL.of hb16), ?_⟩
  rw [List.length_map]
  refine ⟨_, rfl, by omega, by omega, ?_⟩
  have lgot : (gotPN xs ps).length = xs.length := by rw [gotPN, List.length_map, List.length_range]
  refine for_range (n := xs.length) (fun i σ H' => ∃ (lh' : Addr) (x10 : Option V), σ = [some (.ref l), some (sI d), some (.ref Y.y), some (.ref lh'), x4, some (.ref b), some (.str ""), some (.ref lb), some (.ref hd), some (.ref t), x10, none, none] ∧ HeldAt (own Y d) H' lh' (held ++ (gotPN xs ps).take i) ∧ (∀ b o, H16 b = some o → H' b = some o))
    ⟨lh, none, rfl, by rw [List.take_zero, List.append_nil]; exact h16, fun b o e => e⟩ ?_ ?_
  · rintro i σ H17 hi ⟨lh', x10, rfl, h17, s17⟩
    obtain ⟨x, hx⟩ : ∃ x, xs[i]? = some x := ⟨_, List.getElem?_eq_getElem hi⟩
    have fx1 := fx x (List.mem_of_getElem? hx)
    have lx1 := le200 x (List.mem_of_getElem? hx)
    have hg : (gotPN xs ps)[i]? = some (placeOf (byFall (fits xs)) ps i, fit x) := by
      rw [gotPN, List.getElem?_map, List.getElem?_range hi]
      show some (_, fit (xs.getD i 0)) = _
      rw [List.getD, hx]
      rfl
    have hpl : (((List.range xs.length).map fun k => ((placeOf (byFall (fits xs)) ps k : Nat) : Int)).map V.int)[i]? = some (nI (placeOf (byFall (fits xs)) ps i)) := by
      rw [List.map_map, List.getElem?_map, List.getElem?_range hi]
      rfl
    have y17 := y16.keep s17
    obtain ⟨nlh17, ts17, hat17, tups17⟩ := id h17
    have l17 := tups17.len
    rw [List.length_map, List.length_append, List.length_take] at l17
    refine nm ?_
    dsimp only
    refine ⟨_, rfl, t, _, _, .ref lt, rfl, rfl, SqT.of (s17 _ _ et16), at_of (j := 1) rfl rfl, _, rfl, lt, _, _, nI (placeOf (byFall (fits xs)) ps i), rfl, rfl, SqL.of (s17 _ _ elt16), at_of (j := i) (by show (0 : Int) + i = _; omega) hpl, _, rfl, true, rfl, iteFof rfl ?_⟩
    refine ⟨_, rfl, _, rfl, t, _, _, .ref lt, rfl, rfl, SqT.of (s17 _ _ et16), at_of (j := 1) rfl rfl, _, rfl, lt, _, _, nI (placeOf (byFall (fits xs)) ps i), rfl, rfl, SqL.of (s17 _ _ elt16), at_of (j := i) (by show (0 : Int) + i = _; omega) hpl, _, rfl, _, rfl, b, _, _, .int x, rfl, rfl, SqL.of (s17 _ _ hb16), at_of (j := i) (by show (0 : Int) + i = _; omega) (by rw [List.getElem?_map, hx]; rfl), x, rfl, lx1, fun z => by exfalso; omega, fun _ => ?_⟩
    refine ⟨by show 2 ≤ sizeLine; decide, fun u hu => ⟨by show 1 ≤ sizeLine; decide, fun p2 hp2 => ?_⟩⟩
    have ku := newK (o := .tup [nI (placeOf (byFall (fits xs)) ps i), sI (fit x)]) hu
    have au : L2.upd H17 u (.tup [nI (placeOf (byFall (fits xs)) ps i), sI (fit x)]) u = _ := upd_same
    generalize L2.upd H17 u (.tup [nI (placeOf (byFall (fits xs)) ps i), sI (fit x)]) = H18 at ku au hp2 ⊢
    have k2 := newK (o := .lst [.ref u]) hp2
    have a2 : L2.upd H18 p2 (.lst [.ref u]) p2 = _ := upd_same
    generalize L2.upd H18 p2 (.lst [.ref u]) = H19 at k2 a2 ⊢
    refine ⟨lh', p2, _, _, rfl, rfl, k2 _ _ (ku _ _ hat17), a2, ?_, fun p3 hp3 => ?_⟩
    · rw [List.length_map, l17, sizeLine_eq]
      show _ + 1 ≤ _
      omega
    have k3 := newK (o := .lst (ts17.map V.ref ++ [.ref u])) hp3
    have a3 : L2.upd H19 p3 (.lst (ts17.map V.ref ++ [.ref u])) p3 = _ := upd_same
    have s79 : ∀ b o, H17 b = some o → H19 b = some o := fun b o e => k2 _ _ (ku _ _ e)
    have np3 : p3 ∉ own Y d := (y17.keep s79).new hp3
    generalize L2.upd H19 p3 (.lst (ts17.map V.ref ++ [.ref u])) = H20 at k3 a3 ⊢
    refine ⟨p3, _, rfl, ⟨np3, ts17 ++ [u], by rw [a3, List.map_append]; rfl, ?_⟩, fun b o e => k3 _ _ (s79 _ _ (s17 _ _ e))⟩
    rw [take_snoc hg, ← List.append_assoc, List.map_append]
    exact Tups.snoc (k3 _ _ (k2 _ _ au)) (tups17.keep fun t xs e => k3 _ _ (s79 _ _ e))
  rintro σ H17 ⟨lh', x10, rfl, h17, s17⟩
  rw [List.take_of_length_le (by omega)] at h17
  dsimp only
  have elt17 := s17 _ _ elt16
  have et17 := s17 _ _ et16
  have y17 := y16.keep s17
  have t17 := t16.keep s17
  have lz : (os ++ ps.zip (wishK xs)).length ≤ 400 := by
    rw [List.length_append, List.length_zip, wishK_len]
    omega
  have p17 : (held ++ gotPN xs ps).Perm (os ++ ps.zip (wishK xs)) := p4.append (got_perm lps)
  generalize os ++ ps.zip (wishK xs) = os2 at y17 lz p17
  generalize held ++ gotPN xs ps = held2 at h17 p17
  have lpl : ((List.range xs.length).map fun k => ((placeOf (byFall (fits xs)) ps k : Nat) : Int)).length ≤ 400 := by
    rw [List.length_map, List.length_range]
    omega
  generalize ((List.range xs.length).map fun k => ((placeOf (byFall (fits xs)) ps k : Nat) : Int)) = pl at elt17 lpl
  -- what is more
  refine ⟨_, rfl, Y.y, Y.dy, _, rfl, y17.yo, yFs_no Y d (by decide +kernel) (by decide +kernel) (by decide +kernel), Y, d, os2, rfl, y17, fun lo uo H18 s18 n18 at18 tu18 => ?_⟩
  have y18 := y17.keep s18
  refine ⟨_, rfl, Y.y, Y.dy, _, rfl, y18.yo, yFs_no Y d (by decide +kernel) (by decide +kernel) (by decide +kernel), Y, d, os2, rfl, y18, fun lf uf H19 s19 n19 at19 tu19 => ?_⟩
  have y19 := y18.keep s19
  refine ⟨by show 2 ≤ sizeLine; decide, fun lm nlm => nm ?_⟩
  dsimp only
  have k20 := newK (o := .lst [.ref lo, .ref lf]) nlm
  have a20 : L2.upd H19 lm (.lst [.ref lo, .ref lf]) lm = _ := upd_same
  have nmo : lm ∉ own Y d := y19.new nlm
  generalize L2.upd H19 lm (.lst [.ref lo, .ref lf]) = H20 at k20 a20 ⊢
  have alo : H20 lo = _ := k20 _ _ (s19 _ _ at18)
  have alf : H20 lf = _ := k20 _ _ at19
  -- its copies
  refine ⟨_, rfl, lm, _, _, .ref lo, rfl, rfl, SqL.of a20, at_of (j := 0) rfl rfl, lo, _, rfl, .inl (SqL.of alo), fun c3 nc3 => ?_⟩
  have k21 := newK (o := .lst (uo.map V.ref)) nc3
  have a21 : L2.upd H20 c3 (.lst (uo.map V.ref)) c3 = _ := upd_same
  have s1720 : ∀ b o, H17 b = some o → H20 b = some o := fun b o e => k20 _ _ (s19 _ _ (s18 _ _ e))
  have n3o : c3 ∉ own Y d := (y17.keep s1720).new nc3
  generalize L2.upd H20 c3 (.lst (uo.map V.ref)) = H21 at k21 a21 ⊢
  refine ⟨_, rfl, lm, _, _, .ref lf, rfl, rfl, SqL.of (k21 _ _ a20), at_of (j := 1) rfl rfl, lf, _, rfl, .inl (SqL.of (k21 _ _ alf)), fun c4 nc4 => ?_⟩
  have k22 := newK (o := .lst (uf.map V.ref)) nc4
  have a22 : L2.upd H21 c4 (.lst (uf.map V.ref)) c4 = _ := upd_same
  have s1721 : ∀ b o, H17 b = some o → H21 b = some o := fun b o e => k21 _ _ (s1720 _ _ e)
  have n4o : c4 ∉ own Y d := (y17.keep s1721).new nc4
  generalize L2.upd H21 c4 (.lst (uf.map V.ref)) = H22 at k22 a22 ⊢
  refine ⟨by show 2 ≤ sizeLine; decide, fun lc nlc => nm ?_⟩
  dsimp only
  have k23 := newK (o := .lst [.ref c3, .ref c4]) nlc
  have a23 : L2.upd H22 lc (.lst [.ref c3, .ref c4]) lc = _ := upd_same
  have s1722 : ∀ b o, H17 b = some o → H22 b = some o := fun b o e => k22 _ _ (s1721 _ _ e)
  have nco : lc ∉ own Y d := (y17.keep s1722).new nlc
  generalize L2.upd H22 lc (.lst [.ref c3, .ref c4]) = H23 at k23 a23 ⊢
  have s1723 : ∀ b o, H17 b = some o → H23 b = some o := fun b o e => k23 _ _ (s1722 _ _ e)
  have k2023 : ∀ b o, H20 b = some o → H23 b = some o := fun b o e => k23 _ _ (k22 _ _ (k21 _ _ e))
  have y23 := y17.keep s1723
  have fresh : ∀ {c : Addr} {H' : Hp}, H' c = none → (∀ b o, H17 b = some o → H' b = some o) → c ∉ own Y d → c ∉ lt :: own Y d := fun {c H'} n k no z => by
    rcases List.mem_cons.mp z with z | z
    · subst z
      have := k _ _ elt17
      rw [n] at this
      cases this
    · exact no z
  have nlo2 : lo ∉ own Y d := y17.new n18
  have nlf2 : lf ∉ own Y d := y18.new n19
  have s1719 : ∀ b o, H17 b = some o → H19 b = some o := fun b o e => s19 _ _ (s18 _ _ e)
  have bm : BefAt (lt :: own Y d) H23 lm (outZ os2) (frees os2 d) := ⟨fresh nlm s1719 nmo, lo, lf, uo, uf, fresh n18 (fun b o e => e) nlo2, fresh n19 s18 nlf2, k2023 _ _ a20, k2023 _ _ alo, k2023 _ _ alf, tu18.keep fun t xs e => k2023 _ _ (k20 _ _ (s19 _ _ e)), tu19.keep fun t xs e => k2023 _ _ (k20 _ _ e)⟩
  have bc : BefAt (lt :: own Y d) H23 lc (outZ os2) (frees os2 d) := ⟨fresh nlc s1722 nco, c3, c4, uo, uf, fresh nc3 s1720 n3o, fresh nc4 s1721 n4o, a23, k23 _ _ (k22 _ _ a21), k23 _ _ a22, tu18.keep fun t xs e => k2023 _ _ (k20 _ _ (s19 _ _ e)), tu19.keep fun t xs e => k2023 _ _ (k20 _ _ e)⟩
  have elt23 := s1723 _ _ elt17
  refine ⟨_, rfl, _, rfl, t, _, _, .ref lt, rfl, rfl, SqT.of (s1723 _ _ et17), at_of (j := 1) rfl rfl, _, rfl, Y, d, os2, held2, lt, lh', pl, [], rfl, y23, elt23, nlt, h17.same s1723, p17, lz, d60, lpl, t17.keep s1723, fun H24 o24 => ?_⟩
  have o24 : OnlyN (lt :: own Y d) H23 H24 := fun b o e nt no => o24 b o e nt (fun z => no (List.mem_cons_of_mem _ z)) (fun z => no (by rw [z]; exact List.mem_cons_self))
  have tno : ∀ t xs, H23 t = some (.tup xs) → t ∉ lt :: own Y d := fun t xs e z => by
    rcases List.mem_cons.mp z with z | z
    · rw [z, elt23] at e
      cases e
    · exact y23.off e (by intro xs z; cases z) (by intro xs z; cases z) z
  have bm24 := bm.onlyN o24 tno
  have bc24 := bc.onlyN o24 tno
  refine ⟨true, rfl, iteTof rfl ?_⟩
  refine ⟨_, rfl, _, rfl, _, _, bm24.dp, bc24.dp, dLL_shaped _, dLL_shaped _, ?_⟩
  rw [dLL_eqv, decide_eq_true rfl]
  exact q _
end
theorem all_mk {l : PySem.W.OpenLaw} {w : World} {K : PySem.W.Frag} {h : Heap} {mg : Str → Option Value} {fa : Addr} (X : K.In h) (G : h.Ns mainGlobals mg) (hfa : mg "law" = some (.ref fa))
    {c_YardError : Addr}
    {c_NoYard : Addr}
    {c_NoWish : Addr}
    {c_NoRoom : Addr}
    {c_NotOut : Addr}
    {c_Pool : Addr}
    {c_Yard : Addr}
    {f_is_size : Addr} {od_is_size an_is_size : Option Addr} {sl_is_size : Array (Option Value)} {oc_is_size kV_is_size dc_is_size pm_is_size cd_is_size ct_is_size : Value}
    {f_size_for : Addr} {od_size_for an_size_for : Option Addr} {sl_size_for : Array (Option Value)} {oc_size_for kV_size_for dc_size_for pm_size_for cd_size_for ct_size_for : Value}
    {f_twin_of : Addr} {od_twin_of an_twin_of : Option Addr} {sl_twin_of : Array (Option Value)} {oc_twin_of kV_twin_of dc_twin_of pm_twin_of cd_twin_of ct_twin_of : Value}
    {f_fitting_sizes : Addr} {od_fitting_sizes an_fitting_sizes : Option Addr} {sl_fitting_sizes : Array (Option Value)} {oc_fitting_sizes kV_fitting_sizes dc_fitting_sizes pm_fitting_sizes cd_fitting_sizes ct_fitting_sizes : Value}
    {f_give_all q_give_all p_give_all : Addr} {od_give_all an_give_all dq_give_all : Option Addr} {sl_give_all sq_give_all : Array (Option Value)} {vq_give_all : Array Value} {oc_give_all kV_give_all dc_give_all pm_give_all ct_give_all oq_give_all : Value}
    {f_rank : Addr} {od_rank an_rank : Option Addr} {sl_rank : Array (Option Value)} {oc_rank kV_rank dc_rank pm_rank cd_rank ct_rank : Value}
    {f_Pool_init : Addr} {od_Pool_init an_Pool_init : Option Addr} {sl_Pool_init : Array (Option Value)} {oc_Pool_init kV_Pool_init dc_Pool_init pm_Pool_init cd_Pool_init ct_Pool_init : Value}
    {f_Pool_put : Addr} {od_Pool_put an_Pool_put : Option Addr} {sl_Pool_put : Array (Option Value)} {oc_Pool_put kV_Pool_put dc_Pool_put pm_Pool_put cd_Pool_put ct_Pool_put : Value}
    {f_Pool_drop : Addr} {od_Pool_drop an_Pool_drop : Option Addr} {sl_Pool_drop : Array (Option Value)} {oc_Pool_drop kV_Pool_drop dc_Pool_drop pm_Pool_drop cd_Pool_drop ct_Pool_drop : Value}
    {f_Pool_has : Addr} {od_Pool_has an_Pool_has : Option Addr} {sl_Pool_has : Array (Option Value)} {oc_Pool_has kV_Pool_has dc_Pool_has pm_Pool_has cd_Pool_has ct_Pool_has : Value}
    {f_Pool_best : Addr} {od_Pool_best an_Pool_best : Option Addr} {sl_Pool_best : Array (Option Value)} {oc_Pool_best kV_Pool_best dc_Pool_best pm_Pool_best cd_Pool_best ct_Pool_best : Value}
    {f_Pool_pieces : Addr} {od_Pool_pieces an_Pool_pieces : Option Addr} {sl_Pool_pieces : Array (Option Value)} {oc_Pool_pieces kV_Pool_pieces dc_Pool_pieces pm_Pool_pieces cd_Pool_pieces ct_Pool_pieces : Value}
    {f_upper_halves : Addr} {od_upper_halves an_upper_halves : Option Addr} {sl_upper_halves : Array (Option Value)} {oc_upper_halves kV_upper_halves dc_upper_halves pm_upper_halves cd_upper_halves ct_upper_halves : Value}
    {f_Yard_init : Addr} {od_Yard_init an_Yard_init : Option Addr} {sl_Yard_init : Array (Option Value)} {oc_Yard_init kV_Yard_init dc_Yard_init pm_Yard_init cd_Yard_init ct_Yard_init : Value}
    {f_Yard_give : Addr} {od_Yard_give an_Yard_give : Option Addr} {sl_Yard_give : Array (Option Value)} {oc_Yard_give kV_Yard_give dc_Yard_give pm_Yard_give cd_Yard_give ct_Yard_give : Value}
    {f_Yard_take_back : Addr} {od_Yard_take_back an_Yard_take_back : Option Addr} {sl_Yard_take_back : Array (Option Value)} {oc_Yard_take_back kV_Yard_take_back dc_Yard_take_back pm_Yard_take_back cd_Yard_take_back ct_Yard_take_back : Value}
    {f_Yard_resize : Addr} {od_Yard_resize an_Yard_resize : Option Addr} {sl_Yard_resize : Array (Option Value)} {oc_Yard_resize kV_Yard_resize dc_Yard_resize pm_Yard_resize cd_Yard_resize ct_Yard_resize : Value}
    {f_Yard_free : Addr} {od_Yard_free an_Yard_free : Option Addr} {sl_Yard_free : Array (Option Value)} {oc_Yard_free kV_Yard_free dc_Yard_free pm_Yard_free cd_Yard_free ct_Yard_free : Value}
    {f_Yard_out : Addr} {od_Yard_out an_Yard_out : Option Addr} {sl_Yard_out : Array (Option Value)} {oc_Yard_out kV_Yard_out dc_Yard_out pm_Yard_out cd_Yard_out ct_Yard_out : Value}
    {f_Yard_owner : Addr} {od_Yard_owner an_Yard_owner : Option Addr} {sl_Yard_owner : Array (Option Value)} {oc_Yard_owner kV_Yard_owner dc_Yard_owner pm_Yard_owner cd_Yard_owner ct_Yard_owner : Value}
    {f_Yard_fitting : Addr} {od_Yard_fitting an_Yard_fitting : Option Addr} {sl_Yard_fitting : Array (Option Value)} {oc_Yard_fitting kV_Yard_fitting dc_Yard_fitting pm_Yard_fitting cd_Yard_fitting ct_Yard_fitting : Value}
    {f_Yard_size_of : Addr} {od_Yard_size_of an_Yard_size_of : Option Addr} {sl_Yard_size_of : Array (Option Value)} {oc_Yard_size_of kV_Yard_size_of dc_Yard_size_of pm_Yard_size_of cd_Yard_size_of ct_Yard_size_of : Value}
    {f_Yard_cut : Addr} {od_Yard_cut an_Yard_cut : Option Addr} {sl_Yard_cut : Array (Option Value)} {oc_Yard_cut kV_Yard_cut dc_Yard_cut pm_Yard_cut cd_Yard_cut ct_Yard_cut : Value}
    {f_Yard_grow : Addr} {od_Yard_grow an_Yard_grow : Option Addr} {sl_Yard_grow : Array (Option Value)} {oc_Yard_grow kV_Yard_grow dc_Yard_grow pm_Yard_grow cd_Yard_grow ct_Yard_grow : Value}
    {f_Yard_join : Addr} {od_Yard_join an_Yard_join : Option Addr} {sl_Yard_join : Array (Option Value)} {oc_Yard_join kV_Yard_join dc_Yard_join pm_Yard_join cd_Yard_join ct_Yard_join : Value}
    {f_law_whole : Addr} {od_law_whole an_law_whole : Option Addr} {sl_law_whole : Array (Option Value)} {oc_law_whole kV_law_whole dc_law_whole pm_law_whole cd_law_whole ct_law_whole : Value}
    {f_law_cell_at : Addr} {od_law_cell_at an_law_cell_at : Option Addr} {sl_law_cell_at : Array (Option Value)} {oc_law_cell_at kV_law_cell_at dc_law_cell_at pm_law_cell_at cd_law_cell_at ct_law_cell_at : Value}
    {f_law_doubled : Addr} {od_law_doubled an_law_doubled : Option Addr} {sl_law_doubled : Array (Option Value)} {oc_law_doubled kV_law_doubled dc_law_doubled pm_law_doubled cd_law_doubled ct_law_doubled : Value}
    {f_law_fitting : Addr} {od_law_fitting an_law_fitting : Option Addr} {sl_law_fitting : Array (Option Value)} {oc_law_fitting kV_law_fitting dc_law_fitting pm_law_fitting cd_law_fitting ct_law_fitting : Value}
    {f_law_yard_size : Addr} {od_law_yard_size an_law_yard_size : Option Addr} {sl_law_yard_size : Array (Option Value)} {oc_law_yard_size kV_law_yard_size dc_law_yard_size pm_law_yard_size cd_law_yard_size ct_law_yard_size : Value}
    {f_law_want : Addr} {od_law_want an_law_want : Option Addr} {sl_law_want : Array (Option Value)} {oc_law_want kV_law_want dc_law_want pm_law_want cd_law_want ct_law_want : Value}
    {f_law_done : Addr} {od_law_done an_law_done : Option Addr} {sl_law_done : Array (Option Value)} {oc_law_done kV_law_done dc_law_done pm_law_done cd_law_done ct_law_done : Value}
    {f_law_touched : Addr} {od_law_touched an_law_touched : Option Addr} {sl_law_touched : Array (Option Value)} {oc_law_touched kV_law_touched dc_law_touched pm_law_touched cd_law_touched ct_law_touched : Value}
    {f_law_due : Addr} {od_law_due an_law_due : Option Addr} {sl_law_due : Array (Option Value)} {oc_law_due kV_law_due dc_law_due pm_law_due cd_law_due ct_law_due : Value}
    {f_law_told : Addr} {od_law_told an_law_told : Option Addr} {sl_law_told : Array (Option Value)} {oc_law_told kV_law_told dc_law_told pm_law_told cd_law_told ct_law_told : Value}
    {f_law_halves : Addr} {od_law_halves an_law_halves : Option Addr} {sl_law_halves : Array (Option Value)} {oc_law_halves kV_law_halves dc_law_halves pm_law_halves cd_law_halves ct_law_halves : Value}
    {f_law_wishes : Addr} {od_law_wishes an_law_wishes : Option Addr} {sl_law_wishes : Array (Option Value)} {oc_law_wishes kV_law_wishes dc_law_wishes pm_law_wishes cd_law_wishes ct_law_wishes : Value}
    {f_law_in_turn : Addr} {od_law_in_turn an_law_in_turn : Option Addr} {sl_law_in_turn : Array (Option Value)} {oc_law_in_turn kV_law_in_turn dc_law_in_turn pm_law_in_turn cd_law_in_turn ct_law_in_turn : Value}
    {f_law_owner : Addr} {od_law_owner an_law_owner : Option Addr} {sl_law_owner : Array (Option Value)} {oc_law_owner kV_law_owner dc_law_owner pm_law_owner cd_law_owner ct_law_owner : Value}
    {f_law_owners : Addr} {od_law_owners an_law_owners : Option Addr} {sl_law_owners : Array (Option Value)} {oc_law_owners kV_law_owners dc_law_owners pm_law_owners cd_law_owners ct_law_owners : Value}
    {f_law_behind : Addr} {od_law_behind an_law_behind : Option Addr} {sl_law_behind : Array (Option Value)} {oc_law_behind kV_law_behind dc_law_behind pm_law_behind cd_law_behind ct_law_behind : Value}
    {f_law : Addr} {od_law an_law : Option Addr} {sl_law : Array (Option Value)} {oc_law kV_law dc_law pm_law cd_law ct_law : Value}
    {t_MOST : Nat}
    (g_YardError : PySem.W.nsIn K mainGlobals "YardError" = some (some (.ref c_YardError)))
    (g_NoYard : PySem.W.nsIn K mainGlobals "NoYard" = some (some (.ref c_NoYard)))
    (g_NoWish : PySem.W.nsIn K mainGlobals "NoWish" = some (some (.ref c_NoWish)))
    (g_NoRoom : PySem.W.nsIn K mainGlobals "NoRoom" = some (some (.ref c_NoRoom)))
    (g_NotOut : PySem.W.nsIn K mainGlobals "NotOut" = some (some (.ref c_NotOut)))
    (g_Pool : PySem.W.nsIn K mainGlobals "Pool" = some (some (.ref c_Pool)))
    (g_Yard : PySem.W.nsIn K mainGlobals "Yard" = some (some (.ref c_Yard)))
    (a_is_size : PySem.W.nsIn K mainGlobals "is_size" = some (some (.ref f_is_size)))
    (l_is_size : K.lookup f_is_size = some ⟨oc_is_size, od_is_size, .func (PySem.W.fnOf "is_size" "is_size" (defArgs s_is_size) (defBody s_is_size) (defScope s_is_size) .none kV_is_size dc_is_size pm_is_size an_is_size cd_is_size ct_is_size), sl_is_size⟩)
    (c_is_size : PySem.W.codeIn K cd_is_size "is_size" = true)
    (k_is_size : PySem.W.keepIn K (.ref f_is_size) = true)
    (a_size_for : PySem.W.nsIn K mainGlobals "size_for" = some (some (.ref f_size_for)))
    (l_size_for : K.lookup f_size_for = some ⟨oc_size_for, od_size_for, .func (PySem.W.fnOf "size_for" "size_for" (defArgs s_size_for) (defBody s_size_for) (defScope s_size_for) .none kV_size_for dc_size_for pm_size_for an_size_for cd_size_for ct_size_for), sl_size_for⟩)
    (c_size_for : PySem.W.codeIn K cd_size_for "size_for" = true)
    (k_size_for : PySem.W.keepIn K (.ref f_size_for) = true)
    (a_twin_of : PySem.W.nsIn K mainGlobals "twin_of" = some (some (.ref f_twin_of)))
    (l_twin_of : K.lookup f_twin_of = some ⟨oc_twin_of, od_twin_of, .func (PySem.W.fnOf "twin_of" "twin_of" (defArgs s_twin_of) (defBody s_twin_of) (defScope s_twin_of) .none kV_twin_of dc_twin_of pm_twin_of an_twin_of cd_twin_of ct_twin_of), sl_twin_of⟩)
    (c_twin_of : PySem.W.codeIn K cd_twin_of "twin_of" = true)
    (k_twin_of : PySem.W.keepIn K (.ref f_twin_of) = true)
    (a_fitting_sizes : PySem.W.nsIn K mainGlobals "fitting_sizes" = some (some (.ref f_fitting_sizes)))
    (l_fitting_sizes : K.lookup f_fitting_sizes = some ⟨oc_fitting_sizes, od_fitting_sizes, .func (PySem.W.fnOf "fitting_sizes" "fitting_sizes" (defArgs s_fitting_sizes) (defBody s_fitting_sizes) (defScope s_fitting_sizes) .none kV_fitting_sizes dc_fitting_sizes pm_fitting_sizes an_fitting_sizes cd_fitting_sizes ct_fitting_sizes), sl_fitting_sizes⟩)
    (c_fitting_sizes : PySem.W.codeIn K cd_fitting_sizes "fitting_sizes" = true)
    (k_fitting_sizes : PySem.W.keepIn K (.ref f_fitting_sizes) = true)
    (a_give_all : PySem.W.nsIn K mainGlobals "give_all" = some (some (.ref f_give_all)))
    (l_give_all : K.lookup f_give_all = some ⟨oc_give_all, od_give_all, .func (PySem.W.fnOf "give_all" "give_all" (defArgs s_give_all) (defBody s_give_all) (defScope s_give_all) .none kV_give_all dc_give_all pm_give_all an_give_all (.ref q_give_all) ct_give_all), sl_give_all⟩)
    (c_give_all : PySem.W.codeIn K (.ref q_give_all) "give_all" = true)
    (lq_give_all : K.lookup q_give_all = some ⟨oq_give_all, dq_give_all, .fields vq_give_all, sq_give_all⟩)
    (pq_give_all : (vq_give_all[11]? : Option Value) = some (.ref p_give_all))
    (nt_give_all : K.lookup p_give_all = none)
    (hd_give_all : PySem.W.codeHdIn K q_give_all p_give_all = true)
    (tp_give_all : h.get? p_give_all = some (PySem.W.tabObj #[]))
    (k_give_all : PySem.W.keepIn K (.ref f_give_all) = true)
    (a_rank : PySem.W.nsIn K mainGlobals "rank" = some (some (.ref f_rank)))
    (l_rank : K.lookup f_rank = some ⟨oc_rank, od_rank, .func (PySem.W.fnOf "rank" "rank" (defArgs s_rank) (defBody s_rank) (defScope s_rank) .none kV_rank dc_rank pm_rank an_rank cd_rank ct_rank), sl_rank⟩)
    (c_rank : PySem.W.codeIn K cd_rank "rank" = true)
    (k_rank : PySem.W.keepIn K (.ref f_rank) = true)
    (a_Pool_init : PySem.W.findIn K (.ref c_Pool) "__init__" = some (some (.ref f_Pool_init)))
    (i_Pool_init : PySem.W.isFn K (.ref f_Pool_init) = true)
    (l_Pool_init : K.lookup f_Pool_init = some ⟨oc_Pool_init, od_Pool_init, .func (PySem.W.fnOf "__init__" "Pool.__init__" (defArgs s_Pool_init) (defBody s_Pool_init) (defScope s_Pool_init) .none kV_Pool_init dc_Pool_init pm_Pool_init an_Pool_init cd_Pool_init ct_Pool_init), sl_Pool_init⟩)
    (c_Pool_init : PySem.W.codeIn K cd_Pool_init "Pool.__init__" = true)
    (k_Pool_init : PySem.W.keepIn K (.ref f_Pool_init) = true)
    (a_Pool_put : PySem.W.findIn K (.ref c_Pool) "put" = some (some (.ref f_Pool_put)))
    (i_Pool_put : PySem.W.isFn K (.ref f_Pool_put) = true)
    (l_Pool_put : K.lookup f_Pool_put = some ⟨oc_Pool_put, od_Pool_put, .func (PySem.W.fnOf "put" "Pool.put" (defArgs s_Pool_put) (defBody s_Pool_put) (defScope s_Pool_put) .none kV_Pool_put dc_Pool_put pm_Pool_put an_Pool_put cd_Pool_put ct_Pool_put), sl_Pool_put⟩)
    (c_Pool_put : PySem.W.codeIn K cd_Pool_put "Pool.put" = true)
    (k_Pool_put : PySem.W.keepIn K (.ref f_Pool_put) = true)
    (a_Pool_drop : PySem.W.findIn K (.ref c_Pool) "drop" = some (some (.ref f_Pool_drop)))
    (i_Pool_drop : PySem.W.isFn K (.ref f_Pool_drop) = true)
    (l_Pool_drop : K.lookup f_Pool_drop = some ⟨oc_Pool_drop, od_Pool_drop, .func (PySem.W.fnOf "drop" "Pool.drop" (defArgs s_Pool_drop) (defBody s_Pool_drop) (defScope s_Pool_drop) .none kV_Pool_drop dc_Pool_drop pm_Pool_drop an_Pool_drop cd_Pool_drop ct_Pool_drop), sl_Pool_drop⟩)
    (c_Pool_drop : PySem.W.codeIn K cd_Pool_drop "Pool.drop" = true)
    (k_Pool_drop : PySem.W.keepIn K (.ref f_Pool_drop) = true)
    (a_Pool_has : PySem.W.findIn K (.ref c_Pool) "has" = some (some (.ref f_Pool_has)))
    (i_Pool_has : PySem.W.isFn K (.ref f_Pool_has) = true)
    (l_Pool_has : K.lookup f_Pool_has = some ⟨oc_Pool_has, od_Pool_has, .func (PySem.W.fnOf "has" "Pool.has" (defArgs s_Pool_has) (defBody s_Pool_has) (defScope s_Pool_has) .none kV_Pool_has dc_Pool_has pm_Pool_has an_Pool_has cd_Pool_has ct_Pool_has), sl_Pool_has⟩)
    (c_Pool_has : PySem.W.codeIn K cd_Pool_has "Pool.has" = true)
    (k_Pool_has : PySem.W.keepIn K (.ref f_Pool_has) = true)
    (a_Pool_best : PySem.W.findIn K (.ref c_Pool) "best" = some (some (.ref f_Pool_best)))
    (i_Pool_best : PySem.W.isFn K (.ref f_Pool_best) = true)
    (l_Pool_best : K.lookup f_Pool_best = some ⟨oc_Pool_best, od_Pool_best, .func (PySem.W.fnOf "best" "Pool.best" (defArgs s_Pool_best) (defBody s_Pool_best) (defScope s_Pool_best) .none kV_Pool_best dc_Pool_best pm_Pool_best an_Pool_best cd_Pool_best ct_Pool_best), sl_Pool_best⟩)
    (c_Pool_best : PySem.W.codeIn K cd_Pool_best "Pool.best" = true)
    (k_Pool_best : PySem.W.keepIn K (.ref f_Pool_best) = true)
    (a_Pool_pieces : PySem.W.findIn K (.ref c_Pool) "pieces" = some (some (.ref f_Pool_pieces)))
    (i_Pool_pieces : PySem.W.isFn K (.ref f_Pool_pieces) = true)
    (l_Pool_pieces : K.lookup f_Pool_pieces = some ⟨oc_Pool_pieces, od_Pool_pieces, .func (PySem.W.fnOf "pieces" "Pool.pieces" (defArgs s_Pool_pieces) (defBody s_Pool_pieces) (defScope s_Pool_pieces) .none kV_Pool_pieces dc_Pool_pieces pm_Pool_pieces an_Pool_pieces cd_Pool_pieces ct_Pool_pieces), sl_Pool_pieces⟩)
    (c_Pool_pieces : PySem.W.codeIn K cd_Pool_pieces "Pool.pieces" = true)
    (k_Pool_pieces : PySem.W.keepIn K (.ref f_Pool_pieces) = true)
    (a_upper_halves : PySem.W.nsIn K mainGlobals "upper_halves" = some (some (.ref f_upper_halves)))
    (l_upper_halves : K.lookup f_upper_halves = some ⟨oc_upper_halves, od_upper_halves, .func (PySem.W.fnOf "upper_halves" "upper_halves" (defArgs s_upper_halves) (defBody s_upper_halves) (defScope s_upper_halves) .none kV_upper_halves dc_upper_halves pm_upper_halves an_upper_halves cd_upper_halves ct_upper_halves), sl_upper_halves⟩)
    (c_upper_halves : PySem.W.codeIn K cd_upper_halves "upper_halves" = true)
    (k_upper_halves : PySem.W.keepIn K (.ref f_upper_halves) = true)
    (a_Yard_init : PySem.W.findIn K (.ref c_Yard) "__init__" = some (some (.ref f_Yard_init)))
    (i_Yard_init : PySem.W.isFn K (.ref f_Yard_init) = true)
    (l_Yard_init : K.lookup f_Yard_init = some ⟨oc_Yard_init, od_Yard_init, .func (PySem.W.fnOf "__init__" "Yard.__init__" (defArgs s_Yard_init) (defBody s_Yard_init) (defScope s_Yard_init) .none kV_Yard_init dc_Yard_init pm_Yard_init an_Yard_init cd_Yard_init ct_Yard_init), sl_Yard_init⟩)
    (c_Yard_init : PySem.W.codeIn K cd_Yard_init "Yard.__init__" = true)
    (k_Yard_init : PySem.W.keepIn K (.ref f_Yard_init) = true)
    (a_Yard_give : PySem.W.findIn K (.ref c_Yard) "give" = some (some (.ref f_Yard_give)))
    (i_Yard_give : PySem.W.isFn K (.ref f_Yard_give) = true)
    (l_Yard_give : K.lookup f_Yard_give = some ⟨oc_Yard_give, od_Yard_give, .func (PySem.W.fnOf "give" "Yard.give" (defArgs s_Yard_give) (defBody s_Yard_give) (defScope s_Yard_give) .none kV_Yard_give dc_Yard_give pm_Yard_give an_Yard_give cd_Yard_give ct_Yard_give), sl_Yard_give⟩)
    (c_Yard_give : PySem.W.codeIn K cd_Yard_give "Yard.give" = true)
    (k_Yard_give : PySem.W.keepIn K (.ref f_Yard_give) = true)
    (a_Yard_take_back : PySem.W.findIn K (.ref c_Yard) "take_back" = some (some (.ref f_Yard_take_back)))
    (i_Yard_take_back : PySem.W.isFn K (.ref f_Yard_take_back) = true)
    (l_Yard_take_back : K.lookup f_Yard_take_back = some ⟨oc_Yard_take_back, od_Yard_take_back, .func (PySem.W.fnOf "take_back" "Yard.take_back" (defArgs s_Yard_take_back) (defBody s_Yard_take_back) (defScope s_Yard_take_back) .none kV_Yard_take_back dc_Yard_take_back pm_Yard_take_back an_Yard_take_back cd_Yard_take_back ct_Yard_take_back), sl_Yard_take_back⟩)
    (c_Yard_take_back : PySem.W.codeIn K cd_Yard_take_back "Yard.take_back" = true)
    (k_Yard_take_back : PySem.W.keepIn K (.ref f_Yard_take_back) = true)
    (a_Yard_resize : PySem.W.findIn K (.ref c_Yard) "resize" = some (some (.ref f_Yard_resize)))
    (i_Yard_resize : PySem.W.isFn K (.ref f_Yard_resize) = true)
    (l_Yard_resize : K.lookup f_Yard_resize = some ⟨oc_Yard_resize, od_Yard_resize, .func (PySem.W.fnOf "resize" "Yard.resize" (defArgs s_Yard_resize) (defBody s_Yard_resize) (defScope s_Yard_resize) .none kV_Yard_resize dc_Yard_resize pm_Yard_resize an_Yard_resize cd_Yard_resize ct_Yard_resize), sl_Yard_resize⟩)
    (c_Yard_resize : PySem.W.codeIn K cd_Yard_resize "Yard.resize" = true)
    (k_Yard_resize : PySem.W.keepIn K (.ref f_Yard_resize) = true)
    (a_Yard_free : PySem.W.findIn K (.ref c_Yard) "free" = some (some (.ref f_Yard_free)))
    (i_Yard_free : PySem.W.isFn K (.ref f_Yard_free) = true)
    (l_Yard_free : K.lookup f_Yard_free = some ⟨oc_Yard_free, od_Yard_free, .func (PySem.W.fnOf "free" "Yard.free" (defArgs s_Yard_free) (defBody s_Yard_free) (defScope s_Yard_free) .none kV_Yard_free dc_Yard_free pm_Yard_free an_Yard_free cd_Yard_free ct_Yard_free), sl_Yard_free⟩)
    (c_Yard_free : PySem.W.codeIn K cd_Yard_free "Yard.free" = true)
    (k_Yard_free : PySem.W.keepIn K (.ref f_Yard_free) = true)
    (a_Yard_out : PySem.W.findIn K (.ref c_Yard) "out" = some (some (.ref f_Yard_out)))
    (i_Yard_out : PySem.W.isFn K (.ref f_Yard_out) = true)
    (l_Yard_out : K.lookup f_Yard_out = some ⟨oc_Yard_out, od_Yard_out, .func (PySem.W.fnOf "out" "Yard.out" (defArgs s_Yard_out) (defBody s_Yard_out) (defScope s_Yard_out) .none kV_Yard_out dc_Yard_out pm_Yard_out an_Yard_out cd_Yard_out ct_Yard_out), sl_Yard_out⟩)
    (c_Yard_out : PySem.W.codeIn K cd_Yard_out "Yard.out" = true)
    (k_Yard_out : PySem.W.keepIn K (.ref f_Yard_out) = true)
    (a_Yard_owner : PySem.W.findIn K (.ref c_Yard) "owner" = some (some (.ref f_Yard_owner)))
    (i_Yard_owner : PySem.W.isFn K (.ref f_Yard_owner) = true)
    (l_Yard_owner : K.lookup f_Yard_owner = some ⟨oc_Yard_owner, od_Yard_owner, .func (PySem.W.fnOf "owner" "Yard.owner" (defArgs s_Yard_owner) (defBody s_Yard_owner) (defScope s_Yard_owner) .none kV_Yard_owner dc_Yard_owner pm_Yard_owner an_Yard_owner cd_Yard_owner ct_Yard_owner), sl_Yard_owner⟩)
    (c_Yard_owner : PySem.W.codeIn K cd_Yard_owner "Yard.owner" = true)
    (k_Yard_owner : PySem.W.keepIn K (.ref f_Yard_owner) = true)
    (a_Yard_fitting : PySem.W.findIn K (.ref c_Yard) "_fitting" = some (some (.ref f_Yard_fitting)))
    (i_Yard_fitting : PySem.W.isFn K (.ref f_Yard_fitting) = true)
    (l_Yard_fitting : K.lookup f_Yard_fitting = some ⟨oc_Yard_fitting, od_Yard_fitting, .func (PySem.W.fnOf "_fitting" "Yard._fitting" (defArgs s_Yard_fitting) (defBody s_Yard_fitting) (defScope s_Yard_fitting) .none kV_Yard_fitting dc_Yard_fitting pm_Yard_fitting an_Yard_fitting cd_Yard_fitting ct_Yard_fitting), sl_Yard_fitting⟩)
    (c_Yard_fitting : PySem.W.codeIn K cd_Yard_fitting "Yard._fitting" = true)
    (k_Yard_fitting : PySem.W.keepIn K (.ref f_Yard_fitting) = true)
    (a_Yard_size_of : PySem.W.findIn K (.ref c_Yard) "_size_of" = some (some (.ref f_Yard_size_of)))
    (i_Yard_size_of : PySem.W.isFn K (.ref f_Yard_size_of) = true)
    (l_Yard_size_of : K.lookup f_Yard_size_of = some ⟨oc_Yard_size_of, od_Yard_size_of, .func (PySem.W.fnOf "_size_of" "Yard._size_of" (defArgs s_Yard_size_of) (defBody s_Yard_size_of) (defScope s_Yard_size_of) .none kV_Yard_size_of dc_Yard_size_of pm_Yard_size_of an_Yard_size_of cd_Yard_size_of ct_Yard_size_of), sl_Yard_size_of⟩)
    (c_Yard_size_of : PySem.W.codeIn K cd_Yard_size_of "Yard._size_of" = true)
    (k_Yard_size_of : PySem.W.keepIn K (.ref f_Yard_size_of) = true)
    (a_Yard_cut : PySem.W.findIn K (.ref c_Yard) "_cut" = some (some (.ref f_Yard_cut)))
    (i_Yard_cut : PySem.W.isFn K (.ref f_Yard_cut) = true)
    (l_Yard_cut : K.lookup f_Yard_cut = some ⟨oc_Yard_cut, od_Yard_cut, .func (PySem.W.fnOf "_cut" "Yard._cut" (defArgs s_Yard_cut) (defBody s_Yard_cut) (defScope s_Yard_cut) .none kV_Yard_cut dc_Yard_cut pm_Yard_cut an_Yard_cut cd_Yard_cut ct_Yard_cut), sl_Yard_cut⟩)
    (c_Yard_cut : PySem.W.codeIn K cd_Yard_cut "Yard._cut" = true)
    (k_Yard_cut : PySem.W.keepIn K (.ref f_Yard_cut) = true)
    (a_Yard_grow : PySem.W.findIn K (.ref c_Yard) "_grow" = some (some (.ref f_Yard_grow)))
    (i_Yard_grow : PySem.W.isFn K (.ref f_Yard_grow) = true)
    (l_Yard_grow : K.lookup f_Yard_grow = some ⟨oc_Yard_grow, od_Yard_grow, .func (PySem.W.fnOf "_grow" "Yard._grow" (defArgs s_Yard_grow) (defBody s_Yard_grow) (defScope s_Yard_grow) .none kV_Yard_grow dc_Yard_grow pm_Yard_grow an_Yard_grow cd_Yard_grow ct_Yard_grow), sl_Yard_grow⟩)
    (c_Yard_grow : PySem.W.codeIn K cd_Yard_grow "Yard._grow" = true)
    (k_Yard_grow : PySem.W.keepIn K (.ref f_Yard_grow) = true)
    (a_Yard_join : PySem.W.findIn K (.ref c_Yard) "_join" = some (some (.ref f_Yard_join)))
    (i_Yard_join : PySem.W.isFn K (.ref f_Yard_join) = true)
    (l_Yard_join : K.lookup f_Yard_join = some ⟨oc_Yard_join, od_Yard_join, .func (PySem.W.fnOf "_join" "Yard._join" (defArgs s_Yard_join) (defBody s_Yard_join) (defScope s_Yard_join) .none kV_Yard_join dc_Yard_join pm_Yard_join an_Yard_join cd_Yard_join ct_Yard_join), sl_Yard_join⟩)
    (c_Yard_join : PySem.W.codeIn K cd_Yard_join "Yard._join" = true)
    (k_Yard_join : PySem.W.keepIn K (.ref f_Yard_join) = true)
    (a_law_whole : PySem.W.nsIn K mainGlobals "_law_whole" = some (some (.ref f_law_whole)))
    (l_law_whole : K.lookup f_law_whole = some ⟨oc_law_whole, od_law_whole, .func (PySem.W.fnOf "_law_whole" "_law_whole" (defArgs s_law_whole) (defBody s_law_whole) (defScope s_law_whole) .none kV_law_whole dc_law_whole pm_law_whole an_law_whole cd_law_whole ct_law_whole), sl_law_whole⟩)
    (c_law_whole : PySem.W.codeIn K cd_law_whole "_law_whole" = true)
    (k_law_whole : PySem.W.keepIn K (.ref f_law_whole) = true)
    (a_law_cell_at : PySem.W.nsIn K mainGlobals "_law_cell_at" = some (some (.ref f_law_cell_at)))
    (l_law_cell_at : K.lookup f_law_cell_at = some ⟨oc_law_cell_at, od_law_cell_at, .func (PySem.W.fnOf "_law_cell_at" "_law_cell_at" (defArgs s_law_cell_at) (defBody s_law_cell_at) (defScope s_law_cell_at) .none kV_law_cell_at dc_law_cell_at pm_law_cell_at an_law_cell_at cd_law_cell_at ct_law_cell_at), sl_law_cell_at⟩)
    (c_law_cell_at : PySem.W.codeIn K cd_law_cell_at "_law_cell_at" = true)
    (k_law_cell_at : PySem.W.keepIn K (.ref f_law_cell_at) = true)
    (a_law_doubled : PySem.W.nsIn K mainGlobals "_law_doubled" = some (some (.ref f_law_doubled)))
    (l_law_doubled : K.lookup f_law_doubled = some ⟨oc_law_doubled, od_law_doubled, .func (PySem.W.fnOf "_law_doubled" "_law_doubled" (defArgs s_law_doubled) (defBody s_law_doubled) (defScope s_law_doubled) .none kV_law_doubled dc_law_doubled pm_law_doubled an_law_doubled cd_law_doubled ct_law_doubled), sl_law_doubled⟩)
    (c_law_doubled : PySem.W.codeIn K cd_law_doubled "_law_doubled" = true)
    (k_law_doubled : PySem.W.keepIn K (.ref f_law_doubled) = true)
    (a_law_fitting : PySem.W.nsIn K mainGlobals "_law_fitting" = some (some (.ref f_law_fitting)))
    (l_law_fitting : K.lookup f_law_fitting = some ⟨oc_law_fitting, od_law_fitting, .func (PySem.W.fnOf "_law_fitting" "_law_fitting" (defArgs s_law_fitting) (defBody s_law_fitting) (defScope s_law_fitting) .none kV_law_fitting dc_law_fitting pm_law_fitting an_law_fitting cd_law_fitting ct_law_fitting), sl_law_fitting⟩)
    (c_law_fitting : PySem.W.codeIn K cd_law_fitting "_law_fitting" = true)
    (k_law_fitting : PySem.W.keepIn K (.ref f_law_fitting) = true)
    (a_law_yard_size : PySem.W.nsIn K mainGlobals "_law_yard_size" = some (some (.ref f_law_yard_size)))
    (l_law_yard_size : K.lookup f_law_yard_size = some ⟨oc_law_yard_size, od_law_yard_size, .func (PySem.W.fnOf "_law_yard_size" "_law_yard_size" (defArgs s_law_yard_size) (defBody s_law_yard_size) (defScope s_law_yard_size) .none kV_law_yard_size dc_law_yard_size pm_law_yard_size an_law_yard_size cd_law_yard_size ct_law_yard_size), sl_law_yard_size⟩)
    (c_law_yard_size : PySem.W.codeIn K cd_law_yard_size "_law_yard_size" = true)
    (k_law_yard_size : PySem.W.keepIn K (.ref f_law_yard_size) = true)
    (a_law_want : PySem.W.nsIn K mainGlobals "_law_want" = some (some (.ref f_law_want)))
    (l_law_want : K.lookup f_law_want = some ⟨oc_law_want, od_law_want, .func (PySem.W.fnOf "_law_want" "_law_want" (defArgs s_law_want) (defBody s_law_want) (defScope s_law_want) .none kV_law_want dc_law_want pm_law_want an_law_want cd_law_want ct_law_want), sl_law_want⟩)
    (c_law_want : PySem.W.codeIn K cd_law_want "_law_want" = true)
    (k_law_want : PySem.W.keepIn K (.ref f_law_want) = true)
    (a_law_done : PySem.W.nsIn K mainGlobals "_law_done" = some (some (.ref f_law_done)))
    (l_law_done : K.lookup f_law_done = some ⟨oc_law_done, od_law_done, .func (PySem.W.fnOf "_law_done" "_law_done" (defArgs s_law_done) (defBody s_law_done) (defScope s_law_done) .none kV_law_done dc_law_done pm_law_done an_law_done cd_law_done ct_law_done), sl_law_done⟩)
    (c_law_done : PySem.W.codeIn K cd_law_done "_law_done" = true)
    (k_law_done : PySem.W.keepIn K (.ref f_law_done) = true)
    (a_law_touched : PySem.W.nsIn K mainGlobals "_law_touched" = some (some (.ref f_law_touched)))
    (l_law_touched : K.lookup f_law_touched = some ⟨oc_law_touched, od_law_touched, .func (PySem.W.fnOf "_law_touched" "_law_touched" (defArgs s_law_touched) (defBody s_law_touched) (defScope s_law_touched) .none kV_law_touched dc_law_touched pm_law_touched an_law_touched cd_law_touched ct_law_touched), sl_law_touched⟩)
    (c_law_touched : PySem.W.codeIn K cd_law_touched "_law_touched" = true)
    (k_law_touched : PySem.W.keepIn K (.ref f_law_touched) = true)
    (a_law_due : PySem.W.nsIn K mainGlobals "_law_due" = some (some (.ref f_law_due)))
    (l_law_due : K.lookup f_law_due = some ⟨oc_law_due, od_law_due, .func (PySem.W.fnOf "_law_due" "_law_due" (defArgs s_law_due) (defBody s_law_due) (defScope s_law_due) .none kV_law_due dc_law_due pm_law_due an_law_due cd_law_due ct_law_due), sl_law_due⟩)
    (c_law_due : PySem.W.codeIn K cd_law_due "_law_due" = true)
    (k_law_due : PySem.W.keepIn K (.ref f_law_due) = true)
    (a_law_told : PySem.W.nsIn K mainGlobals "_law_told" = some (some (.ref f_law_told)))
    (l_law_told : K.lookup f_law_told = some ⟨oc_law_told, od_law_told, .func (PySem.W.fnOf "_law_told" "_law_told" (defArgs s_law_told) (defBody s_law_told) (defScope s_law_told) .none kV_law_told dc_law_told pm_law_told an_law_told cd_law_told ct_law_told), sl_law_told⟩)
    (c_law_told : PySem.W.codeIn K cd_law_told "_law_told" = true)
    (k_law_told : PySem.W.keepIn K (.ref f_law_told) = true)
    (a_law_halves : PySem.W.nsIn K mainGlobals "_law_halves" = some (some (.ref f_law_halves)))
    (l_law_halves : K.lookup f_law_halves = some ⟨oc_law_halves, od_law_halves, .func (PySem.W.fnOf "_law_halves" "_law_halves" (defArgs s_law_halves) (defBody s_law_halves) (defScope s_law_halves) .none kV_law_halves dc_law_halves pm_law_halves an_law_halves cd_law_halves ct_law_halves), sl_law_halves⟩)
    (c_law_halves : PySem.W.codeIn K cd_law_halves "_law_halves" = true)
    (k_law_halves : PySem.W.keepIn K (.ref f_law_halves) = true)
    (a_law_wishes : PySem.W.nsIn K mainGlobals "_law_wishes" = some (some (.ref f_law_wishes)))
    (l_law_wishes : K.lookup f_law_wishes = some ⟨oc_law_wishes, od_law_wishes, .func (PySem.W.fnOf "_law_wishes" "_law_wishes" (defArgs s_law_wishes) (defBody s_law_wishes) (defScope s_law_wishes) .none kV_law_wishes dc_law_wishes pm_law_wishes an_law_wishes cd_law_wishes ct_law_wishes), sl_law_wishes⟩)
    (c_law_wishes : PySem.W.codeIn K cd_law_wishes "_law_wishes" = true)
    (k_law_wishes : PySem.W.keepIn K (.ref f_law_wishes) = true)
    (a_law_in_turn : PySem.W.nsIn K mainGlobals "_law_in_turn" = some (some (.ref f_law_in_turn)))
    (l_law_in_turn : K.lookup f_law_in_turn = some ⟨oc_law_in_turn, od_law_in_turn, .func (PySem.W.fnOf "_law_in_turn" "_law_in_turn" (defArgs s_law_in_turn) (defBody s_law_in_turn) (defScope s_law_in_turn) .none kV_law_in_turn dc_law_in_turn pm_law_in_turn an_law_in_turn cd_law_in_turn ct_law_in_turn), sl_law_in_turn⟩)
    (c_law_in_turn : PySem.W.codeIn K cd_law_in_turn "_law_in_turn" = true)
    (k_law_in_turn : PySem.W.keepIn K (.ref f_law_in_turn) = true)
    (a_law_owner : PySem.W.nsIn K mainGlobals "_law_owner" = some (some (.ref f_law_owner)))
    (l_law_owner : K.lookup f_law_owner = some ⟨oc_law_owner, od_law_owner, .func (PySem.W.fnOf "_law_owner" "_law_owner" (defArgs s_law_owner) (defBody s_law_owner) (defScope s_law_owner) .none kV_law_owner dc_law_owner pm_law_owner an_law_owner cd_law_owner ct_law_owner), sl_law_owner⟩)
    (c_law_owner : PySem.W.codeIn K cd_law_owner "_law_owner" = true)
    (k_law_owner : PySem.W.keepIn K (.ref f_law_owner) = true)
    (a_law_owners : PySem.W.nsIn K mainGlobals "_law_owners" = some (some (.ref f_law_owners)))
    (l_law_owners : K.lookup f_law_owners = some ⟨oc_law_owners, od_law_owners, .func (PySem.W.fnOf "_law_owners" "_law_owners" (defArgs s_law_owners) (defBody s_law_owners) (defScope s_law_owners) .none kV_law_owners dc_law_owners pm_law_owners an_law_owners cd_law_owners ct_law_owners), sl_law_owners⟩)
    (c_law_owners : PySem.W.codeIn K cd_law_owners "_law_owners" = true)
    (k_law_owners : PySem.W.keepIn K (.ref f_law_owners) = true)
    (a_law_behind : PySem.W.nsIn K mainGlobals "_law_behind" = some (some (.ref f_law_behind)))
    (l_law_behind : K.lookup f_law_behind = some ⟨oc_law_behind, od_law_behind, .func (PySem.W.fnOf "_law_behind" "_law_behind" (defArgs s_law_behind) (defBody s_law_behind) (defScope s_law_behind) .none kV_law_behind dc_law_behind pm_law_behind an_law_behind cd_law_behind ct_law_behind), sl_law_behind⟩)
    (c_law_behind : PySem.W.codeIn K cd_law_behind "_law_behind" = true)
    (k_law_behind : PySem.W.keepIn K (.ref f_law_behind) = true)
    (a_law : PySem.W.nsIn K mainGlobals "law" = some (some (.ref f_law)))
    (l_law : K.lookup f_law = some ⟨oc_law, od_law, .func (PySem.W.fnOf "law" "law" (defArgs s_law) (defBody s_law) (defScope s_law) .none kV_law dc_law pm_law an_law cd_law ct_law), sl_law⟩)
    (c_law : PySem.W.codeIn K cd_law "law" = true)
    (k_law : PySem.W.keepIn K (.ref f_law) = true)
    (pg_Pool : PySem.W.plainGet K c_Pool Str.empty = true)
    (hd_Pool : PySem.W.hasDictIn K c_Pool = true)
    (po_Pool : PySem.W.plainOver K c_Pool = true)
    (sa_Pool : PySem.W.findIn K (.ref c_Pool) "__setattr__" = some (some (.builtin "object.__setattr__")))
    (mk_Pool : PySem.W.makesIn K c_Pool = true)
    (kc_Pool : PySem.W.keepIn K (.ref c_Pool) = true)
    (n_Pool__places : PySem.W.findIn K (.ref c_Pool) "_places" = some none)
    (pg_Yard : PySem.W.plainGet K c_Yard Str.empty = true)
    (hd_Yard : PySem.W.hasDictIn K c_Yard = true)
    (po_Yard : PySem.W.plainOver K c_Yard = true)
    (sa_Yard : PySem.W.findIn K (.ref c_Yard) "__setattr__" = some (some (.builtin "object.__setattr__")))
    (mk_Yard : PySem.W.makesIn K c_Yard = true)
    (kc_Yard : PySem.W.keepIn K (.ref c_Yard) = true)
    (n_Yard_cells : PySem.W.findIn K (.ref c_Yard) "cells" = some none)
    (n_Yard__sizes : PySem.W.findIn K (.ref c_Yard) "_sizes" = some none)
    (n_Yard__pool : PySem.W.findIn K (.ref c_Yard) "_pool" = some none)
    (sp1 : PySem.W.specialIn K (.builtin "object.__class__") "__get__" = some (some (.builtin "getset_descriptor.__get__")))
    (sp2 : PySem.W.takesIn K (.builtin "object.__class__") = some true)
    (xx_YardError : PySem.W.excIn K c_YardError [.type "ValueError", .type "Exception", .type "BaseException", .type "object"] "ValueError.__new__" = true)
    (xk_YardError : PySem.W.keepIn K (.ref c_YardError) = true)
    (xt_YardError : PySem.W.typeIn K (.ref c_YardError) = some (.type "type"))
    (xc_YardError : PySem.W.isClsIn K c_YardError = true)
    (xg_YardError : PySem.W.findIn K (.ref c_YardError) "__getattribute__" = some (some (.builtin "BaseException.__getattribute__")))
    (xh_YardError : PySem.W.findIn K (.ref c_YardError) "__getattr__" = some none)
    (xs_YardError : PySem.W.subIn K (.ref c_YardError) (.type "BaseException") = some true)
    (xd_YardError : PySem.W.hasDictIn K c_YardError = true)
    (xa_YardError : PySem.W.findIn K (.ref c_YardError) "__class__" = some (some (.builtin "object.__class__")))
    (xm_YardError : PySem.W.mroIn K c_YardError (.type "object") = some true)
    (xv_YardError : PySem.W.subIn K (.ref c_YardError) (.type "ValueError") = some true)
    (xx_NoYard : PySem.W.excIn K c_NoYard [.type "ValueError", .type "Exception", .type "BaseException", .type "object"] "ValueError.__new__" = true)
    (xk_NoYard : PySem.W.keepIn K (.ref c_NoYard) = true)
    (xt_NoYard : PySem.W.typeIn K (.ref c_NoYard) = some (.type "type"))
    (xc_NoYard : PySem.W.isClsIn K c_NoYard = true)
    (xg_NoYard : PySem.W.findIn K (.ref c_NoYard) "__getattribute__" = some (some (.builtin "BaseException.__getattribute__")))
    (xh_NoYard : PySem.W.findIn K (.ref c_NoYard) "__getattr__" = some none)
    (xs_NoYard : PySem.W.subIn K (.ref c_NoYard) (.type "BaseException") = some true)
    (xd_NoYard : PySem.W.hasDictIn K c_NoYard = true)
    (xa_NoYard : PySem.W.findIn K (.ref c_NoYard) "__class__" = some (some (.builtin "object.__class__")))
    (xm_NoYard : PySem.W.mroIn K c_NoYard (.type "object") = some true)
    (xv_NoYard : PySem.W.subIn K (.ref c_NoYard) (.type "ValueError") = some true)
    (xx_NoWish : PySem.W.excIn K c_NoWish [.type "ValueError", .type "Exception", .type "BaseException", .type "object"] "ValueError.__new__" = true)
    (xk_NoWish : PySem.W.keepIn K (.ref c_NoWish) = true)
    (xt_NoWish : PySem.W.typeIn K (.ref c_NoWish) = some (.type "type"))
    (xc_NoWish : PySem.W.isClsIn K c_NoWish = true)
    (xg_NoWish : PySem.W.findIn K (.ref c_NoWish) "__getattribute__" = some (some (.builtin "BaseException.__getattribute__")))
    (xh_NoWish : PySem.W.findIn K (.ref c_NoWish) "__getattr__" = some none)
    (xs_NoWish : PySem.W.subIn K (.ref c_NoWish) (.type "BaseException") = some true)
    (xd_NoWish : PySem.W.hasDictIn K c_NoWish = true)
    (xa_NoWish : PySem.W.findIn K (.ref c_NoWish) "__class__" = some (some (.builtin "object.__class__")))
    (xm_NoWish : PySem.W.mroIn K c_NoWish (.type "object") = some true)
    (xv_NoWish : PySem.W.subIn K (.ref c_NoWish) (.type "ValueError") = some true)
    (xx_NoRoom : PySem.W.excIn K c_NoRoom [.type "ValueError", .type "Exception", .type "BaseException", .type "object"] "ValueError.__new__" = true)
    (xk_NoRoom : PySem.W.keepIn K (.ref c_NoRoom) = true)
    (xt_NoRoom : PySem.W.typeIn K (.ref c_NoRoom) = some (.type "type"))
    (xc_NoRoom : PySem.W.isClsIn K c_NoRoom = true)
    (xg_NoRoom : PySem.W.findIn K (.ref c_NoRoom) "__getattribute__" = some (some (.builtin "BaseException.__getattribute__")))
    (xh_NoRoom : PySem.W.findIn K (.ref c_NoRoom) "__getattr__" = some none)
    (xs_NoRoom : PySem.W.subIn K (.ref c_NoRoom) (.type "BaseException") = some true)
    (xd_NoRoom : PySem.W.hasDictIn K c_NoRoom = true)
    (xa_NoRoom : PySem.W.findIn K (.ref c_NoRoom) "__class__" = some (some (.builtin "object.__class__")))
    (xm_NoRoom : PySem.W.mroIn K c_NoRoom (.type "object") = some true)
    (xv_NoRoom : PySem.W.subIn K (.ref c_NoRoom) (.type "ValueError") = some true)
    (xx_NotOut : PySem.W.excIn K c_NotOut [.type "ValueError", .type "Exception", .type "BaseException", .type "object"] "ValueError.__new__" = true)
    (xk_NotOut : PySem.W.keepIn K (.ref c_NotOut) = true)
    (xt_NotOut : PySem.W.typeIn K (.ref c_NotOut) = some (.type "type"))
    (xc_NotOut : PySem.W.isClsIn K c_NotOut = true)
    (xg_NotOut : PySem.W.findIn K (.ref c_NotOut) "__getattribute__" = some (some (.builtin "BaseException.__getattribute__")))
    (xh_NotOut : PySem.W.findIn K (.ref c_NotOut) "__getattr__" = some none)
    (xs_NotOut : PySem.W.subIn K (.ref c_NotOut) (.type "BaseException") = some true)
    (xd_NotOut : PySem.W.hasDictIn K c_NotOut = true)
    (xa_NotOut : PySem.W.findIn K (.ref c_NotOut) "__class__" = some (some (.builtin "object.__class__")))
    (xm_NotOut : PySem.W.mroIn K c_NotOut (.type "object") = some true)
    (xv_NotOut : PySem.W.subIn K (.ref c_NotOut) (.type "ValueError") = some true)
    (s_NoYard_YardError : PySem.W.subIn K (.ref c_NoYard) (.ref c_YardError) = some true)
    (t_NoYard_YardError : PySem.W.kitOne K (.ref c_NoYard) (.ref c_YardError) = some true)
    (s_NoYard_NoYard : PySem.W.subIn K (.ref c_NoYard) (.ref c_NoYard) = some true)
    (t_NoYard_NoYard : PySem.W.kitOne K (.ref c_NoYard) (.ref c_NoYard) = some true)
    (s_NoYard_NoWish : PySem.W.subIn K (.ref c_NoYard) (.ref c_NoWish) = some false)
    (t_NoYard_NoWish : PySem.W.kitOne K (.ref c_NoYard) (.ref c_NoWish) = some false)
    (s_NoYard_NoRoom : PySem.W.subIn K (.ref c_NoYard) (.ref c_NoRoom) = some false)
    (t_NoYard_NoRoom : PySem.W.kitOne K (.ref c_NoYard) (.ref c_NoRoom) = some false)
    (s_NoYard_NotOut : PySem.W.subIn K (.ref c_NoYard) (.ref c_NotOut) = some false)
    (t_NoYard_NotOut : PySem.W.kitOne K (.ref c_NoYard) (.ref c_NotOut) = some false)
    (s_NoWish_YardError : PySem.W.subIn K (.ref c_NoWish) (.ref c_YardError) = some true)
    (t_NoWish_YardError : PySem.W.kitOne K (.ref c_NoWish) (.ref c_YardError) = some true)
    (s_NoWish_NoYard : PySem.W.subIn K (.ref c_NoWish) (.ref c_NoYard) = some false)
    (t_NoWish_NoYard : PySem.W.kitOne K (.ref c_NoWish) (.ref c_NoYard) = some false)
    (s_NoWish_NoWish : PySem.W.subIn K (.ref c_NoWish) (.ref c_NoWish) = some true)
    (t_NoWish_NoWish : PySem.W.kitOne K (.ref c_NoWish) (.ref c_NoWish) = some true)
    (s_NoWish_NoRoom : PySem.W.subIn K (.ref c_NoWish) (.ref c_NoRoom) = some false)
    (t_NoWish_NoRoom : PySem.W.kitOne K (.ref c_NoWish) (.ref c_NoRoom) = some false)
    (s_NoWish_NotOut : PySem.W.subIn K (.ref c_NoWish) (.ref c_NotOut) = some false)
    (t_NoWish_NotOut : PySem.W.kitOne K (.ref c_NoWish) (.ref c_NotOut) = some false)
    (s_NoRoom_YardError : PySem.W.subIn K (.ref c_NoRoom) (.ref c_YardError) = some true)
    (t_NoRoom_YardError : PySem.W.kitOne K (.ref c_NoRoom) (.ref c_YardError) = some true)
    (s_NoRoom_NoYard : PySem.W.subIn K (.ref c_NoRoom) (.ref c_NoYard) = some false)
    (t_NoRoom_NoYard : PySem.W.kitOne K (.ref c_NoRoom) (.ref c_NoYard) = some false)
    (s_NoRoom_NoWish : PySem.W.subIn K (.ref c_NoRoom) (.ref c_NoWish) = some false)
    (t_NoRoom_NoWish : PySem.W.kitOne K (.ref c_NoRoom) (.ref c_NoWish) = some false)
    (s_NoRoom_NoRoom : PySem.W.subIn K (.ref c_NoRoom) (.ref c_NoRoom) = some true)
    (t_NoRoom_NoRoom : PySem.W.kitOne K (.ref c_NoRoom) (.ref c_NoRoom) = some true)
    (s_NoRoom_NotOut : PySem.W.subIn K (.ref c_NoRoom) (.ref c_NotOut) = some false)
    (t_NoRoom_NotOut : PySem.W.kitOne K (.ref c_NoRoom) (.ref c_NotOut) = some false)
    (s_NotOut_YardError : PySem.W.subIn K (.ref c_NotOut) (.ref c_YardError) = some true)
    (t_NotOut_YardError : PySem.W.kitOne K (.ref c_NotOut) (.ref c_YardError) = some true)
    (s_NotOut_NoYard : PySem.W.subIn K (.ref c_NotOut) (.ref c_NoYard) = some false)
    (t_NotOut_NoYard : PySem.W.kitOne K (.ref c_NotOut) (.ref c_NoYard) = some false)
    (s_NotOut_NoWish : PySem.W.subIn K (.ref c_NotOut) (.ref c_NoWish) = some false)
    (t_NotOut_NoWish : PySem.W.kitOne K (.ref c_NotOut) (.ref c_NoWish) = some false)
    (s_NotOut_NoRoom : PySem.W.subIn K (.ref c_NotOut) (.ref c_NoRoom) = some false)
    (t_NotOut_NoRoom : PySem.W.kitOne K (.ref c_NotOut) (.ref c_NoRoom) = some false)
    (s_NotOut_NotOut : PySem.W.subIn K (.ref c_NotOut) (.ref c_NotOut) = some true)
    (t_NotOut_NotOut : PySem.W.kitOne K (.ref c_NotOut) (.ref c_NotOut) = some true)
    (z_all : PySem.W.nsIn K mainGlobals "all" = some none)
    (z_any : PySem.W.nsIn K mainGlobals "any" = some none)
    (z_bool : PySem.W.nsIn K mainGlobals "bool" = some none)
    (z_int : PySem.W.nsIn K mainGlobals "int" = some none)
    (z_isinstance : PySem.W.nsIn K mainGlobals "isinstance" = some none)
    (z_len : PySem.W.nsIn K mainGlobals "len" = some none)
    (z_list : PySem.W.nsIn K mainGlobals "list" = some none)
    (z_max : PySem.W.nsIn K mainGlobals "max" = some none)
    (z_min : PySem.W.nsIn K mainGlobals "min" = some none)
    (z_range : PySem.W.nsIn K mainGlobals "range" = some none)
    (z_set : PySem.W.nsIn K mainGlobals "set" = some none)
    (z_sorted : PySem.W.nsIn K mainGlobals "sorted" = some none)
    (z_sum : PySem.W.nsIn K mainGlobals "sum" = some none)
    (v_MOST : PySem.W.nsIn K mainGlobals "MOST" = some (some (.int 1152921504606846976 t_MOST))) :
    LamX.LawAtS l w K CX0 7 63 "_law_script" mg fa h := by
  have e := hfa.symm.trans (PySem.W.mg_of X G a_law)
  cases e
  have F_is_size := fun_mk (st := s_is_size) l_is_size c_is_size k_is_size
  have B_is_size := F_is_size.binds (ps := ["number"]) fun _ _ _ _ _ _ us hl => match us, hl with | [_], _ => rfl
  have F_size_for := fun_mk (st := s_size_for) l_size_for c_size_for k_size_for
  have B_size_for := F_size_for.binds (ps := ["want"]) fun _ _ _ _ _ _ us hl => match us, hl with | [_], _ => rfl
  have F_twin_of := fun_mk (st := s_twin_of) l_twin_of c_twin_of k_twin_of
  have B_twin_of := F_twin_of.binds (ps := ["at", "size"]) fun _ _ _ _ _ _ us hl => match us, hl with | [_, _], _ => rfl
  have F_fitting_sizes := fun_mk (st := s_fitting_sizes) l_fitting_sizes c_fitting_sizes k_fitting_sizes
  have B_fitting_sizes := F_fitting_sizes.binds (ps := ["yard", "wants"]) fun _ _ _ _ _ _ us hl => match us, hl with | [_, _], _ => rfl
  have F_give_all := fun_mk (st := s_give_all) l_give_all c_give_all k_give_all
  have B_give_all := F_give_all.binds (ps := ["yard", "wants"]) fun _ _ _ _ _ _ us hl => match us, hl with | [_, _], _ => rfl
  have F_rank := fun_mk (st := s_rank) l_rank c_rank k_rank
  have B_rank := F_rank.binds (ps := ["places", "at"]) fun _ _ _ _ _ _ us hl => match us, hl with | [_, _], _ => rfl
  have F_Pool_init := fun_mk (st := s_Pool_init) l_Pool_init c_Pool_init k_Pool_init
  have B_Pool_init := F_Pool_init.binds (ps := ["self", "cells"]) fun _ _ _ _ _ _ us hl => match us, hl with | [_, _], _ => rfl
  have F_Pool_put := fun_mk (st := s_Pool_put) l_Pool_put c_Pool_put k_Pool_put
  have B_Pool_put := F_Pool_put.binds (ps := ["self", "at", "size"]) fun _ _ _ _ _ _ us hl => match us, hl with | [_, _, _], _ => rfl
  have F_Pool_drop := fun_mk (st := s_Pool_drop) l_Pool_drop c_Pool_drop k_Pool_drop
  have B_Pool_drop := F_Pool_drop.binds (ps := ["self", "at", "size"]) fun _ _ _ _ _ _ us hl => match us, hl with | [_, _, _], _ => rfl
  have F_Pool_has := fun_mk (st := s_Pool_has) l_Pool_has c_Pool_has k_Pool_has
  have B_Pool_has := F_Pool_has.binds (ps := ["self", "at", "size"]) fun _ _ _ _ _ _ us hl => match us, hl with | [_, _, _], _ => rfl
  have F_Pool_best := fun_mk (st := s_Pool_best) l_Pool_best c_Pool_best k_Pool_best
  have B_Pool_best := F_Pool_best.binds (ps := ["self", "size"]) fun _ _ _ _ _ _ us hl => match us, hl with | [_, _], _ => rfl
  have F_Pool_pieces := fun_mk (st := s_Pool_pieces) l_Pool_pieces c_Pool_pieces k_Pool_pieces
  have B_Pool_pieces := F_Pool_pieces.binds (ps := ["self"]) fun _ _ _ _ _ _ us hl => match us, hl with | [_], _ => rfl
  have F_upper_halves := fun_mk (st := s_upper_halves) l_upper_halves c_upper_halves k_upper_halves
  have B_upper_halves := F_upper_halves.binds (ps := ["at", "size", "least"]) fun _ _ _ _ _ _ us hl => match us, hl with | [_, _, _], _ => rfl
  have F_Yard_init := fun_mk (st := s_Yard_init) l_Yard_init c_Yard_init k_Yard_init
  have B_Yard_init := F_Yard_init.binds (ps := ["self", "cells"]) fun _ _ _ _ _ _ us hl => match us, hl with | [_, _], _ => rfl
  have F_Yard_give := fun_mk (st := s_Yard_give) l_Yard_give c_Yard_give k_Yard_give
  have B_Yard_give := F_Yard_give.binds (ps := ["self", "want"]) fun _ _ _ _ _ _ us hl => match us, hl with | [_, _], _ => rfl
  have F_Yard_take_back := fun_mk (st := s_Yard_take_back) l_Yard_take_back c_Yard_take_back k_Yard_take_back
  have B_Yard_take_back := F_Yard_take_back.binds (ps := ["self", "at"]) fun _ _ _ _ _ _ us hl => match us, hl with | [_, _], _ => rfl
  have F_Yard_resize := fun_mk (st := s_Yard_resize) l_Yard_resize c_Yard_resize k_Yard_resize
  have B_Yard_resize := F_Yard_resize.binds (ps := ["self", "at", "want"]) fun _ _ _ _ _ _ us hl => match us, hl with | [_, _, _], _ => rfl
  have F_Yard_free := fun_mk (st := s_Yard_free) l_Yard_free c_Yard_free k_Yard_free
  have B_Yard_free := F_Yard_free.binds (ps := ["self"]) fun _ _ _ _ _ _ us hl => match us, hl with | [_], _ => rfl
  have F_Yard_out := fun_mk (st := s_Yard_out) l_Yard_out c_Yard_out k_Yard_out
  have B_Yard_out := F_Yard_out.binds (ps := ["self"]) fun _ _ _ _ _ _ us hl => match us, hl with | [_], _ => rfl
  have F_Yard_owner := fun_mk (st := s_Yard_owner) l_Yard_owner c_Yard_owner k_Yard_owner
  have B_Yard_owner := F_Yard_owner.binds (ps := ["self", "cell"]) fun _ _ _ _ _ _ us hl => match us, hl with | [_, _], _ => rfl
  have F_Yard_fitting := fun_mk (st := s_Yard_fitting) l_Yard_fitting c_Yard_fitting k_Yard_fitting
  have B_Yard_fitting := F_Yard_fitting.binds (ps := ["self", "want"]) fun _ _ _ _ _ _ us hl => match us, hl with | [_, _], _ => rfl
  have F_Yard_size_of := fun_mk (st := s_Yard_size_of) l_Yard_size_of c_Yard_size_of k_Yard_size_of
  have B_Yard_size_of := F_Yard_size_of.binds (ps := ["self", "at"]) fun _ _ _ _ _ _ us hl => match us, hl with | [_, _], _ => rfl
  have F_Yard_cut := fun_mk (st := s_Yard_cut) l_Yard_cut c_Yard_cut k_Yard_cut
  have B_Yard_cut := F_Yard_cut.binds (ps := ["self", "at", "size", "least"]) fun _ _ _ _ _ _ us hl => match us, hl with | [_, _, _, _], _ => rfl
  have F_Yard_grow := fun_mk (st := s_Yard_grow) l_Yard_grow c_Yard_grow k_Yard_grow
  have B_Yard_grow := F_Yard_grow.binds (ps := ["self", "at", "had", "size"]) fun _ _ _ _ _ _ us hl => match us, hl with | [_, _, _, _], _ => rfl
  have F_Yard_join := fun_mk (st := s_Yard_join) l_Yard_join c_Yard_join k_Yard_join
  have B_Yard_join := F_Yard_join.binds (ps := ["self", "at", "size"]) fun _ _ _ _ _ _ us hl => match us, hl with | [_, _, _], _ => rfl
  have F_law_whole := fun_mk (st := s_law_whole) l_law_whole c_law_whole k_law_whole
  have B_law_whole := F_law_whole.binds (ps := ["_law_found"]) fun _ _ _ _ _ _ us hl => match us, hl with | [_], _ => rfl
  have F_law_cell_at := fun_mk (st := s_law_cell_at) l_law_cell_at c_law_cell_at k_law_cell_at
  have B_law_cell_at := F_law_cell_at.binds (ps := ["_law_script", "_law_k"]) fun _ _ _ _ _ _ us hl => match us, hl with | [_, _], _ => rfl
  have F_law_doubled := fun_mk (st := s_law_doubled) l_law_doubled c_law_doubled k_law_doubled
  have B_law_doubled := F_law_doubled.binds (ps := ["_law_times"]) fun _ _ _ _ _ _ us hl => match us, hl with | [_], _ => rfl
  have F_law_fitting := fun_mk (st := s_law_fitting) l_law_fitting c_law_fitting k_law_fitting
  have B_law_fitting := F_law_fitting.binds (ps := ["_law_want_here"]) fun _ _ _ _ _ _ us hl => match us, hl with | [_], _ => rfl
  have F_law_yard_size := fun_mk (st := s_law_yard_size) l_law_yard_size c_law_yard_size k_law_yard_size
  have B_law_yard_size := F_law_yard_size.binds (ps := ["_law_script"]) fun _ _ _ _ _ _ us hl => match us, hl with | [_], _ => rfl
  have F_law_want := fun_mk (st := s_law_want) l_law_want c_law_want k_law_want
  have B_law_want := F_law_want.binds (ps := ["_law_cell", "_law_cells"]) fun _ _ _ _ _ _ us hl => match us, hl with | [_, _], _ => rfl
  have F_law_done := fun_mk (st := s_law_done) l_law_done c_law_done k_law_done
  have B_law_done := F_law_done.binds (ps := ["_law_yard", "_law_held", "_law_cell", "_law_cells"]) fun _ _ _ _ _ _ us hl => match us, hl with | [_, _, _, _], _ => rfl
  have F_law_touched := fun_mk (st := s_law_touched) l_law_touched c_law_touched k_law_touched
  have B_law_touched := F_law_touched.binds (ps := ["_law_held", "_law_size"]) fun _ _ _ _ _ _ us hl => match us, hl with | [_, _], _ => rfl
  have F_law_due := fun_mk (st := s_law_due) l_law_due c_law_due k_law_due
  have B_law_due := F_law_due.binds (ps := ["_law_held", "_law_wants", "_law_cells"]) fun _ _ _ _ _ _ us hl => match us, hl with | [_, _, _], _ => rfl
  have F_law_told := fun_mk (st := s_law_told) l_law_told c_law_told k_law_told
  have B_law_told := F_law_told.binds (ps := ["_law_yard", "_law_wants"]) fun _ _ _ _ _ _ us hl => match us, hl with | [_, _], _ => rfl
  have F_law_halves := fun_mk (st := s_law_halves) l_law_halves c_law_halves k_law_halves
  have B_law_halves := F_law_halves.binds (ps := ["_law_cells", "_law_row"]) fun _ _ _ _ _ _ us hl => match us, hl with | [_, _], _ => rfl
  have F_law_wishes := fun_mk (st := s_law_wishes) l_law_wishes c_law_wishes k_law_wishes
  have B_law_wishes := F_law_wishes.binds (ps := ["_law_script", "_law_held", "_law_cells"]) fun _ _ _ _ _ _ us hl => match us, hl with | [_, _, _], _ => rfl
  have F_law_in_turn := fun_mk (st := s_law_in_turn) l_law_in_turn c_law_in_turn k_law_in_turn
  have B_law_in_turn := F_law_in_turn.binds (ps := ["_law_wants"]) fun _ _ _ _ _ _ us hl => match us, hl with | [_], _ => rfl
  have F_law_owner := fun_mk (st := s_law_owner) l_law_owner c_law_owner k_law_owner
  have B_law_owner := F_law_owner.binds (ps := ["_law_held", "_law_cell"]) fun _ _ _ _ _ _ us hl => match us, hl with | [_, _], _ => rfl
  have F_law_owners := fun_mk (st := s_law_owners) l_law_owners c_law_owners k_law_owners
  have B_law_owners := F_law_owners.binds (ps := ["_law_yard", "_law_held", "_law_cells", "_law_wants"]) fun _ _ _ _ _ _ us hl => match us, hl with | [_, _, _, _], _ => rfl
  have F_law_behind := fun_mk (st := s_law_behind) l_law_behind c_law_behind k_law_behind
  have B_law_behind := F_law_behind.binds (ps := ["_law_yard", "_law_places", "_law_held"]) fun _ _ _ _ _ _ us hl => match us, hl with | [_, _, _], _ => rfl
  have F_law := fun_mk (st := s_law) l_law c_law k_law
  have B_law := F_law.binds (ps := ["_law_script"]) fun _ _ _ _ _ _ us hl => match us, hl with | [_], _ => rfl
  have T : Txt K mg ⟨f_is_size, _, f_size_for, _, f_twin_of, _, f_fitting_sizes, _, f_give_all, _, q_give_all, p_give_all, f_rank, _, f_Pool_init, _, f_Pool_put, _, f_Pool_drop, _, f_Pool_has, _, f_Pool_best, _, f_Pool_pieces, _, f_upper_halves, _, f_Yard_init, _, f_Yard_give, _, f_Yard_take_back, _, f_Yard_resize, _, f_Yard_free, _, f_Yard_out, _, f_Yard_owner, _, f_Yard_fitting, _, f_Yard_size_of, _, f_Yard_cut, _, f_Yard_grow, _, f_Yard_join, _, f_law_whole, _, f_law_cell_at, _, f_law_doubled, _, f_law_fitting, _, f_law_yard_size, _, f_law_want, _, f_law_done, _, f_law_touched, _, f_law_due, _, f_law_told, _, f_law_halves, _, f_law_wishes, _, f_law_in_turn, _, f_law_owner, _, f_law_owners, _, f_law_behind, _, fa, _, c_YardError, c_NoYard, c_NoWish, c_NoRoom, c_NotOut, c_Pool, c_Yard⟩ := {
    is_size := ⟨PySem.W.mg_of X G a_is_size, F_is_size, B_is_size⟩
    size_for := ⟨PySem.W.mg_of X G a_size_for, F_size_for, B_size_for⟩
    twin_of := ⟨PySem.W.mg_of X G a_twin_of, F_twin_of, B_twin_of⟩
    fitting_sizes := ⟨PySem.W.mg_of X G a_fitting_sizes, F_fitting_sizes, B_fitting_sizes⟩
    give_all := ⟨PySem.W.mg_of X G a_give_all, F_give_all, B_give_all⟩
    rank := ⟨PySem.W.mg_of X G a_rank, F_rank, B_rank⟩
    Pool_init := F_Pool_init
    b_Pool_init := B_Pool_init
    m_Pool_init := ⟨mk_Pool, a_Pool_init, i_Pool_init, kc_Pool⟩
    Pool_put := F_Pool_put
    b_Pool_put := B_Pool_put
    m_Pool_put := ⟨a_Pool_put, i_Pool_put, k_Pool_put⟩
    Pool_drop := F_Pool_drop
    b_Pool_drop := B_Pool_drop
    m_Pool_drop := ⟨a_Pool_drop, i_Pool_drop, k_Pool_drop⟩
    Pool_has := F_Pool_has
    b_Pool_has := B_Pool_has
    m_Pool_has := ⟨a_Pool_has, i_Pool_has, k_Pool_has⟩
    Pool_best := F_Pool_best
    b_Pool_best := B_Pool_best
    m_Pool_best := ⟨a_Pool_best, i_Pool_best, k_Pool_best⟩
    Pool_pieces := F_Pool_pieces
    b_Pool_pieces := B_Pool_pieces
    m_Pool_pieces := ⟨a_Pool_pieces, i_Pool_pieces, k_Pool_pieces⟩
    upper_halves := ⟨PySem.W.mg_of X G a_upper_halves, F_upper_halves, B_upper_halves⟩
    Yard_init := F_Yard_init
    b_Yard_init := B_Yard_init
    m_Yard_init := ⟨mk_Yard, a_Yard_init, i_Yard_init, kc_Yard⟩
    Yard_give := F_Yard_give
    b_Yard_give := B_Yard_give
    m_Yard_give := ⟨a_Yard_give, i_Yard_give, k_Yard_give⟩
    Yard_take_back := F_Yard_take_back
    b_Yard_take_back := B_Yard_take_back
    m_Yard_take_back := ⟨a_Yard_take_back, i_Yard_take_back, k_Yard_take_back⟩
    Yard_resize := F_Yard_resize
    b_Yard_resize := B_Yard_resize
    m_Yard_resize := ⟨a_Yard_resize, i_Yard_resize, k_Yard_resize⟩
    Yard_free := F_Yard_free
    b_Yard_free := B_Yard_free
    m_Yard_free := ⟨a_Yard_free, i_Yard_free, k_Yard_free⟩
    Yard_out := F_Yard_out
    b_Yard_out := B_Yard_out
    m_Yard_out := ⟨a_Yard_out, i_Yard_out, k_Yard_out⟩
    Yard_owner := F_Yard_owner
    b_Yard_owner := B_Yard_owner
    m_Yard_owner := ⟨a_Yard_owner, i_Yard_owner, k_Yard_owner⟩
    Yard_fitting := F_Yard_fitting
    b_Yard_fitting := B_Yard_fitting
    m_Yard_fitting := ⟨a_Yard_fitting, i_Yard_fitting, k_Yard_fitting⟩
    Yard_size_of := F_Yard_size_of
    b_Yard_size_of := B_Yard_size_of
    m_Yard_size_of := ⟨a_Yard_size_of, i_Yard_size_of, k_Yard_size_of⟩
    Yard_cut := F_Yard_cut
    b_Yard_cut := B_Yard_cut
    m_Yard_cut := ⟨a_Yard_cut, i_Yard_cut, k_Yard_cut⟩
    Yard_grow := F_Yard_grow
    b_Yard_grow := B_Yard_grow
    m_Yard_grow := ⟨a_Yard_grow, i_Yard_grow, k_Yard_grow⟩
    Yard_join := F_Yard_join
    b_Yard_join := B_Yard_join
    m_Yard_join := ⟨a_Yard_join, i_Yard_join, k_Yard_join⟩
    law_whole := ⟨PySem.W.mg_of X G a_law_whole, F_law_whole, B_law_whole⟩
    law_cell_at := ⟨PySem.W.mg_of X G a_law_cell_at, F_law_cell_at, B_law_cell_at⟩
    law_doubled := ⟨PySem.W.mg_of X G a_law_doubled, F_law_doubled, B_law_doubled⟩
    law_fitting := ⟨PySem.W.mg_of X G a_law_fitting, F_law_fitting, B_law_fitting⟩
    law_yard_size := ⟨PySem.W.mg_of X G a_law_yard_size, F_law_yard_size, B_law_yard_size⟩
    law_want := ⟨PySem.W.mg_of X G a_law_want, F_law_want, B_law_want⟩
    law_done := ⟨PySem.W.mg_of X G a_law_done, F_law_done, B_law_done⟩
    law_touched := ⟨PySem.W.mg_of X G a_law_touched, F_law_touched, B_law_touched⟩
    law_due := ⟨PySem.W.mg_of X G a_law_due, F_law_due, B_law_due⟩
    law_told := ⟨PySem.W.mg_of X G a_law_told, F_law_told, B_law_told⟩
    law_halves := ⟨PySem.W.mg_of X G a_law_halves, F_law_halves, B_law_halves⟩
    law_wishes := ⟨PySem.W.mg_of X G a_law_wishes, F_law_wishes, B_law_wishes⟩
    law_in_turn := ⟨PySem.W.mg_of X G a_law_in_turn, F_law_in_turn, B_law_in_turn⟩
    law_owner := ⟨PySem.W.mg_of X G a_law_owner, F_law_owner, B_law_owner⟩
    law_owners := ⟨PySem.W.mg_of X G a_law_owners, F_law_owners, B_law_owners⟩
    law_behind := ⟨PySem.W.mg_of X G a_law_behind, F_law_behind, B_law_behind⟩
    law := ⟨PySem.W.mg_of X G a_law, F_law, B_law⟩
    at_give_all := ⟨_, _, _, _, _, _, _, _, rfl, l_give_all, c_give_all⟩
    g_Pool := PySem.W.mg_of X G g_Pool
    cl_Pool := ⟨pg_Pool, hd_Pool, po_Pool, sa_Pool⟩
    n_Pool__places := n_Pool__places
    g_Yard := PySem.W.mg_of X G g_Yard
    cl_Yard := ⟨pg_Yard, hd_Yard, po_Yard, sa_Yard⟩
    n_Yard_cells := n_Yard_cells
    n_Yard__sizes := n_Yard__sizes
    n_Yard__pool := n_Yard__pool
    e_YardError := ⟨PySem.W.mg_of X G g_YardError, xx_YardError, xk_YardError, xt_YardError, xc_YardError, ⟨xg_YardError, xh_YardError, xs_YardError, xd_YardError, xa_YardError, sp1, sp2, xm_YardError⟩, kit_ve xv_YardError⟩
    e_NoYard := ⟨PySem.W.mg_of X G g_NoYard, xx_NoYard, xk_NoYard, xt_NoYard, xc_NoYard, ⟨xg_NoYard, xh_NoYard, xs_NoYard, xd_NoYard, xa_NoYard, sp1, sp2, xm_NoYard⟩, kit_ve xv_NoYard⟩
    e_NoWish := ⟨PySem.W.mg_of X G g_NoWish, xx_NoWish, xk_NoWish, xt_NoWish, xc_NoWish, ⟨xg_NoWish, xh_NoWish, xs_NoWish, xd_NoWish, xa_NoWish, sp1, sp2, xm_NoWish⟩, kit_ve xv_NoWish⟩
    e_NoRoom := ⟨PySem.W.mg_of X G g_NoRoom, xx_NoRoom, xk_NoRoom, xt_NoRoom, xc_NoRoom, ⟨xg_NoRoom, xh_NoRoom, xs_NoRoom, xd_NoRoom, xa_NoRoom, sp1, sp2, xm_NoRoom⟩, kit_ve xv_NoRoom⟩
    e_NotOut := ⟨PySem.W.mg_of X G g_NotOut, xx_NotOut, xk_NotOut, xt_NotOut, xc_NotOut, ⟨xg_NotOut, xh_NotOut, xs_NotOut, xd_NotOut, xa_NotOut, sp1, sp2, xm_NotOut⟩, kit_ve xv_NotOut⟩
    x_NoYard_YardError := PySem.W.exm_ref xs_YardError xd_YardError xt_YardError s_NoYard_YardError
    k_NoYard_YardError := t_NoYard_YardError
    x_NoYard_NoYard := PySem.W.exm_ref xs_NoYard xd_NoYard xt_NoYard s_NoYard_NoYard
    k_NoYard_NoYard := t_NoYard_NoYard
    x_NoYard_NoWish := PySem.W.exm_ref xs_NoWish xd_NoWish xt_NoWish s_NoYard_NoWish
    k_NoYard_NoWish := t_NoYard_NoWish
    x_NoYard_NoRoom := PySem.W.exm_ref xs_NoRoom xd_NoRoom xt_NoRoom s_NoYard_NoRoom
    k_NoYard_NoRoom := t_NoYard_NoRoom
    x_NoYard_NotOut := PySem.W.exm_ref xs_NotOut xd_NotOut xt_NotOut s_NoYard_NotOut
    k_NoYard_NotOut := t_NoYard_NotOut
    x_NoWish_YardError := PySem.W.exm_ref xs_YardError xd_YardError xt_YardError s_NoWish_YardError
    k_NoWish_YardError := t_NoWish_YardError
    x_NoWish_NoYard := PySem.W.exm_ref xs_NoYard xd_NoYard xt_NoYard s_NoWish_NoYard
    k_NoWish_NoYard := t_NoWish_NoYard
    x_NoWish_NoWish := PySem.W.exm_ref xs_NoWish xd_NoWish xt_NoWish s_NoWish_NoWish
    k_NoWish_NoWish := t_NoWish_NoWish
    x_NoWish_NoRoom := PySem.W.exm_ref xs_NoRoom xd_NoRoom xt_NoRoom s_NoWish_NoRoom
    k_NoWish_NoRoom := t_NoWish_NoRoom
    x_NoWish_NotOut := PySem.W.exm_ref xs_NotOut xd_NotOut xt_NotOut s_NoWish_NotOut
    k_NoWish_NotOut := t_NoWish_NotOut
    x_NoRoom_YardError := PySem.W.exm_ref xs_YardError xd_YardError xt_YardError s_NoRoom_YardError
    k_NoRoom_YardError := t_NoRoom_YardError
    x_NoRoom_NoYard := PySem.W.exm_ref xs_NoYard xd_NoYard xt_NoYard s_NoRoom_NoYard
    k_NoRoom_NoYard := t_NoRoom_NoYard
    x_NoRoom_NoWish := PySem.W.exm_ref xs_NoWish xd_NoWish xt_NoWish s_NoRoom_NoWish
    k_NoRoom_NoWish := t_NoRoom_NoWish
    x_NoRoom_NoRoom := PySem.W.exm_ref xs_NoRoom xd_NoRoom xt_NoRoom s_NoRoom_NoRoom
    k_NoRoom_NoRoom := t_NoRoom_NoRoom
    x_NoRoom_NotOut := PySem.W.exm_ref xs_NotOut xd_NotOut xt_NotOut s_NoRoom_NotOut
    k_NoRoom_NotOut := t_NoRoom_NotOut
    x_NotOut_YardError := PySem.W.exm_ref xs_YardError xd_YardError xt_YardError s_NotOut_YardError
    k_NotOut_YardError := t_NotOut_YardError
    x_NotOut_NoYard := PySem.W.exm_ref xs_NoYard xd_NoYard xt_NoYard s_NotOut_NoYard
    k_NotOut_NoYard := t_NotOut_NoYard
    x_NotOut_NoWish := PySem.W.exm_ref xs_NoWish xd_NoWish xt_NoWish s_NotOut_NoWish
    k_NotOut_NoWish := t_NotOut_NoWish
    x_NotOut_NoRoom := PySem.W.exm_ref xs_NoRoom xd_NoRoom xt_NoRoom s_NotOut_NoRoom
    k_NotOut_NoRoom := t_NotOut_NoRoom
    x_NotOut_NotOut := PySem.W.exm_ref xs_NotOut xd_NotOut xt_NotOut s_NotOut_NotOut
    k_NotOut_NotOut := t_NotOut_NotOut
    z_all := PySem.W.mg_none_of X G z_all
    z_any := PySem.W.mg_none_of X G z_any
    z_bool := PySem.W.mg_none_of X G z_bool
    z_int := PySem.W.mg_none_of X G z_int
    z_isinstance := PySem.W.mg_none_of X G z_isinstance
    z_len := PySem.W.mg_none_of X G z_len
    z_list := PySem.W.mg_none_of X G z_list
    z_max := PySem.W.mg_none_of X G z_max
    z_min := PySem.W.mg_none_of X G z_min
    z_range := PySem.W.mg_none_of X G z_range
    z_set := PySem.W.mg_none_of X G z_set
    z_sorted := PySem.W.mg_none_of X G z_sorted
    z_sum := PySem.W.mg_none_of X G z_sum
    v_MOST := ⟨_, PySem.W.mg_of X G v_MOST⟩ }
  refine ⟨_, [(q_give_all, p_give_all)], spLawT K p_give_all, fun p hp => by rw [List.mem_singleton.mp hp]; exact tp_give_all, fun p hp => by rw [List.mem_singleton.mp hp]; exact nt_give_all, fun p hp => by rw [List.mem_singleton.mp hp]; exact PySem.W.codeHd_of_K X hd_give_all, fun s v => .of_eq rfl, fun H b ns hl hb hT hS => ⟨b, ns, rfl, hS, hl, hb, hT _ (List.mem_singleton.mpr rfl), fun _ => rfl⟩, fun base _ _ TB => ok_law T (TB _ (List.mem_singleton.mpr rfl))⟩
end BY
open PySem PySem.W PyProof.Rows
set_option maxRecDepth 100000 in
set_option maxHeartbeats 0 in
theorem PySem.Challenge.cw_buddyyard_k11_whole_many_at_once_holds : PySem.Challenge.rw_buddyyard_k11_whole_many_at_once.Holds := by
  w_on; o_law; k_head; (case hw => w_witness2)
  k_fill
  refine LamX.walk_ofTs (l := PySem.Challenge.rw_buddyyard_k11_whole_many_at_once) (n := 63) (k := 7) (x := "_law_script") (CX := fun _ => L2.CX0) rfl (by decide) rfl ⟨rfl, by decide, by decide⟩ (fun w h Y => PySem.W.km_in_of Y) ?F (fun _ _ _ _ _ h => h)
  case F =>
    intro w mg fa h Y KX G hmg
    refine' BY.all_mk KX G hmg ?g_YardError ?g_NoYard ?g_NoWish ?g_NoRoom ?g_NotOut ?g_Pool ?g_Yard ?a_is_size ?l_is_size ?c_is_size ?k_is_size ?a_size_for ?l_size_for ?c_size_for ?k_size_for ?a_twin_of ?l_twin_of ?c_twin_of ?k_twin_of ?a_fitting_sizes ?l_fitting_sizes ?c_fitting_sizes ?k_fitting_sizes ?a_give_all ?l_give_all ?c_give_all ?lq_give_all ?pq_give_all ?nt_give_all ?hd_give_all ?tp_give_all ?k_give_all ?a_rank ?l_rank ?c_rank ?k_rank ?a_Pool_init ?i_Pool_init ?l_Pool_init ?c_Pool_init ?k_Pool_init ?a_Pool_put ?i_Pool_put ?l_Pool_put ?c_Pool_put ?k_Pool_put ?a_Pool_drop ?i_Pool_drop ?l_Pool_drop ?c_Pool_drop ?k_Pool_drop ?a_Pool_has ?i_Pool_has ?l_Pool_has ?c_Pool_has ?k_Pool_has ?a_Pool_best ?i_Pool_best ?l_Pool_best ?c_Pool_best ?k_Pool_best ?a_Pool_pieces ?i_Pool_pieces ?l_Pool_pieces ?c_Pool_pieces ?k_Pool_pieces ?a_upper_halves ?l_upper_halves ?c_upper_halves ?k_upper_halves ?a_Yard_init ?i_Yard_init ?l_Yard_init ?c_Yard_init ?k_Yard_init ?a_Yard_give ?i_Yard_give ?l_Yard_give ?c_Yard_give ?k_Yard_give ?a_Yard_take_back ?i_Yard_take_back ?l_Yard_take_back ?c_Yard_take_back ?k_Yard_take_back ?a_Yard_resize ?i_Yard_resize ?l_Yard_resize ?c_Yard_resize ?k_Yard_resize ?a_Yard_free ?i_Yard_free ?l_Yard_free ?c_Yard_free ?k_Yard_free ?a_Yard_out ?i_Yard_out ?l_Yard_out ?c_Yard_out ?k_Yard_out ?a_Yard_owner ?i_Yard_owner ?l_Yard_owner ?c_Yard_owner ?k_Yard_owner ?a_Yard_fitting ?i_Yard_fitting ?l_Yard_fitting ?c_Yard_fitting ?k_Yard_fitting ?a_Yard_size_of ?i_Yard_size_of ?l_Yard_size_of ?c_Yard_size_of ?k_Yard_size_of ?a_Yard_cut ?i_Yard_cut ?l_Yard_cut ?c_Yard_cut ?k_Yard_cut ?a_Yard_grow ?i_Yard_grow ?l_Yard_grow ?c_Yard_grow ?k_Yard_grow ?a_Yard_join ?i_Yard_join ?l_Yard_join ?c_Yard_join ?k_Yard_join ?a_law_whole ?l_law_whole ?c_law_whole ?k_law_whole ?a_law_cell_at ?l_law_cell_at ?c_law_cell_at ?k_law_cell_at ?a_law_doubled ?l_law_doubled ?c_law_doubled ?k_law_doubled ?a_law_fitting ?l_law_fitting ?c_law_fitting ?k_law_fitting ?a_law_yard_size ?l_law_yard_size ?c_law_yard_size ?k_law_yard_size ?a_law_want ?l_law_want ?c_law_want ?k_law_want ?a_law_done ?l_law_done ?c_law_done ?k_law_done ?a_law_touched ?l_law_touched ?c_law_touched ?k_law_touched ?a_law_due ?l_law_due ?c_law_due ?k_law_due ?a_law_told ?l_law_told ?c_law_told ?k_law_told ?a_law_halves ?l_law_halves ?c_law_halves ?k_law_halves ?a_law_wishes ?l_law_wishes ?c_law_wishes ?k_law_wishes ?a_law_in_turn ?l_law_in_turn ?c_law_in_turn ?k_law_in_turn ?a_law_owner ?l_law_owner ?c_law_owner ?k_law_owner ?a_law_owners ?l_law_owners ?c_law_owners ?k_law_owners ?a_law_behind ?l_law_behind ?c_law_behind ?k_law_behind ?a_law ?l_law ?c_law ?k_law ?pg_Pool ?hd_Pool ?po_Pool ?sa_Pool ?mk_Pool ?kc_Pool ?n_Pool__places ?pg_Yard ?hd_Yard ?po_Yard ?sa_Yard ?mk_Yard ?kc_Yard ?n_Yard_cells ?n_Yard__sizes ?n_Yard__pool ?sp1 ?sp2 ?xx_YardError ?xk_YardError ?xt_YardError ?xc_YardError ?xg_YardError ?xh_YardError ?xs_YardError ?xd_YardError ?xa_YardError ?xm_YardError ?xv_YardError ?xx_NoYard ?xk_NoYard ?xt_NoYard ?xc_NoYard ?xg_NoYard ?xh_NoYard ?xs_NoYard ?xd_NoYard ?xa_NoYard ?xm_NoYard ?xv_NoYard ?xx_NoWish ?xk_NoWish ?xt_NoWish ?xc_NoWish ?xg_NoWish ?xh_NoWish ?xs_NoWish ?xd_NoWish ?xa_NoWish ?xm_NoWish ?xv_NoWish ?xx_NoRoom ?xk_NoRoom ?xt_NoRoom ?xc_NoRoom ?xg_NoRoom ?xh_NoRoom ?xs_NoRoom ?xd_NoRoom ?xa_NoRoom ?xm_NoRoom ?xv_NoRoom ?xx_NotOut ?xk_NotOut ?xt_NotOut ?xc_NotOut ?xg_NotOut ?xh_NotOut ?xs_NotOut ?xd_NotOut ?xa_NotOut ?xm_NotOut ?xv_NotOut ?s_NoYard_YardError ?t_NoYard_YardError ?s_NoYard_NoYard ?t_NoYard_NoYard ?s_NoYard_NoWish ?t_NoYard_NoWish ?s_NoYard_NoRoom ?t_NoYard_NoRoom ?s_NoYard_NotOut ?t_NoYard_NotOut ?s_NoWish_YardError ?t_NoWish_YardError ?s_NoWish_NoYard ?t_NoWish_NoYard ?s_NoWish_NoWish ?t_NoWish_NoWish ?s_NoWish_NoRoom ?t_NoWish_NoRoom ?s_NoWish_NotOut ?t_NoWish_NotOut ?s_NoRoom_YardError ?t_NoRoom_YardError ?s_NoRoom_NoYard ?t_NoRoom_NoYard ?s_NoRoom_NoWish ?t_NoRoom_NoWish ?s_NoRoom_NoRoom ?t_NoRoom_NoRoom ?s_NoRoom_NotOut ?t_NoRoom_NotOut ?s_NotOut_YardError ?t_NotOut_YardError ?s_NotOut_NoYard ?t_NotOut_NoYard ?s_NotOut_NoWish ?t_NotOut_NoWish ?s_NotOut_NoRoom ?t_NotOut_NoRoom ?s_NotOut_NotOut ?t_NotOut_NotOut ?z_all ?z_any ?z_bool ?z_int ?z_isinstance ?z_len ?z_list ?z_max ?z_min ?z_range ?z_set ?z_sorted ?z_sum ?v_MOST
    (case g_YardError => k_is)
    (case g_NoYard => k_is)
    (case g_NoWish => k_is)
    (case g_NoRoom => k_is)
    (case g_NotOut => k_is)
    (case g_Pool => k_is)
    (case g_Yard => k_is)
    (case a_is_size => k_is)
    (case l_is_size => k_is)
    (case c_is_size => k_is)
    (case k_is_size => k_is)
    (case a_size_for => k_is)
    (case l_size_for => k_is)
    (case c_size_for => k_is)
    (case k_size_for => k_is)
    (case a_twin_of => k_is)
    (case l_twin_of => k_is)
    (case c_twin_of => k_is)
    (case k_twin_of => k_is)
    (case a_fitting_sizes => k_is)
    (case l_fitting_sizes => k_is)
    (case c_fitting_sizes => k_is)
    (case k_fitting_sizes => k_is)
    (case a_give_all => k_is)
    (case l_give_all => k_is)
    (case c_give_all => k_is)
    (case lq_give_all => k_is)
    (case pq_give_all => first | rfl | kernel_rfl | k_is)
    (case nt_give_all => first | kernel_rfl | k_is | rfl)
    (case hd_give_all => first | kernel_rfl | rfl)
    (case tp_give_all => exact PySem.W.km_tabs_of Y _ (by decide))
    (case k_give_all => k_is)
    (case a_rank => k_is)
    (case l_rank => k_is)
    (case c_rank => k_is)
    (case k_rank => k_is)
    (case a_Pool_init => k_is)
    (case i_Pool_init => k_is)
    (case l_Pool_init => k_is)
    (case c_Pool_init => k_is)
    (case k_Pool_init => k_is)
    (case a_Pool_put => k_is)
    (case i_Pool_put => k_is)
    (case l_Pool_put => k_is)
    (case c_Pool_put => k_is)
    (case k_Pool_put => k_is)
    (case a_Pool_drop => k_is)
    (case i_Pool_drop => k_is)
    (case l_Pool_drop => k_is)
    (case c_Pool_drop => k_is)
    (case k_Pool_drop => k_is)
    (case a_Pool_has => k_is)
    (case i_Pool_has => k_is)
    (case l_Pool_has => k_is)
    (case c_Pool_has => k_is)
    (case k_Pool_has => k_is)
    (case a_Pool_best => k_is)
    (case i_Pool_best => k_is)
    (case l_Pool_best => k_is)
    (case c_Pool_best => k_is)
    (case k_Pool_best => k_is)
    (case a_Pool_pieces => k_is)
    (case i_Pool_pieces => k_is)
    (case l_Pool_pieces => k_is)
    (case c_Pool_pieces => k_is)
    (case k_Pool_pieces => k_is)
    (case a_upper_halves => k_is)
    (case l_upper_halves => k_is)
    (case c_upper_halves => k_is)
    (case k_upper_halves => k_is)
    (case a_Yard_init => k_is)
    (case i_Yard_init => k_is)
    (case l_Yard_init => k_is)
    (case c_Yard_init => k_is)
    (case k_Yard_init => k_is)
    (case a_Yard_give => k_is)
    (case i_Yard_give => k_is)
    (case l_Yard_give => k_is)
    (case c_Yard_give => k_is)
    (case k_Yard_give => k_is)
    (case a_Yard_take_back => k_is)
    (case i_Yard_take_back => k_is)
    (case l_Yard_take_back => k_is)
    (case c_Yard_take_back => k_is)
    (case k_Yard_take_back => k_is)
    (case a_Yard_resize => k_is)
    (case i_Yard_resize => k_is)
    (case l_Yard_resize => k_is)
    (case c_Yard_resize => k_is)
    (case k_Yard_resize => k_is)
    (case a_Yard_free => k_is)
    (case i_Yard_free => k_is)
    (case l_Yard_free => k_is)
    (case c_Yard_free => k_is)
    (case k_Yard_free => k_is)
    (case a_Yard_out => k_is)
    (case i_Yard_out => k_is)
    (case l_Yard_out => k_is)
    (case c_Yard_out => k_is)
    (case k_Yard_out => k_is)
    (case a_Yard_owner => k_is)
    (case i_Yard_owner => k_is)
    (case l_Yard_owner => k_is)
    (case c_Yard_owner => k_is)
    (case k_Yard_owner => k_is)
    (case a_Yard_fitting => k_is)
    (case i_Yard_fitting => k_is)
    (case l_Yard_fitting => k_is)
    (case c_Yard_fitting => k_is)
    (case k_Yard_fitting => k_is)
    (case a_Yard_size_of => k_is)
    (case i_Yard_size_of => k_is)
    (case l_Yard_size_of => k_is)
    (case c_Yard_size_of => k_is)
    (case k_Yard_size_of => k_is)
    (case a_Yard_cut => k_is)
    (case i_Yard_cut => k_is)
    (case l_Yard_cut => k_is)
    (case c_Yard_cut => k_is)
    (case k_Yard_cut => k_is)
    (case a_Yard_grow => k_is)
    (case i_Yard_grow => k_is)
    (case l_Yard_grow => k_is)
    (case c_Yard_grow => k_is)
    (case k_Yard_grow => k_is)
    (case a_Yard_join => k_is)
    (case i_Yard_join => k_is)
    (case l_Yard_join => k_is)
    (case c_Yard_join => k_is)
    (case k_Yard_join => k_is)
    (case a_law_whole => k_is)
    (case l_law_whole => k_is)
    (case c_law_whole => k_is)
    (case k_law_whole => k_is)
    (case a_law_cell_at => k_is)
    (case l_law_cell_at => k_is)
    (case c_law_cell_at => k_is)
    (case k_law_cell_at => k_is)
    (case a_law_doubled => k_is)
    (case l_law_doubled => k_is)
    (case c_law_doubled => k_is)
    (case k_law_doubled => k_is)
    (case a_law_fitting => k_is)
    (case l_law_fitting => k_is)
    (case c_law_fitting => k_is)
    (case k_law_fitting => k_is)
    (case a_law_yard_size => k_is)
    (case l_law_yard_size => k_is)
    (case c_law_yard_size => k_is)
    (case k_law_yard_size => k_is)
    (case a_law_want => k_is)
    (case l_law_want => k_is)
    (case c_law_want => k_is)
    (case k_law_want => k_is)
    (case a_law_done => k_is)
    (case l_law_done => k_is)
    (case c_law_done => k_is)
    (case k_law_done => k_is)
    (case a_law_touched => k_is)
    (case l_law_touched => k_is)
    (case c_law_touched => k_is)
    (case k_law_touched => k_is)
    (case a_law_due => k_is)
    (case l_law_due => k_is)
    (case c_law_due => k_is)
    (case k_law_due => k_is)
    (case a_law_told => k_is)
    (case l_law_told => k_is)
    (case c_law_told => k_is)
    (case k_law_told => k_is)
    (case a_law_halves => k_is)
    (case l_law_halves => k_is)
    (case c_law_halves => k_is)
    (case k_law_halves => k_is)
    (case a_law_wishes => k_is)
    (case l_law_wishes => k_is)
    (case c_law_wishes => k_is)
    (case k_law_wishes => k_is)
    (case a_law_in_turn => k_is)
    (case l_law_in_turn => k_is)
    (case c_law_in_turn => k_is)
    (case k_law_in_turn => k_is)
    (case a_law_owner => k_is)
    (case l_law_owner => k_is)
    (case c_law_owner => k_is)
    (case k_law_owner => k_is)
    (case a_law_owners => k_is)
    (case l_law_owners => k_is)
    (case c_law_owners => k_is)
    (case k_law_owners => k_is)
    (case a_law_behind => k_is)
    (case l_law_behind => k_is)
    (case c_law_behind => k_is)
    (case k_law_behind => k_is)
    (case a_law => k_is)
    (case l_law => k_is)
    (case c_law => k_is)
    (case k_law => k_is)
    (case pg_Pool => k_is)
    (case hd_Pool => k_is)
    (case po_Pool => k_is)
    (case sa_Pool => k_is)
    (case mk_Pool => k_is)
    (case kc_Pool => k_is)
    (case n_Pool__places => k_is)
    (case pg_Yard => k_is)
    (case hd_Yard => k_is)
    (case po_Yard => k_is)
    (case sa_Yard => k_is)
    (case mk_Yard => k_is)
    (case kc_Yard => k_is)
    (case n_Yard_cells => k_is)
    (case n_Yard__sizes => k_is)
    (case n_Yard__pool => k_is)
    (case sp1 => k_is)
    (case sp2 => k_is)
    (case xx_YardError => k_exc)
    (case xk_YardError => k_is)
    (case xt_YardError => k_is)
    (case xc_YardError => k_is)
    (case xg_YardError => k_is)
    (case xh_YardError => k_is)
    (case xs_YardError => k_is)
    (case xd_YardError => k_is)
    (case xa_YardError => k_is)
    (case xm_YardError => k_is)
    (case xv_YardError => k_is)
    (case xx_NoYard => k_exc)
    (case xk_NoYard => k_is)
    (case xt_NoYard => k_is)
    (case xc_NoYard => k_is)
    (case xg_NoYard => k_is)
    (case xh_NoYard => k_is)
    (case xs_NoYard => k_is)
    (case xd_NoYard => k_is)
    (case xa_NoYard => k_is)
    (case xm_NoYard => k_is)
    (case xv_NoYard => k_is)
    (case xx_NoWish => k_exc)
    (case xk_NoWish => k_is)
    (case xt_NoWish => k_is)
    (case xc_NoWish => k_is)
    (case xg_NoWish => k_is)
    (case xh_NoWish => k_is)
    (case xs_NoWish => k_is)
    (case xd_NoWish => k_is)
    (case xa_NoWish => k_is)
    (case xm_NoWish => k_is)
    (case xv_NoWish => k_is)
    (case xx_NoRoom => k_exc)
    (case xk_NoRoom => k_is)
    (case xt_NoRoom => k_is)
    (case xc_NoRoom => k_is)
    (case xg_NoRoom => k_is)
    (case xh_NoRoom => k_is)
    (case xs_NoRoom => k_is)
    (case xd_NoRoom => k_is)
    (case xa_NoRoom => k_is)
    (case xm_NoRoom => k_is)
    (case xv_NoRoom => k_is)
    (case xx_NotOut => k_exc)
    (case xk_NotOut => k_is)
    (case xt_NotOut => k_is)
    (case xc_NotOut => k_is)
    (case xg_NotOut => k_is)
    (case xh_NotOut => k_is)
    (case xs_NotOut => k_is)
    (case xd_NotOut => k_is)
    (case xa_NotOut => k_is)
    (case xm_NotOut => k_is)
    (case xv_NotOut => k_is)
    (case s_NoYard_YardError => first | rfl | k_is)
    (case t_NoYard_YardError => first | rfl | k_is)
    (case s_NoYard_NoYard => first | rfl | k_is)
    (case t_NoYard_NoYard => first | rfl | k_is)
    (case s_NoYard_NoWish => first | rfl | k_is)
    (case t_NoYard_NoWish => first | rfl | k_is)
    (case s_NoYard_NoRoom => first | rfl | k_is)
    (case t_NoYard_NoRoom => first | rfl | k_is)
    (case s_NoYard_NotOut => first | rfl | k_is)
    (case t_NoYard_NotOut => first | rfl | k_is)
    (case s_NoWish_YardError => first | rfl | k_is)
    (case t_NoWish_YardError => first | rfl | k_is)
    (case s_NoWish_NoYard => first | rfl | k_is)
    (case t_NoWish_NoYard => first | rfl | k_is)
    (case s_NoWish_NoWish => first | rfl | k_is)
    (case t_NoWish_NoWish => first | rfl | k_is)
    (case s_NoWish_NoRoom => first | rfl | k_is)
    (case t_NoWish_NoRoom => first | rfl | k_is)
    (case s_NoWish_NotOut => first | rfl | k_is)
    (case t_NoWish_NotOut => first | rfl | k_is)
    (case s_NoRoom_YardError => first | rfl | k_is)
    (case t_NoRoom_YardError => first | rfl | k_is)
    (case s_NoRoom_NoYard => first | rfl | k_is)
    (case t_NoRoom_NoYard => first | rfl | k_is)
    (case s_NoRoom_NoWish => first | rfl | k_is)
    (case t_NoRoom_NoWish => first | rfl | k_is)
    (case s_NoRoom_NoRoom => first | rfl | k_is)
    (case t_NoRoom_NoRoom => first | rfl | k_is)
    (case s_NoRoom_NotOut => first | rfl | k_is)
    (case t_NoRoom_NotOut => first | rfl | k_is)
    (case s_NotOut_YardError => first | rfl | k_is)
    (case t_NotOut_YardError => first | rfl | k_is)
    (case s_NotOut_NoYard => first | rfl | k_is)
    (case t_NotOut_NoYard => first | rfl | k_is)
    (case s_NotOut_NoWish => first | rfl | k_is)
    (case t_NotOut_NoWish => first | rfl | k_is)
    (case s_NotOut_NoRoom => first | rfl | k_is)
    (case t_NotOut_NoRoom => first | rfl | k_is)
    (case s_NotOut_NotOut => first | rfl | k_is)
    (case t_NotOut_NotOut => first | rfl | k_is)
    (case z_all => k_is)
    (case z_any => k_is)
    (case z_bool => k_is)
    (case z_int => k_is)
    (case z_isinstance => k_is)
    (case z_len => k_is)
    (case z_list => k_is)
    (case z_max => k_is)
    (case z_min => k_is)
    (case z_range => k_is)
    (case z_set => k_is)
    (case z_sorted => k_is)
    (case z_sum => k_is)
    (case v_MOST => k_is)
