import PyProof.Rows.All
import Wide.All
import OpenK.AllK
import Wide.FinOn
import HandS.ForMost
import HandS.StrMore
import HandS.DictComp
import KE.KIntText
import KE.IntTextText
import HandS.ForExc
import HandS.ExcIs
import HandS.IsInst
import HandS.WideBits
import HandS.WideMore
import HandS.Style
import HandS.SortRule
import HandS.SortInts
import HandS.DictTup
import HandS.ListItems
import HandS.More
import HandS.Flow
import HandS.TryMany
import HandS.Strs
import HandS.Walk
import HandS.Rev
import HandS.SortKw
import HandS.FStr
import HandS.Lambda
import HandS.SuiteRaise
import HandS.RaiseFrom
import HandS.Deep
import HandS.HotCalls
import KE.SortKeyHeap
import KE.KSortKeyAny
import PySem.Challenge.RW_buddyyard_k14_read
set_option Elab.async false
set_option linter.all false
set_option maxRecDepth 100000
set_option maxHeartbeats 1000000
namespace BY
open PySem L2
/-! ### the mathematics of a yard: cells that are out, blocks of 2 ^ j cells -/
theorem blk_mono {x y j m : Nat} (h : j ≤ m) (e : x / 2 ^ j = y / 2 ^ j) : x / 2 ^ m = y / 2 ^ m := by
  obtain ⟨t, rfl⟩ : ∃ t, m = j + t := ⟨m - j, by omega⟩
  rw [Nat.pow_add, ← Nat.div_div_eq_div_mul, ← Nat.div_div_eq_div_mul, e]
theorem blk_succ (x j : Nat) : x / 2 ^ (j + 1) = x / 2 ^ j / 2 := by
  rw [Nat.pow_succ, ← Nat.div_div_eq_div_mul]
theorem blk_of (i j : Nat) : i * 2 ^ j / 2 ^ j = i := Nat.mul_div_cancel _ (Nat.pow_pos (by decide))
/-- no cell of block i of size 2 ^ j is out -/
def Fr (O : Nat → Prop) (j i : Nat) : Prop := ∀ c, c / 2 ^ j = i → ¬ O c
/-- block i of size 2 ^ j is a whole free piece -/
def Mx (O : Nat → Prop) (d j i : Nat) : Prop := j ≤ d ∧ i < 2 ^ (d - j) ∧ Fr O j i ∧ (j < d → ¬ Fr O (j + 1) (i / 2))
def sib (i : Nat) : Nat := if i % 2 = 0 then i + 1 else i - 1
theorem sib_half (i : Nat) : sib i / 2 = i / 2 := by
  unfold sib
  split <;> omega
theorem sib_ne (i : Nat) : sib i ≠ i := by
  unfold sib
  split <;> omega
theorem sib_of {i m : Nat} (h : i / 2 = m / 2) (n : i ≠ m) : i = sib m := by
  unfold sib
  split <;> omega
theorem sib_sib (i : Nat) : sib (sib i) = i := by
  unfold sib
  split <;> split <;> omega
theorem fr_down {O : Nat → Prop} {j m c : Nat} (h : Fr O m (c / 2 ^ m)) (l : j ≤ m) : Fr O j (c / 2 ^ j) := fun x e => h x (blk_mono l e)
theorem fr_half {O : Nat → Prop} {j i : Nat} (h1 : Fr O j i) (h2 : Fr O j (sib i)) : Fr O (j + 1) (i / 2) := by
  intro c e
  rw [blk_succ] at e
  by_cases h : c / 2 ^ j = i
  · exact h1 c h
  · exact h2 c (sib_of e h)
theorem fr_at {O : Nat → Prop} {j i : Nat} (h : Fr O (j + 1) (i / 2)) : Fr O j i := fun c e => h c (by rw [blk_succ, e])
theorem mx_le {O : Nat → Prop} {d j m c : Nat} (h : Mx O d j (c / 2 ^ j)) (hm : m ≤ d) (f : Fr O m (c / 2 ^ m)) : m ≤ j := by
  by_cases l : m ≤ j
  · exact l
  · exfalso
    refine h.2.2.2 (by omega) ?_
    rw [← blk_succ]
    exact fr_down f (by omega)
theorem mx_uniq {O : Nat → Prop} {d j m c : Nat} (h : Mx O d j (c / 2 ^ j)) (g : Mx O d m (c / 2 ^ m)) : j = m :=
  Nat.le_antisymm (mx_le g h.1 h.2.2.1) (mx_le h g.1 g.2.2.1)
theorem blk_lt {c d j : Nat} (h : c < 2 ^ d) (l : j ≤ d) : c / 2 ^ j < 2 ^ (d - j) := by
  apply Nat.div_lt_of_lt_mul
  rw [← Nat.pow_add, show j + (d - j) = d by omega]
  exact h
theorem mx_exists {O : Nat → Prop} {d c : Nat} (hc : c < 2 ^ d) : ∀ (n k : Nat), d - k = n → k ≤ d → Fr O k (c / 2 ^ k) → ∃ m, k ≤ m ∧ Mx O d m (c / 2 ^ m)
  | 0, k, e, l, f => ⟨k, Nat.le_refl _, l, blk_lt hc l, f, fun z => by omega⟩
  | n + 1, k, e, l, f => by
    by_cases g : Fr O (k + 1) (c / 2 ^ (k + 1))
    · obtain ⟨m, h1, h2⟩ := mx_exists hc n (k + 1) (by omega) (by omega) g
      exact ⟨m, by omega, h2⟩
    · exact ⟨k, Nat.le_refl _, l, blk_lt hc l, f, fun _ z => g (by rw [blk_succ]; exact z)⟩
/-- the block of size 2 ^ k that has the cell a is given out of the whole free piece of size 2 ^ m that has it -/
theorem mx_add {O O' : Nat → Prop} {d k m a : Nat} (hk : k ≤ m) (hM : Mx O' d m (a / 2 ^ m)) (hO : ∀ c, O c ↔ O' c ∨ c / 2 ^ k = a / 2 ^ k) (j i : Nat) :
    Mx O d j i ↔ (Mx O' d j i ∧ ¬ (j = m ∧ i = a / 2 ^ m)) ∨ (k ≤ j ∧ j < m ∧ i = sib (a / 2 ^ j)) := by
  have hp : ∀ n : Nat, 0 < 2 ^ n := fun n => Nat.pow_pos (by decide)
  have sub : ∀ {j i : Nat}, Fr O j i → Fr O' j i := fun f c e z => f c e ((hO c).mpr (.inl z))
  -- a cell of the block that is given, in a block that is free: no
  have no : ∀ {j i : Nat}, Fr O j i → i * 2 ^ j / 2 ^ k ≠ a / 2 ^ k := fun f z => f _ (blk_of _ _) ((hO _).mpr (.inr z))
  constructor
  · rintro ⟨jd, il, f, mx⟩
    have f' := sub f
    by_cases hin : i * 2 ^ j / 2 ^ m = a / 2 ^ m ∧ j < m
    · obtain ⟨hin, jm⟩ := hin
      right
      -- its parent is free in O', so what is out there is the new block
      have mm := hM.1
      have pf : Fr O' (j + 1) (i / 2) := by
        have z : Fr O' m (i * 2 ^ j / 2 ^ m) := by rw [hin]; exact hM.2.2.1
        have y := fr_down z (show j + 1 ≤ m by omega)
        rw [blk_succ, blk_of] at y
        exact y
      have nf := mx (by omega)
      have ⟨c, e, oc⟩ : ∃ c, c / 2 ^ (j + 1) = i / 2 ∧ O c := by
        apply Classical.byContradiction
        intro z
        exact nf fun c e oc => z ⟨c, e, oc⟩
      have ec : c / 2 ^ k = a / 2 ^ k := ((hO c).mp oc).resolve_left (pf c e)
      have kj : k ≤ j := by
        apply Classical.byContradiction
        intro z
        refine no f ?_
        rw [← ec]
        refine blk_mono (j := j + 1) (by omega) ?_
        rw [e, blk_succ, blk_of]
      have e2 : c / 2 ^ j = a / 2 ^ j := blk_mono kj ec
      refine ⟨kj, jm, sib_of ?_ ?_⟩
      · rw [← e2, ← blk_succ]
        exact e.symm
      · intro z
        refine f c ?_ oc
        rw [e2, z]
    · left
      have hne : ¬ (j = m ∧ i = a / 2 ^ m) := by
        rintro ⟨rfl, rfl⟩
        refine f a rfl ((hO a).mpr (.inr rfl))
      refine ⟨⟨jd, il, f', fun l pf => ?_⟩, hne⟩
      have nf := mx l
      have ⟨c, e, oc⟩ : ∃ c, c / 2 ^ (j + 1) = i / 2 ∧ O c := by
        apply Classical.byContradiction
        intro z
        exact nf fun c e oc => z ⟨c, e, oc⟩
      have ec : c / 2 ^ k = a / 2 ^ k := ((hO c).mp oc).resolve_left (pf c e)
      have kj : k ≤ j := by
        apply Classical.byContradiction
        intro z
        refine no f ?_
        rw [← ec]
        refine blk_mono (j := j + 1) (by omega) ?_
        rw [e, blk_succ, blk_of]
      have e2 : c / 2 ^ j = a / 2 ^ j := blk_mono kj ec
      have e3 : a / 2 ^ (j + 1) = i / 2 := by rw [blk_succ, ← e2, ← blk_succ]; exact e
      have y : j + 1 ≤ m := mx_le hM (by omega) (by rw [e3]; exact pf)
      refine hin ⟨?_, by omega⟩
      refine blk_mono y ?_
      rw [e3, blk_succ, blk_of]
  · rintro (⟨⟨jd, il, f, mx⟩, ne⟩ | ⟨kj, jm, rfl⟩)
    · -- it has no cell of the new block: else it were the piece itself
      have away : ∀ c, c / 2 ^ j = i → c / 2 ^ k ≠ a / 2 ^ k := by
        intro c e z
        have e2 : c / 2 ^ m = a / 2 ^ m := blk_mono hk z
        have hM' : Mx O' d m (c / 2 ^ m) := by rw [e2]; exact hM
        have := mx_uniq (c := c) (j := j) (m := m) (by rw [e]; exact ⟨jd, il, f, mx⟩) hM'
        subst this
        exact ne ⟨rfl, by rw [← e2]; exact e.symm⟩
      refine ⟨jd, il, fun c e oc => ?_, fun l pf => mx l (sub pf)⟩
      rcases (hO c).mp oc with z | z
      · exact f c e z
      · exact away c e z
    · have mm := hM.1
      have hf : Fr O' j (sib (a / 2 ^ j)) := by
        have z := fr_down hM.2.2.1 (show j + 1 ≤ m by omega)
        rw [blk_succ, ← sib_half] at z
        exact fr_at z
      refine ⟨by omega, ?_, fun c e oc => ?_, fun l pf => ?_⟩
      · have y := hM.2.1
        have y2 : a / 2 ^ (j + 1) < 2 ^ (d - (j + 1)) := by
          have e : a / 2 ^ m = a / 2 ^ (j + 1) / 2 ^ (m - (j + 1)) := by
            rw [Nat.div_div_eq_div_mul, ← Nat.pow_add, show j + 1 + (m - (j + 1)) = m by omega]
          rw [e] at y
          have y3 := Nat.lt_mul_of_div_lt y (hp _)
          rw [← Nat.pow_add, show d - m + (m - (j + 1)) = d - (j + 1) by omega] at y3
          exact y3
        have e4 : 2 ^ (d - j) = 2 * 2 ^ (d - (j + 1)) := by
          rw [show d - j = d - (j + 1) + 1 by omega, Nat.pow_succ]
          omega
        rw [blk_succ, ← sib_half] at y2
        omega
      · rcases (hO c).mp oc with z | z
        · exact hf c e z
        · have z2 := blk_mono kj z
          rw [e] at z2
          exact sib_ne _ z2
      · refine pf a ?_ ((hO a).mpr (.inr rfl))
        rw [blk_succ, sib_half]
/-- going down the same way: while the sibling is a whole free piece, the piece grows -/
theorem mx_stop {O O' : Nat → Prop} {d k m a : Nat} (hk : k ≤ m) (hM : Mx O' d m (a / 2 ^ m)) (hO : ∀ c, O c ↔ O' c ∨ c / 2 ^ k = a / 2 ^ k) (j : Nat) (kj : k ≤ j) (jm : j ≤ m) : Mx O d j (sib (a / 2 ^ j)) ↔ j < m := by
  rw [mx_add hk hM hO]
  constructor
  · rintro (⟨h, _⟩ | ⟨_, h, _⟩)
    · apply Classical.byContradiction
      intro z
      have e : j = m := by omega
      subst e
      by_cases l : j < d
      · refine hM.2.2.2 l (fr_half hM.2.2.1 h.2.2.1)
      · have jd : j = d := by have := h.1; omega
        have h2 := h.2.1
        have h3 := hM.2.1
        rw [jd, Nat.sub_self, Nat.pow_zero] at h2 h3
        have h4 := sib_ne (a / 2 ^ d)
        generalize a / 2 ^ d = z at h2 h3 h4
        omega
    · exact h
  · intro h
    exact .inr ⟨kj, h, rfl⟩
/-! lists that rise -/
theorem rise_ext : ∀ {l m : List Nat}, l.Pairwise (· < ·) → m.Pairwise (· < ·) → (∀ x, x ∈ l ↔ x ∈ m) → l = m
  | [], [], _, _, _ => rfl
  | [], y :: m, _, _, h => absurd ((h y).mpr List.mem_cons_self) (by simp)
  | x :: l, [], _, _, h => absurd ((h x).mp List.mem_cons_self) (by simp)
  | x :: l, y :: m, h1, h2, h => by
    obtain ⟨a1, a2⟩ := List.pairwise_cons.mp h1
    obtain ⟨b1, b2⟩ := List.pairwise_cons.mp h2
    have e : x = y := by
      rcases List.mem_cons.mp ((h x).mp List.mem_cons_self) with e | e
      · exact e
      · rcases List.mem_cons.mp ((h y).mpr List.mem_cons_self) with e' | e'
        · exact e'.symm
        · have := b1 x e
          have := a1 y e'
          omega
    subst e
    rw [rise_ext a2 b2 fun z => ?_]
    constructor
    · intro hz
      rcases List.mem_cons.mp ((h z).mp (List.mem_cons_of_mem _ hz)) with e | e
      · have := a1 z hz; omega
      · exact e
    · intro hz
      rcases List.mem_cons.mp ((h z).mpr (List.mem_cons_of_mem _ hz)) with e | e
      · have := b1 z hz; omega
      · exact e
/-- the places of the whole free pieces of size 2 ^ j, rising -/
noncomputable def frl (O : Nat → Prop) (d j : Nat) : List Nat := ((List.range (2 ^ (d - j))).filter fun i => @decide (Mx O d j i) (Classical.propDecidable _)).map (· * 2 ^ j)
theorem frl_rise (O : Nat → Prop) (d j : Nat) : (frl O d j).Pairwise (· < ·) := by
  unfold frl
  refine List.pairwise_map.mpr ((List.pairwise_lt_range.filter _).imp fun {x y} h => ?_)
  exact Nat.mul_lt_mul_of_pos_right h (Nat.pow_pos (by decide))
theorem frl_mem {O : Nat → Prop} {d j x : Nat} : x ∈ frl O d j ↔ ∃ i, x = i * 2 ^ j ∧ Mx O d j i := by
  unfold frl
  constructor
  · intro h
    obtain ⟨i, hi, rfl⟩ := List.mem_map.mp h
    exact ⟨i, rfl, by simpa using (List.mem_filter.mp hi).2⟩
  · rintro ⟨i, rfl, h⟩
    exact List.mem_map.mpr ⟨i, List.mem_filter.mpr ⟨List.mem_range.mpr h.2.1, by simpa using h⟩, rfl⟩
theorem frl_mem' {O : Nat → Prop} {d j i : Nat} : i * 2 ^ j ∈ frl O d j ↔ Mx O d j i := by
  rw [frl_mem]
  constructor
  · rintro ⟨m, e, h⟩
    have := Nat.eq_of_mul_eq_mul_right (Nat.pow_pos (by decide)) e
    rw [this]
    exact h
  · exact fun h => ⟨i, rfl, h⟩
theorem mx_congr {O O' : Nat → Prop} (h : ∀ c, O c ↔ O' c) : O = O' := funext fun c => propext (h c)
/-- put among the rising ones -/
def ins (x : Nat) (l : List Nat) : List Nat := l.filter (· < x) ++ x :: l.filter (x < ·)
theorem ins_mem {x y : Nat} {l : List Nat} : y ∈ ins x l ↔ y = x ∨ y ∈ l := by
  unfold ins
  simp only [List.mem_append, List.mem_filter, List.mem_cons, decide_eq_true_eq]
  constructor
  · rintro (⟨h, _⟩ | rfl | ⟨h, _⟩)
    · exact .inr h
    · exact .inl rfl
    · exact .inr h
  · rintro (rfl | h)
    · exact .inr (.inl rfl)
    · by_cases h1 : y < x
      · exact .inl ⟨h, h1⟩
      · by_cases h2 : y = x
        · exact .inr (.inl h2)
        · exact .inr (.inr ⟨h, by omega⟩)
theorem ins_rise {x : Nat} {l : List Nat} (h : l.Pairwise (· < ·)) : (ins x l).Pairwise (· < ·) := by
  unfold ins
  refine List.pairwise_append.mpr ⟨h.filter _, List.pairwise_cons.mpr ⟨fun y hy => by simpa using (List.mem_filter.mp hy).2, h.filter _⟩, fun y hy z hz => ?_⟩
  have h1 : y < x := by simpa using (List.mem_filter.mp hy).2
  rcases List.mem_cons.mp hz with rfl | hz
  · exact h1
  · have h2 : x < z := by simpa using (List.mem_filter.mp hz).2
    omega
/-- how many lie ahead -/
def rk (x : Nat) (l : List Nat) : Nat := (l.filter (· < x)).length
theorem rk_le (x : Nat) (l : List Nat) : rk x l ≤ l.length := List.length_filter_le _ _
theorem split_at (x : Nat) : ∀ {l : List Nat}, l.Pairwise (· < ·) → l = l.filter (· < x) ++ l.filter (x ≤ ·)
  | [], _ => rfl
  | y :: l, h => by
    obtain ⟨h1, h2⟩ := List.pairwise_cons.mp h
    have ih := split_at x h2
    by_cases c : y < x
    · rw [List.filter_cons_of_pos (by simpa using c), List.filter_cons_of_neg (by simp; omega), List.cons_append, ← ih]
    · have e : l.filter (· < x) = [] := List.filter_eq_nil_iff.mpr fun z hz => by have := h1 z hz; simp; omega
      have e2 : l.filter (x ≤ ·) = l := List.filter_eq_self.mpr fun z hz => by have := h1 z hz; simp; omega
      rw [List.filter_cons_of_neg (by simpa using c), List.filter_cons_of_pos (by simp; omega), e, e2]
      rfl
theorem rk_take {x : Nat} {l : List Nat} (h : l.Pairwise (· < ·)) : l.take (rk x l) = l.filter (· < x) := by
  exact (congrArg (List.take (rk x l)) (split_at x h)).trans (List.take_left' rfl)
theorem rk_drop {x : Nat} {l : List Nat} (h : l.Pairwise (· < ·)) : l.drop (rk x l) = l.filter (x ≤ ·) := by
  exact (congrArg (List.drop (rk x l)) (split_at x h)).trans (List.drop_left' rfl)
theorem rk_lt {x i : Nat} {l : List Nat} (h : l.Pairwise (· < ·)) {y : Nat} (e : l[i]? = some y) : y < x ↔ i < rk x l := by
  constructor
  · intro hy
    apply Classical.byContradiction
    intro z
    have m : y ∈ l.drop (rk x l) := by
      refine List.mem_iff_getElem?.mpr ⟨i - rk x l, ?_⟩
      rw [List.getElem?_drop, show rk x l + (i - rk x l) = i by omega]
      exact e
    rw [rk_drop h] at m
    have : x ≤ y := by simpa using (List.mem_filter.mp m).2
    omega
  · intro hi
    have m : y ∈ l.take (rk x l) := by
      refine List.mem_iff_getElem?.mpr ⟨i, ?_⟩
      rw [List.getElem?_take, if_pos hi]
      exact e
    rw [rk_take h] at m
    simpa using (List.mem_filter.mp m).2
theorem rk_at {x : Nat} {l : List Nat} (h : l.Pairwise (· < ·)) : l[rk x l]? = some x ↔ x ∈ l := by
  constructor
  · exact fun e => List.mem_of_getElem? e
  · intro m
    obtain ⟨i, hi⟩ := List.mem_iff_getElem?.mp m
    have h1 := rk_lt (x := x) h hi
    have h2 : ¬ i < rk x l := fun z => Nat.lt_irrefl x (h1.mpr z)
    have lt := (List.getElem?_eq_some_iff.mp hi).1
    by_cases e : i = rk x l
    · rw [← e]; exact hi
    · exfalso
      have : rk x l < l.length := by omega
      obtain ⟨y, hy⟩ : ∃ y, l[rk x l]? = some y := ⟨_, List.getElem?_eq_getElem this⟩
      have a1 : ¬ y < x := fun z => Nat.lt_irrefl _ ((rk_lt h hy).mp z)
      obtain ⟨q1, q2⟩ := List.getElem?_eq_some_iff.mp hi
      obtain ⟨q3, q4⟩ := List.getElem?_eq_some_iff.mp hy
      have := List.pairwise_iff_getElem.mp h _ _ q3 q1 (by omega)
      omega
theorem ins_eq {x : Nat} {l : List Nat} (h : l.Pairwise (· < ·)) (n : x ∉ l) : l.take (rk x l) ++ [x] ++ l.drop (rk x l) = ins x l := by
  rw [rk_take h, rk_drop h]
  unfold ins
  rw [List.append_assoc]
  congr 1
  show x :: l.filter (x ≤ ·) = x :: l.filter (x < ·)
  congr 1
  refine List.filter_congr fun y hy => ?_
  have : y ≠ x := fun e => n (e ▸ hy)
  simp only [decide_eq_decide]
  omega
def del (x : Nat) (l : List Nat) : List Nat := l.filter (· ≠ x)
theorem del_eq {x : Nat} {l : List Nat} (h : l.Pairwise (· < ·)) (m : x ∈ l) : l.eraseIdx (rk x l) = del x l := by
  have e1 := (rk_at (x := x) h).mpr m
  obtain ⟨lt, e2⟩ := List.getElem?_eq_some_iff.mp e1
  refine rise_ext (h.sublist (List.eraseIdx_sublist ..)) (h.filter _) fun y => ?_
  unfold del
  rw [List.mem_filter, List.mem_eraseIdx_iff_getElem?]
  constructor
  · rintro ⟨i, ne, hi⟩
    refine ⟨List.mem_of_getElem? hi, ?_⟩
    simp only [ne_eq, decide_not, Bool.not_eq_true', decide_eq_false_iff_not]
    rintro rfl
    obtain ⟨q1, q2⟩ := List.getElem?_eq_some_iff.mp hi
    rcases Nat.lt_or_gt_of_ne ne with z | z
    · have := List.pairwise_iff_getElem.mp h _ _ q1 lt z; omega
    · have := List.pairwise_iff_getElem.mp h _ _ lt q1 z; omega
  · rintro ⟨hy, ne⟩
    obtain ⟨i, hi⟩ := List.mem_iff_getElem?.mp hy
    refine ⟨i, fun z => ?_, hi⟩
    rw [z, e1] at hi
    simp only [ne_eq, decide_not, Bool.not_eq_true', decide_eq_false_iff_not] at ne
    exact ne (Option.some.inj hi).symm
theorem del_mem {x y : Nat} {l : List Nat} : y ∈ del x l ↔ y ∈ l ∧ y ≠ x := by
  unfold del
  rw [List.mem_filter]
  simp
theorem del_rise {x : Nat} {l : List Nat} (h : l.Pairwise (· < ·)) : (del x l).Pairwise (· < ·) := h.filter _
/-! ### what is out, and what is free by it -/
abbrev PN := Nat × Nat
/-- the cell c is out: a piece (place, exponent of its size) has it -/
def Oc (os : List PN) (c : Nat) : Prop := ∃ q ∈ os, c / 2 ^ q.2 = q.1 / 2 ^ q.2
def Apart (p q : PN) : Prop := ∀ c, c / 2 ^ p.2 = p.1 / 2 ^ p.2 → c / 2 ^ q.2 ≠ q.1 / 2 ^ q.2
structure Good (d : Nat) (os : List PN) : Prop where
  each : ∀ q ∈ os, q.2 ≤ d ∧ q.1 / 2 ^ q.2 * 2 ^ q.2 = q.1 ∧ q.1 < 2 ^ d
  disj : os.Pairwise Apart
theorem Apart.symm {p q : PN} (h : Apart p q) : Apart q p := fun c e z => h c z e
theorem Good.nil (d : Nat) : Good d [] := ⟨fun q h => absurd h (by simp), List.Pairwise.nil⟩
theorem Good.sub {d : Nat} {os os' : List PN} (h : Good d os) (s : os'.Sublist os) : Good d os' := ⟨fun q m => h.each q (s.subset m), h.disj.sublist s⟩
theorem Good.perm {d : Nat} {os os' : List PN} (h : Good d os) (s : os'.Perm os) : Good d os' := ⟨fun q m => h.each q (s.mem_iff.mp m), (s.pairwise_iff (fun {_ _} z => z.symm)).mpr h.disj⟩
theorem Oc.perm {os os' : List PN} (s : os'.Perm os) : Oc os' = Oc os := mx_congr fun c => ⟨fun ⟨q, m, e⟩ => ⟨q, s.mem_iff.mp m, e⟩, fun ⟨q, m, e⟩ => ⟨q, s.mem_iff.mpr m, e⟩⟩
theorem Good.one {d : Nat} {os : List PN} (h : Good d os) {p q : PN} (hp : p ∈ os) (hq : q ∈ os) {c : Nat} (e1 : c / 2 ^ p.2 = p.1 / 2 ^ p.2) (e2 : c / 2 ^ q.2 = q.1 / 2 ^ q.2) : p = q := by
  apply Classical.byContradiction
  intro ne
  have aux : ∀ l : List PN, l.Pairwise Apart → p ∈ l → q ∈ l → False := by
    intro l
    induction l with
    | nil => intro _ z; cases z
    | cons x l ih =>
      intro hd h1 h2
      obtain ⟨a1, a2⟩ := List.pairwise_cons.mp hd
      rcases List.mem_cons.mp h1 with e | m1
      · rcases List.mem_cons.mp h2 with e' | m2
        · exact ne (e.trans e'.symm)
        · rw [← e] at a1
          exact a1 q m2 c e1 e2
      · rcases List.mem_cons.mp h2 with e' | m2
        · rw [← e'] at a1
          exact a1 p m1 c e2 e1
        · exact ih a2 m1 m2
  exact aux os h.disj hp hq
/-- no two pieces begin at one place -/
theorem Good.key {d : Nat} {os : List PN} (h : Good d os) {p q : PN} (hp : p ∈ os) (hq : q ∈ os) (e : p.1 = q.1) : p = q := h.one hp hq (c := p.1) rfl (by rw [e])
theorem Oc_snoc {os : List PN} {x k c : Nat} : Oc (os ++ [(x, k)]) c ↔ Oc os c ∨ c / 2 ^ k = x / 2 ^ k := by
  unfold Oc
  constructor
  · rintro ⟨q, m, e⟩
    rcases List.mem_append.mp m with m | m
    · exact .inl ⟨q, m, e⟩
    · have := List.mem_singleton.mp m
      subst this
      exact .inr e
  · rintro (⟨q, m, e⟩ | e)
    · exact ⟨q, List.mem_append.mpr (.inl m), e⟩
    · exact ⟨(x, k), List.mem_append.mpr (.inr List.mem_cons_self), e⟩
/-- without the piece that begins at x -/
def outs (os : List PN) (x : Nat) : List PN := os.filter fun q => decide (q.1 ≠ x)
theorem Oc_outs {d : Nat} {os : List PN} {x k c : Nat} (g : Good d os) (m : (x, k) ∈ os) : Oc os c ↔ Oc (outs os x) c ∨ c / 2 ^ k = x / 2 ^ k := by
  constructor
  · rintro ⟨q, hq, e⟩
    by_cases z : q.1 = x
    · have := g.key hq m z
      subst this
      exact .inr e
    · exact .inl ⟨q, List.mem_filter.mpr ⟨hq, by simpa using z⟩, e⟩
  · rintro (⟨q, hq, e⟩ | e)
    · exact ⟨q, (List.mem_filter.mp hq).1, e⟩
    · exact ⟨(x, k), m, e⟩
theorem fr_outs {d : Nat} {os : List PN} {x k : Nat} (g : Good d os) (m : (x, k) ∈ os) : Fr (Oc (outs os x)) k (x / 2 ^ k) := by
  rintro c e ⟨q, hq, e2⟩
  have hq' := List.mem_filter.mp hq
  have := g.one hq'.1 m (c := c) e2 e
  subst this
  simp at hq'
/-- the piece at x has the exponent k from now on -/
def outr (os : List PN) (x k : Nat) : List PN := os.map fun q => if q.1 = x then (x, k) else q
theorem outr_mem {d : Nat} {os : List PN} {x h k : Nat} (g : Good d os) (m : (x, h) ∈ os) {q : PN} : q ∈ outr os x k ↔ q ∈ outs os x ∨ q = (x, k) := by
  unfold outr outs
  constructor
  · intro z
    obtain ⟨p, hp, rfl⟩ := List.mem_map.mp z
    by_cases e : p.1 = x
    · rw [if_pos e]; exact .inr rfl
    · rw [if_neg e]; exact .inl (List.mem_filter.mpr ⟨hp, by simpa using e⟩)
  · rintro (z | rfl)
    · have z := List.mem_filter.mp z
      refine List.mem_map.mpr ⟨q, z.1, if_neg (by simpa using z.2)⟩
    · exact List.mem_map.mpr ⟨(x, h), m, if_pos rfl⟩
theorem Oc_outr {d : Nat} {os : List PN} {x h k c : Nat} (g : Good d os) (m : (x, h) ∈ os) : Oc (outr os x k) c ↔ Oc (outs os x) c ∨ c / 2 ^ k = x / 2 ^ k := by
  unfold Oc
  constructor
  · rintro ⟨q, hq, e⟩
    rcases (outr_mem g m).mp hq with z | rfl
    · exact .inl ⟨q, z, e⟩
    · exact .inr e
  · rintro (⟨q, hq, e⟩ | e)
    · exact ⟨q, (outr_mem g m).mpr (.inl hq), e⟩
    · exact ⟨(x, k), (outr_mem g m).mpr (.inr rfl), e⟩
theorem Good.snoc {d : Nat} {os : List PN} (g : Good d os) {x k : Nat} (hk : k ≤ d) (ha : x / 2 ^ k * 2 ^ k = x) (hx : x < 2 ^ d) (f : Fr (Oc os) k (x / 2 ^ k)) : Good d (os ++ [(x, k)]) := by
  refine ⟨fun q m => ?_, ?_⟩
  · rcases List.mem_append.mp m with m | m
    · exact g.each q m
    · have := List.mem_singleton.mp m
      subst this
      exact ⟨hk, ha, hx⟩
  · refine List.pairwise_append.mpr ⟨g.disj, List.pairwise_singleton _ _, fun p hp q hq c e1 e2 => ?_⟩
    have := List.mem_singleton.mp hq
    subst this
    exact f c e2 ⟨p, hp, e1⟩
theorem Good.outr {d : Nat} {os : List PN} (g : Good d os) {x h k : Nat} (m : (x, h) ∈ os) (hk : k ≤ d) (ha : x / 2 ^ k * 2 ^ k = x) (f : Fr (Oc (outs os x)) k (x / 2 ^ k)) : Good d (outr os x k) := by
  refine ⟨fun q z => ?_, ?_⟩
  · rcases (outr_mem g m).mp z with z | rfl
    · exact g.each q (List.mem_filter.mp z).1
    · exact ⟨hk, ha, (g.each _ m).2.2⟩
  · unfold BY.outr
    refine List.pairwise_map.mpr (g.disj.imp_of_mem fun {p q} hp hq ap => ?_)
    by_cases e1 : p.1 = x
    · by_cases e2 : q.1 = x
      · have e3 := g.key hp hq (e1.trans e2.symm)
        subst e3
        exact absurd rfl (ap p.1 rfl)
      · rw [if_pos e1, if_neg e2]
        intro c z1 z2
        exact f c z1 ⟨q, List.mem_filter.mpr ⟨hq, by simpa using e2⟩, z2⟩
    · by_cases e2 : q.1 = x
      · rw [if_neg e1, if_pos e2]
        intro c z1 z2
        exact f c z2 ⟨p, List.mem_filter.mpr ⟨hp, by simpa using e1⟩, z1⟩
      · rw [if_neg e1, if_neg e2]
        exact ap
/-! the free lists behind a deed -/
def setF (F : Nat → List Nat) (k : Nat) (l : List Nat) : Nat → List Nat := fun j => if j = k then l else F j
def remF (F : Nat → List Nat) (x k m : Nat) : Nat → List Nat := fun j => if k ≤ j ∧ j < m then del (sib (x / 2 ^ j) * 2 ^ j) (F j) else F j
def addF (F : Nat → List Nat) (x k m : Nat) : Nat → List Nat := fun j => if k ≤ j ∧ j < m then ins (sib (x / 2 ^ j) * 2 ^ j) (F j) else F j
theorem mul_inj {i m j : Nat} (e : i * 2 ^ j = m * 2 ^ j) : i = m := Nat.eq_of_mul_eq_mul_right (Nat.pow_pos (by decide)) e
theorem frl_ext {O : Nat → Prop} {d j : Nat} {l : List Nat} (r : l.Pairwise (· < ·)) (h : ∀ y, y ∈ l ↔ ∃ i, y = i * 2 ^ j ∧ Mx O d j i) : l = frl O d j := rise_ext r (frl_rise O d j) fun y => by rw [h, frl_mem]
/-- a piece is given out of the whole free one of exponent m -/
theorem can_give {O O' : Nat → Prop} {d k m a : Nat} (hk : k ≤ m) (hM : Mx O' d m (a / 2 ^ m)) (hO : ∀ c, O c ↔ O' c ∨ c / 2 ^ k = a / 2 ^ k) (j : Nat) :
    addF (setF (frl O' d) m (del (a / 2 ^ m * 2 ^ m) (frl O' d m))) a k m j = frl O d j := by
  unfold addF setF
  show (if k ≤ j ∧ j < m then ins (sib (a / 2 ^ j) * 2 ^ j) (if j = m then del (a / 2 ^ m * 2 ^ m) (frl O' d m) else frl O' d j) else (if j = m then del (a / 2 ^ m * 2 ^ m) (frl O' d m) else frl O' d j)) = frl O d j
  refine frl_ext ?_ fun y => ?_
  · split
    · refine ins_rise ?_
      split
      · exact del_rise (frl_rise _ _ _)
      · exact frl_rise _ _ _
    · split
      · exact del_rise (frl_rise _ _ _)
      · exact frl_rise _ _ _
  · have key : (∃ i, y = i * 2 ^ j ∧ Mx O d j i) ↔ (∃ i, y = i * 2 ^ j ∧ Mx O' d j i ∧ ¬ (j = m ∧ i = a / 2 ^ m)) ∨ (k ≤ j ∧ j < m ∧ y = sib (a / 2 ^ j) * 2 ^ j) := by
      constructor
      · rintro ⟨i, e, h⟩
        rcases (mx_add hk hM hO j i).mp h with ⟨h1, h2⟩ | ⟨h1, h2, rfl⟩
        · exact .inl ⟨i, e, h1, h2⟩
        · exact .inr ⟨h1, h2, e⟩
      · rintro (⟨i, e, h1, h2⟩ | ⟨h1, h2, e⟩)
        · exact ⟨i, e, (mx_add hk hM hO j i).mpr (.inl ⟨h1, h2⟩)⟩
        · exact ⟨_, e, (mx_add hk hM hO j _).mpr (.inr ⟨h1, h2, rfl⟩)⟩
    have base : y ∈ (if j = m then del (a / 2 ^ m * 2 ^ m) (frl O' d m) else frl O' d j) ↔ ∃ i, y = i * 2 ^ j ∧ Mx O' d j i ∧ ¬ (j = m ∧ i = a / 2 ^ m) := by
      by_cases e : j = m
      · subst e
        rw [if_pos rfl, del_mem, frl_mem]
        constructor
        · rintro ⟨⟨i, e, h⟩, ne⟩
          exact ⟨i, e, h, fun z => ne (by rw [e, z.2])⟩
        · rintro ⟨i, e, h, ne⟩
          exact ⟨⟨i, e, h⟩, fun z => ne ⟨rfl, mul_inj (e.symm.trans z)⟩⟩
      · rw [if_neg e, frl_mem]
        constructor
        · rintro ⟨i, e2, h⟩
          exact ⟨i, e2, h, fun z => e z.1⟩
        · rintro ⟨i, e2, h, _⟩
          exact ⟨i, e2, h⟩
    rw [key]
    by_cases c : k ≤ j ∧ j < m
    · rw [if_pos c, ins_mem, base]
      constructor
      · rintro (h | h)
        · exact .inr ⟨c.1, c.2, h⟩
        · exact .inl h
      · rintro (h | ⟨_, _, h⟩)
        · exact .inr h
        · exact .inl h
    · rw [if_neg c, base]
      constructor
      · exact .inl
      · rintro (h | ⟨h1, h2, _⟩)
        · exact h
        · exact absurd ⟨h1, h2⟩ c
/-- a piece comes back, and joins to the whole free one of exponent m -/
theorem can_back {O O' : Nat → Prop} {d k m a : Nat} (hk : k ≤ m) (hM : Mx O' d m (a / 2 ^ m)) (hO : ∀ c, O c ↔ O' c ∨ c / 2 ^ k = a / 2 ^ k) (j : Nat) :
    setF (remF (frl O d) a k m) m (ins (a / 2 ^ m * 2 ^ m) (remF (frl O d) a k m m)) j = frl O' d j := by
  unfold setF
  have hrem : ∀ j, (remF (frl O d) a k m j).Pairwise (· < ·) := fun j => by
    unfold remF
    split
    · exact del_rise (frl_rise _ _ _)
    · exact frl_rise _ _ _
  have mem : ∀ j y, y ∈ remF (frl O d) a k m j ↔ ∃ i, y = i * 2 ^ j ∧ Mx O' d j i ∧ ¬ (j = m ∧ i = a / 2 ^ m) := by
    intro j y
    unfold remF
    by_cases c : k ≤ j ∧ j < m
    · rw [if_pos c, del_mem, frl_mem]
      constructor
      · rintro ⟨⟨i, e, h⟩, ne⟩
        rcases (mx_add hk hM hO j i).mp h with ⟨h1, h2⟩ | ⟨h1, h2, rfl⟩
        · exact ⟨i, e, h1, h2⟩
        · exact absurd e ne
      · rintro ⟨i, e, h1, h2⟩
        refine ⟨⟨i, e, (mx_add hk hM hO j i).mpr (.inl ⟨h1, h2⟩)⟩, fun z => ?_⟩
        have e3 : i = sib (a / 2 ^ j) := mul_inj (e.symm.trans z)
        -- the sibling lies in the whole free piece of exponent m
        have hj := h1
        rw [e3] at hj
        have e4 : (sib (a / 2 ^ j) * 2 ^ j) / 2 ^ m = a / 2 ^ m := by
          refine blk_mono (j := j + 1) (by omega) ?_
          rw [blk_succ, blk_of, sib_half, ← blk_succ]
        have := mx_uniq (c := sib (a / 2 ^ j) * 2 ^ j) (j := j) (m := m) (by rw [blk_of]; exact hj) (by rw [e4]; exact hM)
        omega
    · rw [if_neg c, frl_mem]
      constructor
      · rintro ⟨i, e, h⟩
        rcases (mx_add hk hM hO j i).mp h with ⟨h1, h2⟩ | ⟨h1, h2, _⟩
        · exact ⟨i, e, h1, h2⟩
        · exact absurd ⟨h1, h2⟩ c
      · rintro ⟨i, e, h1, h2⟩
        exact ⟨i, e, (mx_add hk hM hO j i).mpr (.inl ⟨h1, h2⟩)⟩
  by_cases e : j = m
  · subst e
    rw [if_pos rfl]
    refine frl_ext (ins_rise (hrem _)) fun y => ?_
    rw [ins_mem, mem]
    constructor
    · rintro (rfl | ⟨i, e, h, _⟩)
      · exact ⟨_, rfl, hM⟩
      · exact ⟨i, e, h⟩
    · rintro ⟨i, e, h⟩
      by_cases z : i = a / 2 ^ j
      · exact .inl (by rw [e, z])
      · exact .inr ⟨i, e, h, fun q => z q.2⟩
  · rw [if_neg e]
    refine frl_ext (hrem _) fun y => ?_
    rw [mem]
    constructor
    · rintro ⟨i, e2, h, _⟩
      exact ⟨i, e2, h⟩
    · rintro ⟨i, e2, h⟩
      exact ⟨i, e2, h, fun q => e q.1⟩
/-- a piece gets another size: the exponents h and k, within the same whole free piece -/
theorem mx_size {O1 O2 O' : Nat → Prop} {d h k m a : Nat} (hh : h ≤ m) (hk : k ≤ m) (hM : Mx O' d m (a / 2 ^ m)) (h1 : ∀ c, O1 c ↔ O' c ∨ c / 2 ^ h = a / 2 ^ h) (h2 : ∀ c, O2 c ↔ O' c ∨ c / 2 ^ k = a / 2 ^ k) (l : k ≤ h) (j i : Nat) :
    (Mx O2 d j i ↔ Mx O1 d j i ∨ (k ≤ j ∧ j < h ∧ i = sib (a / 2 ^ j))) ∧ (k ≤ j → j < h → ¬ Mx O1 d j (sib (a / 2 ^ j))) := by
  constructor
  · rw [mx_add hk hM h2, mx_add hh hM h1]
    constructor
    · rintro (z | ⟨z1, z2, z3⟩)
      · exact .inl (.inl z)
      · by_cases c : j < h
        · exact .inr ⟨z1, c, z3⟩
        · exact .inl (.inr ⟨by omega, z2, z3⟩)
    · rintro ((z | ⟨z1, z2, z3⟩) | ⟨z1, z2, z3⟩)
      · exact .inl z
      · exact .inr ⟨by omega, z2, z3⟩
      · exact .inr ⟨z1, by omega, z3⟩
  · intro kj jh z
    rw [mx_add hh hM h1] at z
    rcases z with ⟨z, _⟩ | ⟨z, _⟩
    · have e4 : (sib (a / 2 ^ j) * 2 ^ j) / 2 ^ m = a / 2 ^ m := by
        refine blk_mono (j := j + 1) (by omega) ?_
        rw [blk_succ, blk_of, sib_half, ← blk_succ]
      have := mx_uniq (c := sib (a / 2 ^ j) * 2 ^ j) (j := j) (m := m) (by rw [blk_of]; exact z) (by rw [e4]; exact hM)
      omega
    · omega
theorem can_shrink {O1 O2 : Nat → Prop} {d h k a : Nat} (q : ∀ j i, Mx O2 d j i ↔ Mx O1 d j i ∨ (k ≤ j ∧ j < h ∧ i = sib (a / 2 ^ j))) (j : Nat) : addF (frl O1 d) a k h j = frl O2 d j := by
  unfold addF
  refine frl_ext ?_ fun y => ?_
  · split
    · exact ins_rise (frl_rise _ _ _)
    · exact frl_rise _ _ _
  · by_cases c : k ≤ j ∧ j < h
    · rw [if_pos c, ins_mem, frl_mem]
      constructor
      · rintro (rfl | ⟨i, e, z⟩)
        · exact ⟨_, rfl, (q j _).mpr (.inr ⟨c.1, c.2, rfl⟩)⟩
        · exact ⟨i, e, (q j i).mpr (.inl z)⟩
      · rintro ⟨i, e, z⟩
        rcases (q j i).mp z with z | ⟨_, _, z⟩
        · exact .inr ⟨i, e, z⟩
        · exact .inl (by rw [e, z])
    · rw [if_neg c, frl_mem]
      constructor
      · rintro ⟨i, e, z⟩
        exact ⟨i, e, (q j i).mpr (.inl z)⟩
      · rintro ⟨i, e, z⟩
        rcases (q j i).mp z with z | ⟨z1, z2, _⟩
        · exact ⟨i, e, z⟩
        · exact absurd ⟨z1, z2⟩ c
theorem can_grow {O1 O2 : Nat → Prop} {d h k a : Nat} (q : ∀ j i, Mx O2 d j i ↔ Mx O1 d j i ∨ (k ≤ j ∧ j < h ∧ i = sib (a / 2 ^ j))) (n : ∀ j, k ≤ j → j < h → ¬ Mx O1 d j (sib (a / 2 ^ j))) (j : Nat) : remF (frl O2 d) a k h j = frl O1 d j := by
  unfold remF
  refine frl_ext ?_ fun y => ?_
  · split
    · exact del_rise (frl_rise _ _ _)
    · exact frl_rise _ _ _
  · by_cases c : k ≤ j ∧ j < h
    · rw [if_pos c, del_mem, frl_mem]
      constructor
      · rintro ⟨⟨i, e, z⟩, ne⟩
        rcases (q j i).mp z with z | ⟨_, _, z⟩
        · exact ⟨i, e, z⟩
        · exact absurd (by rw [e, z]) ne
      · rintro ⟨i, e, z⟩
        refine ⟨⟨i, e, (q j i).mpr (.inl z)⟩, fun w => n j c.1 c.2 ?_⟩
        have e3 : i = sib (a / 2 ^ j) := mul_inj (e.symm.trans w)
        rw [← e3]
        exact z
    · rw [if_neg c, frl_mem]
      constructor
      · rintro ⟨i, e, z⟩
        rcases (q j i).mp z with z | ⟨z1, z2, _⟩
        · exact ⟨i, e, z⟩
        · exact absurd ⟨z1, z2⟩ c
      · rintro ⟨i, e, z⟩
        exact ⟨i, e, (q j i).mpr (.inl z)⟩
/-! how many there can be -/
theorem nodup_le {α β : Type} {R : α → β → Prop} : ∀ {l : List α} {m : List β}, l.Nodup → (∀ x ∈ l, ∃ y ∈ m, R x y) → (∀ x x' y, x ∈ l → x' ∈ l → R x y → R x' y → x = x') → l.length ≤ m.length
  | [], _, _, _, _ => Nat.zero_le _
  | x :: l, m, nd, h, inj => by
    classical
    obtain ⟨n1, n2⟩ := List.nodup_cons.mp nd
    obtain ⟨y, hy, r⟩ := h x List.mem_cons_self
    have ih := nodup_le (R := R) (l := l) (m := m.filter fun z => decide (z ≠ y)) n2 (fun x' hx' => by
      obtain ⟨y', hy', r'⟩ := h x' (List.mem_cons_of_mem _ hx')
      refine ⟨y', List.mem_filter.mpr ⟨hy', decide_eq_true fun e => ?_⟩, r'⟩
      subst e
      have := inj x x' y' List.mem_cons_self (List.mem_cons_of_mem _ hx') r r'
      exact n1 (this ▸ hx')) (fun a b c ha hb => inj a b c (List.mem_cons_of_mem _ ha) (List.mem_cons_of_mem _ hb))
    have lt : (m.filter fun z => decide (z ≠ y)).length < m.length := by
      have aux : ∀ m : List β, y ∈ m → (m.filter fun z => decide (z ≠ y)).length < m.length := by
        intro m
        induction m with
        | nil => intro z; cases z
        | cons w m ih =>
          intro z
          by_cases e : w = y
          · rw [List.filter_cons_of_neg (by simpa using e), List.length_cons]
            exact Nat.lt_succ_of_le (List.length_filter_le _ _)
          · rw [List.filter_cons_of_pos (by simpa using e), List.length_cons, List.length_cons]
            exact Nat.succ_lt_succ (ih ((List.mem_cons.mp z).resolve_left fun q => e q.symm))
      exact aux m hy
    rw [List.length_cons]
    omega
theorem frl_len {d j : Nat} {os : List PN} : (frl (Oc os) d j).length ≤ os.length + 1 := by
  rcases Nat.lt_or_ge j d with lt | ge
  · refine Nat.le_succ_of_le (nodup_le (R := fun y (q : PN) => ∃ i, y = i * 2 ^ j ∧ Mx (Oc os) d j i ∧ q.2 ≤ j ∧ q.1 / 2 ^ j = sib i) ((frl_rise _ _ _).imp fun h => Nat.ne_of_lt h) (fun y hy => ?_) ?_)
    · obtain ⟨i, e, h⟩ := frl_mem.mp hy
      have nf := h.2.2.2 lt
      have ⟨c, ec, oc⟩ : ∃ c, c / 2 ^ (j + 1) = i / 2 ∧ Oc os c := by
        apply Classical.byContradiction
        intro z
        exact nf fun c e oc => z ⟨c, e, oc⟩
      obtain ⟨q, hq, eq⟩ := oc
      rw [blk_succ] at ec
      have ne : c / 2 ^ j ≠ i := fun z => h.2.2.1 c z ⟨q, hq, eq⟩
      have le : q.2 ≤ j := by
        apply Classical.byContradiction
        intro z
        refine h.2.2.1 (i * 2 ^ j) (blk_of _ _) ⟨q, hq, ?_⟩
        rw [← eq]
        refine blk_mono (j := j + 1) (by omega) ?_
        rw [blk_succ, blk_of, blk_succ]
        exact ec.symm
      refine ⟨q, hq, i, e, h, le, ?_⟩
      rw [← blk_mono le eq]
      exact sib_of ec ne
    · rintro y y' q _ _ ⟨i, e, _, _, h⟩ ⟨i', e', _, _, h'⟩
      have : i = i' := by rw [← sib_sib i, ← h, h', sib_sib]
      rw [e, e', this]
  · -- the whole yard at most
    unfold frl
    rw [List.length_map, show d - j = 0 by omega]
    have := List.length_filter_le (fun i => @decide (Mx (Oc os) d j i) (Classical.propDecidable _)) (List.range (2 ^ 0))
    rw [List.length_range] at this
    omega
/-! ### own rules of the layer -/
theorem passX {X : Cx} {E : XK} (tk : Takes X (fun cls d _ H => E cls d H)) : Passes (L2.CX X.prog X.w) X E := passes_call tk fun _ _ _ _ h => h
/-- a method's call within a try -/
def tMethS (C : Addr) (m : Str) (sp : Sp) (E : L2.St → XK) (ta : TE) (t : TA) : TE :=
  fun σ H Q => ta σ H fun x H1 => ∃ a dx fs, x = .ref a ∧ H1 a = some (.ins C dx fs) ∧ fs.lookup m = none ∧
    t σ H1 fun vs H2 => sp (x :: vs) H2 Q (E σ)
theorem pe_methS {X : Cx} {XT : CXT} {lv : Nat} {g C : Addr} {fdg : FuncData} {prm : List Str} {sg : Sp} {wish : L2.St → XK} {m : Str} {pos apos : Pos} {arg0 ob : Expr} {rest : List Expr} {tob : TE} {targ : TA} {pl : Sem Bool}
    (hob : PE X ob tob) (cl : Cls X.K C) (me : Meth X.K C m g) (ok : FnOk X.prog X.w X.K X.mg X.base XT lv g fdg prm sg) (room : Room lv X.A) (bd : Binds X.K fdg prm []) (pass : ∀ σ, PassesAt XT X σ (wish σ)) (harg : PA X (arg0 :: rest) targ)
    (st1 : starEach (arg0 :: rest) X.env = (false, eval arg0 X.env) :: starEach rest X.env := by rfl) (st2 : (backTo pos (starEach rest X.env)).any (·.1) = false := by rfl)
    (shape : eval (.Call (.Attribute ob m apos) (arg0 :: rest) [] pos) X.env = (do
      let recv ← eval ob X.env
      standAt apos.atName
      let (fn, fst) ← holding [recv] (getMethod recv m pl)
      callWith pos fn fst (backTo pos (starEach (arg0 :: rest) X.env)) (backToKw pos (keywordEach [] X.env))) := by rfl) :
    PE X (.Call (.Attribute ob m apos) (arg0 :: rest) [] pos) (tMethS C m sg wish tob targ) := by
  constructor
  intro pins s0 τ H0 Q I0 ask
  refine PySem.W.methodCall_KW (pl := pl) (thn (hob.run pins s0 τ H0 _ I0 ask) fun rv s1 got => ?_) shape
  obtain ⟨xv, H1, I1, rel1, ad, dx, fs, rfl, there, look, more⟩ := got
  have erv : rv = Value.ref ad := rel1
  subst erv
  refine getmeth_ok I1 there cl me look ?_
  refine PySem.W.callWith_K (first := [.ref ad]) (h₀ := X.base) I1.ok.mod.kin me.kp (thn (harg.run pos pins s1 τ H1 _ I1 more) fun ws s2 got2 => ?_) st1 st2
  obtain ⟨vs, H2, I2, rel2, fin⟩ := got2
  exact ⟨I2.kIn, run_fnS (us := .ref ad :: ws) (vs := .ref ad :: vs) ok room bd (pass τ) I2 (.cons rfl rel2) fin⟩
/-- a making within a try -/
def tMakeS (C : Addr) (sp : Sp) (E : L2.St → XK) (t : TA) : TE :=
  fun σ H Q => t σ H fun vs H1 => ∀ x dx, H1 x = none → H1 dx = none → dx ≠ x →
    sp (.ref x :: vs) (upd (upd H1 dx (.own x)) x (.ins C dx [])) (fun v H2 => v = .non ∧ Q (.ref x) H2) (E σ)
section
variable {X : Cx} {XT : CXT} {lv : Nat} {g C : Addr} {fdg : FuncData} {prm : List Str} {sg : Sp}
theorem run_makeS {pins : List (Addr × Obj)} {τ : L2.St} {H0 : Hp} {s0 : Shared} {Q : VK} {us : List Value} {vs : List V} {wish : XK} (mk : Mk X.K C g) (ok : FnOk X.prog X.w X.K X.mg X.base XT lv g fdg prm sg) (room : Room (lv + 1) X.A) (bd : Binds X.K fdg prm [])
    (pass : PassesAt XT X τ wish) (I0 : Inv X pins τ H0 s0) (rel : Vals vs us)
    (ask : ∀ x dx, H0 x = none → H0 dx = none → dx ≠ x → sg (.ref x :: vs) (upd (upd H0 dx (.own x)) x (.ins C dx [])) (fun v H2 => v = .non ∧ Q (.ref x) H2) wish) :
    wpAny (model X.prog X.w) X.A (call (.ref C) us) (EP X pins τ Q) X.xe s0 := by
  have asked := ask (s0.heap.objs.size + 1) s0.heap.objs.size (I0.hok.fresh (Nat.le_succ _)) (I0.hok.fresh (Nat.le_refl _)) (Nat.ne_of_lt (Nat.lt_succ_self _))
  have I1 := Inv.made (C := C) I0
  have rel1 : Vals (V.ref (s0.heap.objs.size + 1) :: vs) (Value.ref (s0.heap.objs.size + 1) :: us) := .cons rfl rel
  have count : (Value.ref (s0.heap.objs.size + 1) :: us ++ []).length = prm.length := by
    have e := rel1.length
    rw [ok.len _ _ _ _ asked] at e
    rw [List.append_nil]
    exact e.symm
  have b := bd _ (Value.ref (s0.heap.objs.size + 1) :: us) I1.kIn count
  rw [List.append_nil] at b
  refine wpAny_call (make_map (f := g) I0.kIn mk.makes mk.init (beq_iff_eq.mp mk.fn) (codeAny_mono (ok.run _ X.stack _ _ ⟨Value.ref (s0.heap.objs.size + 1) :: us, []⟩ (Value.ref (s0.heap.objs.size + 1) :: us) _ _ wish (room.make C us [])
    (I1.env0.make C us []) b rel1 asked) fun out s1 end1 => ?_))
  cases out with
  | error err => exact pass pins _ _ err s1 I1 end1
  | ok flow =>
    cases flow with
    | ret u =>
      obtain ⟨v, H2, I2, rv, hv, fin⟩ := I1.after end1
      subst hv
      exact ⟨rv, V.ref (s0.heap.objs.size + 1), H2, I2, rfl, fin⟩
    | next => exact end1.elim
    | brk => exact end1.elim
    | cont => exact end1.elim
theorem pe_makeS {wish : L2.St → XK} {x : Str} {p pos : Pos} {arg0 : Expr} {rest : List Expr} {targ : TA} (mk : Mk X.K C g) (ok : FnOk X.prog X.w X.K X.mg X.base XT lv g fdg prm sg) (room : Room (lv + 1) X.A) (gl : Gl X x) (at_ : X.mg x = some (.ref C)) (bd : Binds X.K fdg prm []) (pass : ∀ σ, PassesAt XT X σ (wish σ))
    (harg : PA X (arg0 :: rest) targ) (nd : (x == ("__debug__" : Str)) = false := by decide) (st1 : starEach (arg0 :: rest) X.env = (false, eval arg0 X.env) :: starEach rest X.env := by rfl) (st2 : (backTo pos (starEach rest X.env)).any (·.1) = false := by rfl) :
    PE X (.Call (.Name x p) (arg0 :: rest) [] pos) (tMakeS C sg wish targ) := by
  constructor
  intro pins s0 τ H0 Q I0 ask
  refine wpAny_Call_Name_kw (ld_glob I0 gl at_ ?_ nd)
  refine PySem.W.callWith_K (h₀ := X.base) I0.ok.mod.kin mk.kp (thn (harg.run pos pins s0 τ H0 _ I0 ask) fun us s1 got => ?_) st1 st2
  obtain ⟨vs, H1, I1, rel, fin⟩ := got
  exact ⟨I1.kIn, run_makeS mk ok room bd (pass τ) I1 rel fin⟩
/-- x *= j, x //= j -/
theorem ip_mulX : PIp X .Mult (rI CMulX fun i j => .int (i * j)) := by
  intro pins s0 τ H0 x y v u Q I0 r1 r2 ask
  obtain ⟨i, j, rfl, rfl, small, fin⟩ := ask
  obtain ⟨t1, rfl⟩ := r1
  obtain ⟨t2, rfl⟩ := r2
  have got : (Made.int (i * j)).post (EP X pins τ Q) s0 := ⟨.int _, H0, I0.tok _, ⟨_, rfl⟩, fin⟩
  exact AutoIntOps.imul_0 got small.ok
theorem ip_fdivW : PIp X .FloorDiv (rI CDivW fun i j => .int (i / j)) := iop_fdivW
/-- d.items(), as a value -/
def rItemsK : V → List V → Hp → VK → Prop := fun x xs H Q => ∃ (d : Addr) (kvs : List (Key × V)), x = .ref d ∧ xs = [] ∧ H d = some (.dK kvs) ∧ ∀ p, H p = none → Q (.ref p) (upd H p (L2.DX.itemsO p d))
theorem mt_itemsK : MtR X "dict.items" rItemsK := by
  intro pins s0 τ H0 x xs v us Q I0 rx rxs ask
  obtain ⟨d, kvs, rfl, rfl, there, fin⟩ := ask
  cases rx
  cases rxs
  obtain ⟨_, notSys, ents, _, ob, es, ep, at0, exact0, body0, _⟩ := I0.hok d _ there
  refine DT.callItems (es := es) (ep := ep) notSys ⟨ob, at0, exact0, body0⟩ ?_
  refine ⟨.ref s0.heap.objs.size, upd H0 s0.heap.objs.size (L2.DX.itemsO s0.heap.objs.size d), ?_, rfl, fin _ (I0.hok.fresh (Nat.le_refl _))⟩
  exact I0.laid (t' := s0.toks) (fun b u e => Heap.get?_push_of_some _ e) (Nat.le_refl _) (L2.DX.itemsO_ok (Heap.get?_push_size _ rfl))
end
/-! ### pairs of ints in their order -/
abbrev PI2 := Int × Int
/-- x is not behind y -/
def leP (x y : PI2) : Bool := !SrtO.lexB y x
theorem leP_iff {x y : PI2} : leP x y = true ↔ x.1 < y.1 ∨ (x.1 = y.1 ∧ x.2 ≤ y.2) := by
  unfold leP
  rw [Bool.not_eq_true', SrtO.lexB_no]
  omega
def srt (l : List PI2) : List PI2 := l.mergeSort leP
theorem srt_perm (l : List PI2) : (srt l).Perm l := List.mergeSort_perm l leP
theorem srt_sorted (l : List PI2) : (srt l).Pairwise (fun x y => leP x y = true) := by
  refine List.pairwise_mergeSort (fun x y z h1 h2 => ?_) (fun x y => ?_) l
  · rw [leP_iff] at h1 h2 ⊢
    omega
  · rw [Bool.or_eq_true, leP_iff, leP_iff]
    omega
theorem leP_anti {x y : PI2} (h1 : leP x y = true) (h2 : leP y x = true) : x = y := by
  rw [leP_iff] at h1 h2
  have e1 : x.1 = y.1 := by omega
  have e2 : x.2 = y.2 := by omega
  exact Prod.ext e1 e2
theorem sorted_uniq : ∀ {l m : List PI2}, l.Perm m → l.Pairwise (fun x y => leP x y = true) → m.Pairwise (fun x y => leP x y = true) → l = m
  | [], m, p, _, _ => p.symm.eq_nil.symm
  | x :: l, [], p, _, _ => by cases p.eq_nil
  | x :: l, y :: m, p, h1, h2 => by
    obtain ⟨a1, a2⟩ := List.pairwise_cons.mp h1
    obtain ⟨b1, b2⟩ := List.pairwise_cons.mp h2
    have e : x = y := by
      rcases List.mem_cons.mp (p.mem_iff.mp List.mem_cons_self) with e | e
      · exact e
      · rcases List.mem_cons.mp (p.mem_iff.mpr List.mem_cons_self) with e' | e'
        · exact e'.symm
        · exact leP_anti (a1 y e') (b1 x e)
    subst e
    rw [sorted_uniq p.cons_inv a2 b2]
theorem srt_of {l m : List PI2} (p : l.Perm m) (h : l.Pairwise (fun x y => SrtO.lexB y x = false)) : l = srt m := by
  refine sorted_uniq (p.trans (srt_perm m).symm) (h.imp fun {x y} z => ?_) (srt_sorted m)
  unfold leP
  rw [z]
  rfl
theorem srt_eq {l m : List PI2} (p : l.Perm m) : srt l = srt m := sorted_uniq ((srt_perm l).trans (p.trans (srt_perm m).symm)) (srt_sorted l) (srt_sorted m)
theorem srt_mem {l : List PI2} {q : PI2} : q ∈ srt l ↔ q ∈ l := (srt_perm l).mem_iff
/-! tuples in the heap -/
def Tups (H : Hp) (ts : List Addr) (zs : List PI2) : Prop := Paired (fun (t : Addr) (q : PI2) => H t = some (.tup [.int q.1, .int q.2])) ts zs
theorem Tups.len {H : Hp} : ∀ {ts : List Addr} {zs : List PI2}, Tups H ts zs → ts.length = zs.length
  | _, _, .nil => rfl
  | _, _, .cons _ r => congrArg Nat.succ (Tups.len r)
theorem Tups.get {H : Hp} : ∀ {ts : List Addr} {zs : List PI2}, Tups H ts zs → ∀ {i : Nat} {q : PI2}, zs[i]? = some q → ∃ t, ts[i]? = some t ∧ H t = some (.tup [.int q.1, .int q.2])
  | _, _, .cons h _, 0, q, e => by
    cases e
    exact ⟨_, rfl, h⟩
  | _, _, .cons _ r, i + 1, q, e => Tups.get r e
theorem Tups.keep {H H' : Hp} (k : ∀ t xs, H t = some (.tup xs) → H' t = some (.tup xs)) : ∀ {ts : List Addr} {zs : List PI2}, Tups H ts zs → Tups H' ts zs
  | _, _, .nil => .nil
  | _, _, .cons h r => .cons (k _ _ h) (Tups.keep k r)
theorem Tups.snoc {H : Hp} {t : Addr} {q : PI2} (h : H t = some (.tup [.int q.1, .int q.2])) : ∀ {ts : List Addr} {zs : List PI2}, Tups H ts zs → Tups H (ts ++ [t]) (zs ++ [q])
  | _, _, .nil => .cons h .nil
  | _, _, .cons g r => .cons g (Tups.snoc h r)
theorem Tups.append {H : Hp} : ∀ {ts us : List Addr} {zs ws : List PI2}, Tups H ts zs → Tups H us ws → Tups H (ts ++ us) (zs ++ ws)
  | _, _, _, _, .nil, g => g
  | _, _, _, _, .cons h r, g => .cons h (Tups.append r g)
/-- what pair stands at the object -/
def tupK (H : Hp) : V → PI2
  | .ref t => match H t with
    | some (.tup [.int i, .int j]) => (i, j)
    | _ => (0, 0)
  | _ => (0, 0)
theorem tupK_at {H : Hp} {t : Addr} {q : PI2} (h : H t = some (.tup [.int q.1, .int q.2])) : tupK H (.ref t) = q := by
  show (match H t with | some (.tup [.int i, .int j]) => (i, j) | _ => (0, 0)) = q
  rw [h]
theorem Tups.map {H : Hp} : ∀ {ts : List Addr} {zs : List PI2}, Tups H ts zs → zs = ts.map fun t => tupK H (.ref t)
  | _, _, .nil => rfl
  | _, _, .cons h r => by rw [List.map_cons, tupK_at h, ← Tups.map r]
theorem refs_inj {l m : List Addr} (h : (l.map V.ref).Perm (m.map V.ref)) : l.Perm m := by
  have e2 := h.map fun v => match v with | V.ref b => b | _ => 0
  rw [List.map_map, List.map_map] at e2
  have f : ∀ l : List Addr, l.map ((fun v => match v with | V.ref b => b | _ => 0) ∘ V.ref) = l := fun l => by
    induction l with
    | nil => rfl
    | cons x l ih => rw [List.map_cons, ih]; rfl
  rw [f, f] at e2
  exact e2
theorem refs_of : ∀ {ys : List V}, (∀ y ∈ ys, ∃ t, y = V.ref t) → ∃ ts : List Addr, ys = ts.map V.ref
  | [], _ => ⟨[], rfl⟩
  | y :: ys, h => by
    obtain ⟨t, rfl⟩ := h y List.mem_cons_self
    obtain ⟨ts, rfl⟩ := refs_of fun z hz => h z (List.mem_cons_of_mem _ hz)
    exact ⟨t :: ts, rfl⟩
/-- sorted(xs), xs a list of pairs of ints -/
def rSortTups (K : PySem.W.Frag) : List V → Hp → VK → Prop := fun vs H Q => ∃ (l : Addr) (ts : List Addr) (zs : List PI2), vs = [.ref l] ∧ SqL K H l (ts.map V.ref) ∧ Tups H ts zs ∧
  ∀ (p : Addr) (us : List Addr), H p = none → Tups (upd H p (.lst (us.map V.ref))) us (srt zs) → Q (.ref p) (upd H p (.lst (us.map V.ref)))
theorem cr_sortedTups {X : Cx} : CallR X (.builtin "sorted") (rSortTups X.K) := by
  intro pins s0 τ H0 vs us Q I0 rel ask
  obtain ⟨l, ts, zs, rfl, hl, ht, fin⟩ := ask
  have each : ∀ x ∈ ts.map V.ref, ∃ t, x = V.ref t ∧ H0 t = some (.tup [.int (tupK H0 x).1, .int (tupK H0 x).2]) := by
    intro x hx
    obtain ⟨t, m, rfl⟩ := List.mem_map.mp hx
    obtain ⟨i, hi⟩ := List.mem_iff_getElem?.mp m
    obtain ⟨lt, _⟩ := List.getElem?_eq_some_iff.mp hi
    obtain ⟨q, hq⟩ : ∃ q, zs[i]? = some q := ⟨_, List.getElem?_eq_getElem (by rw [← ht.len]; exact lt)⟩
    obtain ⟨t', h1, h2⟩ := ht.get hq
    have e := Option.some.inj (h1.symm.trans hi)
    subst e
    exact ⟨_, rfl, by rw [tupK_at h2]; exact h2⟩
  refine cr_sortedPO pins s0 τ H0 [V.ref l] us Q I0 rel ⟨l, _, tupK H0, rfl, hl, each, fun ys p ordered stable new => ?_⟩
  obtain ⟨us, rfl⟩ := refs_of fun y hy => by
    obtain ⟨t, e, _⟩ := each y (stable.perm.mem_iff.mp hy)
    exact ⟨t, e⟩
  have pm := refs_inj stable.perm
  have ez : us.map (fun t => tupK H0 (.ref t)) = srt zs := by
    refine srt_of ?_ ?_
    · rw [ht.map]
      exact pm.map _
    · exact List.pairwise_map.mpr (List.pairwise_map.mp ordered)
  refine fin p us new ?_
  rw [← ez]
  have aux : ∀ l : List Addr, (∀ t ∈ l, t ∈ ts) → Tups (upd H0 p (.lst (us.map V.ref))) l (l.map fun t => tupK H0 (.ref t)) := fun l => by
    induction l with
    | nil => exact fun _ => .nil
    | cons t l ih =>
      intro h
      refine .cons ?_ (ih fun z hz => h z (List.mem_cons_of_mem _ hz))
      obtain ⟨t', e, e2⟩ := each (.ref t) (List.mem_map.mpr ⟨t, h t List.mem_cons_self, rfl⟩)
      have e3 : t = t' := V.ref.inj e
      rw [← e3] at e2
      show upd H0 p (.lst (us.map V.ref)) t = some (.tup [.int (tupK H0 (.ref t)).1, .int (tupK H0 (.ref t)).2])
      rw [upd_ne (ne_of_none e2 new)]
      exact e2
  exact aux us fun t m => pm.mem_iff.mp m
/-! ### sorted(d.items()): keys and values are ints -/
abbrev entI (q : Int × Int) : Key × V := (Sum.inl q.1, V.int q.2)
def rSortView : List V → Hp → VK → Prop := fun vs H Q => ∃ (p d : Addr) (ps : List (Int × Int)), vs = [.ref p] ∧ H p = some (L2.DX.itemsO p d) ∧ H d = some (.dK (ps.map entI)) ∧
  ∀ (H' : Hp) (l : Addr) (ts : List Addr), (∀ b o, H b = some o → H' b = some o) → H l = none → H' l = some (.lst (ts.map V.ref)) → Tups H' ts (srt ps) → Q (.ref l) H'
theorem pairs_at {P : Program} {w : World} : ∀ {es : List DictEntry} {kvs : List (Key × Value)}, Pairs (mixKind P w) es kvs → ∀ (j : Nat) (en : DictEntry), es[j]? = some en → ∃ k : Key, kvs[j]? = some (k, en.val) ∧ keyIs k en.key = true
  | _, _, .nil, j, en, h => by cases h
  | _, kv :: _, .cons hk hv r, 0, en, h => by
    have e := Option.some.inj h
    subst e
    exact ⟨kv.1, by rw [hv]; rfl, hk⟩
  | _, _, .cons hk hv r, j + 1, en, h => pairs_at r j en h
/-- the pair that the place j of the new tuples stands for -/
def pairOf (as : List Addr) (ps : List (Int × Int)) : Value → Int × Int
  | .ref b => ps.getD (as.idxOf b) (0, 0)
  | _ => (0, 0)
theorem pairOf_at {as : List Addr} {ps : List (Int × Int)} (nd : as.Nodup) {j : Nat} {b : Addr} {q : Int × Int} (h1 : as[j]? = some b) (h2 : ps[j]? = some q) : pairOf as ps (.ref b) = q := by
  obtain ⟨lt, e⟩ := List.getElem?_eq_some_iff.mp h1
  have e2 : as.idxOf b = j := by rw [← e]; exact nd.idxOf_getElem j lt
  show ps.getD (as.idxOf b) (0, 0) = q
  rw [e2, List.getD, h2]
  rfl
section
variable {X : Cx}
theorem cr_sortedView (calm : X.calm = true) : CallR X (.builtin "sorted") rSortView := by
  intro pins s0 τ H0 xs us Q I0 rel ask
  obtain ⟨p, d, ps, rfl, hp, hd, fin⟩ := ask
  obtain rfl := Vals.ref1 rel
  have view : s0.heap.IsItemsView p d := (show ObjOk X.prog X.w H0 s0.heap p (L2.DX.itemsO p d) from I0.hok p _ hp).1
  obtain ⟨few, _, ents, kv, ob, es, ep, at0, exact0, body0, _, prs, _⟩ := I0.hok d _ hd
  have n1 : (ps.map entI).length = ents.length := Paired.length kv
  have n2 : es.toList.length = ents.length := prs.length
  rw [List.length_map] at n1 few
  rw [Array.length_toList] at n2
  refine DT.sortedI (es := es) (ep := ep) (I0.ok.hd calm) view ⟨ob, at0, exact0, body0⟩ (by omega) fun h' tk as keep above count made => ?_
  have nd : as.Nodup := made.rise.imp fun l => Nat.ne_of_lt l
  -- each new tuple is its pair
  have tup : ∀ (j : Nat) (b : Addr), as[j]? = some b → ∃ (q : Int × Int) (t1 t2 : Tok), ps[j]? = some q ∧ h'.get? b = some { cls := .type "tuple", data := .seq #[Value.int q.1 t1, Value.int q.2 t2] } := by
    intro j b hj
    obtain ⟨en, he, hg⟩ := made.pairs j b hj
    rw [← Array.getElem?_toList] at he
    obtain ⟨key, hk, isk⟩ := pairs_at prs j en he
    obtain ⟨kvq, g1, g2, g3⟩ := L2.DX.pget kv hk
    rw [List.getElem?_map] at g1
    cases hq : ps[j]? with
    | none =>
      rw [hq] at g1
      cases g1
    | some q =>
      rw [hq] at g1
      cases g1
      have ek : Sum.inl q.1 = key := g2
      subst ek
      obtain ⟨t1, e1⟩ := Value.isInt_shape (k := q.1) (v := en.key) isk
      obtain ⟨t2, e2⟩ : ∃ t2, en.val = Value.int q.2 t2 := g3
      refine ⟨q, t1, t2, rfl, ?_⟩
      rw [hg, e1, e2]
  have hob : (h'.push { cls := .type "list", data := .seq (as.map Value.ref).toArray }).get? h'.objs.size = some (PyProof.Rows.seqObj "list" (as.map Value.ref).toArray 0) := Heap.get?_push_size _ rfl
  have kb : ∀ b o, s0.heap.get? b = some o → (h'.push { cls := .type "list", data := .seq (as.map Value.ref).toArray }).get? b = some o := fun b o e => Heap.get?_push_of_some _ (keep b o e)
  have apart : ∀ b o, h'.get? b = some o → b ≠ h'.objs.size := fun b o e => Nat.ne_of_lt (Heap.lt_size e)
  generalize hh2 : h'.push { cls := .type "list", data := .seq (as.map Value.ref).toArray } = h2 at hob kb ⊢
  have ka : ∀ b o, h'.get? b = some o → h2.get? b = some o := fun b o e => by rw [← hh2]; exact Heap.get?_push_of_some _ e
  have isp : ∀ v ∈ as.map Value.ref, Srt.IsPair h2 v (pairOf as ps v).1 (pairOf as ps v).2 := by
    intro v hv
    obtain ⟨b, hb, rfl⟩ := List.mem_map.mp hv
    obtain ⟨j, hj⟩ := List.mem_iff_getElem?.mp hb
    obtain ⟨q, t1, t2, hq, hg⟩ := tup j b hj
    rw [pairOf_at nd hj hq]
    exact ⟨b, _, t1, t2, 0, rfl, ka _ _ hg, rfl, rfl⟩
  refine wpAny_call_entry PyProof.Rows.slot_list_sort ⟨_, hob, rfl⟩ PyProof.Rows.entry_list_sort
    (SrtO.list_sort_ord (s := { s0 with heap := h2, toks := tk }) (SrtO.swo_lex (pairOf as ps)) hob (by rw [List.length_map]; omega) (fun two => SrtO.pairs_sortableO (by omega) isp fun o e => ?_) fun out ordered stable => ⟨.none, rfl, ?_⟩) (PyProof.Rows.args_list_sort _)
  · have e' : some o = some (PyProof.Rows.seqObj "list" (as.map Value.ref).toArray 0) := e.symm.trans hob
    cases e'
    intro c
    exact absurd (Value.type.inj c) (by decide)
  · show EP X pins τ Q (.ref h'.objs.size) { s0 with heap := PyProof.Rows.sortedHeap h2 h'.objs.size (as.map Value.ref) out.toArray, toks := tk }
    -- the addresses in their order
    have outs : ∃ ts : List Addr, out = ts.map Value.ref ∧ ∀ t ∈ ts, t ∈ as := by
      have each : ∀ u ∈ out, ∃ t, u = Value.ref t ∧ t ∈ as := fun u hu => by
        obtain ⟨t, ht, e⟩ := List.mem_map.mp (stable.perm.mem_iff.mp hu)
        exact ⟨t, e.symm, ht⟩
      clear stable ordered
      induction out with
      | nil => exact ⟨[], rfl, fun t h => by cases h⟩
      | cons u out ih =>
        obtain ⟨t, e, ht⟩ := each u List.mem_cons_self
        obtain ⟨ts, e2, h2⟩ := ih fun v hv => each v (List.mem_cons_of_mem _ hv)
        refine ⟨t :: ts, by rw [e, e2]; rfl, fun z hz => ?_⟩
        rcases List.mem_cons.mp hz with rfl | hz
        · exact ht
        · exact h2 z hz
    obtain ⟨ts, eo, mem⟩ := outs
    have k2 : ∀ b o, b ≠ h'.objs.size → h2.get? b = some o → (PyProof.Rows.sortedHeap h2 h'.objs.size (as.map Value.ref) out.toArray).get? b = some o := fun b o hb e => (PyProof.Rows.sortedHeap_old hb (Heap.lt_size e)).trans e
    have k0 : ∀ b o, s0.heap.get? b = some o → (PyProof.Rows.sortedHeap h2 h'.objs.size (as.map Value.ref) out.toArray).get? b = some o := fun b o e => k2 b o (apart b o (keep b o e)) (kb b o e)
    obtain ⟨ep2, there⟩ := PyProof.Rows.sortedHeap_at (vs := as.map Value.ref) (out := out.toArray) hob
    have I1 : Inv X pins τ H0 { s0 with heap := PyProof.Rows.sortedHeap h2 h'.objs.size (as.map Value.ref) out.toArray, toks := tk } := I0.kept (t' := tk) k0
    have new0 : H0 h'.objs.size = none := I0.hok.fresh (Nat.le_of_lt above)
    have lts : ts.length = as.length := by
      have e := stable.perm.length_eq
      rw [eo, List.length_map, List.length_map] at e
      exact e
    have I2 : Inv X pins τ (upd H0 h'.objs.size (.lst (ts.map V.ref))) { s0 with heap := PyProof.Rows.sortedHeap h2 h'.objs.size (as.map Value.ref) out.toArray, toks := tk } := by
      refine I1.take (h' := PyProof.Rows.sortedHeap h2 h'.objs.size (as.map Value.ref) out.toArray) (t' := tk) (fun b ob _ e => e) (I0.fpOk (Nat.le_of_lt above) new0) ⟨?_, out, ep2, ?_, there⟩
      · rw [List.length_map]
        omega
      · rw [eo]
        exact LiI.vals_refs ts
    obtain ⟨H2, I3, grow, each⟩ := L2.DX.takeT (P := fun b vs => ∃ q : Int × Int, pairOf as ps (.ref b) = q ∧ vs = [.int q.1, .int q.2]) I0 as _ I2 nd fun b hb => by
      obtain ⟨j, hj⟩ := List.mem_iff_getElem?.mp hb
      obtain ⟨q, t1, t2, hq, hg⟩ := tup j b hj
      have low : s0.heap.objs.size ≤ b := Nat.le_of_lt (made.above b hb)
      refine ⟨low, ?_, _, ⟨q, pairOf_at nd hj hq, rfl⟩, fun H3 => ⟨by show 2 ≤ sizeLine; decide, [Value.int q.1 t1, Value.int q.2 t2], .cons ⟨t1, rfl⟩ (.cons ⟨t2, rfl⟩ .nil), ⟨_, k2 _ _ (apart _ _ hg) (ka _ _ hg), rfl, 0, rfl⟩⟩⟩
      rw [upd_ne (apart _ _ hg)]
      exact I0.hok.fresh low
    have ez : ts.map (fun t => pairOf as ps (.ref t)) = srt ps := srt_of (by
      have pm : ts.Perm as := by
        have e := stable.perm
        rw [eo] at e
        have e2 := e.map fun v => match v with | Value.ref b => b | _ => 0
        rw [List.map_map, List.map_map] at e2
        have f : ∀ l : List Addr, l.map ((fun v => match v with | Value.ref b => b | _ => 0) ∘ Value.ref) = l := fun l => by
          induction l with
          | nil => rfl
          | cons x l ih => rw [List.map_cons, ih]; rfl
        rw [f, f] at e2
        exact e2
      have em : as.map (fun t => pairOf as ps (.ref t)) = ps := by
        refine List.ext_getElem? fun j => ?_
        rw [List.getElem?_map]
        cases hj : as[j]? with
        | none =>
          have := List.getElem?_eq_none_iff.mp hj
          rw [List.getElem?_eq_none (by omega)]
          rfl
        | some b =>
          obtain ⟨q, _, _, hq, _⟩ := tup j b hj
          rw [hq]
          show some (pairOf as ps (.ref b)) = some q
          rw [pairOf_at nd hj hq]
      have e := pm.map fun t => pairOf as ps (.ref t)
      rw [em] at e
      exact e
      ) (by
      rw [eo] at ordered
      exact List.pairwise_map.mpr (List.pairwise_map.mp ordered))
    have aux : ∀ l : List Addr, (∀ t ∈ l, t ∈ as) → Tups H2 l (l.map fun t => pairOf as ps (.ref t)) := fun l => by
      induction l with
      | nil => exact fun _ => .nil
      | cons t l ih =>
        intro h
        refine .cons ?_ (ih fun z hz => h z (List.mem_cons_of_mem _ hz))
        obtain ⟨vs, ⟨q, e1, rfl⟩, e2⟩ := each t (h t List.mem_cons_self)
        show H2 t = some (.tup [.int (pairOf as ps (.ref t)).1, .int (pairOf as ps (.ref t)).2])
        rw [e1]
        exact e2
    refine ⟨.ref h'.objs.size, H2, I3, rfl, fin H2 h'.objs.size ts (fun b o e => grow b o (by rw [upd_ne (ne_of_none e new0)]; exact e)) new0 (grow _ _ upd_same) ?_⟩
    rw [← ez]
    exact aux ts mem
end
/-! ### isinstance of a caught error (its class is known where the reading is answered) -/
def rIsX (K : PySem.W.Frag) (a : Addr) (cls : Value) (d : Option Addr) : List V → Hp → VK → Prop := fun xs H Q => ∃ D, cls = .ref D ∧ d = none ∧ ExcC K D ∧ rIsE K D a xs H Q
def rIsXT (K : PySem.W.Frag) (a : Addr) (cls : Value) (d : Option Addr) : List V → Hp → VK → Prop := fun xs H Q => ∃ (D tp : Addr) (cs : List V) (us : List Value) (b : Bool), cls = .ref D ∧ d = none ∧ ExcC K D ∧
  xs = [.ref a, .ref tp] ∧ H tp = some (.tup cs) ∧ Paired ClsV cs us ∧ PySem.W.kitAny K (.ref D) us = some b ∧ Q (.bl b) H
section
variable {X : Cx} {a : Addr} {oe : Obj} {pn : List (Addr × Obj)} {cls : Value} {d : Option Addr}
theorem call_isX (hz : Zc cls d oe) (hf : ∃ vs, oe.data = .fields vs) : CallR (X.suite a ((a, oe) :: pn)) (.builtin "isinstance") (rIsX X.K a cls d) := by
  intro pins s σ H xs us Q I r h
  obtain ⟨D, rfl, rfl, C, h⟩ := h
  exact call_isE C hz hf pins s σ H xs us Q I r h
theorem call_isXT (hz : Zc cls d oe) (hf : ∃ vs, oe.data = .fields vs) : CallR (X.suite a ((a, oe) :: pn)) (.builtin "isinstance") (rIsXT X.K a cls d) := by
  intro pins s σ H vals args Q inv rel ask
  rcases ask with ⟨D, tp, cs, want, b, rfl, rfl, ok, rfl, htup, pairs, ans, fin⟩
  rcases vals2 rel with ⟨x1, x2, rfl, rel1, rel2⟩
  have ex1 : x1 = Value.ref a := rel1
  have ex2 : x2 = Value.ref tp := rel2
  subst ex1 ex2
  have pinned := (inv.pin (a, oe) (List.mem_append.mpr (.inl List.mem_cons_self))).1
  have inst : PySem.W.InstAt s.heap a oe D none := by
    rcases oe with ⟨kind, dct, body, slots⟩
    rcases hz with ⟨z1, z2⟩
    rcases hf with ⟨fs, z3⟩
    simp only at z1 z2 z3
    subst z1; subst z2; subst z3
    exact ⟨pinned, rfl, rfl, trivial⟩
  have tup : ObjOk X.prog X.w H s.heap tp (.tup cs) := inv.hok tp _ htup
  rcases tup with ⟨_, members, each, obj, at1, kind1, size1, body1⟩
  have same := ClsV.all pairs each
  subst same
  rcases obj with ⟨kind, dct, body, slots⟩
  dsimp only at kind1 body1
  subst kind1; subst body1
  refine PySem.W.kia_tup (PySem.W.handS_kitx_exc ok.hg ok.hk ok.hs ok.hd ok.ha ok.hn ok.ht ok.hm) inv.kIn inst at1 ans (fun z => nomatch z) (fun tk => ?_)
  exact ⟨.bl b, H, inv.kept (t' := tk) (fun _ _ same => same), rfl, fin⟩
end
theorem iteTof {c : Bool} {A B : Prop} (hc : c = true) (h : A) : if c = true then A else B := by
  rw [if_pos hc]
  exact h
theorem iteFof {c : Bool} {A B : Prop} (hc : c = false) (h : B) : if c = true then A else B := by
  rw [hc, if_neg Bool.false_ne_true]
  exact h
end BY
namespace BY
open PySem L2
/-- a def of the top's -/
structure DefAt (K : PySem.W.Frag) (mg : Str → Option Value) (x : Str) (st : Stmt) (ps : List Str) (f : Addr) (fd : FuncData) : Prop where
  mg : mg x = some (.ref f)
  fn : Fun K x x st f fd
  bd : Binds K fd ps []
/-- an own error class -/
structure ExcT (K : PySem.W.Frag) (mg : Str → Option Value) (x : Str) (C : Addr) : Prop where
  g : mg x = some (.ref C)
  x : PySem.W.excIn K C [.type "ValueError", .type "Exception", .type "BaseException", .type "object"] "ValueError.__new__" = true
  k : PySem.W.keepIn K (.ref C) = true
  t : PySem.W.typeIn K (.ref C) = some (.type "type")
  c : PySem.W.isClsIn K C = true
  is : ExcC K C
  ve : PySem.W.kitOne K (.ref C) (.type "ValueError") = some true
theorem kit_ve {K : PySem.W.Frag} {C : Addr} (h : PySem.W.subIn K (.ref C) (.type "ValueError") = some true) : PySem.W.kitOne K (.ref C) (.type "ValueError") = some true := by
  have e : PySem.W.kitMeta "ValueError" = true := by decide +kernel
  show (if (Value.ref C == Value.type "ValueError") = true then some true else if PySem.W.kitMeta "ValueError" = true then PySem.W.subIn K (.ref C) (.type "ValueError") else none) = some true
  rw [if_neg (by simp), if_pos e]
  exact h

def top (i : Nat) : Stmt := PySem.Challenge.pw_buddyyard_k14_read.main.body.getD i (.Pass ⟨0, 0, 0, 0⟩)
abbrev s_wall : Stmt := top 0
abbrev s_is_size : Stmt := top 10
abbrev s_size_for : Stmt := top 11
abbrev s_twin_of : Stmt := top 12
abbrev s_rank : Stmt := top 14
abbrev s_Pool_init : Stmt := inClass (top 15) 0
abbrev s_Pool_put : Stmt := inClass (top 15) 1
abbrev s_Pool_drop : Stmt := inClass (top 15) 2
abbrev s_Pool_has : Stmt := inClass (top 15) 3
abbrev s_Pool_best : Stmt := inClass (top 15) 4
abbrev s_Pool_pieces : Stmt := inClass (top 15) 5
abbrev s_upper_halves : Stmt := top 17
abbrev s_Yard_init : Stmt := inClass (top 18) 0
abbrev s_Yard_give : Stmt := inClass (top 18) 1
abbrev s_Yard_take_back : Stmt := inClass (top 18) 2
abbrev s_Yard_resize : Stmt := inClass (top 18) 3
abbrev s_Yard_free : Stmt := inClass (top 18) 4
abbrev s_Yard_out : Stmt := inClass (top 18) 5
abbrev s_Yard_owner : Stmt := inClass (top 18) 6
abbrev s_Yard_fitting : Stmt := inClass (top 18) 7
abbrev s_Yard_size_of : Stmt := inClass (top 18) 8
abbrev s_Yard_cut : Stmt := inClass (top 18) 9
abbrev s_Yard_grow : Stmt := inClass (top 18) 10
abbrev s_Yard_join : Stmt := inClass (top 18) 11
abbrev s_read : Stmt := top 22
abbrev s_read_row : Stmt := top 23
abbrev s_read_number : Stmt := top 24
abbrev s_count_cells : Stmt := top 25
abbrev s_refuse_free_twins : Stmt := top 26
abbrev s_yard_of : Stmt := top 27
abbrev s_law_whole : Stmt := top 29
abbrev s_law_cell_at : Stmt := top 30
abbrev s_law_doubled : Stmt := top 31
abbrev s_law_halved : Stmt := top 32
abbrev s_law_in_a_row : Stmt := top 33
abbrev s_law_lines : Stmt := top 34
abbrev s_law_others : Stmt := top 35
abbrev s_law_spoilt : Stmt := top 36
abbrev s_law_number : Stmt := top 37
abbrev s_law_is_size : Stmt := top 38
abbrev s_law_due : Stmt := top 39
abbrev s_law_refused : Stmt := top 40
abbrev s_law_refused_by_any : Stmt := top 41
abbrev s_law : Stmt := top 42
theorem sc_wall : FnScope ["k"] ["k"] (defScope s_wall) := ⟨rfl, rfl, rfl, by decide +kernel, rfl, by decide +kernel, by decide +kernel⟩
theorem sc_is_size : FnScope ["number"] ["number"] (defScope s_is_size) := ⟨rfl, rfl, rfl, by decide +kernel, rfl, by decide +kernel, by decide +kernel⟩
theorem sc_size_for : FnScope ["want"] ["want"] (defScope s_size_for) := ⟨rfl, rfl, rfl, by decide +kernel, rfl, by decide +kernel, by decide +kernel⟩
theorem sc_twin_of : FnScope ["at", "size"] ["at", "size"] (defScope s_twin_of) := ⟨rfl, rfl, rfl, by decide +kernel, rfl, by decide +kernel, by decide +kernel⟩
theorem sc_rank : FnScope ["places", "at", "low", "high", "middle"] ["places", "at"] (defScope s_rank) := ⟨rfl, rfl, rfl, by decide +kernel, rfl, by decide +kernel, by decide +kernel⟩
theorem sc_Pool_init : FnScope ["self", "cells", "size"] ["self", "cells"] (defScope s_Pool_init) := ⟨rfl, rfl, rfl, by decide +kernel, rfl, by decide +kernel, by decide +kernel⟩
theorem sc_Pool_put : FnScope ["self", "at", "size", "places"] ["self", "at", "size"] (defScope s_Pool_put) := ⟨rfl, rfl, rfl, by decide +kernel, rfl, by decide +kernel, by decide +kernel⟩
theorem sc_Pool_drop : FnScope ["self", "at", "size", "places"] ["self", "at", "size"] (defScope s_Pool_drop) := ⟨rfl, rfl, rfl, by decide +kernel, rfl, by decide +kernel, by decide +kernel⟩
theorem sc_Pool_has : FnScope ["self", "at", "size", "places", "ahead"] ["self", "at", "size"] (defScope s_Pool_has) := ⟨rfl, rfl, rfl, by decide +kernel, rfl, by decide +kernel, by decide +kernel⟩
theorem sc_Pool_best : FnScope ["self", "size", "large", "places"] ["self", "size"] (defScope s_Pool_best) := ⟨rfl, rfl, rfl, by decide +kernel, rfl, by decide +kernel, by decide +kernel⟩
theorem sc_Pool_pieces : FnScope ["self", "size", "places", "at"] ["self"] (defScope s_Pool_pieces) := ⟨rfl, rfl, rfl, by decide +kernel, rfl, by decide +kernel, by decide +kernel⟩
theorem sc_upper_halves : FnScope ["at", "size", "least", "halves"] ["at", "size", "least"] (defScope s_upper_halves) := ⟨rfl, rfl, rfl, by decide +kernel, rfl, by decide +kernel, by decide +kernel⟩
theorem sc_Yard_init : FnScope ["self", "cells"] ["self", "cells"] (defScope s_Yard_init) := ⟨rfl, rfl, rfl, by decide +kernel, rfl, by decide +kernel, by decide +kernel⟩
theorem sc_Yard_give : FnScope ["self", "want", "size", "found", "at", "large"] ["self", "want"] (defScope s_Yard_give) := ⟨rfl, rfl, rfl, by decide +kernel, rfl, by decide +kernel, by decide +kernel⟩
theorem sc_Yard_take_back : FnScope ["self", "at", "size"] ["self", "at"] (defScope s_Yard_take_back) := ⟨rfl, rfl, rfl, by decide +kernel, rfl, by decide +kernel, by decide +kernel⟩
theorem sc_Yard_resize : FnScope ["self", "at", "want"] ["self", "at", "want"] (defScope s_Yard_resize) := ⟨rfl, rfl, rfl, by decide +kernel, rfl, by decide +kernel, by decide +kernel⟩
theorem sc_Yard_free : FnScope ["self"] ["self"] (defScope s_Yard_free) := ⟨rfl, rfl, rfl, by decide +kernel, rfl, by decide +kernel, by decide +kernel⟩
theorem sc_Yard_out : FnScope ["self"] ["self"] (defScope s_Yard_out) := ⟨rfl, rfl, rfl, by decide +kernel, rfl, by decide +kernel, by decide +kernel⟩
theorem sc_Yard_owner : FnScope ["self", "cell", "size", "at"] ["self", "cell"] (defScope s_Yard_owner) := ⟨rfl, rfl, rfl, by decide +kernel, rfl, by decide +kernel, by decide +kernel⟩
theorem sc_Yard_fitting : FnScope ["self", "want"] ["self", "want"] (defScope s_Yard_fitting) := ⟨rfl, rfl, rfl, by decide +kernel, rfl, by decide +kernel, by decide +kernel⟩
theorem sc_Yard_size_of : FnScope ["self", "at"] ["self", "at"] (defScope s_Yard_size_of) := ⟨rfl, rfl, rfl, by decide +kernel, rfl, by decide +kernel, by decide +kernel⟩
theorem sc_Yard_cut : FnScope ["self", "at", "size", "least", "half", "half_size"] ["self", "at", "size", "least"] (defScope s_Yard_cut) := ⟨rfl, rfl, rfl, by decide +kernel, rfl, by decide +kernel, by decide +kernel⟩
theorem sc_Yard_grow : FnScope ["self", "at", "had", "size"] ["self", "at", "had", "size"] (defScope s_Yard_grow) := ⟨rfl, rfl, rfl, by decide +kernel, rfl, by decide +kernel, by decide +kernel⟩
theorem sc_Yard_join : FnScope ["self", "at", "size", "twin"] ["self", "at", "size"] (defScope s_Yard_join) := ⟨rfl, rfl, rfl, by decide +kernel, rfl, by decide +kernel, by decide +kernel⟩
theorem sc_read : FnScope ["text", "rows", "cells", "row"] ["text"] (defScope s_read) := ⟨rfl, rfl, rfl, by decide +kernel, rfl, by decide +kernel, by decide +kernel⟩
theorem sc_read_row : FnScope ["row", "words", "at", "size"] ["row"] (defScope s_read_row) := ⟨rfl, rfl, rfl, by decide +kernel, rfl, by decide +kernel, by decide +kernel⟩
theorem sc_read_number : FnScope ["word", "number"] ["word"] (defScope s_read_number) := ⟨rfl, rfl, rfl, by decide +kernel, rfl, by decide +kernel, by decide +kernel⟩
theorem sc_count_cells : FnScope ["rows", "cells", "at", "size", "_"] ["rows"] (defScope s_count_cells) := ⟨rfl, rfl, rfl, by decide +kernel, rfl, by decide +kernel, by decide +kernel⟩
theorem sc_refuse_free_twins : FnScope ["rows", "at", "size", "sizes", "state"] ["rows"] (defScope s_refuse_free_twins) := ⟨rfl, rfl, rfl, by decide +kernel, rfl, by decide +kernel, by decide +kernel⟩
theorem sc_yard_of : FnScope ["cells", "rows", "yard", "back", "at", "size", "state"] ["cells", "rows"] (defScope s_yard_of) := ⟨rfl, rfl, rfl, by decide +kernel, rfl, by decide +kernel, by decide +kernel⟩
theorem sc_law_whole : FnScope ["_law_found"] ["_law_found"] (defScope s_law_whole) := ⟨rfl, rfl, rfl, by decide +kernel, rfl, by decide +kernel, by decide +kernel⟩
theorem sc_law_cell_at : FnScope ["_law_script", "_law_k"] ["_law_script", "_law_k"] (defScope s_law_cell_at) := ⟨rfl, rfl, rfl, by decide +kernel, rfl, by decide +kernel, by decide +kernel⟩
theorem sc_law_doubled : FnScope ["_law_times", "_law_size", "_law_k"] ["_law_times"] (defScope s_law_doubled) := ⟨rfl, rfl, rfl, by decide +kernel, rfl, by decide +kernel, by decide +kernel⟩
theorem sc_law_halved : FnScope ["_law_script", "_law_rest", "_law_pieces", "_law_cell", "_law_place", "_law_half", "_law_at"] ["_law_script"] (defScope s_law_halved) := ⟨rfl, rfl, rfl, by decide +kernel, rfl, by decide +kernel, by decide +kernel⟩
theorem sc_law_in_a_row : FnScope ["_law_pieces", "_law_cell", "_law_sizes", "_law_turn", "_law_found", "_law_behind", "_law_size", "_law_piece"] ["_law_pieces", "_law_cell"] (defScope s_law_in_a_row) := ⟨rfl, rfl, rfl, by decide +kernel, rfl, by decide +kernel, by decide +kernel⟩
theorem sc_law_lines : FnScope ["_law_script", "_law_pieces", "_law_lines_here", "_law_k", "_law_word"] ["_law_script", "_law_pieces"] (defScope s_law_lines) := ⟨rfl, rfl, rfl, by decide +kernel, rfl, by decide +kernel, by decide +kernel⟩
theorem sc_law_others : FnScope ["_law_line", "_law_words", "_law_at", "_law_size", "_law_others_here"] ["_law_line"] (defScope s_law_others) := ⟨rfl, rfl, rfl, by decide +kernel, rfl, by decide +kernel, by decide +kernel⟩
theorem sc_law_spoilt : FnScope ["_law_lines_here", "_law_cell", "_law_place", "_law_rest", "_law_way", "_law_others_here", "_law_other"] ["_law_lines_here", "_law_cell"] (defScope s_law_spoilt) := ⟨rfl, rfl, rfl, by decide +kernel, rfl, by decide +kernel, by decide +kernel⟩
theorem sc_law_number : FnScope ["_law_word", "_law_sign"] ["_law_word"] (defScope s_law_number) := ⟨rfl, rfl, rfl, by decide +kernel, rfl, by decide +kernel, by decide +kernel⟩
theorem sc_law_is_size : FnScope ["_law_size"] ["_law_size"] (defScope s_law_is_size) := ⟨rfl, rfl, rfl, by decide +kernel, rfl, by decide +kernel, by decide +kernel⟩
theorem sc_law_due : FnScope ["_law_lines_here", "_law_out", "_law_free", "_law_behind", "_law_line", "_law_words", "_law_at", "_law_size"] ["_law_lines_here"] (defScope s_law_due) := ⟨rfl, rfl, rfl, by decide +kernel, rfl, by decide +kernel, by decide +kernel⟩
theorem sc_law_refused : FnScope ["_law_text"] ["_law_text"] (defScope s_law_refused) := ⟨rfl, rfl, rfl, by decide +kernel, rfl, by decide +kernel, by decide +kernel⟩
theorem sc_law_refused_by_any : FnScope ["_law_text", "e"] ["_law_text"] (defScope s_law_refused_by_any) := ⟨rfl, rfl, rfl, by decide +kernel, rfl, by decide +kernel, by decide +kernel⟩
theorem sc_law : FnScope ["_law_script", "_law_pieces", "_law_k", "_law_lines_here", "_law_text", "_law_due_here", "_law_yard", "_law_piece"] ["_law_script"] (defScope s_law) := ⟨rfl, rfl, rfl, by decide +kernel, rfl, by decide +kernel, by decide +kernel⟩
structure Ad where
  f_wall : Addr
  d_wall : FuncData
  f_is_size : Addr
  d_is_size : FuncData
  f_size_for : Addr
  d_size_for : FuncData
  f_twin_of : Addr
  d_twin_of : FuncData
  f_rank : Addr
  d_rank : FuncData
  f_Pool_init : Addr
  d_Pool_init : FuncData
  f_Pool_put : Addr
  d_Pool_put : FuncData
  f_Pool_drop : Addr
  d_Pool_drop : FuncData
  f_Pool_has : Addr
  d_Pool_has : FuncData
  f_Pool_best : Addr
  d_Pool_best : FuncData
  f_Pool_pieces : Addr
  d_Pool_pieces : FuncData
  f_upper_halves : Addr
  d_upper_halves : FuncData
  f_Yard_init : Addr
  d_Yard_init : FuncData
  f_Yard_give : Addr
  d_Yard_give : FuncData
  f_Yard_take_back : Addr
  d_Yard_take_back : FuncData
  f_Yard_resize : Addr
  d_Yard_resize : FuncData
  f_Yard_free : Addr
  d_Yard_free : FuncData
  f_Yard_out : Addr
  d_Yard_out : FuncData
  f_Yard_owner : Addr
  d_Yard_owner : FuncData
  f_Yard_fitting : Addr
  d_Yard_fitting : FuncData
  f_Yard_size_of : Addr
  d_Yard_size_of : FuncData
  f_Yard_cut : Addr
  d_Yard_cut : FuncData
  f_Yard_grow : Addr
  d_Yard_grow : FuncData
  f_Yard_join : Addr
  d_Yard_join : FuncData
  f_read : Addr
  d_read : FuncData
  f_read_row : Addr
  d_read_row : FuncData
  f_read_number : Addr
  d_read_number : FuncData
  f_count_cells : Addr
  d_count_cells : FuncData
  f_refuse_free_twins : Addr
  d_refuse_free_twins : FuncData
  f_yard_of : Addr
  d_yard_of : FuncData
  f_law_whole : Addr
  d_law_whole : FuncData
  f_law_cell_at : Addr
  d_law_cell_at : FuncData
  f_law_doubled : Addr
  d_law_doubled : FuncData
  f_law_halved : Addr
  d_law_halved : FuncData
  f_law_in_a_row : Addr
  d_law_in_a_row : FuncData
  f_law_lines : Addr
  d_law_lines : FuncData
  f_law_others : Addr
  d_law_others : FuncData
  f_law_spoilt : Addr
  d_law_spoilt : FuncData
  f_law_number : Addr
  d_law_number : FuncData
  f_law_is_size : Addr
  d_law_is_size : FuncData
  f_law_due : Addr
  d_law_due : FuncData
  f_law_refused : Addr
  d_law_refused : FuncData
  f_law_refused_by_any : Addr
  d_law_refused_by_any : FuncData
  f_law : Addr
  d_law : FuncData
  c_YardError : Addr
  c_NoYard : Addr
  c_NoWish : Addr
  c_NoRoom : Addr
  c_NotOut : Addr
  c_NoNote : Addr
  c_Pool : Addr
  c_Yard : Addr
structure Txt (K : PySem.W.Frag) (mg : Str → Option Value) (a : Ad) : Prop where
  wall : DefAt K mg "_wall" s_wall ["k"] a.f_wall a.d_wall
  is_size : DefAt K mg "is_size" s_is_size ["number"] a.f_is_size a.d_is_size
  size_for : DefAt K mg "size_for" s_size_for ["want"] a.f_size_for a.d_size_for
  twin_of : DefAt K mg "twin_of" s_twin_of ["at", "size"] a.f_twin_of a.d_twin_of
  rank : DefAt K mg "rank" s_rank ["places", "at"] a.f_rank a.d_rank
  Pool_init : Fun K "__init__" "Pool.__init__" s_Pool_init a.f_Pool_init a.d_Pool_init
  b_Pool_init : Binds K a.d_Pool_init ["self", "cells"] []
  m_Pool_init : Mk K a.c_Pool a.f_Pool_init
  Pool_put : Fun K "put" "Pool.put" s_Pool_put a.f_Pool_put a.d_Pool_put
  b_Pool_put : Binds K a.d_Pool_put ["self", "at", "size"] []
  m_Pool_put : Meth K a.c_Pool "put" a.f_Pool_put
  Pool_drop : Fun K "drop" "Pool.drop" s_Pool_drop a.f_Pool_drop a.d_Pool_drop
  b_Pool_drop : Binds K a.d_Pool_drop ["self", "at", "size"] []
  m_Pool_drop : Meth K a.c_Pool "drop" a.f_Pool_drop
  Pool_has : Fun K "has" "Pool.has" s_Pool_has a.f_Pool_has a.d_Pool_has
  b_Pool_has : Binds K a.d_Pool_has ["self", "at", "size"] []
  m_Pool_has : Meth K a.c_Pool "has" a.f_Pool_has
  Pool_best : Fun K "best" "Pool.best" s_Pool_best a.f_Pool_best a.d_Pool_best
  b_Pool_best : Binds K a.d_Pool_best ["self", "size"] []
  m_Pool_best : Meth K a.c_Pool "best" a.f_Pool_best
  Pool_pieces : Fun K "pieces" "Pool.pieces" s_Pool_pieces a.f_Pool_pieces a.d_Pool_pieces
  b_Pool_pieces : Binds K a.d_Pool_pieces ["self"] []
  m_Pool_pieces : Meth K a.c_Pool "pieces" a.f_Pool_pieces
  upper_halves : DefAt K mg "upper_halves" s_upper_halves ["at", "size", "least"] a.f_upper_halves a.d_upper_halves
  Yard_init : Fun K "__init__" "Yard.__init__" s_Yard_init a.f_Yard_init a.d_Yard_init
  b_Yard_init : Binds K a.d_Yard_init ["self", "cells"] []
  m_Yard_init : Mk K a.c_Yard a.f_Yard_init
  Yard_give : Fun K "give" "Yard.give" s_Yard_give a.f_Yard_give a.d_Yard_give
  b_Yard_give : Binds K a.d_Yard_give ["self", "want"] []
  m_Yard_give : Meth K a.c_Yard "give" a.f_Yard_give
  Yard_take_back : Fun K "take_back" "Yard.take_back" s_Yard_take_back a.f_Yard_take_back a.d_Yard_take_back
  b_Yard_take_back : Binds K a.d_Yard_take_back ["self", "at"] []
  m_Yard_take_back : Meth K a.c_Yard "take_back" a.f_Yard_take_back
  Yard_resize : Fun K "resize" "Yard.resize" s_Yard_resize a.f_Yard_resize a.d_Yard_resize
  b_Yard_resize : Binds K a.d_Yard_resize ["self", "at", "want"] []
  m_Yard_resize : Meth K a.c_Yard "resize" a.f_Yard_resize
  Yard_free : Fun K "free" "Yard.free" s_Yard_free a.f_Yard_free a.d_Yard_free
  b_Yard_free : Binds K a.d_Yard_free ["self"] []
  m_Yard_free : Meth K a.c_Yard "free" a.f_Yard_free
  Yard_out : Fun K "out" "Yard.out" s_Yard_out a.f_Yard_out a.d_Yard_out
  b_Yard_out : Binds K a.d_Yard_out ["self"] []
  m_Yard_out : Meth K a.c_Yard "out" a.f_Yard_out
  Yard_owner : Fun K "owner" "Yard.owner" s_Yard_owner a.f_Yard_owner a.d_Yard_owner
  b_Yard_owner : Binds K a.d_Yard_owner ["self", "cell"] []
  m_Yard_owner : Meth K a.c_Yard "owner" a.f_Yard_owner
  Yard_fitting : Fun K "_fitting" "Yard._fitting" s_Yard_fitting a.f_Yard_fitting a.d_Yard_fitting
  b_Yard_fitting : Binds K a.d_Yard_fitting ["self", "want"] []
  m_Yard_fitting : Meth K a.c_Yard "_fitting" a.f_Yard_fitting
  Yard_size_of : Fun K "_size_of" "Yard._size_of" s_Yard_size_of a.f_Yard_size_of a.d_Yard_size_of
  b_Yard_size_of : Binds K a.d_Yard_size_of ["self", "at"] []
  m_Yard_size_of : Meth K a.c_Yard "_size_of" a.f_Yard_size_of
  Yard_cut : Fun K "_cut" "Yard._cut" s_Yard_cut a.f_Yard_cut a.d_Yard_cut
  b_Yard_cut : Binds K a.d_Yard_cut ["self", "at", "size", "least"] []
  m_Yard_cut : Meth K a.c_Yard "_cut" a.f_Yard_cut
  Yard_grow : Fun K "_grow" "Yard._grow" s_Yard_grow a.f_Yard_grow a.d_Yard_grow
  b_Yard_grow : Binds K a.d_Yard_grow ["self", "at", "had", "size"] []
  m_Yard_grow : Meth K a.c_Yard "_grow" a.f_Yard_grow
  Yard_join : Fun K "_join" "Yard._join" s_Yard_join a.f_Yard_join a.d_Yard_join
  b_Yard_join : Binds K a.d_Yard_join ["self", "at", "size"] []
  m_Yard_join : Meth K a.c_Yard "_join" a.f_Yard_join
  read : DefAt K mg "read" s_read ["text"] a.f_read a.d_read
  read_row : DefAt K mg "read_row" s_read_row ["row"] a.f_read_row a.d_read_row
  read_number : DefAt K mg "read_number" s_read_number ["word"] a.f_read_number a.d_read_number
  count_cells : DefAt K mg "count_cells" s_count_cells ["rows"] a.f_count_cells a.d_count_cells
  refuse_free_twins : DefAt K mg "refuse_free_twins" s_refuse_free_twins ["rows"] a.f_refuse_free_twins a.d_refuse_free_twins
  yard_of : DefAt K mg "yard_of" s_yard_of ["cells", "rows"] a.f_yard_of a.d_yard_of
  law_whole : DefAt K mg "_law_whole" s_law_whole ["_law_found"] a.f_law_whole a.d_law_whole
  law_cell_at : DefAt K mg "_law_cell_at" s_law_cell_at ["_law_script", "_law_k"] a.f_law_cell_at a.d_law_cell_at
  law_doubled : DefAt K mg "_law_doubled" s_law_doubled ["_law_times"] a.f_law_doubled a.d_law_doubled
  law_halved : DefAt K mg "_law_halved" s_law_halved ["_law_script"] a.f_law_halved a.d_law_halved
  law_in_a_row : DefAt K mg "_law_in_a_row" s_law_in_a_row ["_law_pieces", "_law_cell"] a.f_law_in_a_row a.d_law_in_a_row
  law_lines : DefAt K mg "_law_lines" s_law_lines ["_law_script", "_law_pieces"] a.f_law_lines a.d_law_lines
  law_others : DefAt K mg "_law_others" s_law_others ["_law_line"] a.f_law_others a.d_law_others
  law_spoilt : DefAt K mg "_law_spoilt" s_law_spoilt ["_law_lines_here", "_law_cell"] a.f_law_spoilt a.d_law_spoilt
  law_number : DefAt K mg "_law_number" s_law_number ["_law_word"] a.f_law_number a.d_law_number
  law_is_size : DefAt K mg "_law_is_size" s_law_is_size ["_law_size"] a.f_law_is_size a.d_law_is_size
  law_due : DefAt K mg "_law_due" s_law_due ["_law_lines_here"] a.f_law_due a.d_law_due
  law_refused : DefAt K mg "_law_refused" s_law_refused ["_law_text"] a.f_law_refused a.d_law_refused
  law_refused_by_any : DefAt K mg "_law_refused_by_any" s_law_refused_by_any ["_law_text"] a.f_law_refused_by_any a.d_law_refused_by_any
  law : DefAt K mg "law" s_law ["_law_script"] a.f_law a.d_law
  g_Pool : mg "Pool" = some (.ref a.c_Pool)
  cl_Pool : Cls K a.c_Pool
  n_Pool__places : NoAttr K a.c_Pool "_places"
  g_Yard : mg "Yard" = some (.ref a.c_Yard)
  cl_Yard : Cls K a.c_Yard
  n_Yard_cells : NoAttr K a.c_Yard "cells"
  n_Yard__sizes : NoAttr K a.c_Yard "_sizes"
  n_Yard__pool : NoAttr K a.c_Yard "_pool"
  e_YardError : ExcT K mg "YardError" a.c_YardError
  e_NoYard : ExcT K mg "NoYard" a.c_NoYard
  e_NoWish : ExcT K mg "NoWish" a.c_NoWish
  e_NoRoom : ExcT K mg "NoRoom" a.c_NoRoom
  e_NotOut : ExcT K mg "NotOut" a.c_NotOut
  e_NoNote : ExcT K mg "NoNote" a.c_NoNote
  x_NoYard_YardError : PySem.W.exmOne K (.ref a.c_NoYard) (.ref a.c_YardError) = some true
  k_NoYard_YardError : PySem.W.kitOne K (.ref a.c_NoYard) (.ref a.c_YardError) = some true
  x_NoYard_NoYard : PySem.W.exmOne K (.ref a.c_NoYard) (.ref a.c_NoYard) = some true
  k_NoYard_NoYard : PySem.W.kitOne K (.ref a.c_NoYard) (.ref a.c_NoYard) = some true
  x_NoYard_NoWish : PySem.W.exmOne K (.ref a.c_NoYard) (.ref a.c_NoWish) = some false
  k_NoYard_NoWish : PySem.W.kitOne K (.ref a.c_NoYard) (.ref a.c_NoWish) = some false
  x_NoYard_NoRoom : PySem.W.exmOne K (.ref a.c_NoYard) (.ref a.c_NoRoom) = some false
  k_NoYard_NoRoom : PySem.W.kitOne K (.ref a.c_NoYard) (.ref a.c_NoRoom) = some false
  x_NoYard_NotOut : PySem.W.exmOne K (.ref a.c_NoYard) (.ref a.c_NotOut) = some false
  k_NoYard_NotOut : PySem.W.kitOne K (.ref a.c_NoYard) (.ref a.c_NotOut) = some false
  x_NoYard_NoNote : PySem.W.exmOne K (.ref a.c_NoYard) (.ref a.c_NoNote) = some false
  k_NoYard_NoNote : PySem.W.kitOne K (.ref a.c_NoYard) (.ref a.c_NoNote) = some false
  x_NoWish_YardError : PySem.W.exmOne K (.ref a.c_NoWish) (.ref a.c_YardError) = some true
  k_NoWish_YardError : PySem.W.kitOne K (.ref a.c_NoWish) (.ref a.c_YardError) = some true
  x_NoWish_NoYard : PySem.W.exmOne K (.ref a.c_NoWish) (.ref a.c_NoYard) = some false
  k_NoWish_NoYard : PySem.W.kitOne K (.ref a.c_NoWish) (.ref a.c_NoYard) = some false
  x_NoWish_NoWish : PySem.W.exmOne K (.ref a.c_NoWish) (.ref a.c_NoWish) = some true
  k_NoWish_NoWish : PySem.W.kitOne K (.ref a.c_NoWish) (.ref a.c_NoWish) = some true
  x_NoWish_NoRoom : PySem.W.exmOne K (.ref a.c_NoWish) (.ref a.c_NoRoom) = some false
  k_NoWish_NoRoom : PySem.W.kitOne K (.ref a.c_NoWish) (.ref a.c_NoRoom) = some false
  x_NoWish_NotOut : PySem.W.exmOne K (.ref a.c_NoWish) (.ref a.c_NotOut) = some false
  k_NoWish_NotOut : PySem.W.kitOne K (.ref a.c_NoWish) (.ref a.c_NotOut) = some false
  x_NoWish_NoNote : PySem.W.exmOne K (.ref a.c_NoWish) (.ref a.c_NoNote) = some false
  k_NoWish_NoNote : PySem.W.kitOne K (.ref a.c_NoWish) (.ref a.c_NoNote) = some false
  x_NoRoom_YardError : PySem.W.exmOne K (.ref a.c_NoRoom) (.ref a.c_YardError) = some true
  k_NoRoom_YardError : PySem.W.kitOne K (.ref a.c_NoRoom) (.ref a.c_YardError) = some true
  x_NoRoom_NoYard : PySem.W.exmOne K (.ref a.c_NoRoom) (.ref a.c_NoYard) = some false
  k_NoRoom_NoYard : PySem.W.kitOne K (.ref a.c_NoRoom) (.ref a.c_NoYard) = some false
  x_NoRoom_NoWish : PySem.W.exmOne K (.ref a.c_NoRoom) (.ref a.c_NoWish) = some false
  k_NoRoom_NoWish : PySem.W.kitOne K (.ref a.c_NoRoom) (.ref a.c_NoWish) = some false
  x_NoRoom_NoRoom : PySem.W.exmOne K (.ref a.c_NoRoom) (.ref a.c_NoRoom) = some true
  k_NoRoom_NoRoom : PySem.W.kitOne K (.ref a.c_NoRoom) (.ref a.c_NoRoom) = some true
  x_NoRoom_NotOut : PySem.W.exmOne K (.ref a.c_NoRoom) (.ref a.c_NotOut) = some false
  k_NoRoom_NotOut : PySem.W.kitOne K (.ref a.c_NoRoom) (.ref a.c_NotOut) = some false
  x_NoRoom_NoNote : PySem.W.exmOne K (.ref a.c_NoRoom) (.ref a.c_NoNote) = some false
  k_NoRoom_NoNote : PySem.W.kitOne K (.ref a.c_NoRoom) (.ref a.c_NoNote) = some false
  x_NotOut_YardError : PySem.W.exmOne K (.ref a.c_NotOut) (.ref a.c_YardError) = some true
  k_NotOut_YardError : PySem.W.kitOne K (.ref a.c_NotOut) (.ref a.c_YardError) = some true
  x_NotOut_NoYard : PySem.W.exmOne K (.ref a.c_NotOut) (.ref a.c_NoYard) = some false
  k_NotOut_NoYard : PySem.W.kitOne K (.ref a.c_NotOut) (.ref a.c_NoYard) = some false
  x_NotOut_NoWish : PySem.W.exmOne K (.ref a.c_NotOut) (.ref a.c_NoWish) = some false
  k_NotOut_NoWish : PySem.W.kitOne K (.ref a.c_NotOut) (.ref a.c_NoWish) = some false
  x_NotOut_NoRoom : PySem.W.exmOne K (.ref a.c_NotOut) (.ref a.c_NoRoom) = some false
  k_NotOut_NoRoom : PySem.W.kitOne K (.ref a.c_NotOut) (.ref a.c_NoRoom) = some false
  x_NotOut_NotOut : PySem.W.exmOne K (.ref a.c_NotOut) (.ref a.c_NotOut) = some true
  k_NotOut_NotOut : PySem.W.kitOne K (.ref a.c_NotOut) (.ref a.c_NotOut) = some true
  x_NotOut_NoNote : PySem.W.exmOne K (.ref a.c_NotOut) (.ref a.c_NoNote) = some false
  k_NotOut_NoNote : PySem.W.kitOne K (.ref a.c_NotOut) (.ref a.c_NoNote) = some false
  x_NoNote_YardError : PySem.W.exmOne K (.ref a.c_NoNote) (.ref a.c_YardError) = some true
  k_NoNote_YardError : PySem.W.kitOne K (.ref a.c_NoNote) (.ref a.c_YardError) = some true
  x_NoNote_NoYard : PySem.W.exmOne K (.ref a.c_NoNote) (.ref a.c_NoYard) = some false
  k_NoNote_NoYard : PySem.W.kitOne K (.ref a.c_NoNote) (.ref a.c_NoYard) = some false
  x_NoNote_NoWish : PySem.W.exmOne K (.ref a.c_NoNote) (.ref a.c_NoWish) = some false
  k_NoNote_NoWish : PySem.W.kitOne K (.ref a.c_NoNote) (.ref a.c_NoWish) = some false
  x_NoNote_NoRoom : PySem.W.exmOne K (.ref a.c_NoNote) (.ref a.c_NoRoom) = some false
  k_NoNote_NoRoom : PySem.W.kitOne K (.ref a.c_NoNote) (.ref a.c_NoRoom) = some false
  x_NoNote_NotOut : PySem.W.exmOne K (.ref a.c_NoNote) (.ref a.c_NotOut) = some false
  k_NoNote_NotOut : PySem.W.kitOne K (.ref a.c_NoNote) (.ref a.c_NotOut) = some false
  x_NoNote_NoNote : PySem.W.exmOne K (.ref a.c_NoNote) (.ref a.c_NoNote) = some true
  k_NoNote_NoNote : PySem.W.kitOne K (.ref a.c_NoNote) (.ref a.c_NoNote) = some true
  z_ValueError : mg "ValueError" = none
  z_bool : mg "bool" = none
  z_int : mg "int" = none
  z_isinstance : mg "isinstance" = none
  z_len : mg "len" = none
  z_list : mg "list" = none
  z_min : mg "min" = none
  z_range : mg "range" = none
  z_reversed : mg "reversed" = none
  z_sorted : mg "sorted" = none
  z_str : mg "str" = none
  v_MOST : ∃ t, mg "MOST" = some (.int 1152921504606846976 t)
  v_OUT : ∃ t, mg "OUT" = some (.str "out" t)
  v_FREE : ∃ t, mg "FREE" = some (.str "free" t)
/-! ### a yard in the heap -/
def nI (n : Nat) : V := .int (n : Int)
abbrev sI (k : Nat) : V := .int ((2 ^ k : Nat) : Int)
def Only (S : List Addr) (H H' : Hp) : Prop := ∀ b o, H b = some o → b ∉ S → H' b = some o
theorem Only.refl (S : List Addr) (H : Hp) : Only S H H := fun _ _ e _ => e
theorem Only.trans {S : List Addr} {H1 H2 H3 : Hp} (h : Only S H1 H2) (g : Only S H2 H3) : Only S H1 H3 := fun b o e n => g b o (h b o e n) n
theorem Only.mono {S S' : List Addr} {H H' : Hp} (h : Only S H H') (l : ∀ b, b ∈ S → b ∈ S') : Only S' H H' := fun b o e n => h b o e fun z => n (l b z)
theorem Only.upd {S : List Addr} {H : Hp} {b : Addr} (o : HO) (h : b ∈ S) : Only S H (upd H b o) := fun c u e n => by
  rw [upd_ne (fun z => n (by rw [z]; exact h))]
  exact e
theorem Only.new {S : List Addr} {H : Hp} {b : Addr} (o : HO) (h : H b = none) : Only S H (L2.upd H b o) := fun c u e n => by
  rw [upd_ne (ne_of_none e h)]
  exact e
theorem Only.same {S : List Addr} {H H' : Hp} (h : ∀ b o, H b = some o → H' b = some o) : Only S H H' := fun b o e _ => h b o e
structure YA where
  y : Addr
  sd : Addr
  p : Addr
  pd : Addr
  dy : Addr
  dp : Addr
  ls : Nat → Addr
def pdK (d : Nat) (ls : Nat → Addr) : List (Key × V) := (List.range (d + 1)).map fun j => (Sum.inl ((2 ^ j : Nat) : Int), V.ref (ls j))
def pFs (Y : YA) : List (Str × V) := putF "_places" (.ref Y.pd) []
structure PoolAt (a : Ad) (Y : YA) (d : Nat) (F : Nat → List Nat) (H : Hp) : Prop where
  ob : H Y.p = some (.ins a.c_Pool Y.dp (pFs Y))
  dk : H Y.pd = some (.dK (pdK d Y.ls))
  at_ : ∀ j, j ≤ d → H (Y.ls j) = some (.lst ((F j).map nI))
  inj : ∀ i j, i ≤ d → j ≤ d → Y.ls i = Y.ls j → i = j
  rise : ∀ j, j ≤ d → (F j).Pairwise (· < ·)
  len : ∀ j, j ≤ d → (F j).length ≤ 200000
  d60 : d ≤ 60
theorem pow_inj {i j : Nat} (h : ((2 ^ i : Nat) : Int) = ((2 ^ j : Nat) : Int)) : i = j := by
  have e : 2 ^ i = 2 ^ j := Int.ofNat.inj h
  exact (Nat.pow_right_inj (by decide)).mp e
theorem PoolAt.upd {a : Ad} {Y : YA} {d k : Nat} {F : Nat → List Nat} {H : Hp} {l : List Nat} (h : PoolAt a Y d F H) (hk : k ≤ d) (hl : l.Pairwise (· < ·)) (hz : l.length ≤ 200000) : PoolAt a Y d (setF F k l) (L2.upd H (Y.ls k) (.lst (l.map nI))) := by
  have hk' := h.at_ k hk
  refine ⟨?_, ?_, fun j hj => ?_, h.inj, fun j hj => ?_, fun j hj => ?_, h.d60⟩
  · rw [upd_ne (ne_of h.ob hk' (by intro z; cases z))]
    exact h.ob
  · rw [upd_ne (ne_of h.dk hk' (by intro z; cases z))]
    exact h.dk
  · unfold setF
    by_cases e : j = k
    · subst e
      rw [if_pos rfl]
      exact upd_same
    · rw [if_neg e, upd_ne (fun z => e (h.inj j k hj hk z))]
      exact h.at_ j hj
  · unfold setF
    split
    · exact hl
    · exact h.rise j hj
  · unfold setF
    split
    · exact hz
    · exact h.len j hj
theorem PoolAt.keep {a : Ad} {Y : YA} {d : Nat} {F : Nat → List Nat} {H H' : Hp} (h : PoolAt a Y d F H) (k : ∀ b o, H b = some o → H' b = some o) : PoolAt a Y d F H' :=
  ⟨k _ _ h.ob, k _ _ h.dk, fun j hj => k _ _ (h.at_ j hj), h.inj, h.rise, h.len, h.d60⟩
theorem pdK_get {d k : Nat} {ls : Nat → Addr} (h : k ≤ d) : valV (pdK d ls) (Sum.inl ((2 ^ k : Nat) : Int)) = some (.ref (ls k)) := by
  unfold pdK
  have aux : ∀ l : List Nat, k ∈ l → valV (l.map fun j => ((Sum.inl ((2 ^ j : Nat) : Int) : Key), V.ref (ls j))) (Sum.inl ((2 ^ k : Nat) : Int)) = some (.ref (ls k)) := by
    intro l
    induction l with
    | nil => intro z; cases z
    | cons x l ih =>
      intro z
      unfold valV
      rw [List.map_cons, List.find?_cons]
      by_cases e : x = k
      · subst e
        simp
      · have ne : ¬ (Sum.inl ((2 ^ x : Nat) : Int) : Key) = Sum.inl ((2 ^ k : Nat) : Int) := fun q => e (pow_inj (Sum.inl.inj q))
        rw [decide_eq_false ne]
        exact ih ((List.mem_cons.mp z).resolve_left fun q => e q.symm)
  exact aux _ (List.mem_range.mpr (by omega))
theorem pFs_at (Y : YA) : (pFs Y).lookup ("_places" : Str) = some (.ref Y.pd) := by
  unfold pFs
  rw [lookup_putF, if_pos rfl]
theorem pFs_no (Y : YA) {m : Str} (h : ¬ m = "_places") : (pFs Y).lookup m = none := by
  unfold pFs
  rw [lookup_putF, if_neg h]
  rfl
theorem map_nI_get {l : List Nat} {i x : Nat} (h : l[i]? = some x) : (l.map nI)[i]? = some (nI x) := by rw [List.getElem?_map, h]; rfl
theorem dget_of {H : Hp} {b : Addr} {kvs : List (Key × V)} {i : Int} {v : V} (h : H b = some (.dK kvs)) (e : valV kvs (Sum.inl i) = some v) : DGet H b (.int i) (some v) := by
  have z := DGet.k (k := Sum.inl i) h
  rw [e] at z
  exact z
/-! ### rank, Pool -/
def sp_rank (K : PySem.W.Frag) (a : Ad) : Sp := fun vs H Q _ => ∃ (l : Addr) (x : Nat) (ns : List Nat), vs = [.ref l, nI x] ∧ SqL K H l (ns.map nI) ∧ ns.Pairwise (· < ·) ∧ ns.length ≤ 200000 ∧ Q (nI (rk x ns)) H
def sp_Pool_put (K : PySem.W.Frag) (a : Ad) : Sp := fun vs H Q _ => ∃ (Y : YA) (d x k : Nat) (F : Nat → List Nat), vs = [.ref Y.p, nI x, sI k] ∧ PoolAt a Y d F H ∧ k ≤ d ∧ x ∉ F k ∧ (F k).length < 200000 ∧
  Q .non (L2.upd H (Y.ls k) (.lst ((ins x (F k)).map nI)))
def sp_Pool_drop (K : PySem.W.Frag) (a : Ad) : Sp := fun vs H Q _ => ∃ (Y : YA) (d x k : Nat) (F : Nat → List Nat), vs = [.ref Y.p, nI x, sI k] ∧ PoolAt a Y d F H ∧ k ≤ d ∧ x ∈ F k ∧
  Q .non (L2.upd H (Y.ls k) (.lst ((del x (F k)).map nI)))
def sp_Pool_has (K : PySem.W.Frag) (a : Ad) : Sp := fun vs H Q _ => ∃ (Y : YA) (d x k : Nat) (F : Nat → List Nat), vs = [.ref Y.p, nI x, sI k] ∧ PoolAt a Y d F H ∧ k ≤ d ∧
  Q (.bl (decide (x ∈ F k))) H
section
variable {P : Program} {w : World} {K : PySem.W.Frag} {mg : Str → Option Value} {base : Heap} {a : Ad}
theorem ok_rank (T : Txt K mg a) : FnOk P w K mg base CX0 1 a.f_rank a.d_rank ["places", "at"] (sp_rank K a) := by
  refine T.rank.fn.ok sc_rank (fun vs H Q E h => by first | (obtain ⟨rfl, _⟩ := h; rfl) | (obtain ⟨_, rfl, _⟩ := h; rfl) | (obtain ⟨_, _, rfl, _⟩ := h; rfl) | (obtain ⟨_, _, _, rfl, _⟩ := h; rfl) | (obtain ⟨_, _, _, _, rfl, _⟩ := h; rfl) | (obtain ⟨_, _, _, _, _, rfl, _⟩ := h; rfl) | (obtain ⟨_, _, _, _, _, _, rfl, _⟩ := h; rfl) | (obtain ⟨_, _, _, _, _, _, _, rfl, _⟩ := h; rfl) | (obtain ⟨_, _, _, _, _, _, _, _, rfl, _⟩ := h; rfl) | (obtain ⟨_, _, _, _, _, _, _, _, _, rfl, _⟩ := h; rfl) | (obtain ⟨_, _, _, _, _, _, _, _, _, _, rfl, _⟩ := h; rfl) | (obtain ⟨_, _, _, _, _, _, _, _, _, _, _, rfl, _⟩ := h; rfl)) (fun cdv A outer s H vs Q E hr h => ?_)
  refine ⟨_, pss_cons (ps_set (i := 2) sc_rank.nd rfl (Or.inl rfl) pe_int)
      (pss_cons (ps_set (i := 3) sc_rank.nd rfl (Or.inl rfl) (pe_callB call_len_seq (by rfl) T.z_len PySem.boot_len (pa_cons (pv 0) pa_nil)))
      (pss_cons (ps_while PassesOwn.never (pt_cmpR op_lt (pv 2) (pv 3) (nomark _)) (pss_cons (ps_set (i := 4) sc_rank.nd rfl (Or.inl rfl) (pe_op op_fdiv (pe_op op_add (pv 2) (pv 3)) pe_int))
      (pss_one (ps_if (pt_cmpR op_lt (pe_ix ix_list (pv 0) (pv 4) (fun _ _ => rfl)) (pv 1) (nomark _)) (pss_one (ps_set (i := 2) sc_rank.nd rfl (Or.inl rfl) (pe_op op_add (pv 4) pe_int))) (pss_one (ps_set (i := 3) sc_rank.nd rfl (Or.inl rfl) (pv 4)))))))
      (pss_one (ps_ret (pv 2))))), ?_⟩
  obtain ⟨l, x, ns, rfl, hS, rise, hz, q⟩ := h
  refine ⟨_, rfl, l, _, rfl, .inl hS, ?_⟩
  refine while_by (fun σ H' => H' = H ∧ ∃ (lo hi : Nat) (m : Option V), lo ≤ rk x ns ∧ rk x ns ≤ hi ∧ hi ≤ ns.length ∧ σ = [some (.ref l), some (nI x), some (nI lo), some (nI hi), m])
    (fun σ H' => match σ with | [_, _, some (.int lo), some (.int hi), _] => (hi - lo).toNat | _ => 0) ⟨rfl, 0, ns.length, none, Nat.zero_le _, rk_le _ _, Nat.le_refl _, ?_⟩ ?_ ?_
  · rw [List.length_map]
    rfl
  · rintro σ H' ⟨rfl, lo, hi, m, h1, h2, h3, rfl⟩
    refine ⟨_, rfl, _, rfl, _, _, rfl, rfl, _, rfl, ?_⟩
    by_cases c : lo < hi
    · refine iteTof (decide_eq_true (by omega)) ?_
      refine ⟨_, rfl, _, rfl, _, _, rfl, rfl, _, _, rfl, rfl, ⟨by decide, by decide⟩, ?_⟩
      have em : ((lo : Int) + (hi : Int)) / 2 = (((lo + hi) / 2 : Nat) : Int) := by omega
      generalize hmid : (lo + hi) / 2 = mid at em
      have mlt : mid < ns.length := by omega
      obtain ⟨v, hv⟩ : ∃ v, ns[mid]? = some v := ⟨_, List.getElem?_eq_getElem mlt⟩
      refine ⟨_, rfl, _, rfl, l, _, _, nI v, rfl, rfl, hS, at_of (j := mid) em (map_nI_get hv), _, rfl, _, _, rfl, rfl, _, rfl, ?_⟩
      have cmp := rk_lt (x := x) rise hv
      by_cases c2 : v < x
      · refine iteTof (decide_eq_true (by omega)) ?_
        have := cmp.mp c2
        refine ⟨_, rfl, _, _, rfl, rfl, ?_⟩
        refine ⟨⟨rfl, mid + 1, hi, some (.int (((lo : Int) + (hi : Int)) / 2)), by omega, h2, h3, ?_⟩, ?_⟩
        · show [some (V.ref l), some (nI x), some (V.int (((lo : Int) + (hi : Int)) / 2 + 1)), some (nI hi), some (V.int (((lo : Int) + (hi : Int)) / 2))] = _
          rw [em]
          rfl
        · show ((hi : Int) - (((lo : Int) + (hi : Int)) / 2 + 1)).toNat < ((hi : Int) - (lo : Int)).toNat
          omega
      · refine iteFof (decide_eq_false (by omega)) ?_
        have : ¬ mid < rk x ns := fun z => c2 (cmp.mpr z)
        refine ⟨_, rfl, ?_⟩
        refine ⟨⟨rfl, lo, mid, some (.int (((lo : Int) + (hi : Int)) / 2)), h1, by omega, by omega, ?_⟩, ?_⟩
        · show [some (V.ref l), some (nI x), some (nI lo), some (V.int (((lo : Int) + (hi : Int)) / 2)), some (V.int (((lo : Int) + (hi : Int)) / 2))] = _
          rw [em]
          rfl
        · show ((((lo : Int) + (hi : Int)) / 2) - (lo : Int)).toNat < ((hi : Int) - (lo : Int)).toNat
          omega
    · refine iteFof (decide_eq_false (by omega)) ?_
      have e : lo = rk x ns := by omega
      subst e
      exact ⟨_, rfl, q⟩
  · rintro σ H' Q1 Q2 hQ ⟨v, hv, y, hy, i, j, e1, e2, k, ek, h⟩
    exact ⟨v, hv, y, hy, i, j, e1, e2, k, ek, by cases k <;> exact hQ _ _ (by simpa using h)⟩
end
section
variable {P : Program} {w : World} {K : PySem.W.Frag} {mg : Str → Option Value} {base : Heap} {a : Ad}
theorem ok_Pool_put (T : Txt K mg a) : FnOk P w K mg base CX0 2 a.f_Pool_put a.d_Pool_put ["self", "at", "size"] (sp_Pool_put K a) := by
  have G_rank : FnOk P w K mg base CX0 1 a.f_rank a.d_rank ["places", "at"] (sp_rank K a) := ok_rank T
  refine T.Pool_put.ok sc_Pool_put (fun vs H Q E h => by first | (obtain ⟨rfl, _⟩ := h; rfl) | (obtain ⟨_, rfl, _⟩ := h; rfl) | (obtain ⟨_, _, rfl, _⟩ := h; rfl) | (obtain ⟨_, _, _, rfl, _⟩ := h; rfl) | (obtain ⟨_, _, _, _, rfl, _⟩ := h; rfl) | (obtain ⟨_, _, _, _, _, rfl, _⟩ := h; rfl) | (obtain ⟨_, _, _, _, _, _, rfl, _⟩ := h; rfl) | (obtain ⟨_, _, _, _, _, _, _, rfl, _⟩ := h; rfl) | (obtain ⟨_, _, _, _, _, _, _, _, rfl, _⟩ := h; rfl) | (obtain ⟨_, _, _, _, _, _, _, _, _, rfl, _⟩ := h; rfl) | (obtain ⟨_, _, _, _, _, _, _, _, _, _, rfl, _⟩ := h; rfl) | (obtain ⟨_, _, _, _, _, _, _, _, _, _, _, rfl, _⟩ := h; rfl)) (fun cdv A outer s H vs Q E hr h => ?_)
  refine ⟨_, pss_cons (ps_set (i := 3) sc_Pool_put.nd rfl (Or.inl rfl) (pe_dget (hu_of hr) (pe_fld (pv 0) rfl) (pv 2) (fun _ _ => rfl)))
      (pss_one (ps_expr (pe_bm PySem.F.plainAttrs_list PySem.F.slot_list_insert PySem.F.type_list_insert mt_insert (pv 3) (pa_cons (pe_call G_rank (hr.mono (by decide)) rfl T.rank.mg T.rank.fn.kp T.rank.bd .nil pass0 (pa_cons (pv 3) (pa_cons (pv 1) pa_nil))) (pa_cons (pv 1) pa_nil))))), ?_⟩
  obtain ⟨Y, d, x, k, F, rfl, po, hk, hx, hlen, q⟩ := h
  have hl := po.at_ k hk
  have lk : ((F k).map nI).length < sizeLine := by
    rw [List.length_map, sizeLine_eq]
    omega
  refine ⟨_, rfl, Y.p, a.c_Pool, Y.dp, _, _, rfl, po.ob, T.cl_Pool, T.n_Pool__places, pFs_at Y, _, rfl, Y.pd, _, rfl, dget_of po.dk (pdK_get hk), ?_⟩
  refine ⟨_, rfl, .inl ⟨rfl, _, SqL.of hl⟩, _, rfl, _, rfl, Y.ls k, x, F k, rfl, SqL.of hl, po.rise k hk, by omega, _, rfl, Y.ls k, _, _, _, rfl, rfl, hl, lk, by omega, ?_, ?_⟩
  · have := rk_le x (F k)
    have : (rk x (F k) : Int) < 2 ^ 63 := by
      show (rk x (F k) : Int) < 9223372036854775808
      omega
    exact this
  · rw [Int.toNat_natCast, ← List.map_take, ← List.map_drop]
    rw [← ins_eq (po.rise k hk) hx, List.map_append, List.map_append] at q
    exact q
theorem ok_Pool_drop (T : Txt K mg a) : FnOk P w K mg base CX0 2 a.f_Pool_drop a.d_Pool_drop ["self", "at", "size"] (sp_Pool_drop K a) := by
  have G_rank : FnOk P w K mg base CX0 1 a.f_rank a.d_rank ["places", "at"] (sp_rank K a) := ok_rank T
  refine T.Pool_drop.ok sc_Pool_drop (fun vs H Q E h => by first | (obtain ⟨rfl, _⟩ := h; rfl) | (obtain ⟨_, rfl, _⟩ := h; rfl) | (obtain ⟨_, _, rfl, _⟩ := h; rfl) | (obtain ⟨_, _, _, rfl, _⟩ := h; rfl) | (obtain ⟨_, _, _, _, rfl, _⟩ := h; rfl) | (obtain ⟨_, _, _, _, _, rfl, _⟩ := h; rfl) | (obtain ⟨_, _, _, _, _, _, rfl, _⟩ := h; rfl) | (obtain ⟨_, _, _, _, _, _, _, rfl, _⟩ := h; rfl) | (obtain ⟨_, _, _, _, _, _, _, _, rfl, _⟩ := h; rfl) | (obtain ⟨_, _, _, _, _, _, _, _, _, rfl, _⟩ := h; rfl) | (obtain ⟨_, _, _, _, _, _, _, _, _, _, rfl, _⟩ := h; rfl) | (obtain ⟨_, _, _, _, _, _, _, _, _, _, _, rfl, _⟩ := h; rfl)) (fun cdv A outer s H vs Q E hr h => ?_)
  refine ⟨_, pss_cons (ps_set (i := 3) sc_Pool_drop.nd rfl (Or.inl rfl) (pe_dget (hu_of hr) (pe_fld (pv 0) rfl) (pv 2) (fun _ _ => rfl)))
      (pss_one (ps_delL (pv 3) (pe_call G_rank (hr.mono (by decide)) rfl T.rank.mg T.rank.fn.kp T.rank.bd .nil pass0 (pa_cons (pv 3) (pa_cons (pv 1) pa_nil))))), ?_⟩
  obtain ⟨Y, d, x, k, F, rfl, po, hk, hx, q⟩ := h
  have hl := po.at_ k hk
  have rl : rk x (F k) < (F k).length := (List.getElem?_eq_some_iff.mp ((rk_at (po.rise k hk)).mpr hx)).1
  have lm := po.len k hk
  refine ⟨_, rfl, Y.p, a.c_Pool, Y.dp, _, _, rfl, po.ob, T.cl_Pool, T.n_Pool__places, pFs_at Y, _, rfl, Y.pd, _, rfl, dget_of po.dk (pdK_get hk), ?_⟩
  refine ⟨_, rfl, _, rfl, _, rfl, Y.ls k, x, F k, rfl, SqL.of hl, po.rise k hk, lm, Y.ls k, _, _, rk x (F k), rfl, rfl, hl, ?_, ?_, ?_, ?_⟩
  · show -9223372036854775808 ≤ (rk x (F k) : Int)
    omega
  · show (rk x (F k) : Int) < 9223372036854775808
    omega
  · rw [List.length_map]
    unfold seqIndex?
    simp
    omega
  · rw [← del_eq (po.rise k hk) hx, DT.map_erase] at q
    exact q
theorem ok_Pool_has (T : Txt K mg a) : FnOk P w K mg base CX0 2 a.f_Pool_has a.d_Pool_has ["self", "at", "size"] (sp_Pool_has K a) := by
  have G_rank : FnOk P w K mg base CX0 1 a.f_rank a.d_rank ["places", "at"] (sp_rank K a) := ok_rank T
  refine T.Pool_has.ok sc_Pool_has (fun vs H Q E h => by first | (obtain ⟨rfl, _⟩ := h; rfl) | (obtain ⟨_, rfl, _⟩ := h; rfl) | (obtain ⟨_, _, rfl, _⟩ := h; rfl) | (obtain ⟨_, _, _, rfl, _⟩ := h; rfl) | (obtain ⟨_, _, _, _, rfl, _⟩ := h; rfl) | (obtain ⟨_, _, _, _, _, rfl, _⟩ := h; rfl) | (obtain ⟨_, _, _, _, _, _, rfl, _⟩ := h; rfl) | (obtain ⟨_, _, _, _, _, _, _, rfl, _⟩ := h; rfl) | (obtain ⟨_, _, _, _, _, _, _, _, rfl, _⟩ := h; rfl) | (obtain ⟨_, _, _, _, _, _, _, _, _, rfl, _⟩ := h; rfl) | (obtain ⟨_, _, _, _, _, _, _, _, _, _, rfl, _⟩ := h; rfl) | (obtain ⟨_, _, _, _, _, _, _, _, _, _, _, rfl, _⟩ := h; rfl)) (fun cdv A outer s H vs Q E hr h => ?_)
  refine ⟨_, pss_cons (ps_set (i := 3) sc_Pool_has.nd rfl (Or.inl rfl) (pe_dget (hu_of hr) (pe_fld (pv 0) rfl) (pv 2) (fun _ _ => rfl)))
      (pss_cons (ps_set (i := 4) sc_Pool_has.nd rfl (Or.inl rfl) (pe_call G_rank (hr.mono (by decide)) rfl T.rank.mg T.rank.fn.kp T.rank.bd .nil pass0 (pa_cons (pv 3) (pa_cons (pv 1) pa_nil))))
      (pss_one (ps_ret (pe_and (pe_cmpR op_lt (pv 4) (pe_callB call_len_seq (by rfl) T.z_len PySem.boot_len (pa_cons (pv 3) pa_nil)) (nomark _)) (pe_one (pe_cmpR op_eq (pe_ix ix_list (pv 3) (pv 4) (fun _ _ => rfl)) (pv 1) (nomark _))))))), ?_⟩
  obtain ⟨Y, d, x, k, F, rfl, po, hk, q⟩ := h
  have hl := po.at_ k hk
  have lm := po.len k hk
  refine ⟨_, rfl, Y.p, a.c_Pool, Y.dp, _, _, rfl, po.ob, T.cl_Pool, T.n_Pool__places, pFs_at Y, _, rfl, Y.pd, _, rfl, dget_of po.dk (pdK_get hk), ?_⟩
  refine ⟨_, rfl, _, rfl, Y.ls k, x, F k, rfl, SqL.of hl, po.rise k hk, lm, ?_⟩
  refine ⟨_, rfl, _, rfl, Y.ls k, _, rfl, .inl (SqL.of hl), _, _, rfl, rfl, _, rfl, ?_⟩
  rw [List.length_map]
  by_cases c : rk x (F k) < (F k).length
  · refine iteTof (decide_eq_true (by omega)) ?_
    obtain ⟨v, hv⟩ : ∃ v, (F k)[rk x (F k)]? = some v := ⟨_, List.getElem?_eq_getElem c⟩
    refine ⟨_, rfl, _, rfl, Y.ls k, _, _, nI v, rfl, rfl, SqL.of hl, atI_nat (map_nI_get hv), _, rfl, rfl, ?_⟩
    have e : decide (nI v = nI x) = decide (x ∈ F k) := by
      rw [decide_eq_decide, ← rk_at (po.rise k hk), hv]
      constructor
      · intro z
        have z2 : (v : Int) = (x : Int) := by injection z
        have : v = x := by omega
        rw [this]
      · intro z
        rw [Option.some.inj z]
    show Q (.bl (decide (nI v = nI x))) _
    rw [e]
    exact q
  · refine iteFof (decide_eq_false (by omega)) ?_
    have e : decide (x ∈ F k) = false := by
      rw [decide_eq_false_iff_not, ← rk_at (po.rise k hk)]
      intro z
      exact c (List.getElem?_eq_some_iff.mp z).1
    rw [e] at q
    exact q
end
/-! ### Pool() -/
def pdN (n : Nat) (ls : Nat → Addr) : List (Key × V) := (List.range n).map fun j => (Sum.inl ((2 ^ j : Nat) : Int), V.ref (ls j))
theorem pdN_congr {n : Nat} {ls ls' : Nat → Addr} (h : ∀ j, j < n → ls j = ls' j) : pdN n ls = pdN n ls' := by
  unfold pdN
  refine List.map_congr_left fun j hj => ?_
  rw [h j (List.mem_range.mp hj)]
theorem pdN_none {n : Nat} {ls : Nat → Addr} : valV (pdN n ls) (Sum.inl ((2 ^ n : Nat) : Int)) = none := by
  unfold pdN
  have aux : ∀ l : List Nat, (∀ j ∈ l, j < n) → valV (l.map fun j => ((Sum.inl ((2 ^ j : Nat) : Int) : Key), V.ref (ls j))) (Sum.inl ((2 ^ n : Nat) : Int)) = none := by
    intro l
    induction l with
    | nil => intro _; rfl
    | cons x l ih =>
      intro h
      have ne : ¬ (Sum.inl ((2 ^ x : Nat) : Int) : Key) = Sum.inl ((2 ^ n : Nat) : Int) := fun q => by
        have := pow_inj (Sum.inl.inj q)
        have := h x List.mem_cons_self
        omega
      rw [List.map_cons, valV_neg ne]
      exact ih fun j hj => h j (List.mem_cons_of_mem _ hj)
  exact aux _ fun j hj => List.mem_range.mp hj
def setL (ls : Nat → Addr) (n : Nat) (l : Addr) : Nat → Addr := fun j => if j = n then l else ls j
theorem setL_at {ls : Nat → Addr} {n : Nat} {l : Addr} : setL ls n l n = l := if_pos rfl
theorem setL_ne {ls : Nat → Addr} {n j : Nat} {l : Addr} (h : j ≠ n) : setL ls n l j = ls j := if_neg h
theorem pdN_put {n : Nat} {ls : Nat → Addr} {l : Addr} : putK (pdN n ls) (Sum.inl ((2 ^ n : Nat) : Int)) (.ref l) = pdN (n + 1) (setL ls n l) := by
  rw [putK_new _ pdN_none]
  have e : pdN n ls = pdN n (setL ls n l) := pdN_congr fun j hj => (setL_ne (by omega)).symm
  rw [e]
  unfold pdN
  rw [List.range_succ, List.map_append, List.map_cons, List.map_nil, setL_at]
theorem pow60 {d : Nat} (h : d ≤ 60) : 2 ^ d ≤ 1152921504606846976 := by
  have := Nat.pow_le_pow_right (n := 2) (by decide) h
  exact this
def sp_Pool_init (K : PySem.W.Frag) (a : Ad) : Sp := fun vs H Q _ => ∃ (p dp : Addr) (d : Nat), vs = [.ref p, sI d] ∧ H p = some (.ins a.c_Pool dp []) ∧ d ≤ 60 ∧
  ∀ (pd : Addr) (ls : Nat → Addr) (H' : Hp), (∀ y sd dy, PoolAt a ⟨y, sd, p, pd, dy, dp, ls⟩ d (fun _ => []) H') → H pd = none → (∀ j, j ≤ d → H (ls j) = none) → Only [p] H H' → Q .non H'
section
variable {P : Program} {w : World} {K : PySem.W.Frag} {mg : Str → Option Value} {base : Heap} {a : Ad}
theorem ok_Pool_init (T : Txt K mg a) : FnOk P w K mg base CX0 1 a.f_Pool_init a.d_Pool_init ["self", "cells"] (sp_Pool_init K a) := by
  refine T.Pool_init.ok sc_Pool_init (fun vs H Q E h => by first | (obtain ⟨rfl, _⟩ := h; rfl) | (obtain ⟨_, rfl, _⟩ := h; rfl) | (obtain ⟨_, _, rfl, _⟩ := h; rfl) | (obtain ⟨_, _, _, rfl, _⟩ := h; rfl) | (obtain ⟨_, _, _, _, rfl, _⟩ := h; rfl) | (obtain ⟨_, _, _, _, _, rfl, _⟩ := h; rfl) | (obtain ⟨_, _, _, _, _, _, rfl, _⟩ := h; rfl) | (obtain ⟨_, _, _, _, _, _, _, rfl, _⟩ := h; rfl) | (obtain ⟨_, _, _, _, _, _, _, _, rfl, _⟩ := h; rfl) | (obtain ⟨_, _, _, _, _, _, _, _, _, rfl, _⟩ := h; rfl) | (obtain ⟨_, _, _, _, _, _, _, _, _, _, rfl, _⟩ := h; rfl) | (obtain ⟨_, _, _, _, _, _, _, _, _, _, _, rfl, _⟩ := h; rfl)) (fun cdv A outer s H vs Q E hr h => ?_)
  refine ⟨_, pss_cons (ps_fld (pv 0) pe_dnewK rfl)
      (pss_cons (ps_set (i := 2) sc_Pool_init.nd rfl (Or.inl rfl) pe_int)
      (pss_one (ps_while PassesOwn.never (pt_cmpR op_le (pv 2) (pv 1) (nomark _)) (pss_cons (ps_dput (hu_of hr) (pe_fld (pv 0) rfl) (pv 2) (pe_lst pa_nil) rfl)
      (pss_one (ps_aug (i := 2) sc_Pool_init.nd rfl (Or.inl rfl) pe_int ip_mulX)))))), ?_⟩
  obtain ⟨p, dp, d, rfl, hp, hd, q⟩ := h
  intro pd npd
  have ppd : p ≠ pd := ne_of_none hp npd
  refine ⟨_, rfl, p, a.c_Pool, dp, [], rfl, (by rw [upd_ne ppd]; exact hp), T.cl_Pool, T.n_Pool__places, (by show 0 < 1000; decide), ?_⟩
  -- between two turns
  refine while_by (fun σ H' => ∃ (n : Nat) (ls : Nat → Addr), n ≤ d + 1 ∧ σ = [some (.ref p), some (sI d), some (sI n)] ∧ H' p = some (.ins a.c_Pool dp (putF "_places" (.ref pd) [])) ∧ H' pd = some (.dK (pdN n ls)) ∧
      (∀ j, j < n → H' (ls j) = some (.lst []) ∧ H (ls j) = none) ∧ (∀ i j, i < n → j < n → ls i = ls j → i = j) ∧ Only [p] H H')
    (fun σ H' => match σ with | [_, some (.int hi), some (.int lo)] => (hi + 1 - lo).toNat | _ => 0) ⟨0, fun _ => 0, by omega, rfl, upd_same, ?_, fun j h => by omega, fun i j h => by omega, ?_⟩ ?_ ?_
  · rw [upd_ne ppd.symm, upd_same]
    rfl
  · exact (Only.new (S := [p]) _ npd).trans (Only.upd _ (by simp))
  · rintro σ H' ⟨n, ls, hn, rfl, h1, h2, h3, h4, h5⟩
    have hpn : 0 < 2 ^ n := Nat.pow_pos (by decide)
    refine ⟨_, rfl, _, rfl, _, _, rfl, rfl, _, rfl, ?_⟩
    by_cases c : n ≤ d
    · have hle : 2 ^ n ≤ 2 ^ d := Nat.pow_le_pow_right (by decide) c
      refine iteTof (decide_eq_true (by omega)) ?_
      refine ⟨by show 0 ≤ sizeLine; omega, fun l hl => ?_⟩
      have npl : p ≠ l := ne_of_none h1 hl
      have ndl : pd ≠ l := ne_of_none h2 hl
      refine ⟨_, rfl, p, a.c_Pool, dp, _, _, rfl, (by rw [upd_ne npl]; exact h1), T.cl_Pool, T.n_Pool__places, (by rw [lookup_putF, if_pos rfl]), _, rfl, pd, _, rfl, DPut.k (k := Sum.inl ((2 ^ n : Nat) : Int)) (by rw [upd_ne ndl]; exact h2) (by
        unfold pdN
        rw [List.length_map, List.length_range, sizeLine_eq]
        omega), ?_⟩
      have p60 := pow60 (show n ≤ 60 by omega)
      refine ⟨_, rfl, _, _, rfl, rfl, mulx_ok (a := 61) (b := 3) (by rw [Int.natAbs_natCast]; exact Nat.lt_of_le_of_lt p60 (by decide)) (by decide) (by decide), ?_⟩
      have ez : ((2 ^ n : Nat) : Int) * 2 = ((2 ^ (n + 1) : Nat) : Int) := by rw [Nat.pow_succ, Int.natCast_mul]; rfl
      refine ⟨⟨n + 1, setL ls n l, by omega, ?_, ?_, ?_, ?_, ?_, ?_⟩, ?_⟩
      · show [some (V.ref p), some (sI d), some (V.int (((2 ^ n : Nat) : Int) * 2))] = _
        rw [ez]
      · rw [upd_ne ppd, upd_ne npl]
        exact h1
      · rw [← pdN_put]
        exact upd_same
      · intro j hj
        by_cases e : j = n
        · subst e
          rw [setL_at]
          refine ⟨by rw [upd_ne ndl.symm]; exact upd_same, ?_⟩
          refine Classical.byContradiction fun z => ?_
          obtain ⟨o, ho⟩ := Option.ne_none_iff_exists'.mp z
          rw [h5 l o ho (by simp [npl.symm])] at hl
          cases hl
        · rw [setL_ne e]
          obtain ⟨g1, g2⟩ := h3 j (by omega)
          refine ⟨?_, g2⟩
          rw [upd_ne (ne_of g1 h2 (by intro z; cases z)), upd_ne (ne_of_none g1 hl)]
          exact g1
      · intro i j hi hj e
        have ne : ∀ m, m < n → ls m ≠ l := fun m hm z => by
          have := (h3 m hm).1
          rw [z, hl] at this
          cases this
        by_cases e1 : i = n
        · by_cases e2 : j = n
          · omega
          · rw [e1, setL_at, setL_ne e2] at e
            exact absurd e.symm (ne j (by omega))
        · by_cases e2 : j = n
          · rw [e2, setL_at, setL_ne e1] at e
            exact absurd e (ne i (by omega))
          · rw [setL_ne e1, setL_ne e2] at e
            exact h4 i j (by omega) (by omega) e
      · intro b o e nb
        have g := h5 b o e nb
        rw [upd_ne, upd_ne (ne_of_none g hl)]
        · exact g
        · exact ne_of_none e npd
      · show (((2 ^ d : Nat) : Int) + 1 - ((2 ^ n : Nat) : Int) * 2).toNat < (((2 ^ d : Nat) : Int) + 1 - ((2 ^ n : Nat) : Int)).toNat
        omega
    · have e : n = d + 1 := by omega
      subst e
      have hle : 2 ^ d < 2 ^ (d + 1) := Nat.pow_lt_pow_right (by decide) (by omega)
      refine iteFof (decide_eq_false (by omega)) ?_
      refine q pd ls H' (fun y sd dy => ⟨h1, h2, fun j hj => (h3 j (by omega)).1, fun i j hi hj => h4 i j (by omega) (by omega), fun j hj => List.Pairwise.nil, fun j hj => Nat.zero_le _, hd⟩) npd (fun j hj => (h3 j (by omega)).2) h5
  · rintro σ H' Q1 Q2 hQ ⟨v, hv, y, hy, i, j, e1, e2, k, ek, h⟩
    exact ⟨v, hv, y, hy, i, j, e1, e2, k, ek, by cases k <;> exact hQ _ _ (by simpa using h)⟩
end
/-! ### Pool.best, Pool.pieces -/
def sp_Pool_best (K : PySem.W.Frag) (a : Ad) : Sp := fun vs H Q _ => ∃ (Y : YA) (d k : Nat) (F : Nat → List Nat), vs = [.ref Y.p, sI k] ∧ PoolAt a Y d F H ∧
  ((∀ j, k ≤ j → j ≤ d → F j = []) → ∀ H', (∀ b o, H b = some o → H' b = some o) → Q .non H') ∧
  (∀ j x r, k ≤ j → j ≤ d → (∀ i, k ≤ i → i < j → F i = []) → F j = x :: r → ∀ t H', (∀ b o, H b = some o → H' b = some o) → H' t = some (.tup [nI x, sI j]) → Q (.ref t) H')
theorem pdK_at {d i : Nat} {ls : Nat → Addr} (h : i ≤ d) : (pdK d ls)[i]? = some (Sum.inl ((2 ^ i : Nat) : Int), V.ref (ls i)) := by
  unfold pdK
  rw [List.getElem?_map, List.getElem?_range (by omega)]
  rfl
theorem pdK_len {d : Nat} {ls : Nat → Addr} : (pdK d ls).length = d + 1 := by
  unfold pdK
  rw [List.length_map, List.length_range]
theorem unlock {H H' : Hp} {b : Addr} {u v : HO} (h : H b = some u) (k : ∀ c o, L2.upd H b v c = some o → H' c = some o) : ∀ c o, H c = some o → L2.upd H' b u c = some o := by
  intro c o e
  by_cases z : c = b
  · subst z
    rw [upd_same, ← e, h]
  · rw [upd_ne z]
    exact k c o (by rw [upd_ne z]; exact e)
section
variable {P : Program} {w : World} {K : PySem.W.Frag} {mg : Str → Option Value} {base : Heap} {a : Ad}
theorem ok_Pool_best (T : Txt K mg a) : FnOk P w K mg base CX0 1 a.f_Pool_best a.d_Pool_best ["self", "size"] (sp_Pool_best K a) := by
  refine T.Pool_best.ok sc_Pool_best (fun vs H Q E h => by first | (obtain ⟨rfl, _⟩ := h; rfl) | (obtain ⟨_, rfl, _⟩ := h; rfl) | (obtain ⟨_, _, rfl, _⟩ := h; rfl) | (obtain ⟨_, _, _, rfl, _⟩ := h; rfl) | (obtain ⟨_, _, _, _, rfl, _⟩ := h; rfl) | (obtain ⟨_, _, _, _, _, rfl, _⟩ := h; rfl) | (obtain ⟨_, _, _, _, _, _, rfl, _⟩ := h; rfl) | (obtain ⟨_, _, _, _, _, _, _, rfl, _⟩ := h; rfl) | (obtain ⟨_, _, _, _, _, _, _, _, rfl, _⟩ := h; rfl) | (obtain ⟨_, _, _, _, _, _, _, _, _, rfl, _⟩ := h; rfl) | (obtain ⟨_, _, _, _, _, _, _, _, _, _, rfl, _⟩ := h; rfl) | (obtain ⟨_, _, _, _, _, _, _, _, _, _, _, rfl, _⟩ := h; rfl)) (fun cdv A outer s H vs Q E hr h => ?_)
  refine ⟨_, pss_cons (ps_lock (ps_for PassesOwn.never rfl (pi_items (pe_fld (pv 0) rfl)) (pg_tup rfl (pgs_cons (pg_name (i := 2) sc_Pool_best.nd rfl (Or.inl rfl)) (pgs_cons (pg_name (i := 3) sc_Pool_best.nd rfl (Or.inl rfl)) pgs_nil))) (pss_one (ps_if (PW.pt (pw_and (pt_cmpR op_ge (pv 2) (pv 1) (nomark _)) (pw_and1 (pt_truth (pv 3) (by intro _; rfl))))) (pss_one (ps_ret (pe_tup (pa_cons (pe_ix ix_list (pv 3) pe_int (fun _ _ => rfl)) (pa_cons (pv 2) pa_nil))))) pss_nil))))
      (pss_one (ps_ret pe_non)), ?_⟩
  obtain ⟨Y, d, k, F, rfl, po, q0, q1⟩ := h
  refine ⟨Y.pd, _, po.dk, trivial, fun od => ?_⟩
  have npd : Y.p ≠ Y.pd := ne_of po.ob po.dk (by intro z; cases z)
  have nls : ∀ j, j ≤ d → Y.ls j ≠ Y.pd := fun j hj => ne_of (po.at_ j hj) po.dk (by intro z; cases z)
  refine ⟨_, rfl, Y.p, a.c_Pool, Y.dp, _, _, rfl, (by rw [upd_ne npd]; exact po.ob), T.cl_Pool, T.n_Pool__places, pFs_at Y, Y.pd, od, _, rfl, upd_same, ?_⟩
  refine for_it walk_items (fun i σ H' => (∃ x3 x4, σ = [some (.ref Y.p), some (sI k), x3, x4]) ∧ (∀ j, k ≤ j → j < i → F j = []) ∧ (∀ b o, L2.upd H Y.pd (.frz od (.dK (pdK d Y.ls))) b = some o → H' b = some o))
    ⟨⟨none, none, rfl⟩, fun j h1 h2 => by omega, fun b o e => e⟩ (fun i σ H' _ p => p.2.2 _ _ upd_same) ?_ ?_
  · rintro i x σ H1 H2 hi ⟨⟨x3, x4, rfl⟩, none_yet, same⟩ ⟨t, u, v, rfl, new, rfl, eu, ev⟩
    rw [pdK_len] at hi
    dsimp only at eu ev
    rw [pdK_at (by omega)] at eu ev
    have eu : sI i = u := Option.some.inj eu
    have ev : V.ref (Y.ls i) = v := Option.some.inj ev
    subst eu ev
    have hat : H1 (Y.ls i) = some (.lst ((F i).map nI)) := same _ _ (by rw [upd_ne (nls i (by omega))]; exact po.at_ i (by omega))
    have hpd : H1 Y.pd = some (.frz od (.dK (pdK d Y.ls))) := same _ _ upd_same
    refine ⟨t, _, rfl, SqT.of upd_same, rfl, _, _, rfl, _, _, rfl, rfl, ?_⟩
    refine ⟨_, rfl, _, rfl, _, _, rfl, rfl, _, rfl, ?_⟩
    have grow : ∀ b o, L2.upd H Y.pd (.frz od (.dK (pdK d Y.ls))) b = some o → L2.upd H1 t (.tup [sI i, .ref (Y.ls i)]) b = some o := fun b o e => by
      have z := same b o e
      rw [upd_ne (ne_of_none z new)]
      exact z
    by_cases c : k ≤ i
    · have hle : 2 ^ k ≤ 2 ^ i := Nat.pow_le_pow_right (by decide) c
      refine iteTof (decide_eq_true (show ((2 ^ i : Nat) : Int) ≥ ((2 ^ k : Nat) : Int) by omega)) ?_
      refine ⟨_, rfl, _, .inl ⟨_, SqL.of (by rw [upd_ne (ne_of_none hat new)]; exact hat), rfl⟩, ?_⟩
      cases hF : F i with
      | nil =>
        refine iteFof rfl ?_
        refine ⟨⟨_, _, rfl⟩, fun j h1 h2 => ?_, grow⟩
        by_cases e : j = i
        · rw [e]; exact hF
        · exact none_yet j h1 (by omega)
      | cons y r =>
        refine iteTof rfl ?_
        refine ⟨_, rfl, Y.ls i, _, _, nI y, rfl, rfl, SqL.of (by rw [upd_ne (ne_of_none hat new)]; exact hat), at_of (j := 0) rfl (by rw [hF]; rfl), _, rfl, by show 2 ≤ sizeLine; decide, fun t2 ht2 => ?_⟩
        have hpd2 := grow _ _ (upd_same : L2.upd H Y.pd (.frz od (.dK (pdK d Y.ls))) Y.pd = _)
        have n2 : t2 ≠ Y.pd := fun z => by rw [z, hpd2] at ht2; cases ht2
        refine ⟨by rw [upd_ne n2.symm]; exact hpd2, ?_⟩
        refine q1 i y r c (by omega) none_yet hF t2 _ (unlock (v := .frz od (.dK (pdK d Y.ls))) po.dk fun b o e => ?_) ?_
        · have z := grow b o e
          rw [upd_ne (ne_of_none z ht2)]
          exact z
        · rw [upd_ne n2]
          exact upd_same
    · have hlt : 2 ^ i < 2 ^ k := Nat.pow_lt_pow_right (by decide) (by omega)
      refine iteFof (decide_eq_false (show ¬ ((2 ^ i : Nat) : Int) ≥ ((2 ^ k : Nat) : Int) by omega)) ?_
      exact ⟨⟨_, _, rfl⟩, fun j h1 h2 => by omega, grow⟩
  · rintro σ H1 ⟨_, none_yet, same⟩
    rw [pdK_len] at none_yet
    exact ⟨same _ _ upd_same, q0 (fun j h1 h2 => none_yet j h1 (by omega)) _ (unlock (v := .frz od (.dK (pdK d Y.ls))) po.dk same)⟩
end
/-! ### Pool.pieces -/
section
variable {J : It} {n : Nat} {G : Hp → Prop} {Y : Nat → Hp → V → Hp → Prop}
/-- a walk of a comprehension, whatever its turn is -/
theorem lc_out (wk : Walk J n G Y) {H0 : Hp} {Qd : Hp → Prop} {B : (Hp → Prop) → V → Hp → Prop} (Pv : Nat → Hp → Prop) (h0 : Pv 0 H0) (hG : ∀ i H, i ≤ n → Pv i H → G H)
    (hs : ∀ i x H H', i < n → Pv i H → Y i H x H' → B (Pv (i + 1)) x H') (hd : ∀ H, Pv n H → Qd H) :
    ∃ W : Nat → Nat → Hp → Prop, (∃ m, W 0 m H0) ∧ ∀ i m H, W i m H → (J.stop i H ∧ Qd H) ∨ (J.go i H ∧ ∃ Nx : Hp → Prop, (∀ H', Nx H' → ∃ m', m' < m ∧ W (i + 1) m' H') ∧ ∀ x H', J.yld i H x H' → B Nx x H') := by
  refine ⟨fun i m H => m = n - i ∧ i ≤ n ∧ Pv i H, ⟨n, by simp, Nat.zero_le _, h0⟩, ?_⟩
  intro i m H holds
  obtain ⟨rfl, le, pv⟩ := holds
  have g := hG i H le pv
  rcases Nat.lt_or_ge i n with lt | ge
  · exact .inr ⟨wk.goes i H lt g, Pv (i + 1), fun H' pv' => ⟨n - (i + 1), by omega, rfl, lt, pv'⟩, fun x H' y => hs i x H H' lt pv (wk.yields i H x H' lt g y)⟩
  · obtain rfl : i = n := by omega
    exact .inl ⟨wk.stops H g, hd H pv⟩
end
/-- the free pieces, by rising sizes -/
def allN (n : Nat) (F : Nat → List Nat) : List PI2 := (List.range n).flatMap fun j => (F j).map fun (x : Nat) => ((x : Int), ((2 ^ j : Nat) : Int))
theorem allN_succ (n : Nat) (F : Nat → List Nat) : allN (n + 1) F = allN n F ++ (F n).map fun (x : Nat) => ((x : Int), ((2 ^ n : Nat) : Int)) := by
  unfold allN
  rw [List.range_succ, List.flatMap_append]
  simp
theorem allN_len {n b : Nat} {F : Nat → List Nat} : (∀ j, j < n → (F j).length ≤ b) → (allN n F).length ≤ n * b := by
  induction n with
  | zero => intro _; exact Nat.zero_le _
  | succ n ih =>
    intro h
    rw [allN_succ, List.length_append, List.length_map, Nat.succ_mul]
    exact Nat.add_le_add (ih fun j hj => h j (by omega)) (h n (by omega))
def sp_Pool_pieces (K : PySem.W.Frag) (a : Ad) : Sp := fun vs H Q _ => ∃ (Y : YA) (d : Nat) (F : Nat → List Nat), vs = [.ref Y.p] ∧ PoolAt a Y d F H ∧
  ∀ (l : Addr) (us : List Addr) (H' : Hp), (∀ b o, H b = some o → H' b = some o) → H l = none → H' l = some (.lst (us.map V.ref)) → Tups H' us (srt (allN (d + 1) F)) → Q (.ref l) H'
section
variable {P : Program} {w : World} {K : PySem.W.Frag} {mg : Str → Option Value} {base : Heap} {a : Ad}
theorem ok_Pool_pieces (T : Txt K mg a) : FnOk P w K mg base CX0 1 a.f_Pool_pieces a.d_Pool_pieces ["self"] (sp_Pool_pieces K a) := by
  refine T.Pool_pieces.ok sc_Pool_pieces (fun vs H Q E h => by first | (obtain ⟨rfl, _⟩ := h; rfl) | (obtain ⟨_, rfl, _⟩ := h; rfl) | (obtain ⟨_, _, rfl, _⟩ := h; rfl) | (obtain ⟨_, _, _, rfl, _⟩ := h; rfl) | (obtain ⟨_, _, _, _, rfl, _⟩ := h; rfl) | (obtain ⟨_, _, _, _, _, rfl, _⟩ := h; rfl) | (obtain ⟨_, _, _, _, _, _, rfl, _⟩ := h; rfl) | (obtain ⟨_, _, _, _, _, _, _, rfl, _⟩ := h; rfl) | (obtain ⟨_, _, _, _, _, _, _, _, rfl, _⟩ := h; rfl) | (obtain ⟨_, _, _, _, _, _, _, _, _, rfl, _⟩ := h; rfl) | (obtain ⟨_, _, _, _, _, _, _, _, _, _, rfl, _⟩ := h; rfl) | (obtain ⟨_, _, _, _, _, _, _, _, _, _, _, rfl, _⟩ := h; rfl)) (fun cdv A outer s H vs Q E hr h => ?_)
  refine ⟨_, pss_one (ps_ret (pe_callB cr_sortedTups (by rfl) T.z_sorted (by decide +kernel) (pa_cons (pe_lock (pe_lc2 (own := [("size", 1), ("places", 2), ("at", 3)]) (vs1 := [3]) (g := gTup K 2 (gCons (gName 1) (gCons (gName 2) gNil))) (g1 := gName 3) (wi1 := iList K (tVar 2)) rfl sc_Pool_pieces.nd (pi_items (pe_fld (pv 0) rfl)) (blkOk_by (own := [("size", 1), ("places", 2), ("at", 3)]) (N := ["self", "size", "places", "at"]) (sc := defScope s_Pool_pieces) (by decide +kernel)) (by decide) (fun _ _ _ _ _ => (pg_tup rfl (pgs_cons (pg_name (i := 1) sc_Pool_pieces.nd rfl (Or.inl rfl)) (pgs_cons (pg_name (i := 2) sc_Pool_pieces.nd rfl (Or.inl rfl)) pgs_nil)))) (fun _ _ _ _ _ => pts_nil) (fun _ _ _ _ _ => (pi_list (pv 2))) (fun _ _ _ _ _ => (pg_name (i := 3) sc_Pool_pieces.nd rfl (Or.inl rfl))) (fun _ _ _ _ _ => pts_nil) (fun _ _ _ _ _ => (pe_tup (pa_cons (pv 3) (pa_cons (pv 1) pa_nil)))))) pa_nil))), ?_⟩
  obtain ⟨Y, d, F, rfl, po, q⟩ := h
  have npd : Y.p ≠ Y.pd := ne_of po.ob po.dk (by intro z; cases z)
  have nls : ∀ j, j ≤ d → Y.ls j ≠ Y.pd := fun j hj => ne_of (po.at_ j hj) po.dk (by intro z; cases z)
  refine ⟨Y.pd, _, po.dk, trivial, fun od => ?_⟩
  refine ⟨_, rfl, Y.p, a.c_Pool, Y.dp, _, _, rfl, (by rw [upd_ne npd]; exact po.ob), T.cl_Pool, T.n_Pool__places, pFs_at Y, Y.pd, od, _, rfl, upd_same, fun D newD => ?_⟩
  refine lc_out walk_items (fun i H' => ∃ ts : List Addr, H' D = some (.lst (ts.map V.ref)) ∧ Tups H' ts (allN i F) ∧ (∀ b o, L2.upd H Y.pd (.frz od (.dK (pdK d Y.ls))) b = some o → H' b = some o))
    ⟨[], upd_same, .nil, fun b o e => by rw [upd_ne (ne_of_none e newD)]; exact e⟩ (fun i H' _ ⟨_, _, _, p⟩ => p _ _ upd_same) ?_ ?_
  · rintro i x H1 H2 hi ⟨ts, hD, tups, same⟩ ⟨t, u, v, rfl, new, rfl, eu, ev⟩
    rw [pdK_len] at hi
    dsimp only at eu ev
    rw [pdK_at (by omega)] at eu ev
    have eu : sI i = u := Option.some.inj eu
    have ev : V.ref (Y.ls i) = v := Option.some.inj ev
    subst eu ev
    have hat : H1 (Y.ls i) = some (.lst ((F i).map nI)) := same _ _ (by rw [upd_ne (nls i (by omega))]; exact po.at_ i (by omega))
    have keep1 : ∀ b o, H1 b = some o → L2.upd H1 t (.tup [sI i, .ref (Y.ls i)]) b = some o := fun b o e => by rw [upd_ne (ne_of_none e new)]; exact e
    refine ⟨t, _, rfl, SqT.of upd_same, rfl, _, _, rfl, _, _, rfl, rfl, rfl, ?_⟩
    refine ⟨_, rfl, Y.ls i, rfl, ⟨_, SqL.of (keep1 _ _ hat)⟩, ?_⟩
    refine lc_out walk_list (fun j H' => ∃ ts : List Addr, H' D = some (.lst (ts.map V.ref)) ∧ Tups H' ts (allN i F ++ ((F i).take j).map fun (x : Nat) => ((x : Int), ((2 ^ i : Nat) : Int))) ∧ (∀ b o, L2.upd H Y.pd (.frz od (.dK (pdK d Y.ls))) b = some o → H' b = some o))
      ⟨ts, keep1 _ _ hD, ?_, fun b o e => keep1 _ _ (same b o e)⟩ (fun j H' _ ⟨_, _, _, p⟩ => SqL.of (p _ _ (by rw [upd_ne (nls i (by omega))]; exact po.at_ i (by omega)))) ?_ ?_
    · rw [List.take_zero, List.map_nil, List.append_nil]
      exact tups.keep fun t xs e => keep1 _ _ e
    · rintro j y H3 H4 hj ⟨us, hD3, tups3, same3⟩ ⟨rfl, ey⟩
      rw [List.length_map] at hj
      obtain ⟨m, hm⟩ : ∃ m, (F i)[j]? = some m := ⟨_, List.getElem?_eq_getElem hj⟩
      rw [map_nI_get hm] at ey
      have ey := Option.some.inj ey
      subst ey
      refine ⟨rfl, ?_⟩
      refine ⟨_, rfl, _, rfl, by show 2 ≤ sizeLine; decide, fun t2 new2 => ?_⟩
      have nD : D ≠ t2 := ne_of_none hD3 new2
      refine ⟨us.map V.ref, by rw [upd_ne nD]; exact hD3, ?_, us ++ [t2], ?_, ?_, ?_⟩
      · have l1 := tups3.len
        have l2 := allN_len (n := i) (b := 200000) (F := F) fun j hj => po.len j (by omega)
        have l3 := po.len i (by omega)
        have l4 := po.d60
        rw [List.length_append, List.length_map, List.length_take] at l1
        rw [List.length_map, sizeLine_eq]
        have : i * 200000 ≤ 60 * 200000 := Nat.mul_le_mul_right _ (by omega)
        omega
      · rw [List.map_append]
        exact upd_same
      · rw [List.take_add_one, hm, Option.toList_some, List.map_append, ← List.append_assoc]
        refine Tups.snoc ?_ ?_
        · show L2.upd (L2.upd H4 t2 (.tup [nI m, sI i])) D _ t2 = _
          rw [upd_ne nD.symm]
          exact upd_same
        · refine tups3.keep fun t xs e => ?_
          rw [upd_ne (fun z => by rw [z, hD3] at e; cases e), upd_ne (ne_of_none e new2)]
          exact e
      · intro b o e
        have z := same3 b o e
        have nb : b ≠ D := fun z2 => by rw [z2, newD] at e; cases e
        rw [upd_ne nb, upd_ne (ne_of_none z new2)]
        exact z
    · rintro H3 ⟨us, hD3, tups3, same3⟩
      rw [List.length_map] at tups3
      rw [List.take_length, ← allN_succ] at tups3
      exact ⟨us, hD3, tups3, same3⟩
  · rintro H1 ⟨ts, hD, tups, same⟩
    rw [pdK_len] at tups
    have nD : D ≠ Y.pd := fun z => by rw [z, upd_same] at newD; cases newD
    refine ⟨same _ _ upd_same, D, ts, _, rfl, SqL.of (by rw [upd_ne nD]; exact hD), tups.keep fun t xs e => ?_, fun p us new tu => ?_⟩
    · rw [upd_ne (fun z => by rw [z, same _ _ upd_same] at e; cases e)]
      exact e
    · have grow := unlock (v := .frz od (.dK (pdK d Y.ls))) po.dk same
      refine q p us _ (fun b o e => ?_) ?_ upd_same tu
      · have z := grow b o e
        rw [upd_ne (ne_of_none z new)]
        exact z
      · refine Classical.byContradiction fun z => ?_
        obtain ⟨o, ho⟩ := Option.ne_none_iff_exists'.mp z
        rw [grow p o ho] at new
        cases new
end
/-! ### a yard's own objects, the sizes' defs, the halves -/
def yFs (Y : YA) (d : Nat) : List (Str × V) := putF "_pool" (.ref Y.p) (putF "_sizes" (.ref Y.sd) (putF "cells" (sI d) []))
theorem yFs_cells (Y : YA) (d : Nat) : (yFs Y d).lookup ("cells" : Str) = some (sI d) := by
  unfold yFs
  rw [lookup_putF, if_neg (by decide +kernel), lookup_putF, if_neg (by decide +kernel), lookup_putF, if_pos rfl]
theorem yFs_sizes (Y : YA) (d : Nat) : (yFs Y d).lookup ("_sizes" : Str) = some (.ref Y.sd) := by
  unfold yFs
  rw [lookup_putF, if_neg (by decide +kernel), lookup_putF, if_pos rfl]
theorem yFs_pool (Y : YA) (d : Nat) : (yFs Y d).lookup ("_pool" : Str) = some (.ref Y.p) := by
  unfold yFs
  rw [lookup_putF, if_pos rfl]
theorem yFs_no (Y : YA) (d : Nat) {m : Str} (h1 : ¬ m = "_pool") (h2 : ¬ m = "_sizes") (h3 : ¬ m = "cells") : (yFs Y d).lookup m = none := by
  unfold yFs
  rw [lookup_putF, if_neg h1, lookup_putF, if_neg h2, lookup_putF, if_neg h3]
  rfl
def YOb (a : Ad) (Y : YA) (d : Nat) (H : Hp) : Prop := H Y.y = some (.ins a.c_Yard Y.dy (yFs Y d))
def lsA (Y : YA) (d : Nat) : List Addr := (List.range (d + 1)).map Y.ls
theorem lsA_mem {Y : YA} {d j : Nat} (h : j ≤ d) : Y.ls j ∈ lsA Y d := List.mem_map.mpr ⟨j, List.mem_range.mpr (by omega), rfl⟩
theorem PoolAt.off {a : Ad} {Y : YA} {d : Nat} {F : Nat → List Nat} {H : Hp} (h : PoolAt a Y d F H) {b : Addr} {o : HO} (e : H b = some o) (n : ∀ xs, o ≠ .lst xs) : b ∉ lsA Y d := by
  intro z
  obtain ⟨j, hj, rfl⟩ := List.mem_map.mp z
  rw [h.at_ j (by have := List.mem_range.mp hj; omega)] at e
  exact n _ (Option.some.inj e).symm
theorem PoolAt.congr {a : Ad} {Y : YA} {d : Nat} {F G : Nat → List Nat} {H : Hp} (h : PoolAt a Y d F H) (e : ∀ j, j ≤ d → F j = G j) : PoolAt a Y d G H :=
  ⟨h.ob, h.dk, fun j hj => by rw [← e j hj]; exact h.at_ j hj, h.inj, fun j hj => by rw [← e j hj]; exact h.rise j hj, fun j hj => by rw [← e j hj]; exact h.len j hj, h.d60⟩
/-- how often 1 is doubled to fit w -/
def fit (w : Int) : Nat := Builtin.Int.intBits (w - 1)
theorem fit_spec {w : Int} (h1 : 1 ≤ w) (h2 : w ≤ 1152921504606846976) : fit w ≤ 60 ∧ w ≤ ((2 ^ fit w : Nat) : Int) ∧ ((2 ^ fit w : Nat) : Int) < 2 * w := by
  obtain ⟨n, rfl⟩ : ∃ n : Nat, w = (n : Int) + 1 := ⟨(w - 1).toNat, by omega⟩
  have e0 : (n : Int) + 1 - 1 = (n : Int) := by omega
  unfold fit Builtin.Int.intBits
  rw [e0]
  by_cases hn : n = 0
  · subst hn
    decide
  · rw [if_neg (by simpa using hn), Int.natAbs_natCast]
    have hlt : n < 2 ^ (n.log2 + 1) := Nat.lt_log2_self
    have hle : 2 ^ n.log2 ≤ n := Nat.log2_self_le hn
    have h60 : n < 2 ^ 60 := by
      have : (1152921504606846976 : Int) = ((2 ^ 60 : Nat) : Int) := by decide
      omega
    refine ⟨?_, by omega, ?_⟩
    · have : n.log2 < 60 := (Nat.log2_lt hn).mpr h60
      omega
    · rw [Nat.pow_succ]
      generalize 2 ^ n.log2 = z at hle
      omega
theorem fit_le {w : Int} {d : Nat} (h1 : 1 ≤ w) (h2 : w ≤ ((2 ^ d : Nat) : Int)) (hd : d ≤ 60) : fit w ≤ d := by
  have p := pow60 hd
  have f := fit_spec h1 (by omega)
  apply Classical.byContradiction
  intro z
  have : 2 ^ (d + 1) ≤ 2 ^ fit w := Nat.pow_le_pow_right (by decide) (by omega)
  rw [Nat.pow_succ] at this
  omega
def sp_size_for (K : PySem.W.Frag) (a : Ad) : Sp := fun vs H Q E => ∃ w : Int, vs = [.int w] ∧ ((w < 1 ∨ w > 1152921504606846976) → E (.ref a.c_NoWish) none H) ∧ (1 ≤ w → w ≤ 1152921504606846976 → Q (sI (fit w)) H)
def sp_twin_of (K : PySem.W.Frag) (a : Ad) : Sp := fun vs H Q _ => ∃ i k : Nat, vs = [nI (i * 2 ^ k), sI k] ∧ Q (nI (sib i * 2 ^ k)) H
/-- the upper halves of a piece of exponent m, down to k -/
def hv (x k m : Nat) : List PN := (List.range (m - k)).map fun i => (x + 2 ^ (m - 1 - i), m - 1 - i)
def toI (q : PN) : PI2 := ((q.1 : Int), ((2 ^ q.2 : Nat) : Int))
def sp_upper_halves (K : PySem.W.Frag) (a : Ad) : Sp := fun vs H Q _ => ∃ x k m : Nat, vs = [nI x, sI m, sI k] ∧ m ≤ 60 ∧
  ∀ (l : Addr) (ts : List Addr) (H' : Hp), (∀ b o, H b = some o → H' b = some o) → H l = none → (∀ t ∈ ts, H t = none) → H' l = some (.lst (ts.map V.ref)) → Tups H' ts ((hv x k m).map toI) → Q (.ref l) H'
theorem xor_pow (i k : Nat) : (i * 2 ^ k) ^^^ 2 ^ k = sib i * 2 ^ k := by
  have e : i * 2 ^ k = i <<< k := (Nat.shiftLeft_eq i k).symm
  have e1 : (2 : Nat) ^ k = 1 <<< k := by rw [Nat.shiftLeft_eq, Nat.one_mul]
  have e2 : sib i * 2 ^ k = sib i <<< k := (Nat.shiftLeft_eq _ k).symm
  rw [e, e2]
  conv => lhs; rw [e1]
  rw [← Nat.shiftLeft_xor_distrib]
  congr 1
  unfold sib
  have h1 : (i ^^^ 1) / 2 = i / 2 := by
    rw [Nat.xor_div_two]
    simp
  have h2 : (i ^^^ 1) % 2 = (i + 1) % 2 := by
    have b := Nat.testBit_xor i 1 0
    rw [Nat.testBit_zero, Nat.testBit_zero] at b
    have b1 : Nat.testBit 1 0 = true := rfl
    rw [b1] at b
    by_cases c : i % 2 = 1
    · rw [decide_eq_true c] at b
      have b' : decide ((i ^^^ 1) % 2 = 1) = false := b
      have := of_decide_eq_false b'
      omega
    · rw [decide_eq_false c] at b
      have b' : decide ((i ^^^ 1) % 2 = 1) = true := b
      have := of_decide_eq_true b'
      omega
  split <;> omega
section
variable {P : Program} {w : World} {K : PySem.W.Frag} {mg : Str → Option Value} {base : Heap} {a : Ad}
theorem ok_size_for (T : Txt K mg a) : FnOk P w K mg base (L2.CX P w) 1 a.f_size_for a.d_size_for ["want"] (sp_size_for K a) := by
  obtain ⟨tM, mM⟩ := T.v_MOST
  refine T.size_for.fn.okX sc_size_for (fun vs H Q E h => by first | (obtain ⟨rfl, _⟩ := h; rfl) | (obtain ⟨_, rfl, _⟩ := h; rfl) | (obtain ⟨_, _, rfl, _⟩ := h; rfl) | (obtain ⟨_, _, _, rfl, _⟩ := h; rfl) | (obtain ⟨_, _, _, _, rfl, _⟩ := h; rfl) | (obtain ⟨_, _, _, _, _, rfl, _⟩ := h; rfl) | (obtain ⟨_, _, _, _, _, _, rfl, _⟩ := h; rfl) | (obtain ⟨_, _, _, _, _, _, _, rfl, _⟩ := h; rfl) | (obtain ⟨_, _, _, _, _, _, _, _, rfl, _⟩ := h; rfl) | (obtain ⟨_, _, _, _, _, _, _, _, _, rfl, _⟩ := h; rfl) | (obtain ⟨_, _, _, _, _, _, _, _, _, _, rfl, _⟩ := h; rfl) | (obtain ⟨_, _, _, _, _, _, _, _, _, _, _, rfl, _⟩ := h; rfl)) (fun cdv A outer s H vs Q E hr h => ?_)
  refine ⟨_, pss_cons (ps_if (PW.pt (pw_or (pt_cmpR op_lt (pv 0) pe_int (nomark _)) (pw_or1 (pt_cmpR op_gt (pv 0) (pe_glob (v := .int 1152921504606846976) rfl mM ⟨_, rfl⟩) (nomark _))))) (pss_one (ps_raise rfl (takes_of rfl rfl rfl rfl) (pmk_own PySem.F.excBase_ValueError T.e_NoWish.x T.e_NoWish.g T.e_NoWish.k (raises_own T.e_NoWish.is.hs T.e_NoWish.t) (by exact rfl)))) pss_nil)
      (pss_one (ps_ret (pe_op op_shlN pe_int (pe_bits (pe_op op_sub (pv 0) pe_int))))), ?_⟩
  obtain ⟨x, rfl, kE, kQ⟩ := h
  refine ⟨_, rfl, _, _, rfl, rfl, _, rfl, ?_⟩
  by_cases h1 : x < 1
  · exact iteTof (decide_eq_true h1) (iteTof rfl (kE (.inl h1)))
  · refine iteFof (decide_eq_false h1) ?_
    refine ⟨_, rfl, _, _, rfl, rfl, _, rfl, ?_⟩
    by_cases h2 : x > 1152921504606846976
    · exact iteTof (decide_eq_true h2) (kE (.inr h2))
    · refine iteFof (decide_eq_false h2) ?_
      have f := fit_spec (w := x) (by omega) (by omega)
      refine ⟨_, rfl, _, _, rfl, rfl, _, rfl, 1, fit x, rfl, rfl, shl_ok (n := 1) (by decide) (by omega), ?_⟩
      have e : (1 : Int) * 2 ^ fit x = ((2 ^ fit x : Nat) : Int) := by
        rw [Int.one_mul]
        exact PySem.W.kbt_cast _
      rw [e]
      exact kQ (by omega) (by omega)
theorem ok_twin_of (T : Txt K mg a) : FnOk P w K mg base CX0 1 a.f_twin_of a.d_twin_of ["at", "size"] (sp_twin_of K a) := by
  refine T.twin_of.fn.ok sc_twin_of (fun vs H Q E h => by first | (obtain ⟨rfl, _⟩ := h; rfl) | (obtain ⟨_, rfl, _⟩ := h; rfl) | (obtain ⟨_, _, rfl, _⟩ := h; rfl) | (obtain ⟨_, _, _, rfl, _⟩ := h; rfl) | (obtain ⟨_, _, _, _, rfl, _⟩ := h; rfl) | (obtain ⟨_, _, _, _, _, rfl, _⟩ := h; rfl) | (obtain ⟨_, _, _, _, _, _, rfl, _⟩ := h; rfl) | (obtain ⟨_, _, _, _, _, _, _, rfl, _⟩ := h; rfl) | (obtain ⟨_, _, _, _, _, _, _, _, rfl, _⟩ := h; rfl) | (obtain ⟨_, _, _, _, _, _, _, _, _, rfl, _⟩ := h; rfl) | (obtain ⟨_, _, _, _, _, _, _, _, _, _, rfl, _⟩ := h; rfl) | (obtain ⟨_, _, _, _, _, _, _, _, _, _, _, rfl, _⟩ := h; rfl)) (fun cdv A outer s H vs Q E hr h => ?_)
  refine ⟨_, pss_one (ps_ret (pe_op op_xor (pv 0) (pv 1))), ?_⟩
  obtain ⟨i, k, rfl, q⟩ := h
  refine ⟨_, rfl, _, rfl, _, _, rfl, rfl, ?_⟩
  have e := Bits.bitXor_pp (x := ((i * 2 ^ k : Nat) : Int)) (y := ((2 ^ k : Nat) : Int)) (Int.natCast_nonneg _) (Int.natCast_nonneg _)
  rw [Int.toNat_natCast, Int.toNat_natCast, xor_pow] at e
  show Q (.int (Builtin.bitXor ((i * 2 ^ k : Nat) : Int) ((2 ^ k : Nat) : Int))) H
  rw [e]
  exact q
theorem ok_upper_halves (T : Txt K mg a) : FnOk P w K mg base CX0 1 a.f_upper_halves a.d_upper_halves ["at", "size", "least"] (sp_upper_halves K a) := by
  refine T.upper_halves.fn.ok sc_upper_halves (fun vs H Q E h => by first | (obtain ⟨rfl, _⟩ := h; rfl) | (obtain ⟨_, rfl, _⟩ := h; rfl) | (obtain ⟨_, _, rfl, _⟩ := h; rfl) | (obtain ⟨_, _, _, rfl, _⟩ := h; rfl) | (obtain ⟨_, _, _, _, rfl, _⟩ := h; rfl) | (obtain ⟨_, _, _, _, _, rfl, _⟩ := h; rfl) | (obtain ⟨_, _, _, _, _, _, rfl, _⟩ := h; rfl) | (obtain ⟨_, _, _, _, _, _, _, rfl, _⟩ := h; rfl) | (obtain ⟨_, _, _, _, _, _, _, _, rfl, _⟩ := h; rfl) | (obtain ⟨_, _, _, _, _, _, _, _, _, rfl, _⟩ := h; rfl) | (obtain ⟨_, _, _, _, _, _, _, _, _, _, rfl, _⟩ := h; rfl) | (obtain ⟨_, _, _, _, _, _, _, _, _, _, _, rfl, _⟩ := h; rfl)) (fun cdv A outer s H vs Q E hr h => ?_)
  refine ⟨_, pss_cons (ps_set (i := 3) sc_upper_halves.nd rfl (Or.inl rfl) (pe_lst pa_nil))
      (pss_cons (ps_while PassesOwn.never (pt_cmpR op_gt (pv 1) (pv 2) (nomark _)) (pss_cons (ps_aug (i := 1) sc_upper_halves.nd rfl (Or.inl rfl) pe_int ip_fdivW)
      (pss_one (ps_expr (pe_bm PySem.F.plainAttrs_list PySem.F.slot_list_append PySem.F.type_list_append mt_append (pv 3) (pa_cons (pe_tup (pa_cons (pe_op op_add (pv 0) (pv 1)) (pa_cons (pv 1) pa_nil))) pa_nil))))))
      (pss_one (ps_ret (pv 3)))), ?_⟩
  obtain ⟨x, k, m, rfl, hm, q⟩ := h
  refine ⟨by show 0 ≤ sizeLine; omega, fun l hl => ?_⟩
  refine while_by (fun σ H' => ∃ (n : Nat) (ts : List Addr), n ≤ m ∧ (k ≤ n ∨ n = m) ∧ σ = [some (nI x), some (sI n), some (sI k), some (.ref l)] ∧ (∀ b o, H b = some o → H' b = some o) ∧ (∀ t ∈ ts, H t = none) ∧ H' l = some (.lst (ts.map V.ref)) ∧ Tups H' ts ((hv x n m).map toI))
    (fun σ H' => match σ with | [_, some (.int n), _, _] => n.toNat | _ => 0) ⟨m, [], Nat.le_refl _, .inr rfl, rfl, fun b o e => by rw [upd_ne (ne_of_none e hl)]; exact e, fun t h => absurd h (by simp), upd_same, ?_⟩ ?_ ?_
  · unfold hv
    rw [Nat.sub_self]
    exact .nil
  · rintro σ H' ⟨n, ts, hn, hkn, rfl, same, new, hat, tups⟩
    refine ⟨_, rfl, _, rfl, _, _, rfl, rfl, _, rfl, ?_⟩
    by_cases c : k < n
    · have hp : 0 < 2 ^ (n - 1) := Nat.pow_pos (by decide)
      have e2 : 2 ^ n = 2 ^ (n - 1) * 2 := by rw [← Nat.pow_succ]; congr 1; omega
      have hlt : 2 ^ k < 2 ^ n := Nat.pow_lt_pow_right (by decide) c
      refine iteTof (decide_eq_true (show ((2 ^ n : Nat) : Int) > ((2 ^ k : Nat) : Int) by omega)) ?_
      refine ⟨_, rfl, _, _, rfl, rfl, wide_div (b := 3) (by decide) (by decide) (by decide) (by decide), ?_⟩
      have e3 : ((2 ^ n : Nat) : Int) / 2 = ((2 ^ (n - 1) : Nat) : Int) := by omega
      refine ⟨_, rfl, .inl ⟨rfl, _, SqL.of hat⟩, _, rfl, _, rfl, _, _, rfl, rfl, _, rfl, by show 2 ≤ sizeLine; decide, fun t ht => ?_⟩
      have nl : l ≠ t := ne_of_none hat ht
      have l1 := tups.len
      refine ⟨l, _, _, rfl, rfl, by rw [upd_ne nl]; exact hat, ?_, ?_⟩
      · rw [List.length_map] at l1
        unfold hv at l1
        rw [List.length_map, List.length_range] at l1
        rw [List.length_map, sizeLine_eq]
        omega
      · refine ⟨⟨n - 1, ts ++ [t], by omega, .inl (by omega), by show [some (nI x), some (V.int (((2 ^ n : Nat) : Int) / 2)), some (sI k), some (V.ref l)] = _; rw [e3], fun b o e => ?_, fun t' h' => ?_, ?_, ?_⟩, ?_⟩
        · have z := same b o e
          rw [upd_ne (fun z2 => by rw [z2, hl] at e; cases e), upd_ne (ne_of_none z ht)]
          exact z
        · rcases List.mem_append.mp h' with h' | h'
          · exact new t' h'
          · have := List.mem_singleton.mp h'
            subst this
            refine Classical.byContradiction fun z => ?_
            obtain ⟨o, ho⟩ := Option.ne_none_iff_exists'.mp z
            rw [same _ _ ho] at ht
            cases ht
        · rw [List.map_append]
          exact upd_same
        · have e4 : hv x (n - 1) m = hv x n m ++ [(x + 2 ^ (n - 1), n - 1)] := by
            unfold hv
            rw [show m - (n - 1) = m - n + 1 by omega, List.range_succ, List.map_append, List.map_cons, List.map_nil, show m - 1 - (m - n) = n - 1 by omega]
          rw [e4, List.map_append, List.map_cons, List.map_nil]
          refine Tups.snoc ?_ ?_
          · rw [upd_ne nl.symm]
            have e5 : ((x : Int) + ((2 ^ n : Nat) : Int) / 2) = ((x + 2 ^ (n - 1) : Nat) : Int) := by omega
            unfold toI
            rw [← e5, ← e3]
            exact upd_same
          · refine tups.keep fun t' xs e => ?_
            rw [upd_ne (fun z => by rw [z, hat] at e; cases e), upd_ne (ne_of_none e ht)]
            exact e
        · show (((2 ^ n : Nat) : Int) / 2).toNat < (((2 ^ n : Nat) : Int)).toNat
          omega
    · have hle : 2 ^ n ≤ 2 ^ k := Nat.pow_le_pow_right (by decide) (by omega)
      refine iteFof (decide_eq_false (show ¬ ((2 ^ n : Nat) : Int) > ((2 ^ k : Nat) : Int) by omega)) ?_
      refine ⟨_, rfl, ?_⟩
      have e : hv x n m = hv x k m := by
        rcases hkn with z | z
        · rw [show n = k by omega]
        · unfold hv
          rw [show m - n = 0 by omega, show m - k = 0 by omega]
      rw [e] at tups
      exact q l ts H' same hl new hat tups
  · rintro σ H' Q1 Q2 hQ ⟨v, hv, y, hy, i, j, e1, e2, k, ek, h⟩
    exact ⟨v, hv, y, hy, i, j, e1, e2, k, ek, by cases k <;> exact hQ _ _ (by simpa using h)⟩
end
/-! ### cutting, growing, joining -/
def cutF (F : Nat → List Nat) (x k m : Nat) : Nat → List Nat := fun j => if k ≤ j ∧ j < m then ins (x + 2 ^ j) (F j) else F j
theorem cutF_step {F : Nat → List Nat} {x k m : Nat} (h : k < m) (j : Nat) : setF (cutF F x (k + 1) m) k (ins (x + 2 ^ k) (F k)) j = cutF F x k m j := by
  unfold setF cutF
  by_cases e : j = k
  · subst e
    rw [if_pos rfl, if_pos ⟨Nat.le_refl _, h⟩]
  · rw [if_neg e]
    by_cases c : k + 1 ≤ j ∧ j < m
    · rw [if_pos c, if_pos ⟨by omega, c.2⟩]
    · rw [if_neg c, if_neg (by omega)]
theorem sib_up {x j m : Nat} (ha : x / 2 ^ m * 2 ^ m = x) (h : j < m) : sib (x / 2 ^ j) * 2 ^ j = x + 2 ^ j := by
  obtain ⟨t, rfl⟩ : ∃ t, m = j + 1 + t := ⟨m - (j + 1), by omega⟩
  have e : x = x / 2 ^ (j + 1 + t) * 2 ^ t * 2 * 2 ^ j := by
    conv => lhs; rw [← ha]
    rw [Nat.pow_add, Nat.pow_succ]
    generalize x / (2 ^ j * 2 * 2 ^ t) = z
    ac_rfl
  generalize x / 2 ^ (j + 1 + t) * 2 ^ t = z at e
  subst e
  rw [Nat.mul_div_cancel _ (Nat.pow_pos (by decide))]
  unfold sib
  rw [if_pos (by omega), Nat.succ_mul]
theorem cutF_add {F : Nat → List Nat} {x k m n : Nat} (ha : x / 2 ^ n * 2 ^ n = x) (h : m ≤ n) (j : Nat) : cutF F x k m j = addF F x k m j := by
  unfold cutF addF
  by_cases c : k ≤ j ∧ j < m
  · rw [if_pos c, if_pos c, sib_up ha (by omega)]
  · rw [if_neg c, if_neg c]
theorem hv_at {x k m i : Nat} (h : i < m - k) : (hv x k m)[i]? = some (x + 2 ^ (m - 1 - i), m - 1 - i) := by
  unfold hv
  rw [List.getElem?_map, List.getElem?_range h]
  rfl
theorem hv_len {x k m : Nat} : (hv x k m).length = m - k := by
  unfold hv
  rw [List.length_map, List.length_range]
def sp_Yard_cut (K : PySem.W.Frag) (a : Ad) : Sp := fun vs H Q _ => ∃ (Y : YA) (d x k m : Nat) (F : Nat → List Nat), vs = [.ref Y.y, nI x, sI m, sI k] ∧ YOb a Y d H ∧ PoolAt a Y d F H ∧ m ≤ d ∧
  (∀ j, k ≤ j → j < m → x + 2 ^ j ∉ F j ∧ (F j).length < 200000) ∧ ∀ H', PoolAt a Y d (cutF F x k m) H' → Only (lsA Y d) H H' → Q .non H'
section
variable {P : Program} {w : World} {K : PySem.W.Frag} {mg : Str → Option Value} {base : Heap} {a : Ad}
theorem ok_Yard_cut (T : Txt K mg a) : FnOk P w K mg base CX0 3 a.f_Yard_cut a.d_Yard_cut ["self", "at", "size", "least"] (sp_Yard_cut K a) := by
  have G_Pool_put : FnOk P w K mg base CX0 2 a.f_Pool_put a.d_Pool_put ["self", "at", "size"] (sp_Pool_put K a) := ok_Pool_put T
  have G_upper_halves : FnOk P w K mg base CX0 1 a.f_upper_halves a.d_upper_halves ["at", "size", "least"] (sp_upper_halves K a) := ok_upper_halves T
  refine T.Yard_cut.ok sc_Yard_cut (fun vs H Q E h => by first | (obtain ⟨rfl, _⟩ := h; rfl) | (obtain ⟨_, rfl, _⟩ := h; rfl) | (obtain ⟨_, _, rfl, _⟩ := h; rfl) | (obtain ⟨_, _, _, rfl, _⟩ := h; rfl) | (obtain ⟨_, _, _, _, rfl, _⟩ := h; rfl) | (obtain ⟨_, _, _, _, _, rfl, _⟩ := h; rfl) | (obtain ⟨_, _, _, _, _, _, rfl, _⟩ := h; rfl) | (obtain ⟨_, _, _, _, _, _, _, rfl, _⟩ := h; rfl) | (obtain ⟨_, _, _, _, _, _, _, _, rfl, _⟩ := h; rfl) | (obtain ⟨_, _, _, _, _, _, _, _, _, rfl, _⟩ := h; rfl) | (obtain ⟨_, _, _, _, _, _, _, _, _, _, rfl, _⟩ := h; rfl) | (obtain ⟨_, _, _, _, _, _, _, _, _, _, _, rfl, _⟩ := h; rfl)) (fun cdv A outer s H vs Q E hr h => ?_)
  refine ⟨_, pss_one (ps_for PassesOwn.never rfl (pi_list (pe_call G_upper_halves (hr.mono (by decide)) rfl T.upper_halves.mg T.upper_halves.fn.kp T.upper_halves.bd .nil pass0 (pa_cons (pv 1) (pa_cons (pv 2) (pa_cons (pv 3) pa_nil))))) (pg_tup rfl (pgs_cons (pg_name (i := 4) sc_Yard_cut.nd rfl (Or.inl rfl)) (pgs_cons (pg_name (i := 5) sc_Yard_cut.nd rfl (Or.inl rfl)) pgs_nil))) (pss_one (ps_expr (pe_meth (pe_fld (pv 0) rfl) T.cl_Pool T.m_Pool_put G_Pool_put (hr.mono (by decide)) T.b_Pool_put .nil pass0 (pa_cons (pv 4) (pa_cons (pv 5) pa_nil)))))), ?_⟩
  obtain ⟨Y, d, x, k, m, F, rfl, yo, po, hm, hF, q⟩ := h
  have d60 := po.d60
  refine ⟨_, rfl, _, rfl, _, rfl, x, k, m, rfl, by omega, fun l ts H1 same new newt hat tups => ⟨l, rfl, ⟨_, SqL.of hat⟩, ?_⟩⟩
  have nl : l ∉ lsA Y d := fun z => by
    obtain ⟨j, hj, rfl⟩ := List.mem_map.mp z
    rw [po.at_ j (by have := List.mem_range.mp hj; omega)] at new
    cases new
  have lts := tups.len
  rw [List.length_map, hv_len] at lts
  refine for_list (xs := ts.map V.ref) (fun i σ H' => (∃ x4 x5, σ = [some (.ref Y.y), some (nI x), some (sI m), some (sI k), x4, x5]) ∧ PoolAt a Y d (cutF F x (m - i) m) H' ∧ Only (lsA Y d) H1 H')
    ⟨⟨none, none, rfl⟩, ?_, Only.refl _ _⟩ (fun i σ H' _ p => SqL.of (p.2.2 _ _ hat nl)) ?_ ?_
  · refine (po.keep same).congr fun j hj => ?_
    unfold cutF
    rw [if_neg (by omega)]
  · rintro i v σ H' hv ⟨⟨x4, x5, rfl⟩, po', only⟩
    have hi := (List.getElem?_eq_some_iff.mp hv).1
    rw [List.length_map, lts] at hi
    have hh := hv_at (x := x) hi
    obtain ⟨t, ht, hat2⟩ := tups.get (i := i) (q := toI (x + 2 ^ (m - 1 - i), m - 1 - i)) (by rw [List.getElem?_map, hh]; rfl)
    rw [List.getElem?_map, ht] at hv
    have hv := Option.some.inj hv
    subst hv
    have nt : t ∉ lsA Y d := (po.keep same).off hat2 (by intro xs z; cases z)
    refine ⟨t, _, rfl, SqT.of (only _ _ hat2 nt), rfl, _, _, rfl, _, _, rfl, rfl, ?_⟩
    have yo' : YOb a Y d H' := only _ _ (same _ _ yo) ((po.keep same).off (same _ _ yo) (by intro xs z; cases z))
    have ej : m - i = m - 1 - i + 1 := by omega
    have e0 : cutF F x (m - i) m (m - 1 - i) = F (m - 1 - i) := by
      unfold cutF
      rw [if_neg (by omega)]
    obtain ⟨f1, f2⟩ := hF (m - 1 - i) (by omega) (by omega)
    refine ⟨_, rfl, Y.y, a.c_Yard, Y.dy, _, _, rfl, yo', T.cl_Yard, T.n_Yard__pool, yFs_pool Y d, Y.p, Y.dp, _, rfl, po'.ob, pFs_no Y (by decide +kernel), _, rfl, _, rfl, Y, d, x + 2 ^ (m - 1 - i), m - 1 - i, _, rfl, po', by omega, by rw [e0]; exact f1, by rw [e0]; exact f2, ?_⟩
    rw [e0]
    have r := po'.rise (m - 1 - i) (by omega)
    rw [e0] at r
    refine ⟨⟨_, _, rfl⟩, ?_, only.trans (Only.upd _ (lsA_mem (by omega)))⟩
    refine (po'.upd (by omega) (ins_rise (x := x + 2 ^ (m - 1 - i)) r) ?_).congr fun j hj => ?_
    · have : (ins (x + 2 ^ (m - 1 - i)) (F (m - 1 - i))).length = (F (m - 1 - i)).length + 1 := by
        rw [← ins_eq r f1]
        simp
        have := rk_le (x + 2 ^ (m - 1 - i)) (F (m - 1 - i))
        omega
      omega
    · rw [ej, show m - (i + 1) = m - 1 - i by omega]
      exact cutF_step (by omega) j
  · rintro σ H' ⟨_, po', only⟩
    rw [List.length_map, lts] at po'
    refine q H' (po'.congr fun j hj => ?_) ((Only.same same).trans only)
    unfold cutF
    by_cases c : k ≤ j ∧ j < m
    · rw [if_pos c, if_pos (by omega)]
    · rw [if_neg c, if_neg (by omega)]
end
/-! ### the yard's own helpers -/
def rmF (F : Nat → List Nat) (x k m : Nat) : Nat → List Nat := fun j => if k ≤ j ∧ j < m then del (x + 2 ^ j) (F j) else F j
theorem rmF_rem {F : Nat → List Nat} {x k m n : Nat} (ha : x / 2 ^ n * 2 ^ n = x) (h : m ≤ n) (j : Nat) : rmF F x k m j = remF F x k m j := by
  unfold rmF remF
  by_cases c : k ≤ j ∧ j < m
  · rw [if_pos c, if_pos c, sib_up ha (by omega)]
  · rw [if_neg c, if_neg c]
theorem rmF_step {F : Nat → List Nat} {x k m : Nat} (h : k < m) (j : Nat) : setF (rmF F x (k + 1) m) k (del (x + 2 ^ k) (F k)) j = rmF F x k m j := by
  unfold setF rmF
  by_cases e : j = k
  · subst e
    rw [if_pos rfl, if_pos ⟨Nat.le_refl _, h⟩]
  · rw [if_neg e]
    by_cases c : k + 1 ≤ j ∧ j < m
    · rw [if_pos c, if_pos ⟨by omega, c.2⟩]
    · rw [if_neg c, if_neg (by omega)]
theorem remF_step {F : Nat → List Nat} {x k m : Nat} (h : k ≤ m) (j : Nat) : setF (remF F x k m) m (del (sib (x / 2 ^ m) * 2 ^ m) (F m)) j = remF F x k (m + 1) j := by
  unfold setF remF
  by_cases e : j = m
  · subst e
    rw [if_pos rfl, if_pos ⟨h, by omega⟩]
  · rw [if_neg e]
    by_cases c : k ≤ j ∧ j < m
    · rw [if_pos c, if_pos ⟨c.1, by omega⟩]
    · rw [if_neg c, if_neg (by omega)]
theorem remF_at {F : Nat → List Nat} {x k m : Nat} : remF F x k m m = F m := by
  unfold remF
  rw [if_neg (by omega)]
theorem min_sib (x j : Nat) : min (x / 2 ^ j * 2 ^ j) (sib (x / 2 ^ j) * 2 ^ j) = x / 2 ^ (j + 1) * 2 ^ (j + 1) := by
  rw [blk_succ, Nat.pow_succ]
  generalize x / 2 ^ j = i
  have hp : 0 < 2 ^ j := Nat.pow_pos (by decide)
  have e : i / 2 * (2 ^ j * 2) = (i / 2 * 2) * 2 ^ j := by ac_rfl
  rw [e]
  unfold sib
  by_cases c : i % 2 = 0
  · rw [if_pos c, show i / 2 * 2 = i by omega, Nat.min_eq_left (Nat.mul_le_mul_right _ (by omega))]
  · rw [if_neg c, show i / 2 * 2 = i - 1 by omega, Nat.min_eq_right (Nat.mul_le_mul_right _ (by omega))]
def outI (q : PN) : Key × V := (Sum.inl (q.1 : Int), sI q.2)
theorem valV_out {d : Nat} : ∀ {os : List PN}, Good d os → ∀ {x k : Nat}, (x, k) ∈ os → valV (os.map outI) (Sum.inl (x : Int)) = some (sI k) := by
  intro os g x k m
  have aux : ∀ l : List PN, (∀ q ∈ l, q ∈ os) → (x, k) ∈ l → valV (l.map outI) (Sum.inl (x : Int)) = some (sI k) := by
    intro l
    induction l with
    | nil => intro _ z; cases z
    | cons q l ih =>
      intro sub z
      by_cases e : q.1 = x
      · have e2 := g.key (sub q List.mem_cons_self) m e
        rw [List.map_cons, valV_pos (show (outI q).1 = Sum.inl (x : Int) by unfold outI; rw [e])]
        rw [e2]
        rfl
      · rw [List.map_cons, valV_neg (show ¬ (outI q).1 = Sum.inl (x : Int) from fun w => e (by have := Sum.inl.inj w; omega))]
        refine ih (fun p hp => sub p (List.mem_cons_of_mem _ hp)) ((List.mem_cons.mp z).resolve_left fun w => e ?_)
        rw [← w]
  exact aux os (fun q h => h) m
theorem valV_out_none {os : List PN} {i : Int} (n : ∀ q ∈ os, (q.1 : Int) ≠ i) : valV (os.map outI) (Sum.inl i) = none := by
  induction os with
  | nil => rfl
  | cons q l ih =>
    rw [List.map_cons, valV_neg (show ¬ (outI q).1 = Sum.inl i from fun w => n q List.mem_cons_self (Sum.inl.inj w))]
    exact ih fun p hp => n p (List.mem_cons_of_mem _ hp)
def sp_Yard_fitting (K : PySem.W.Frag) (a : Ad) : Sp := fun vs H Q E => ∃ (Y : YA) (d : Nat) (x : Int), vs = [.ref Y.y, .int x] ∧ YOb a Y d H ∧ d ≤ 60 ∧
  (x < 1 → E (.ref a.c_NoWish) none H) ∧ (x > ((2 ^ d : Nat) : Int) → E (.ref a.c_NoRoom) none H) ∧ (1 ≤ x → x ≤ ((2 ^ d : Nat) : Int) → Q (sI (fit x)) H)
def sp_Yard_size_of (K : PySem.W.Frag) (a : Ad) : Sp := fun vs H Q E => ∃ (Y : YA) (d : Nat) (os : List PN) (x : Int), vs = [.ref Y.y, .int x] ∧ YOb a Y d H ∧ H Y.sd = some (.dK (os.map outI)) ∧ Good d os ∧
  ((∀ q ∈ os, (q.1 : Int) ≠ x) → E (.ref a.c_NotOut) none H) ∧ (∀ n k : Nat, (n, k) ∈ os → x = (n : Int) → Q (sI k) H)
def sp_Yard_grow (K : PySem.W.Frag) (a : Ad) : Sp := fun vs H Q E => ∃ (Y : YA) (d x h k : Nat) (F : Nat → List Nat), vs = [.ref Y.y, nI x, sI h, sI k] ∧ YOb a Y d H ∧ PoolAt a Y d F H ∧ k ≤ d ∧
  (¬ (x % 2 ^ k = 0 ∧ ∀ j, h ≤ j → j < k → x + 2 ^ j ∈ F j) → ∀ H', (∀ b o, H b = some o → H' b = some o) → E (.ref a.c_NoRoom) none H') ∧
  (x % 2 ^ k = 0 → (∀ j, h ≤ j → j < k → x + 2 ^ j ∈ F j) → ∀ H', PoolAt a Y d (rmF F x h k) H' → Only (lsA Y d) H H' → Q .non H')
def sp_Yard_join (K : PySem.W.Frag) (a : Ad) : Sp := fun vs H Q _ => ∃ (Y : YA) (d x k m : Nat) (F : Nat → List Nat), vs = [.ref Y.y, nI x, sI k] ∧ YOb a Y d H ∧ PoolAt a Y d F H ∧ k ≤ m ∧ m ≤ d ∧ x / 2 ^ k * 2 ^ k = x ∧
  (∀ j, k ≤ j → j < m → sib (x / 2 ^ j) * 2 ^ j ∈ F j) ∧ sib (x / 2 ^ m) * 2 ^ m ∉ F m ∧ x / 2 ^ m * 2 ^ m ∉ F m ∧ (F m).length < 200000 ∧
  ∀ H', PoolAt a Y d (setF (remF F x k m) m (ins (x / 2 ^ m * 2 ^ m) (F m))) H' → Only (lsA Y d) H H' → Q .non H'
section
variable {P : Program} {w : World} {K : PySem.W.Frag} {mg : Str → Option Value} {base : Heap} {a : Ad}
theorem ok_Yard_fitting (T : Txt K mg a) : FnOk P w K mg base (L2.CX P w) 2 a.f_Yard_fitting a.d_Yard_fitting ["self", "want"] (sp_Yard_fitting K a) := by
  have G_size_for : FnOk P w K mg base (L2.CX P w) 1 a.f_size_for a.d_size_for ["want"] (sp_size_for K a) := ok_size_for T
  refine T.Yard_fitting.okX sc_Yard_fitting (fun vs H Q E h => by first | (obtain ⟨rfl, _⟩ := h; rfl) | (obtain ⟨_, rfl, _⟩ := h; rfl) | (obtain ⟨_, _, rfl, _⟩ := h; rfl) | (obtain ⟨_, _, _, rfl, _⟩ := h; rfl) | (obtain ⟨_, _, _, _, rfl, _⟩ := h; rfl) | (obtain ⟨_, _, _, _, _, rfl, _⟩ := h; rfl) | (obtain ⟨_, _, _, _, _, _, rfl, _⟩ := h; rfl) | (obtain ⟨_, _, _, _, _, _, _, rfl, _⟩ := h; rfl) | (obtain ⟨_, _, _, _, _, _, _, _, rfl, _⟩ := h; rfl) | (obtain ⟨_, _, _, _, _, _, _, _, _, rfl, _⟩ := h; rfl) | (obtain ⟨_, _, _, _, _, _, _, _, _, _, rfl, _⟩ := h; rfl) | (obtain ⟨_, _, _, _, _, _, _, _, _, _, _, rfl, _⟩ := h; rfl)) (fun cdv A outer s H vs Q E hr h => ?_)
  refine ⟨_, pss_cons (ps_if (pt_cmpR op_gt (pv 1) (pe_fld (pv 0) rfl) (nomark _)) (pss_one (ps_raise rfl (takes_of rfl rfl rfl rfl) (pmk_own PySem.F.excBase_ValueError T.e_NoRoom.x T.e_NoRoom.g T.e_NoRoom.k (raises_own T.e_NoRoom.is.hs T.e_NoRoom.t) (by exact rfl)))) pss_nil)
      (pss_one (ps_ret (pe_call G_size_for (hr.mono (by decide)) rfl T.size_for.mg T.size_for.fn.kp T.size_for.bd .nil (passX (takes_of rfl rfl rfl rfl)) (pa_cons (pv 1) pa_nil)))), ?_⟩
  obtain ⟨Y, d, x, rfl, yo, d60, q1, q2, q3⟩ := h
  have p60 := pow60 d60
  refine ⟨_, rfl, _, rfl, Y.y, a.c_Yard, Y.dy, _, _, rfl, yo, T.cl_Yard, T.n_Yard_cells, yFs_cells Y d, _, _, rfl, rfl, _, rfl, ?_⟩
  by_cases c : x > ((2 ^ d : Nat) : Int)
  · exact iteTof (decide_eq_true c) (q2 c)
  · refine iteFof (decide_eq_false c) ?_
    refine ⟨_, rfl, x, rfl, fun z => ?_, fun z1 z2 => q3 z1 (by omega)⟩
    rcases z with z | z
    · exact q1 z
    · omega
theorem ok_Yard_size_of (T : Txt K mg a) : FnOk P w K mg base (L2.CX P w) 1 a.f_Yard_size_of a.d_Yard_size_of ["self", "at"] (sp_Yard_size_of K a) := by
  refine T.Yard_size_of.okX sc_Yard_size_of (fun vs H Q E h => by first | (obtain ⟨rfl, _⟩ := h; rfl) | (obtain ⟨_, rfl, _⟩ := h; rfl) | (obtain ⟨_, _, rfl, _⟩ := h; rfl) | (obtain ⟨_, _, _, rfl, _⟩ := h; rfl) | (obtain ⟨_, _, _, _, rfl, _⟩ := h; rfl) | (obtain ⟨_, _, _, _, _, rfl, _⟩ := h; rfl) | (obtain ⟨_, _, _, _, _, _, rfl, _⟩ := h; rfl) | (obtain ⟨_, _, _, _, _, _, _, rfl, _⟩ := h; rfl) | (obtain ⟨_, _, _, _, _, _, _, _, rfl, _⟩ := h; rfl) | (obtain ⟨_, _, _, _, _, _, _, _, _, rfl, _⟩ := h; rfl) | (obtain ⟨_, _, _, _, _, _, _, _, _, _, rfl, _⟩ := h; rfl) | (obtain ⟨_, _, _, _, _, _, _, _, _, _, _, rfl, _⟩ := h; rfl)) (fun cdv A outer s H vs Q E hr h => ?_)
  refine ⟨_, pss_cons (ps_if (pt_cmp (pc_dnotin (hu_of hr) (pv 1) (pe_fld (pv 0) rfl))) (pss_one (ps_raise rfl (takes_of rfl rfl rfl rfl) (pmk_own PySem.F.excBase_ValueError T.e_NotOut.x T.e_NotOut.g T.e_NotOut.k (raises_own T.e_NotOut.is.hs T.e_NotOut.t) (by exact rfl)))) pss_nil)
      (pss_one (ps_ret (pe_dget (hu_of hr) (pe_fld (pv 0) rfl) (pv 1) (fun _ _ => rfl)))), ?_⟩
  obtain ⟨Y, d, os, x, rfl, yo, so, g, q1, q2⟩ := h
  refine ⟨_, rfl, _, rfl, Y.y, a.c_Yard, Y.dy, _, _, rfl, yo, T.cl_Yard, T.n_Yard__sizes, yFs_sizes Y d, Y.sd, _, rfl, DGet.k (k := Sum.inl x) so, ?_⟩
  by_cases c : ∃ n k : Nat, (n, k) ∈ os ∧ x = (n : Int)
  · obtain ⟨n, k, m, rfl⟩ := c
    have e := valV_out g m
    rw [e]
    refine ⟨_, rfl, iteFof rfl ?_⟩
    exact ⟨_, rfl, Y.y, a.c_Yard, Y.dy, _, _, rfl, yo, T.cl_Yard, T.n_Yard__sizes, yFs_sizes Y d, _, rfl, Y.sd, _, rfl, dget_of so e, q2 n k m rfl⟩
  · have e : valV (os.map outI) (Sum.inl x) = none := valV_out_none fun q m z => c ⟨q.1, q.2, m, z.symm⟩
    rw [e]
    exact ⟨_, rfl, iteTof rfl (q1 fun q m z => c ⟨q.1, q.2, m, z.symm⟩)⟩
theorem ok_Yard_join (T : Txt K mg a) : FnOk P w K mg base CX0 3 a.f_Yard_join a.d_Yard_join ["self", "at", "size"] (sp_Yard_join K a) := by
  have G_Pool_drop : FnOk P w K mg base CX0 2 a.f_Pool_drop a.d_Pool_drop ["self", "at", "size"] (sp_Pool_drop K a) := ok_Pool_drop T
  have G_Pool_has : FnOk P w K mg base CX0 2 a.f_Pool_has a.d_Pool_has ["self", "at", "size"] (sp_Pool_has K a) := ok_Pool_has T
  have G_Pool_put : FnOk P w K mg base CX0 2 a.f_Pool_put a.d_Pool_put ["self", "at", "size"] (sp_Pool_put K a) := ok_Pool_put T
  have G_twin_of : FnOk P w K mg base CX0 1 a.f_twin_of a.d_twin_of ["at", "size"] (sp_twin_of K a) := ok_twin_of T
  refine T.Yard_join.ok sc_Yard_join (fun vs H Q E h => by first | (obtain ⟨rfl, _⟩ := h; rfl) | (obtain ⟨_, rfl, _⟩ := h; rfl) | (obtain ⟨_, _, rfl, _⟩ := h; rfl) | (obtain ⟨_, _, _, rfl, _⟩ := h; rfl) | (obtain ⟨_, _, _, _, rfl, _⟩ := h; rfl) | (obtain ⟨_, _, _, _, _, rfl, _⟩ := h; rfl) | (obtain ⟨_, _, _, _, _, _, rfl, _⟩ := h; rfl) | (obtain ⟨_, _, _, _, _, _, _, rfl, _⟩ := h; rfl) | (obtain ⟨_, _, _, _, _, _, _, _, rfl, _⟩ := h; rfl) | (obtain ⟨_, _, _, _, _, _, _, _, _, rfl, _⟩ := h; rfl) | (obtain ⟨_, _, _, _, _, _, _, _, _, _, rfl, _⟩ := h; rfl) | (obtain ⟨_, _, _, _, _, _, _, _, _, _, _, rfl, _⟩ := h; rfl)) (fun cdv A outer s H vs Q E hr h => ?_)
  refine ⟨_, pss_cons (ps_set (i := 3) sc_Yard_join.nd rfl (Or.inl rfl) (pe_call G_twin_of (hr.mono (by decide)) rfl T.twin_of.mg T.twin_of.fn.kp T.twin_of.bd .nil pass0 (pa_cons (pv 1) (pa_cons (pv 2) pa_nil))))
      (pss_cons (ps_while PassesOwn.never (pt_val (pe_meth (pe_fld (pv 0) rfl) T.cl_Pool T.m_Pool_has G_Pool_has (hr.mono (by decide)) T.b_Pool_has .nil pass0 (pa_cons (pv 3) (pa_cons (pv 2) pa_nil)))) (pss_cons (ps_expr (pe_meth (pe_fld (pv 0) rfl) T.cl_Pool T.m_Pool_drop G_Pool_drop (hr.mono (by decide)) T.b_Pool_drop .nil pass0 (pa_cons (pv 3) (pa_cons (pv 2) pa_nil))))
      (pss_cons (ps_set (i := 1) sc_Yard_join.nd rfl (Or.inl rfl) (pe_callB (call_min2 rfl) (by rfl) T.z_min PyProof.Rows.boot_min (pa_cons (pv 1) (pa_cons (pv 3) pa_nil))))
      (pss_cons (ps_aug (i := 2) sc_Yard_join.nd rfl (Or.inl rfl) pe_int ip_mulX)
      (pss_one (ps_set (i := 3) sc_Yard_join.nd rfl (Or.inl rfl) (pe_call G_twin_of (hr.mono (by decide)) rfl T.twin_of.mg T.twin_of.fn.kp T.twin_of.bd .nil pass0 (pa_cons (pv 1) (pa_cons (pv 2) pa_nil)))))))))
      (pss_one (ps_expr (pe_meth (pe_fld (pv 0) rfl) T.cl_Pool T.m_Pool_put G_Pool_put (hr.mono (by decide)) T.b_Pool_put .nil pass0 (pa_cons (pv 1) (pa_cons (pv 2) pa_nil)))))), ?_⟩
  obtain ⟨Y, d, x, k, m, F, rfl, yo, po, hk, hm, ha, hF, h1, h2, h3, q⟩ := h
  have d60 := po.d60
  have keep : ∀ {H'}, Only (lsA Y d) H H' → YOb a Y d H' := fun o => o _ _ yo (po.off yo (by intro xs z; cases z))
  refine ⟨_, rfl, _, rfl, x / 2 ^ k, k, by rw [ha]; rfl, ?_⟩
  refine while_by (fun σ H' => ∃ j : Nat, k ≤ j ∧ j ≤ m ∧ σ = [some (.ref Y.y), some (nI (x / 2 ^ j * 2 ^ j)), some (sI j), some (nI (sib (x / 2 ^ j) * 2 ^ j))] ∧ PoolAt a Y d (remF F x k j) H' ∧ Only (lsA Y d) H H')
    (fun σ H' => match σ with | [_, _, some (.int j), _] => (((2 ^ m : Nat) : Int) - j).toNat | _ => 0) ⟨k, Nat.le_refl _, hk, by rw [ha]; rfl, po.congr fun j hj => ?_, Only.refl _ _⟩ ?_ ?_
  · unfold remF
    rw [if_neg (by omega)]
  · rintro σ H' ⟨j, kj, jm, rfl, po', only⟩
    refine ⟨_, rfl, Y.y, a.c_Yard, Y.dy, _, _, rfl, keep only, T.cl_Yard, T.n_Yard__pool, yFs_pool Y d, Y.p, Y.dp, _, rfl, po'.ob, pFs_no Y (by decide +kernel), _, rfl, _, rfl, Y, d, sib (x / 2 ^ j) * 2 ^ j, j, _, rfl, po', by omega, ?_⟩
    rw [remF_at]
    by_cases c : j < m
    · have hin := hF j kj c
      rw [decide_eq_true hin]
      refine ⟨_, rfl, ?_⟩
      refine iteT ?_
      refine ⟨_, rfl, Y.y, a.c_Yard, Y.dy, _, _, rfl, keep only, T.cl_Yard, T.n_Yard__pool, yFs_pool Y d, Y.p, Y.dp, _, rfl, po'.ob, pFs_no Y (by decide +kernel), _, rfl, _, rfl, Y, d, sib (x / 2 ^ j) * 2 ^ j, j, _, rfl, po', by omega, by rw [remF_at]; exact hin, ?_⟩
      rw [remF_at]
      have r := po'.rise j (by omega)
      have le := po'.len j (by omega)
      rw [remF_at] at r le
      have po2 := (po'.upd (k := j) (by omega) (del_rise (x := sib (x / 2 ^ j) * 2 ^ j) r) (by have := List.length_filter_le (fun y => decide (y ≠ sib (x / 2 ^ j) * 2 ^ j)) (F j); unfold del; omega)).congr fun i hi => remF_step kj i
      have p1 : 0 < 2 ^ j := Nat.pow_pos (by decide)
      refine ⟨_, rfl, _, rfl, _, _, rfl, ?_⟩
      have pj := pow60 (show j ≤ 60 by omega)
      refine ⟨_, rfl, _, _, rfl, rfl, mulx_ok (a := 61) (b := 3) (by rw [Int.natAbs_natCast]; exact Nat.lt_of_le_of_lt pj (by decide)) (by decide) (by decide), ?_⟩
      have em : (if ((sib (x / 2 ^ j) * 2 ^ j : Nat) : Int) < ((x / 2 ^ j * 2 ^ j : Nat) : Int) then ((sib (x / 2 ^ j) * 2 ^ j : Nat) : Int) else ((x / 2 ^ j * 2 ^ j : Nat) : Int)) = ((x / 2 ^ (j + 1) * 2 ^ (j + 1) : Nat) : Int) := by
        rw [← min_sib]
        by_cases z : sib (x / 2 ^ j) * 2 ^ j < x / 2 ^ j * 2 ^ j
        · rw [if_pos (by omega), Nat.min_eq_right (by omega)]
        · rw [if_neg (by omega), Nat.min_eq_left (by omega)]
      have ez : ((2 ^ j : Nat) : Int) * 2 = ((2 ^ (j + 1) : Nat) : Int) := by rw [Nat.pow_succ, Int.natCast_mul]; rfl
      have only2 : Only (lsA Y d) H (L2.upd H' (Y.ls j) (.lst ((del (sib (x / 2 ^ j) * 2 ^ j) (F j)).map nI))) := only.trans (Only.upd _ (lsA_mem (by omega)))
      refine ⟨_, rfl, _, rfl, x / 2 ^ (j + 1), j + 1, ?_, ?_⟩
      · show [V.int (if ((sib (x / 2 ^ j) * 2 ^ j : Nat) : Int) < ((x / 2 ^ j * 2 ^ j : Nat) : Int) then ((sib (x / 2 ^ j) * 2 ^ j : Nat) : Int) else ((x / 2 ^ j * 2 ^ j : Nat) : Int)), V.int (((2 ^ j : Nat) : Int) * 2)] = [V.int ((x / 2 ^ (j + 1) * 2 ^ (j + 1) : Nat) : Int), sI (j + 1)]
        rw [em, ez]
      · refine ⟨⟨j + 1, by omega, by omega, ?_, po2, only2⟩, ?_⟩
        · show [some (V.ref Y.y), some (V.int (if ((sib (x / 2 ^ j) * 2 ^ j : Nat) : Int) < ((x / 2 ^ j * 2 ^ j : Nat) : Int) then ((sib (x / 2 ^ j) * 2 ^ j : Nat) : Int) else ((x / 2 ^ j * 2 ^ j : Nat) : Int))), some (V.int (((2 ^ j : Nat) : Int) * 2)), some (nI (sib (x / 2 ^ (j + 1)) * 2 ^ (j + 1)))] = _
          rw [em, ez]
          rfl
        · show (((2 ^ m : Nat) : Int) - ((2 ^ j : Nat) : Int) * 2).toNat < (((2 ^ m : Nat) : Int) - ((2 ^ j : Nat) : Int)).toNat
          have : 2 ^ j < 2 ^ m := Nat.pow_lt_pow_right (by decide) c
          omega
    · have e : j = m := by omega
      subst e
      rw [decide_eq_false h1]
      refine ⟨_, rfl, ?_⟩
      refine iteF ?_
      have r := po'.rise j (by omega)
      rw [remF_at] at r
      refine ⟨_, rfl, Y.y, a.c_Yard, Y.dy, _, _, rfl, keep only, T.cl_Yard, T.n_Yard__pool, yFs_pool Y d, Y.p, Y.dp, _, rfl, po'.ob, pFs_no Y (by decide +kernel), _, rfl, _, rfl, Y, d, x / 2 ^ j * 2 ^ j, j, _, rfl, po', by omega, by rw [remF_at]; exact h2, by rw [remF_at]; exact h3, ?_⟩
      rw [remF_at]
      refine q _ (po'.upd (by omega) (ins_rise r) ?_) (only.trans (Only.upd _ (lsA_mem (by omega))))
      have : (ins (x / 2 ^ j * 2 ^ j) (F j)).length = (F j).length + 1 := by
        rw [← ins_eq r h2]
        simp
        have := rk_le (x / 2 ^ j * 2 ^ j) (F j)
        omega
      omega
  · rintro σ H' Q1 Q2 hQ ⟨v, hv, y, C, dx, fs, u, e1, e2, e3, e4, e5, p, dp, gs, e6, e7, e8, v2, hv2, v3, hv3, Z, d2, x2, k2, F2, e9, e10, e11, b, e12, e13⟩
    exact ⟨v, hv, y, C, dx, fs, u, e1, e2, e3, e4, e5, p, dp, gs, e6, e7, e8, v2, hv2, v3, hv3, Z, d2, x2, k2, F2, e9, e10, e11, b, e12, hQ _ _ e13⟩
end
/-! ### the yard -/
structure YardAt (a : Ad) (Y : YA) (d : Nat) (os : List PN) (H : Hp) : Prop where
  yo : YOb a Y d H
  so : H Y.sd = some (.dK (os.map outI))
  po : PoolAt a Y d (frl (Oc os) d) H
  good : Good d os
  few : os.length ≤ 100000
  ne : Y.pd ≠ Y.sd
/-- what changes in a yard's deeds -/
def own (Y : YA) (d : Nat) : List Addr := Y.sd :: lsA Y d
theorem YardAt.keep {a : Ad} {Y : YA} {d : Nat} {os : List PN} {H H' : Hp} (h : YardAt a Y d os H) (k : ∀ b o, H b = some o → H' b = some o) : YardAt a Y d os H' := ⟨k _ _ h.yo, k _ _ h.so, h.po.keep k, h.good, h.few, h.ne⟩
theorem YardAt.off {a : Ad} {Y : YA} {d : Nat} {os : List PN} {H : Hp} (h : YardAt a Y d os H) {b : Addr} {o : HO} (e : H b = some o) (n : ∀ xs, o ≠ .lst xs) (n2 : ∀ xs, o ≠ .dK xs) : b ∉ own Y d := by
  intro z
  rcases List.mem_cons.mp z with z | z
  · rw [z, h.so] at e
    exact n2 _ (Option.some.inj e).symm
  · exact h.po.off e n z
theorem YardAt.new {a : Ad} {Y : YA} {d : Nat} {os : List PN} {H : Hp} (h : YardAt a Y d os H) {b : Addr} (e : H b = none) : b ∉ own Y d := by
  intro z
  rcases List.mem_cons.mp z with z | z
  · rw [z, h.so] at e
    cases e
  · obtain ⟨j, hj, rfl⟩ := List.mem_map.mp z
    rw [h.po.at_ j (by have := List.mem_range.mp hj; omega)] at e
    cases e
theorem lsA_own {Y : YA} {d : Nat} : ∀ b, b ∈ lsA Y d → b ∈ own Y d := fun b h => List.mem_cons_of_mem _ h
theorem YardAt.dne {a : Ad} {Y : YA} {d : Nat} {os : List PN} {H : Hp} (h : YardAt a Y d os H) : Y.sd ∉ lsA Y d := h.po.off h.so (by intro xs z; cases z)
/-- which piece a wish of exponent k is given from -/
structure Best (os : List PN) (d k m n : Nat) : Prop where
  le : k ≤ m
  mx : Mx (Oc os) d m (n / 2 ^ m)
  al : n / 2 ^ m * 2 ^ m = n
  small : ∀ j i, k ≤ j → j < m → ¬ Mx (Oc os) d j i
  first : ∀ i, Mx (Oc os) d m i → n ≤ i * 2 ^ m
theorem frl_nil {O : Nat → Prop} {d j : Nat} : frl O d j = [] ↔ ∀ i, ¬ Mx O d j i := by
  constructor
  · intro h i z
    have := frl_mem'.mpr z
    rw [h] at this
    cases this
  · intro h
    cases e : frl O d j with
    | nil => rfl
    | cons y r =>
      obtain ⟨i, _, z⟩ := frl_mem.mp (show y ∈ frl O d j by rw [e]; exact List.mem_cons_self)
      exact absurd z (h i)
theorem Best.lt {os : List PN} {d k m n : Nat} (b : Best os d k m n) : n < 2 ^ d := by
  have h := b.mx.2.1
  have e := b.al
  have p : 0 < 2 ^ m := Nat.pow_pos (by decide)
  have e2 : 2 ^ d = 2 ^ (d - m) * 2 ^ m := by rw [← Nat.pow_add, show d - m + m = d by have := b.mx.1; omega]
  rw [← e, e2]
  exact Nat.mul_lt_mul_of_pos_right h p
theorem al_down {n k m : Nat} (h : n / 2 ^ m * 2 ^ m = n) (l : k ≤ m) : n / 2 ^ k * 2 ^ k = n := by
  apply Nat.div_mul_cancel
  exact Nat.dvd_trans (Nat.pow_dvd_pow 2 l) ⟨n / 2 ^ m, by rw [Nat.mul_comm]; exact h.symm⟩
/-- a piece that is out lies in a whole free one of what is out besides -/
theorem out_mx {d : Nat} {os : List PN} {x k : Nat} (g : Good d os) (m : (x, k) ∈ os) : ∃ K, k ≤ K ∧ Mx (Oc (outs os x)) d K (x / 2 ^ K) :=
  mx_exists (g.each _ m).2.2 _ k rfl (g.each _ m).1 (fr_outs g m)
theorem toI_ent (os : List PN) : os.map outI = (os.map toI).map entI := by
  rw [List.map_map]
  rfl
def outZ (os : List PN) : List PI2 := srt (os.map toI)
noncomputable def frees (os : List PN) (d : Nat) : List PI2 := srt (allN (d + 1) (frl (Oc os) d))
/-- a piece can get the exponent k -/
def Fits (os : List PN) (n k : Nat) : Prop := n / 2 ^ k * 2 ^ k = n ∧ Fr (Oc (outs os n)) k (n / 2 ^ k)
def sp_is_size (K : PySem.W.Frag) (a : Ad) : Sp := fun vs H Q _ => ∃ x : Int, vs = [.int x] ∧ ((∃ k : Nat, k ≤ 60 ∧ x = ((2 ^ k : Nat) : Int)) → Q (.bl true) H) ∧ ((¬ ∃ k : Nat, k ≤ 60 ∧ x = ((2 ^ k : Nat) : Int)) → Q (.bl false) H)
def sp_Yard_init (K : PySem.W.Frag) (a : Ad) : Sp := fun vs H Q E => ∃ (y dy : Addr) (x : Int), vs = [.ref y, .int x] ∧ H y = some (.ins a.c_Yard dy []) ∧
  ((¬ ∃ k : Nat, k ≤ 60 ∧ x = ((2 ^ k : Nat) : Int)) → E (.ref a.c_NoYard) none H) ∧
  (∀ d : Nat, d ≤ 60 → x = ((2 ^ d : Nat) : Int) → ∀ (Y : YA) (H' : Hp), Y.y = y → YardAt a Y d [] H' → (∀ b ∈ own Y d, H b = none) → Only [y] H H' → Q .non H')
def sp_Yard_give (K : PySem.W.Frag) (a : Ad) : Sp := fun vs H Q E => ∃ (Y : YA) (d : Nat) (os : List PN) (x : Int), vs = [.ref Y.y, .int x] ∧ YardAt a Y d os H ∧ os.length < 100000 ∧
  (x < 1 → E (.ref a.c_NoWish) none H) ∧
  (1 ≤ x → (x > ((2 ^ d : Nat) : Int) ∨ ∀ j i, fit x ≤ j → ¬ Mx (Oc os) d j i) → ∀ H', (∀ b o, H b = some o → H' b = some o) → E (.ref a.c_NoRoom) none H') ∧
  (1 ≤ x → x ≤ ((2 ^ d : Nat) : Int) → ∀ m n, Best os d (fit x) m n → ∀ H', YardAt a Y d (os ++ [(n, fit x)]) H' → Only (own Y d) H H' → Q (nI n) H')
def sp_Yard_take_back (K : PySem.W.Frag) (a : Ad) : Sp := fun vs H Q E => ∃ (Y : YA) (d : Nat) (os : List PN) (x : Int), vs = [.ref Y.y, .int x] ∧ YardAt a Y d os H ∧
  ((∀ q ∈ os, (q.1 : Int) ≠ x) → E (.ref a.c_NotOut) none H) ∧
  (∀ n k : Nat, (n, k) ∈ os → x = (n : Int) → ∀ H', YardAt a Y d (outs os n) H' → Only (own Y d) H H' → Q (sI k) H')
def sp_Yard_resize (K : PySem.W.Frag) (a : Ad) : Sp := fun vs H Q E => ∃ (Y : YA) (d : Nat) (os : List PN) (x x2 : Int), vs = [.ref Y.y, .int x, .int x2] ∧ YardAt a Y d os H ∧
  ((∀ q ∈ os, (q.1 : Int) ≠ x) → E (.ref a.c_NotOut) none H) ∧
  (∀ n h : Nat, (n, h) ∈ os → x = (n : Int) → (x2 < 1 → E (.ref a.c_NoWish) none H) ∧
    (1 ≤ x2 → (x2 > ((2 ^ d : Nat) : Int) ∨ ¬ Fits os n (fit x2)) → ∀ H', (∀ b o, H b = some o → H' b = some o) → E (.ref a.c_NoRoom) none H') ∧
    (1 ≤ x2 → x2 ≤ ((2 ^ d : Nat) : Int) → Fits os n (fit x2) → ∀ H', YardAt a Y d (outr os n (fit x2)) H' → Only (own Y d) H H' → Q (sI (fit x2)) H'))
def sp_Yard_free (K : PySem.W.Frag) (a : Ad) : Sp := fun vs H Q _ => ∃ (Y : YA) (d : Nat) (os : List PN), vs = [.ref Y.y] ∧ YardAt a Y d os H ∧
  ∀ (l : Addr) (us : List Addr) (H' : Hp), (∀ b o, H b = some o → H' b = some o) → H l = none → H' l = some (.lst (us.map V.ref)) → Tups H' us (frees os d) → Q (.ref l) H'
def sp_Yard_out (K : PySem.W.Frag) (a : Ad) : Sp := fun vs H Q _ => ∃ (Y : YA) (d : Nat) (os : List PN), vs = [.ref Y.y] ∧ YardAt a Y d os H ∧
  ∀ (l : Addr) (us : List Addr) (H' : Hp), (∀ b o, H b = some o → H' b = some o) → H l = none → H' l = some (.lst (us.map V.ref)) → Tups H' us (outZ os) → Q (.ref l) H'
def sp_Yard_owner (K : PySem.W.Frag) (a : Ad) : Sp := fun vs H Q _ => ∃ (Y : YA) (d : Nat) (os : List PN) (c : Int), vs = [.ref Y.y, .int c] ∧ YardAt a Y d os H ∧
  ((∀ q ∈ os, ¬ ((q.1 : Int) ≤ c ∧ c < (q.1 : Int) + ((2 ^ q.2 : Nat) : Int))) → Q .non H) ∧ (∀ q ∈ os, (q.1 : Int) ≤ c → c < (q.1 : Int) + ((2 ^ q.2 : Nat) : Int) → Q (nI q.1) H)
theorem and_pred {n : Nat} (h : 0 < n) : n &&& (n - 1) = 0 ↔ ∃ k, n = 2 ^ k := by
  constructor
  · intro z
    refine ⟨n.log2, ?_⟩
    apply Classical.byContradiction
    intro ne
    have h1 : 2 ^ n.log2 ≤ n := Nat.log2_self_le (by omega)
    have h2 : n < 2 ^ (n.log2 + 1) := Nat.lt_log2_self
    have b1 : n.testBit n.log2 = true := Nat.testBit_of_two_pow_le_and_two_pow_add_one_gt h1 h2
    have b2 : (n - 1).testBit n.log2 = true := Nat.testBit_of_two_pow_le_and_two_pow_add_one_gt (by omega) (by omega)
    have b3 := Nat.testBit_and n (n - 1) n.log2
    rw [z, b1, b2] at b3
    simp at b3
  · rintro ⟨k, rfl⟩
    rw [Nat.and_two_pow_sub_one_eq_mod, Nat.mod_self]
section
variable {P : Program} {w : World} {K : PySem.W.Frag} {mg : Str → Option Value} {base : Heap} {a : Ad}
theorem ok_is_size (T : Txt K mg a) : FnOk P w K mg base CX0 1 a.f_is_size a.d_is_size ["number"] (sp_is_size K a) := by
  obtain ⟨tM, mM⟩ := T.v_MOST
  refine T.is_size.fn.ok sc_is_size (fun vs H Q E h => by first | (obtain ⟨rfl, _⟩ := h; rfl) | (obtain ⟨_, rfl, _⟩ := h; rfl) | (obtain ⟨_, _, rfl, _⟩ := h; rfl) | (obtain ⟨_, _, _, rfl, _⟩ := h; rfl) | (obtain ⟨_, _, _, _, rfl, _⟩ := h; rfl) | (obtain ⟨_, _, _, _, _, rfl, _⟩ := h; rfl) | (obtain ⟨_, _, _, _, _, _, rfl, _⟩ := h; rfl) | (obtain ⟨_, _, _, _, _, _, _, rfl, _⟩ := h; rfl) | (obtain ⟨_, _, _, _, _, _, _, _, rfl, _⟩ := h; rfl) | (obtain ⟨_, _, _, _, _, _, _, _, _, rfl, _⟩ := h; rfl) | (obtain ⟨_, _, _, _, _, _, _, _, _, _, rfl, _⟩ := h; rfl) | (obtain ⟨_, _, _, _, _, _, _, _, _, _, _, rfl, _⟩ := h; rfl)) (fun cdv A outer s H vs Q E hr h => ?_)
  refine ⟨_, pss_one (ps_ret (pe_and (pe_chain op_le op_le pe_int (pv 0) (pe_glob (v := .int 1152921504606846976) rfl mM ⟨_, rfl⟩)) (pe_one (pe_cmpR op_eq (pe_op op_and (pv 0) (pe_op op_sub (pv 0) pe_int)) pe_int (nomark _))))), ?_⟩
  obtain ⟨x, rfl, q1, q2⟩ := h
  refine ⟨_, rfl, _, _, rfl, rfl, _, rfl, ?_⟩
  by_cases c1 : 1 ≤ x
  · refine iteTof (decide_eq_true c1) ?_
    by_cases c2 : x ≤ 1152921504606846976
    · refine ⟨_, _, rfl, rfl, _, rfl, iteTof (decide_eq_true c2) ?_⟩
      obtain ⟨n, rfl⟩ : ∃ n : Nat, x = (n : Int) := ⟨x.toNat, by omega⟩
      refine ⟨_, rfl, _, rfl, _, _, rfl, rfl, _, _, rfl, rfl, rfl, ?_⟩
      have e : Builtin.bitAnd (n : Int) ((n : Int) - 1) = ((n &&& (n - 1) : Nat) : Int) := by
        rw [show (n : Int) - 1 = ((n - 1 : Nat) : Int) by omega, PyProof.Rows.bitAnd_pp (Int.natCast_nonneg _) (Int.natCast_nonneg _), Int.toNat_natCast, Int.toNat_natCast]
      show Q (.bl (decide (V.int (Builtin.bitAnd (n : Int) ((n : Int) - 1)) = V.int 0))) H
      rw [e]
      by_cases c3 : n &&& (n - 1) = 0
      · rw [c3, decide_eq_true (show V.int ((0 : Nat) : Int) = V.int 0 from rfl)]
        obtain ⟨k, hk⟩ := (and_pred (by omega)).mp c3
        refine q1 ⟨k, ?_, by rw [hk]⟩
        apply Classical.byContradiction
        intro z
        have : 2 ^ 61 ≤ 2 ^ k := Nat.pow_le_pow_right (by decide) (by omega)
        have h61 : (2 : Nat) ^ 61 = 2305843009213693952 := by decide
        omega
      · rw [decide_eq_false (fun z => c3 (by have : ((n &&& (n - 1) : Nat) : Int) = 0 := (by injection z); omega))]
        refine q2 fun ⟨k, _, hk⟩ => c3 ((and_pred (by omega)).mpr ⟨k, by omega⟩)
    · refine ⟨_, _, rfl, rfl, _, rfl, iteFof (decide_eq_false c2) ?_⟩
      refine q2 fun ⟨k, hk, e⟩ => c2 ?_
      have := pow60 hk
      omega
  · refine iteFof (decide_eq_false c1) ?_
    refine ⟨_, rfl, iteF (q2 fun ⟨k, _, e⟩ => c1 ?_)⟩
    have : 0 < 2 ^ k := Nat.pow_pos (by decide)
    omega
theorem ok_Yard_free (T : Txt K mg a) : FnOk P w K mg base CX0 2 a.f_Yard_free a.d_Yard_free ["self"] (sp_Yard_free K a) := by
  have G_Pool_pieces : FnOk P w K mg base CX0 1 a.f_Pool_pieces a.d_Pool_pieces ["self"] (sp_Pool_pieces K a) := ok_Pool_pieces T
  refine T.Yard_free.ok sc_Yard_free (fun vs H Q E h => by first | (obtain ⟨rfl, _⟩ := h; rfl) | (obtain ⟨_, rfl, _⟩ := h; rfl) | (obtain ⟨_, _, rfl, _⟩ := h; rfl) | (obtain ⟨_, _, _, rfl, _⟩ := h; rfl) | (obtain ⟨_, _, _, _, rfl, _⟩ := h; rfl) | (obtain ⟨_, _, _, _, _, rfl, _⟩ := h; rfl) | (obtain ⟨_, _, _, _, _, _, rfl, _⟩ := h; rfl) | (obtain ⟨_, _, _, _, _, _, _, rfl, _⟩ := h; rfl) | (obtain ⟨_, _, _, _, _, _, _, _, rfl, _⟩ := h; rfl) | (obtain ⟨_, _, _, _, _, _, _, _, _, rfl, _⟩ := h; rfl) | (obtain ⟨_, _, _, _, _, _, _, _, _, _, rfl, _⟩ := h; rfl) | (obtain ⟨_, _, _, _, _, _, _, _, _, _, _, rfl, _⟩ := h; rfl)) (fun cdv A outer s H vs Q E hr h => ?_)
  refine ⟨_, pss_one (ps_ret (pe_meth0 (pe_fld (pv 0) rfl) T.cl_Pool T.m_Pool_pieces G_Pool_pieces (hr.mono (by decide)) T.b_Pool_pieces .nil pass0)), ?_⟩
  obtain ⟨Y, d, os, rfl, ya, q⟩ := h
  refine ⟨_, rfl, Y.y, a.c_Yard, Y.dy, _, _, rfl, ya.yo, T.cl_Yard, T.n_Yard__pool, yFs_pool Y d, Y.p, Y.dp, _, rfl, ya.po.ob, pFs_no Y (by decide +kernel), Y, d, _, rfl, ya.po, ?_⟩
  exact q
theorem ok_Yard_out (T : Txt K mg a) : FnOk P w K mg base CX0 1 a.f_Yard_out a.d_Yard_out ["self"] (sp_Yard_out K a) := by
  refine T.Yard_out.ok sc_Yard_out (fun vs H Q E h => by first | (obtain ⟨rfl, _⟩ := h; rfl) | (obtain ⟨_, rfl, _⟩ := h; rfl) | (obtain ⟨_, _, rfl, _⟩ := h; rfl) | (obtain ⟨_, _, _, rfl, _⟩ := h; rfl) | (obtain ⟨_, _, _, _, rfl, _⟩ := h; rfl) | (obtain ⟨_, _, _, _, _, rfl, _⟩ := h; rfl) | (obtain ⟨_, _, _, _, _, _, rfl, _⟩ := h; rfl) | (obtain ⟨_, _, _, _, _, _, _, rfl, _⟩ := h; rfl) | (obtain ⟨_, _, _, _, _, _, _, _, rfl, _⟩ := h; rfl) | (obtain ⟨_, _, _, _, _, _, _, _, _, rfl, _⟩ := h; rfl) | (obtain ⟨_, _, _, _, _, _, _, _, _, _, rfl, _⟩ := h; rfl) | (obtain ⟨_, _, _, _, _, _, _, _, _, _, _, rfl, _⟩ := h; rfl)) (fun cdv A outer s H vs Q E hr h => ?_)
  refine ⟨_, pss_one (ps_ret (pe_callB (cr_sortedView rfl) (by rfl) T.z_sorted (by decide +kernel) (pa_cons (pe_bm0 PySem.F.plainAttrs_dict PySem.F.slot_dict_items PySem.F.type_dict_items mt_itemsK (pe_fld (pv 0) rfl)) pa_nil))), ?_⟩
  obtain ⟨Y, d, os, rfl, ya, q⟩ := h
  refine ⟨_, rfl, Y.y, a.c_Yard, Y.dy, _, _, rfl, ya.yo, T.cl_Yard, T.n_Yard__sizes, yFs_sizes Y d, .inr (.inr (.inl ⟨rfl, .inl ⟨_, ya.so⟩⟩)), Y.sd, _, rfl, rfl, ya.so, fun p new => ?_⟩
  have sne : Y.sd ≠ p := ne_of_none ya.so new
  refine ⟨p, Y.sd, os.map toI, rfl, upd_same, by rw [upd_ne sne, ya.so, toI_ent], fun H' l ts keep newl hat tups => ?_⟩
  have k0 : ∀ b o, H b = some o → H' b = some o := fun b o e => keep b o (by rw [upd_ne (ne_of_none e new)]; exact e)
  refine q l ts H' k0 ?_ hat tups
  refine Classical.byContradiction fun z => ?_
  obtain ⟨o, ho⟩ := Option.ne_none_iff_exists'.mp z
  rw [upd_ne (ne_of_none ho new), ho] at newl
  cases newl
theorem ok_Yard_owner (T : Txt K mg a) : FnOk P w K mg base CX0 1 a.f_Yard_owner a.d_Yard_owner ["self", "cell"] (sp_Yard_owner K a) := by
  refine T.Yard_owner.ok sc_Yard_owner (fun vs H Q E h => by first | (obtain ⟨rfl, _⟩ := h; rfl) | (obtain ⟨_, rfl, _⟩ := h; rfl) | (obtain ⟨_, _, rfl, _⟩ := h; rfl) | (obtain ⟨_, _, _, rfl, _⟩ := h; rfl) | (obtain ⟨_, _, _, _, rfl, _⟩ := h; rfl) | (obtain ⟨_, _, _, _, _, rfl, _⟩ := h; rfl) | (obtain ⟨_, _, _, _, _, _, rfl, _⟩ := h; rfl) | (obtain ⟨_, _, _, _, _, _, _, rfl, _⟩ := h; rfl) | (obtain ⟨_, _, _, _, _, _, _, _, rfl, _⟩ := h; rfl) | (obtain ⟨_, _, _, _, _, _, _, _, _, rfl, _⟩ := h; rfl) | (obtain ⟨_, _, _, _, _, _, _, _, _, _, rfl, _⟩ := h; rfl) | (obtain ⟨_, _, _, _, _, _, _, _, _, _, _, rfl, _⟩ := h; rfl)) (fun cdv A outer s H vs Q E hr h => ?_)
  refine ⟨_, pss_cons (ps_set (i := 2) sc_Yard_owner.nd rfl (Or.inl rfl) pe_int)
      (pss_cons (ps_while PassesOwn.never (pt_cmpR op_le (pv 2) (pe_fld (pv 0) rfl) (nomark _)) (pss_cons (ps_set (i := 3) sc_Yard_owner.nd rfl (Or.inl rfl) (pe_op op_sub (pv 1) (pe_op op_modN (pv 1) (pv 2))))
      (pss_cons (ps_if (pt_cmpR op_eq (pe_dget1 (hu_of hr) (pe_fld (pv 0) rfl) (pv 3) ⟨rfl, rfl, rfl, rfl⟩) (pv 2) (nomark _)) (pss_one (ps_ret (pv 3))) pss_nil)
      (pss_one (ps_aug (i := 2) sc_Yard_owner.nd rfl (Or.inl rfl) pe_int ip_mulX)))))
      (pss_one (ps_ret pe_non))), ?_⟩
  obtain ⟨Y, d, os, c, rfl, ya, q1, q2⟩ := h
  have d60 := ya.po.d60
  refine while_by (fun σ H' => H' = H ∧ ∃ (j : Nat) (v : Option V), j ≤ d + 1 ∧ σ = [some (.ref Y.y), some (.int c), some (sI j), v] ∧ ∀ q ∈ os, q.2 < j → ¬ ((q.1 : Int) ≤ c ∧ c < (q.1 : Int) + ((2 ^ q.2 : Nat) : Int)))
    (fun σ H' => match σ with | [_, _, some (.int j), _] => (((2 ^ (d + 1) : Nat) : Int) - j).toNat | _ => 0) ⟨rfl, 0, none, by omega, rfl, fun q m l => by omega⟩ ?_ ?_
  · rintro σ H' ⟨rfl, j, v, hj, rfl, no⟩
    have pj : 0 < 2 ^ j := Nat.pow_pos (by decide)
    refine ⟨_, rfl, _, rfl, Y.y, a.c_Yard, Y.dy, _, _, rfl, ya.yo, T.cl_Yard, T.n_Yard_cells, yFs_cells Y d, _, _, rfl, rfl, _, rfl, ?_⟩
    by_cases c1 : j ≤ d
    · have hle : 2 ^ j ≤ 2 ^ d := Nat.pow_le_pow_right (by decide) c1
      refine iteTof (decide_eq_true (by omega)) ?_
      refine ⟨_, rfl, _, rfl, _, rfl, _, _, rfl, rfl, by show ((2 ^ j : Nat) : Int) ≠ 0; omega, _, _, rfl, rfl, ?_⟩
      have ef : c.fmod ((2 ^ j : Nat) : Int) = c % ((2 ^ j : Nat) : Int) := Int.fmod_eq_emod_of_nonneg _ (by omega)
      have r1 := Int.emod_nonneg c (show ((2 ^ j : Nat) : Int) ≠ 0 by omega)
      have r2 := Int.emod_lt_of_pos c (show (0 : Int) < ((2 ^ j : Nat) : Int) by omega)
      have eat : ∀ q ∈ os, q.2 = j → (q.1 : Int) ≤ c → c < (q.1 : Int) + ((2 ^ q.2 : Nat) : Int) → (q.1 : Int) = c - c.fmod ((2 ^ j : Nat) : Int) := by
        intro q m e h1 h2
        subst e
        have al := (ya.good.each q m).2.1
        rw [ef]
        have e3 : c = (c - (q.1 : Int)) + ((q.1 / 2 ^ q.2 : Nat) : Int) * ((2 ^ q.2 : Nat) : Int) := by
          rw [← Int.natCast_mul, al]
          omega
        have e4 : c % ((2 ^ q.2 : Nat) : Int) = c - (q.1 : Int) := by
          conv => lhs; rw [e3]
          rw [Int.add_mul_emod_self_right, Int.emod_eq_of_lt (by omega) (by omega)]
        omega
      generalize hA : c - c.fmod ((2 ^ j : Nat) : Int) = A at eat
      have hA2 : A ≤ c ∧ c < A + ((2 ^ j : Nat) : Int) := by rw [ef] at hA; omega
      refine ⟨_, rfl, Y.y, a.c_Yard, Y.dy, _, _, rfl, ya.yo, T.cl_Yard, T.n_Yard__sizes, yFs_sizes Y d, Y.sd, rfl, .inl ⟨_, .inl ya.so⟩, _, rfl, valV (os.map outI) (Sum.inl A), (by show DGet H' Y.sd (V.int (c - c.fmod ((2 ^ j : Nat) : Int))) _; rw [hA]; exact DGet.k (k := Sum.inl A) ya.so), ?_⟩
      have p60 := pow60 (show j ≤ 60 by omega)
      have ez : ((2 ^ j : Nat) : Int) * 2 = ((2 ^ (j + 1) : Nat) : Int) := by rw [Nat.pow_succ, Int.natCast_mul]; rfl
      by_cases c2 : ∃ q ∈ os, q.2 = j ∧ (q.1 : Int) = A
      · obtain ⟨q, m, e1, e2⟩ := c2
        have ev := valV_out ya.good (x := q.1) (k := q.2) m
        rw [e2] at ev
        rw [ev]
        refine ⟨_, rfl, rfl, _, rfl, iteTof ?_ ?_⟩
        · show decide (sI q.2 = sI j) = true
          rw [e1]
          exact decide_eq_true rfl
        · refine ⟨_, rfl, ?_⟩
          have z := q2 q m (by omega) (by rw [e1]; omega)
          unfold nI at z
          rw [e2, ← hA] at z
          exact z
      · have sc : scal ((valV (os.map outI) (Sum.inl A)).getD V.non) (sI j) = true := by
          by_cases c3 : ∃ q ∈ os, (q.1 : Int) = A
          · obtain ⟨q, m, e2⟩ := c3
            have ev := valV_out ya.good (x := q.1) (k := q.2) m
            rw [e2] at ev
            rw [ev]
            rfl
          · rw [show valV (os.map outI) (Sum.inl A) = none from valV_out_none fun q m w => c3 ⟨q, m, w⟩]
            rfl
        refine ⟨_, rfl, sc, _, rfl, iteFof ?_ ?_⟩
        · refine decide_eq_false fun z => ?_
          by_cases c3 : ∃ q ∈ os, (q.1 : Int) = A
          · obtain ⟨q, m, e2⟩ := c3
            have ev := valV_out ya.good (x := q.1) (k := q.2) m
            rw [e2] at ev
            rw [ev] at z
            have z2 : ((2 ^ q.2 : Nat) : Int) = ((2 ^ j : Nat) : Int) := by injection z
            exact c2 ⟨q, m, pow_inj z2, e2⟩
          · have ev : valV (os.map outI) (Sum.inl A) = none := valV_out_none fun q m w => c3 ⟨q, m, w⟩
            rw [ev] at z
            cases z
        · refine ⟨_, rfl, _, _, rfl, rfl, mulx_ok (a := 61) (b := 3) (by rw [Int.natAbs_natCast]; exact Nat.lt_of_le_of_lt p60 (by decide)) (by decide) (by decide), ?_⟩
          refine ⟨⟨rfl, j + 1, some (.int (c - c.fmod ((2 ^ j : Nat) : Int))), by omega, ?_, fun q m l => ?_⟩, ?_⟩
          · show [some (V.ref Y.y), some (V.int c), some (V.int (((2 ^ j : Nat) : Int) * 2)), some (V.int (c - c.fmod ((2 ^ j : Nat) : Int)))] = _
            rw [ez]
          · by_cases c4 : q.2 < j
            · exact no q m c4
            · intro w
              have e := eat q m (by omega) w.1 w.2
              exact c2 ⟨q, m, by omega, e⟩
          · show (((2 ^ (d + 1) : Nat) : Int) - ((2 ^ j : Nat) : Int) * 2).toNat < (((2 ^ (d + 1) : Nat) : Int) - ((2 ^ j : Nat) : Int)).toNat
            rw [Nat.pow_succ]
            omega
    · have e : j = d + 1 := by omega
      subst e
      have hlt : 2 ^ d < 2 ^ (d + 1) := Nat.pow_lt_pow_right (by decide) (by omega)
      refine iteFof (decide_eq_false (by omega)) ?_
      exact q1 fun q m => no q m (by have := (ya.good.each q m).1; omega)
  · rintro σ H' Q1 Q2 hQ ⟨v, hv, y, hy, p, C, dx, fs, u, e1, e2, e3, e4, e5, i, j, e6, e7, k, ek, h⟩
    exact ⟨v, hv, y, hy, p, C, dx, fs, u, e1, e2, e3, e4, e5, i, j, e6, e7, k, ek, by cases k <;> exact hQ _ _ (by simpa using h)⟩
end
/-! ### Yard(), give, take_back, resize -/
theorem Only.none {S : List Addr} {H H' : Hp} (h : Only S H H') {b : Addr} (e : H' b = none) (n : b ∉ S) : H b = none := by
  refine Classical.byContradiction fun z => ?_
  obtain ⟨o, ho⟩ := Option.ne_none_iff_exists'.mp z
  rw [h b o ho n] at e
  cases e
theorem PoolAt.other {a : Ad} {Y : YA} {d : Nat} {F : Nat → List Nat} {H : Hp} (h : PoolAt a Y d F H) {b C dx : Addr} {fs : List (Str × V)} {o : HO} (e : H b = some (.ins C dx fs)) (n : b ≠ Y.p) : PoolAt a Y d F (L2.upd H b o) := by
  refine ⟨by rw [upd_ne n.symm]; exact h.ob, ?_, fun j hj => ?_, h.inj, h.rise, h.len, h.d60⟩
  · rw [upd_ne (ne_of h.dk e (by intro z; cases z))]
    exact h.dk
  · rw [upd_ne (ne_of (h.at_ j hj) e (by intro z; cases z))]
    exact h.at_ j hj
/-- a yard at first: all is one free piece -/
theorem frl_first (d j : Nat) (h : j ≤ d) : setF (fun _ => []) d (ins 0 []) j = frl (Oc []) d j := by
  have no : ∀ k i, Fr (Oc []) k i := fun k i c _ ⟨q, m, _⟩ => by cases m
  unfold setF
  by_cases e : j = d
  · subst e
    rw [if_pos rfl]
    refine frl_ext (List.pairwise_singleton _ _) fun y => ?_
    constructor
    · intro z
      have z := List.mem_singleton.mp z
      exact ⟨0, by rw [z, Nat.zero_mul], Nat.le_refl _, Nat.pow_pos (by decide), no _ _, fun l => by omega⟩
    · rintro ⟨i, e, _, l, _⟩
      rw [Nat.sub_self, Nat.pow_zero] at l
      rw [e, show i = 0 by omega, Nat.zero_mul]
      exact List.mem_singleton.mpr rfl
  · rw [if_neg e]
    exact (frl_nil.mpr fun i z => z.2.2.2 (by omega) (no _ _)).symm
/-- the pieces out, one more -/
theorem out_put {os : List PN} {x k : Nat} (n : ∀ q ∈ os, q.1 ≠ x) : putK (os.map outI) (Sum.inl (x : Int)) (sI k) = (os ++ [(x, k)]).map outI := by
  rw [putK_new _ (valV_out_none fun q m z => n q m (by omega)), List.map_append]
  rfl
theorem out_drop {os : List PN} {x : Nat} : dropK (os.map outI) (Sum.inl (x : Int)) = (outs os x).map outI := by
  unfold dropK outs
  rw [List.filter_map]
  congr 1
  refine List.filter_congr fun q _ => ?_
  show decide (Sum.inl (q.1 : Int) ≠ (Sum.inl (x : Int) : Key)) = decide (q.1 ≠ x)
  rw [decide_eq_decide]
  constructor
  · intro h e
    exact h (by rw [e])
  · intro h e
    exact h (by have := Sum.inl.inj e; omega)
theorem out_again {os : List PN} {x k : Nat} (m : ∃ h, (x, h) ∈ os) : putK (os.map outI) (Sum.inl (x : Int)) (sI k) = (outr os x k).map outI := by
  unfold putK outr
  have any : ((os.map outI).any fun kv => decide (kv.1 = (Sum.inl (x : Int) : Key))) = true := by
    obtain ⟨h, m⟩ := m
    exact List.any_eq_true.mpr ⟨outI (x, h), List.mem_map.mpr ⟨_, m, rfl⟩, by simp [outI]⟩
  rw [if_pos any, List.map_map, List.map_map]
  refine List.map_congr_left fun q _ => ?_
  show (if (outI q).1 = (Sum.inl (x : Int) : Key) then ((outI q).1, sI k) else outI q) = outI (if q.1 = x then (x, k) else q)
  by_cases e : q.1 = x
  · rw [if_pos e, if_pos (by unfold outI; rw [e])]
    unfold outI
    rw [e]
  · rw [if_neg e, if_neg (fun z => e (by have := Sum.inl.inj (show (Sum.inl (q.1 : Int) : Key) = Sum.inl (x : Int) from z); omega))]
/-- the sizes' dict changes -/
theorem YardAt.put {a : Ad} {Y : YA} {d : Nat} {os os' : List PN} {H : Hp} (yo : YOb a Y d H) (so : H Y.sd = some (.dK (os.map outI))) (po : PoolAt a Y d (frl (Oc os') d) H) (n : Y.pd ≠ Y.sd) (g : Good d os') (f : os'.length ≤ 100000) : YardAt a Y d os' (L2.upd H Y.sd (.dK (os'.map outI))) := by
  refine ⟨?_, upd_same, ⟨?_, ?_, fun j hj => ?_, po.inj, po.rise, po.len, po.d60⟩, g, f, n⟩
  · show L2.upd H Y.sd _ Y.y = _
    rw [upd_ne (ne_of yo so (by intro z; cases z))]
    exact yo
  · rw [upd_ne (ne_of po.ob so (by intro z; cases z))]
    exact po.ob
  · rw [upd_ne n]
    exact po.dk
  · rw [upd_ne (ne_of (po.at_ j hj) so (by intro z; cases z))]
    exact po.at_ j hj
theorem best_or (os : List PN) (d k : Nat) : (∀ j i, k ≤ j → ¬ Mx (Oc os) d j i) ∨ ∃ m n, Best os d k m n := by
  by_cases h : ∃ j, k ≤ j ∧ ∃ i, Mx (Oc os) d j i
  · right
    -- the least exponent
    have least : ∀ b j, j ≤ b → k ≤ j → (∃ i, Mx (Oc os) d j i) → ∃ m, k ≤ m ∧ (∃ i, Mx (Oc os) d m i) ∧ ∀ j i, k ≤ j → j < m → ¬ Mx (Oc os) d j i := by
      intro b
      induction b with
      | zero => exact fun j h1 h2 h3 => ⟨j, h2, h3, fun j' i a1 a2 => by omega⟩
      | succ b ih =>
        intro j h1 h2 h3
        by_cases c : ∃ j', k ≤ j' ∧ j' < j ∧ ∃ i, Mx (Oc os) d j' i
        · obtain ⟨j', c1, c2, c3⟩ := c
          exact ih j' (by omega) c1 c3
        · exact ⟨j, h2, h3, fun j' i a1 a2 z => c ⟨j', a1, a2, i, z⟩⟩
    obtain ⟨j, h1, h2⟩ := h
    obtain ⟨m, km, ⟨i, hi⟩, small⟩ := least j j (Nat.le_refl _) h1 h2
    -- the least place
    have low : ∀ b i, i ≤ b → Mx (Oc os) d m i → ∃ i0, Mx (Oc os) d m i0 ∧ ∀ i', Mx (Oc os) d m i' → i0 ≤ i' := by
      intro b
      induction b with
      | zero => exact fun i h1 h2 => ⟨i, h2, fun i' _ => by omega⟩
      | succ b ih =>
        intro i h1 h2
        by_cases c : ∃ i', i' < i ∧ Mx (Oc os) d m i'
        · obtain ⟨i', c1, c2⟩ := c
          exact ih i' (by omega) c2
        · exact ⟨i, h2, fun i' z => by
            apply Classical.byContradiction
            intro w
            exact c ⟨i', by omega, z⟩⟩
    obtain ⟨i0, h3, h4⟩ := low i i (Nat.le_refl _) hi
    exact ⟨m, i0 * 2 ^ m, km, by rw [blk_of]; exact h3, by rw [blk_of], small, fun i' z => Nat.mul_le_mul_right _ (h4 i' z)⟩
  · left
    exact fun j i l z => h ⟨j, l, i, z⟩
theorem Best.head {os : List PN} {d k m n : Nat} (b : Best os d k m n) : ∃ r, frl (Oc os) d m = n :: r := by
  have hin : n ∈ frl (Oc os) d m := frl_mem.mpr ⟨_, b.al.symm, b.mx⟩
  cases e : frl (Oc os) d m with
  | nil => rw [e] at hin; cases hin
  | cons y r =>
    obtain ⟨i, e2, hi⟩ := frl_mem.mp (show y ∈ frl (Oc os) d m by rw [e]; exact List.mem_cons_self)
    have l1 := b.first i hi
    rw [← e2] at l1
    rw [e] at hin
    rcases List.mem_cons.mp hin with z | z
    · rw [z]
      exact ⟨r, rfl⟩
    · have r1 := frl_rise (Oc os) d m
      rw [e] at r1
      have := (List.pairwise_cons.mp r1).1 n z
      omega
/-- how many are out of a whole free piece: none begins there -/
theorem fr_key {os : List PN} {k n : Nat} (f : Fr (Oc os) k (n / 2 ^ k)) : ∀ q ∈ os, q.1 ≠ n := fun q m e => f n rfl ⟨q, m, by rw [e]⟩
theorem fits_iff {d : Nat} {os : List PN} {n h k : Nat} (g : Good d os) (m : (n, h) ∈ os) (hk : h ≤ k) (kd : k ≤ d) :
    (n % 2 ^ k = 0 ∧ ∀ j, h ≤ j → j < k → n + 2 ^ j ∈ frl (Oc os) d j) ↔ Fits os n k := by
  have e1 : n % 2 ^ k = 0 ↔ n / 2 ^ k * 2 ^ k = n := by
    have := Nat.div_add_mod n (2 ^ k)
    rw [Nat.mul_comm] at this
    omega
  unfold Fits
  rw [e1]
  refine and_congr_right fun al => ?_
  obtain ⟨K, hK, hM⟩ := out_mx g m
  have hO := fun c => Oc_outs (c := c) g m
  have inF : ∀ j, h ≤ j → j < k → (n + 2 ^ j ∈ frl (Oc os) d j ↔ Mx (Oc os) d j (sib (n / 2 ^ j))) := fun j _ jk => by rw [← sib_up al jk, frl_mem']
  constructor
  · intro z
    have kK : k ≤ K := by
      apply Classical.byContradiction
      intro w
      have := (inF K hK (by omega)).mp (z K hK (by omega))
      rw [mx_stop hK hM hO K hK (Nat.le_refl _)] at this
      omega
    exact fr_down hM.2.2.1 kK
  · intro f j hj jk
    rw [inF j hj jk]
    have kK : k ≤ K := mx_le hM kd f
    rw [mx_stop hK hM hO j hj (by omega)]
    omega
section
variable {P : Program} {w : World} {K : PySem.W.Frag} {mg : Str → Option Value} {base : Heap} {a : Ad}
theorem ok_Yard_init (T : Txt K mg a) : FnOk P w K mg base (L2.CX P w) 3 a.f_Yard_init a.d_Yard_init ["self", "cells"] (sp_Yard_init K a) := by
  have G_Pool_init : FnOk P w K mg base CX0 1 a.f_Pool_init a.d_Pool_init ["self", "cells"] (sp_Pool_init K a) := ok_Pool_init T
  have G_Pool_put : FnOk P w K mg base CX0 2 a.f_Pool_put a.d_Pool_put ["self", "at", "size"] (sp_Pool_put K a) := ok_Pool_put T
  have G_is_size : FnOk P w K mg base CX0 1 a.f_is_size a.d_is_size ["number"] (sp_is_size K a) := ok_is_size T
  refine T.Yard_init.okX sc_Yard_init (fun vs H Q E h => by first | (obtain ⟨rfl, _⟩ := h; rfl) | (obtain ⟨_, rfl, _⟩ := h; rfl) | (obtain ⟨_, _, rfl, _⟩ := h; rfl) | (obtain ⟨_, _, _, rfl, _⟩ := h; rfl) | (obtain ⟨_, _, _, _, rfl, _⟩ := h; rfl) | (obtain ⟨_, _, _, _, _, rfl, _⟩ := h; rfl) | (obtain ⟨_, _, _, _, _, _, rfl, _⟩ := h; rfl) | (obtain ⟨_, _, _, _, _, _, _, rfl, _⟩ := h; rfl) | (obtain ⟨_, _, _, _, _, _, _, _, rfl, _⟩ := h; rfl) | (obtain ⟨_, _, _, _, _, _, _, _, _, rfl, _⟩ := h; rfl) | (obtain ⟨_, _, _, _, _, _, _, _, _, _, rfl, _⟩ := h; rfl) | (obtain ⟨_, _, _, _, _, _, _, _, _, _, _, rfl, _⟩ := h; rfl)) (fun cdv A outer s H vs Q E hr h => ?_)
  refine ⟨_, pss_cons (ps_if (pt_not (pt_val (pe_call G_is_size (hr.mono (by decide)) rfl T.is_size.mg T.is_size.fn.kp T.is_size.bd .nil pass0 (pa_cons (pv 1) pa_nil)))) (pss_one (ps_raise rfl (takes_of rfl rfl rfl rfl) (pmk_own PySem.F.excBase_ValueError T.e_NoYard.x T.e_NoYard.g T.e_NoYard.k (raises_own T.e_NoYard.is.hs T.e_NoYard.t) (by exact rfl)))) pss_nil)
      (pss_cons (ps_fld (pv 0) (pv 1) rfl)
      (pss_cons (ps_fld (pv 0) pe_dnewK rfl)
      (pss_cons (ps_fld (pv 0) (pe_make T.m_Pool_init G_Pool_init (hr.mono (by decide)) rfl T.g_Pool T.b_Pool_init .nil pass0 (pa_cons (pv 1) pa_nil)) rfl)
      (pss_one (ps_expr (pe_meth (pe_fld (pv 0) rfl) T.cl_Pool T.m_Pool_put G_Pool_put (hr.mono (by decide)) T.b_Pool_put .nil pass0 (pa_cons pe_int (pa_cons (pv 1) pa_nil)))))))), ?_⟩
  obtain ⟨y, dy, x, rfl, hy, qE, qQ⟩ := h
  refine ⟨_, rfl, x, rfl, fun isz => ?_, fun nsz => ⟨_, rfl, iteT (qE nsz)⟩⟩
  obtain ⟨d, d60, rfl⟩ := isz
  refine ⟨_, rfl, iteF ?_⟩
  refine ⟨_, rfl, _, rfl, y, a.c_Yard, dy, [], rfl, hy, T.cl_Yard, T.n_Yard_cells, (by show 0 < 1000; decide), fun sd nsd => ?_⟩
  have ysd : y ≠ sd := fun z => by rw [← z, upd_same] at nsd; cases nsd
  refine ⟨_, rfl, y, a.c_Yard, dy, _, rfl, (by rw [upd_ne ysd]; exact upd_same), T.cl_Yard, T.n_Yard__sizes, (by show 1 < 1000; decide), ?_⟩
  refine ⟨_, rfl, fun p dp np ndp ne => ?_⟩
  have yp : y ≠ p := fun z => by rw [← z, upd_same] at np; cases np
  have ydp : y ≠ dp := fun z => by rw [← z, upd_same] at ndp; cases ndp
  refine ⟨p, dp, d, rfl, upd_same, d60, fun pd ls H3 po npd nls only => ⟨rfl, ?_⟩⟩
  have hy3 : H3 y = some (.ins a.c_Yard dy (putF "_sizes" (.ref sd) (putF "cells" (sI d) []))) := only _ _ (by rw [upd_ne yp, upd_ne ydp, upd_same]) (by simp [yp])
  have sdp : sd ≠ p := fun z => by rw [← z, upd_ne ysd.symm, upd_same] at np; cases np
  have sddp : sd ≠ dp := fun z => by rw [← z, upd_ne ysd.symm, upd_same] at ndp; cases ndp
  have hsd3 : H3 sd = some (.dK []) := only _ _ (by rw [upd_ne sdp, upd_ne sddp, upd_ne ysd.symm, upd_same]) (by simp [sdp])
  refine ⟨_, rfl, y, a.c_Yard, dy, _, rfl, hy3, T.cl_Yard, T.n_Yard__pool, (by show 2 < 1000; decide), ?_⟩
  have po3 := po y sd dy
  have po4 : PoolAt a ⟨y, sd, p, pd, dy, dp, ls⟩ d (fun _ => []) (L2.upd H3 y (.ins a.c_Yard dy (yFs ⟨y, sd, p, pd, dy, dp, ls⟩ d))) := po3.other hy3 yp
  refine ⟨_, rfl, y, a.c_Yard, dy, _, _, rfl, upd_same, T.cl_Yard, T.n_Yard__pool, yFs_pool ⟨y, sd, p, pd, dy, dp, ls⟩ d, p, dp, _, rfl, po4.ob, pFs_no _ (by decide +kernel), _, rfl, ⟨y, sd, p, pd, dy, dp, ls⟩, d, 0, d, _, rfl, po4, Nat.le_refl _, by simp, by simp, ?_⟩
  have po5 := (po4.upd (k := d) (l := ins 0 []) (Nat.le_refl _) (ins_rise List.Pairwise.nil) (by decide)).congr fun j hj => frl_first d j hj
  -- what was there is there
  have all : Only [y] H (L2.upd (L2.upd H3 y (.ins a.c_Yard dy (yFs ⟨y, sd, p, pd, dy, dp, ls⟩ d))) (ls d) (.lst ((ins 0 []).map nI))) := by
    intro b o e nb
    have nby : b ≠ y := fun z => nb (by simp [z])
    have bsd : b ≠ sd := fun z => by rw [← z, upd_ne nby, e] at nsd; cases nsd
    have e2 : L2.upd (L2.upd (L2.upd H y (.ins a.c_Yard dy (putF "cells" (sI d) []))) sd (.dK [])) y (.ins a.c_Yard dy (putF "_sizes" (.ref sd) (putF "cells" (sI d) []))) b = some o := by
      rw [upd_ne nby, upd_ne bsd, upd_ne nby]
      exact e
    have bp : b ≠ p := fun z => by rw [z, np] at e2; cases e2
    have bdp : b ≠ dp := fun z => by rw [z, ndp] at e2; cases e2
    have bl : b ≠ ls d := fun z => by
      have n := nls d (Nat.le_refl _)
      rw [← z, upd_ne bp, upd_ne bdp, e2] at n
      cases n
    rw [upd_ne bl, upd_ne nby]
    exact only _ _ (by rw [upd_ne bp, upd_ne bdp]; exact e2) (by simp [bp])
  have lat := po3.at_ d (Nat.le_refl _)
  have npdsd : pd ≠ sd := fun z => by
    rw [z, upd_ne sdp, upd_ne sddp, upd_ne ysd.symm, upd_same] at npd
    cases npd
  refine qQ d d60 rfl ⟨y, sd, p, pd, dy, dp, ls⟩ _ rfl ⟨?_, ?_, po5, Good.nil d, by simp, npdsd⟩ ?_ all
  · show L2.upd _ _ _ y = _
    rw [upd_ne (ne_of hy3 lat (by intro z; cases z))]
    exact upd_same
  · rw [upd_ne (ne_of hsd3 lat (by intro z; cases z)), upd_ne ysd.symm]
    exact hsd3
  · intro b hb
    rcases List.mem_cons.mp hb with rfl | hb
    · rw [upd_ne ysd.symm] at nsd
      exact nsd
    · obtain ⟨j, hj, rfl⟩ := List.mem_map.mp hb
      have hj : j ≤ d := by have := List.mem_range.mp hj; omega
      have n := nls j hj
      have nat : H3 (ls j) = some (.lst []) := po3.at_ j hj
      have n1 : ls j ≠ p := fun z => by
        have w : H3 p = some (.ins a.c_Pool dp (pFs ⟨y, sd, p, pd, dy, dp, ls⟩)) := po3.ob
        rw [← z, nat] at w
        cases w
      have n2 : ls j ≠ y := fun z => by rw [z, hy3] at nat; cases nat
      have n3 : ls j ≠ sd := fun z => by rw [z, hsd3] at nat; cases nat
      show H (ls j) = none
      have n4 : ls j ≠ dp := fun z => by
        rw [z, upd_ne ne, upd_same] at n
        cases n
      rw [upd_ne n1, upd_ne n4, upd_ne n2, upd_ne n3, upd_ne n2] at n
      exact n
theorem ok_Yard_give (T : Txt K mg a) : FnOk P w K mg base (L2.CX P w) 4 a.f_Yard_give a.d_Yard_give ["self", "want"] (sp_Yard_give K a) := by
  have G_Pool_best : FnOk P w K mg base CX0 1 a.f_Pool_best a.d_Pool_best ["self", "size"] (sp_Pool_best K a) := ok_Pool_best T
  have G_Pool_drop : FnOk P w K mg base CX0 2 a.f_Pool_drop a.d_Pool_drop ["self", "at", "size"] (sp_Pool_drop K a) := ok_Pool_drop T
  have G_Yard_cut : FnOk P w K mg base CX0 3 a.f_Yard_cut a.d_Yard_cut ["self", "at", "size", "least"] (sp_Yard_cut K a) := ok_Yard_cut T
  have G_Yard_fitting : FnOk P w K mg base (L2.CX P w) 2 a.f_Yard_fitting a.d_Yard_fitting ["self", "want"] (sp_Yard_fitting K a) := ok_Yard_fitting T
  refine T.Yard_give.okX sc_Yard_give (fun vs H Q E h => by first | (obtain ⟨rfl, _⟩ := h; rfl) | (obtain ⟨_, rfl, _⟩ := h; rfl) | (obtain ⟨_, _, rfl, _⟩ := h; rfl) | (obtain ⟨_, _, _, rfl, _⟩ := h; rfl) | (obtain ⟨_, _, _, _, rfl, _⟩ := h; rfl) | (obtain ⟨_, _, _, _, _, rfl, _⟩ := h; rfl) | (obtain ⟨_, _, _, _, _, _, rfl, _⟩ := h; rfl) | (obtain ⟨_, _, _, _, _, _, _, rfl, _⟩ := h; rfl) | (obtain ⟨_, _, _, _, _, _, _, _, rfl, _⟩ := h; rfl) | (obtain ⟨_, _, _, _, _, _, _, _, _, rfl, _⟩ := h; rfl) | (obtain ⟨_, _, _, _, _, _, _, _, _, _, rfl, _⟩ := h; rfl) | (obtain ⟨_, _, _, _, _, _, _, _, _, _, _, rfl, _⟩ := h; rfl)) (fun cdv A outer s H vs Q E hr h => ?_)
  refine ⟨_, pss_cons (ps_set (i := 2) sc_Yard_give.nd rfl (Or.inl rfl) (pe_meth (pv 0) T.cl_Yard T.m_Yard_fitting G_Yard_fitting (hr.mono (by decide)) T.b_Yard_fitting .nil (passX (takes_of rfl rfl rfl rfl)) (pa_cons (pv 1) pa_nil)))
      (pss_cons (ps_set (i := 3) sc_Yard_give.nd rfl (Or.inl rfl) (pe_meth (pe_fld (pv 0) rfl) T.cl_Pool T.m_Pool_best G_Pool_best (hr.mono (by decide)) T.b_Pool_best .nil pass0 (pa_cons (pv 2) pa_nil)))
      (pss_cons (ps_if (pt_cmpR op_isN (pv 3) pe_non (nomark _)) (pss_one (ps_raise rfl (takes_of rfl rfl rfl rfl) (pmk_own PySem.F.excBase_ValueError T.e_NoRoom.x T.e_NoRoom.g T.e_NoRoom.k (raises_own T.e_NoRoom.is.hs T.e_NoRoom.t) (by exact rfl)))) pss_nil)
      (pss_cons (ps_asg (pv 3) (pg_tup rfl (pgs_cons (pg_name (i := 4) sc_Yard_give.nd rfl (Or.inl rfl)) (pgs_cons (pg_name (i := 5) sc_Yard_give.nd rfl (Or.inl rfl)) pgs_nil))))
      (pss_cons (ps_expr (pe_meth (pe_fld (pv 0) rfl) T.cl_Pool T.m_Pool_drop G_Pool_drop (hr.mono (by decide)) T.b_Pool_drop .nil pass0 (pa_cons (pv 4) (pa_cons (pv 5) pa_nil))))
      (pss_cons (ps_expr (pe_meth (pv 0) T.cl_Yard T.m_Yard_cut G_Yard_cut (hr.mono (by decide)) T.b_Yard_cut .nil pass0 (pa_cons (pv 4) (pa_cons (pv 5) (pa_cons (pv 2) pa_nil)))))
      (pss_cons (ps_dput (hu_of hr) (pe_fld (pv 0) rfl) (pv 4) (pv 2) rfl)
      (pss_one (ps_ret (pv 4))))))))), ?_⟩
  obtain ⟨Y, d, os, x, rfl, ya, few, q1, q2, q3⟩ := h
  have d60 := ya.po.d60
  refine ⟨_, rfl, Y.y, Y.dy, _, rfl, ya.yo, yFs_no Y d (by decide +kernel) (by decide +kernel) (by decide +kernel), _, rfl, Y, d, x, rfl, ya.yo, d60, q1, fun c => q2 (by have := Nat.pow_pos (n := d) (show 0 < 2 by decide); omega) (.inl c) H fun b o e => e, fun h1 h2 => ?_⟩
  have fd := fit_le h1 h2 d60
  refine ⟨_, rfl, Y.y, a.c_Yard, Y.dy, _, _, rfl, ya.yo, T.cl_Yard, T.n_Yard__pool, yFs_pool Y d, Y.p, Y.dp, _, rfl, ya.po.ob, pFs_no Y (by decide +kernel), _, rfl, Y, d, fit x, _, rfl, ya.po, fun none H1 same => ?_, fun m n r km md small eF t H1 same ht => ?_⟩
  · refine ⟨_, rfl, rfl, _, rfl, iteT ?_⟩
    refine q2 h1 (.inr fun j i hj z => ?_) H1 same
    have := none j hj z.1
    exact frl_nil.mp this i z
  · refine ⟨_, rfl, rfl, _, rfl, iteF ?_⟩
    refine ⟨_, rfl, t, _, rfl, SqT.of ht, rfl, _, _, rfl, _, _, rfl, rfl, ?_⟩
    have po1 := ya.po.keep same
    have yo1 : YOb a Y d H1 := same _ _ ya.yo
    have nin : n ∈ frl (Oc os) d m := by rw [eF]; exact List.mem_cons_self
    obtain ⟨i0, en, hM⟩ := frl_mem.mp nin
    have enm : n / 2 ^ m = i0 := by rw [en, blk_of]
    have al : n / 2 ^ m * 2 ^ m = n := by rw [enm]; exact en.symm
    rw [← enm] at hM
    have best : Best os d (fit x) m n := ⟨km, hM, al, fun j i h1 h2 => frl_nil.mp (small j h1 h2) i, fun i hi => by
      have r1 := frl_rise (Oc os) d m
      have hin := frl_mem'.mpr hi
      rw [eF] at r1 hin
      rcases List.mem_cons.mp hin with z | z
      · omega
      · have := (List.pairwise_cons.mp r1).1 _ z
        omega⟩
    refine ⟨_, rfl, Y.y, a.c_Yard, Y.dy, _, _, rfl, yo1, T.cl_Yard, T.n_Yard__pool, yFs_pool Y d, Y.p, Y.dp, _, rfl, po1.ob, pFs_no Y (by decide +kernel), _, rfl, _, rfl, Y, d, n, m, _, rfl, po1, md, nin, ?_⟩
    have lm := frl_len (d := d) (j := m) (os := os)
    have po2 := po1.upd (k := m) md (del_rise (x := n) (frl_rise (Oc os) d m)) (by
      have := List.length_filter_le (fun y => decide (y ≠ n)) (frl (Oc os) d m)
      unfold del
      omega)
    have only2 : Only (lsA Y d) H1 (L2.upd H1 (Y.ls m) (.lst ((del n (frl (Oc os) d m)).map nI))) := Only.upd _ (lsA_mem md)
    have yo2 := only2 _ _ yo1 (po1.off yo1 (by intro xs z; cases z))
    have hO := fun c => Oc_snoc (os := os) (x := n) (k := fit x) (c := c)
    refine ⟨_, rfl, Y.y, Y.dy, _, rfl, yo2, yFs_no Y d (by decide +kernel) (by decide +kernel) (by decide +kernel), _, rfl, _, rfl, _, rfl, Y, d, n, fit x, m, _, rfl, yo2, po2, md, fun j h1 h2 => ?_, fun H3 po3 only3 => ?_⟩
    · have e : setF (frl (Oc os) d) m (del n (frl (Oc os) d m)) j = frl (Oc os) d j := by
        unfold setF
        rw [if_neg (by omega)]
      rw [e, small j h1 h2]
      exact ⟨by simp, by simp⟩
    · have f : Fr (Oc os) (fit x) (n / 2 ^ fit x) := fr_down hM.2.2.1 km
      have g2 := ya.good.snoc fd (al_down al km) best.lt f
      have po4 : PoolAt a Y d (frl (Oc (os ++ [(n, fit x)])) d) H3 := po3.congr fun j hj => by
        rw [← can_give km hM hO j, cutF_add al (Nat.le_refl m), al]
      have so1 : H3 Y.sd = some (.dK (os.map outI)) := only3 _ _ (only2 _ _ (same _ _ ya.so) (po1.off (same _ _ ya.so) (by intro xs z; cases z))) (po2.off (only2 _ _ (same _ _ ya.so) (po1.off (same _ _ ya.so) (by intro xs z; cases z))) (by intro xs z; cases z))
      have yo3 : YOb a Y d H3 := only3 _ _ yo2 (po2.off yo2 (by intro xs z; cases z))
      refine ⟨_, rfl, _, rfl, Y.y, a.c_Yard, Y.dy, _, _, rfl, yo3, T.cl_Yard, T.n_Yard__sizes, yFs_sizes Y d, _, rfl, Y.sd, _, rfl, DPut.k (k := Sum.inl (n : Int)) so1 (by rw [List.length_map, sizeLine_eq]; omega), ?_⟩
      rw [out_put (fr_key f)]
      refine ⟨_, rfl, ?_⟩
      refine q3 h1 h2 m n best _ (YardAt.put yo3 so1 po4 ya.ne g2 (by rw [List.length_append]; show os.length + 1 ≤ 100000; omega)) ?_
      refine Only.trans ((Only.same same).trans ((only2.trans only3).mono lsA_own)) (Only.upd _ List.mem_cons_self)
theorem ok_Yard_take_back (T : Txt K mg a) : FnOk P w K mg base (L2.CX P w) 4 a.f_Yard_take_back a.d_Yard_take_back ["self", "at"] (sp_Yard_take_back K a) := by
  have G_Yard_join : FnOk P w K mg base CX0 3 a.f_Yard_join a.d_Yard_join ["self", "at", "size"] (sp_Yard_join K a) := ok_Yard_join T
  have G_Yard_size_of : FnOk P w K mg base (L2.CX P w) 1 a.f_Yard_size_of a.d_Yard_size_of ["self", "at"] (sp_Yard_size_of K a) := ok_Yard_size_of T
  refine T.Yard_take_back.okX sc_Yard_take_back (fun vs H Q E h => by first | (obtain ⟨rfl, _⟩ := h; rfl) | (obtain ⟨_, rfl, _⟩ := h; rfl) | (obtain ⟨_, _, rfl, _⟩ := h; rfl) | (obtain ⟨_, _, _, rfl, _⟩ := h; rfl) | (obtain ⟨_, _, _, _, rfl, _⟩ := h; rfl) | (obtain ⟨_, _, _, _, _, rfl, _⟩ := h; rfl) | (obtain ⟨_, _, _, _, _, _, rfl, _⟩ := h; rfl) | (obtain ⟨_, _, _, _, _, _, _, rfl, _⟩ := h; rfl) | (obtain ⟨_, _, _, _, _, _, _, _, rfl, _⟩ := h; rfl) | (obtain ⟨_, _, _, _, _, _, _, _, _, rfl, _⟩ := h; rfl) | (obtain ⟨_, _, _, _, _, _, _, _, _, _, rfl, _⟩ := h; rfl) | (obtain ⟨_, _, _, _, _, _, _, _, _, _, _, rfl, _⟩ := h; rfl)) (fun cdv A outer s H vs Q E hr h => ?_)
  refine ⟨_, pss_cons (ps_set (i := 2) sc_Yard_take_back.nd rfl (Or.inl rfl) (pe_meth (pv 0) T.cl_Yard T.m_Yard_size_of G_Yard_size_of (hr.mono (by decide)) T.b_Yard_size_of .nil (passX (takes_of rfl rfl rfl rfl)) (pa_cons (pv 1) pa_nil)))
      (pss_cons (ps_ddel (pe_fld (pv 0) rfl) (pv 1))
      (pss_cons (ps_expr (pe_meth (pv 0) T.cl_Yard T.m_Yard_join G_Yard_join (hr.mono (by decide)) T.b_Yard_join .nil pass0 (pa_cons (pv 1) (pa_cons (pv 2) pa_nil))))
      (pss_one (ps_ret (pv 2))))), ?_⟩
  obtain ⟨Y, d, os, x, rfl, ya, q1, q2⟩ := h
  have d60 := ya.po.d60
  refine ⟨_, rfl, Y.y, Y.dy, _, rfl, ya.yo, yFs_no Y d (by decide +kernel) (by decide +kernel) (by decide +kernel), _, rfl, Y, d, os, x, rfl, ya.yo, ya.so, ya.good, q1, fun n k m e => ?_⟩
  subst e
  have ev := valV_out ya.good m
  refine ⟨_, rfl, Y.y, a.c_Yard, Y.dy, _, _, rfl, ya.yo, T.cl_Yard, T.n_Yard__sizes, yFs_sizes Y d, _, rfl, Y.sd, _, Sum.inl (n : Int), rfl, ya.so, rfl, by rw [ev]; rfl, ?_⟩
  rw [out_drop]
  obtain ⟨K0, hK, hM⟩ := out_mx ya.good m
  have hO := fun c => Oc_outs (c := c) ya.good m
  have al := (ya.good.each _ m).2.1
  have g2 : Good d (outs os n) := ya.good.sub List.filter_sublist
  -- the sizes' dict first
  have yo1 : YOb a Y d (L2.upd H Y.sd (.dK ((outs os n).map outI))) := by
    show L2.upd H Y.sd _ Y.y = _
    rw [upd_ne (ne_of ya.yo ya.so (by intro z; cases z))]
    exact ya.yo
  have po1 : PoolAt a Y d (frl (Oc os) d) (L2.upd H Y.sd (.dK ((outs os n).map outI))) := by
    refine ⟨?_, ?_, fun j hj => ?_, ya.po.inj, ya.po.rise, ya.po.len, ya.po.d60⟩
    · rw [upd_ne (ne_of ya.po.ob ya.so (by intro z; cases z))]
      exact ya.po.ob
    · rw [upd_ne ya.ne]
      exact ya.po.dk
    · rw [upd_ne (ne_of (ya.po.at_ j hj) ya.so (by intro z; cases z))]
      exact ya.po.at_ j hj
  have stop := fun j h1 h2 => mx_stop hK hM hO j h1 h2
  refine ⟨_, rfl, Y.y, Y.dy, _, rfl, yo1, yFs_no Y d (by decide +kernel) (by decide +kernel) (by decide +kernel), _, rfl, _, rfl, Y, d, n, k, K0, frl (Oc os) d, rfl, yo1, po1, hK, hM.1, al, fun j h1 h2 => ?_, fun z => ?_, fun z => ?_, ?_, fun H2 po2 only2 => ?_⟩
  · rw [frl_mem']
    exact (stop j h1 (by omega)).mpr h2
  · rw [frl_mem', stop K0 hK (Nat.le_refl _)] at z
    omega
  · rw [frl_mem'] at z
    exact z.2.2.1 n rfl ((hO n).mpr (.inr rfl))
  · have := frl_len (d := d) (j := K0) (os := os)
    have := ya.few
    omega
  · refine ⟨_, rfl, ?_⟩
    refine q2 n k m rfl H2 ⟨only2 _ _ yo1 (po1.off yo1 (by intro xs z; cases z)), only2 _ _ upd_same (po1.off upd_same (by intro xs z; cases z)), po2.congr fun j hj => ?_, g2, ?_, ya.ne⟩ ((Only.upd _ List.mem_cons_self).trans (only2.mono lsA_own))
    · rw [← can_back hK hM hO j, remF_at]
    · exact Nat.le_trans (List.length_filter_le _ _) ya.few
end
/-! ### == of lists of pairs -/
def dP (q : PI2) : PyData := .tuple [.int q.1, .int q.2]
def dL (zs : List PI2) : PyData := .list (zs.map dP)
theorem dP_eqv (p q : PI2) : PyData.eqv (dP p) (dP q) = decide (p = q) := by
  unfold dP
  simp only [PyData.eqv, PyData.eqvAll, Bool.and_true]
  obtain ⟨a, b⟩ := p
  obtain ⟨c, d⟩ := q
  by_cases h1 : a = c <;> by_cases h2 : b = d <;> simp [h1, h2]
theorem dAll_eqv : ∀ zs ws : List PI2, PyData.eqvAll (zs.map dP) (ws.map dP) = decide (zs = ws)
  | [], [] => by simp [PyData.eqvAll]
  | [], w :: ws => by simp [PyData.eqvAll]
  | z :: zs, [] => by simp [PyData.eqvAll]
  | z :: zs, w :: ws => by
    rw [List.map_cons, List.map_cons, PyData.eqvAll, dP_eqv, dAll_eqv zs ws]
    by_cases h1 : z = w <;> by_cases h2 : zs = ws <;> simp [h1, h2]
theorem dL_eqv (zs ws : List PI2) : PyData.eqv (dL zs) (dL ws) = decide (zs = ws) := by
  unfold dL
  rw [PyData.eqv, dAll_eqv]
theorem dP_lay (q : PI2) : (dP q).canLay0 = true := by simp [dP, PyData.canLay0, PyData.canLayAll0]
theorem dP_depth (q : PI2) : (dP q).depth = 1 := by simp [dP, PyData.depth, PyData.depthAll]
theorem dP_shaped (q : PI2) : SeqAt.shaped (dP q) = true := by
  unfold SeqAt.shaped
  rw [dP_lay, dP_depth]
  rfl
theorem dAll_lay : ∀ zs : List PI2, PyData.canLayAll0 (zs.map dP) = true
  | [] => by simp [PyData.canLayAll0]
  | z :: zs => by rw [List.map_cons, PyData.canLayAll0, dP_lay, dAll_lay zs]; rfl
theorem dAll_depth : ∀ zs : List PI2, PyData.depthAll (zs.map dP) ≤ 1
  | [] => by simp [PyData.depthAll]
  | z :: zs => by
    have := dAll_depth zs
    rw [List.map_cons, PyData.depthAll, dP_depth]
    omega
theorem dL_lay (zs : List PI2) : (dL zs).canLay0 = true := by
  unfold dL
  rw [PyData.canLay0]
  exact dAll_lay zs
theorem dL_depth (zs : List PI2) : (dL zs).depth ≤ 2 := by
  unfold dL
  rw [PyData.depth]
  have := dAll_depth zs
  omega
theorem dL_shaped (zs : List PI2) : SeqAt.shaped (dL zs) = true := by
  unfold SeqAt.shaped
  rw [dL_lay, decide_eq_true (by have := dL_depth zs; omega)]
  rfl
theorem dp_pair {K : PySem.W.Frag} {H : Hp} {t : Addr} {q : PI2} (h : H t = some (.tup [.int q.1, .int q.2])) : Dp K H (.ref t) (dP q) := .tup (SqT.of h) (.cons (.int _) (.cons (.int _) .nil))
theorem dp_all {K : PySem.W.Frag} {H : Hp} : ∀ {ts : List Addr} {zs : List PI2}, Tups H ts zs → DpAll K H (ts.map V.ref) (zs.map dP)
  | _, _, .nil => .nil
  | _, _, .cons h r => .cons (dp_pair h) (dp_all r)
theorem dp_list {K : PySem.W.Frag} {H : Hp} {l : Addr} {ts : List Addr} {zs : List PI2} (h : H l = some (.lst (ts.map V.ref))) (t : Tups H ts zs) : Dp K H (.ref l) (dL zs) := .lst (SqL.of h) (dp_all t)
theorem dp_nil {K : PySem.W.Frag} {H : Hp} {l : Addr} (h : H l = some (.lst [])) : Dp K H (.ref l) (dL []) := .lst (SqL.of h) .nil
theorem srt_idem (l : List PI2) : srt (srt l) = srt l := srt_eq (srt_perm l)
theorem srt_nil : srt [] = [] := (srt_perm []).eq_nil
theorem srt_one (q : PI2) : srt [q] = [q] := List.perm_singleton.mp (srt_perm [q])
theorem outZ_nil : outZ [] = [] := srt_nil
/-- a yard at first -/
theorem frees_first (d : Nat) : frees [] d = [(0, ((2 ^ d : Nat) : Int))] := by
  unfold frees
  have e : allN (d + 1) (frl (Oc []) d) = [(0, ((2 ^ d : Nat) : Int))] := by
    rw [allN_succ]
    have e1 : allN d (frl (Oc []) d) = [] := by
      unfold allN
      refine List.flatMap_eq_nil_iff.mpr fun j hj => ?_
      have hj := List.mem_range.mp hj
      rw [← frl_first d j (by omega)]
      unfold setF
      rw [if_neg (by omega)]
      rfl
    have e2 : frl (Oc []) d d = [0] := by
      rw [← frl_first d d (Nat.le_refl _)]
      unfold setF
      rw [if_pos rfl]
      rfl
    rw [e1, e2]
    rfl
  rw [e, srt_one]
/-! ### the laws' common helpers -/
/-- the script's cell at k -/
def cell (ns : List Int) (k : Nat) : Int := ns.getD k 0
theorem emod_nat (x : Int) {n : Nat} (h : 0 < n) : ∃ m : Nat, x % (n : Int) = (m : Int) ∧ m < n := by
  have h1 := Int.emod_nonneg x (show (n : Int) ≠ 0 by omega)
  have h2 := Int.emod_lt_of_pos x (show (0 : Int) < n by omega)
  exact ⟨(x % (n : Int)).toNat, by omega, by omega⟩
theorem fit_gen {w : Int} (h1 : 1 ≤ w) : w ≤ ((2 ^ fit w : Nat) : Int) ∧ ((2 ^ fit w : Nat) : Int) < 2 * w := by
  obtain ⟨n, rfl⟩ : ∃ n : Nat, w = (n : Int) + 1 := ⟨(w - 1).toNat, by omega⟩
  have e0 : (n : Int) + 1 - 1 = (n : Int) := by omega
  unfold fit Builtin.Int.intBits
  rw [e0]
  by_cases hn : n = 0
  · subst hn
    decide
  · rw [if_neg (by simpa using hn), Int.natAbs_natCast]
    have hlt : n < 2 ^ (n.log2 + 1) := Nat.lt_log2_self
    have hle : 2 ^ n.log2 ≤ n := Nat.log2_self_le hn
    rw [Nat.pow_succ] at hlt ⊢
    omega
theorem fit_uniq {w : Int} {n : Nat} (h1 : 1 ≤ w) (h2 : w ≤ ((2 ^ n : Nat) : Int)) (h3 : ((2 ^ n : Nat) : Int) < 2 * w) : fit w = n := by
  obtain ⟨g1, g2⟩ := fit_gen h1
  apply Classical.byContradiction
  intro ne
  rcases Nat.lt_or_gt_of_ne ne with z | z
  · have : 2 ^ (fit w + 1) ≤ 2 ^ n := Nat.pow_le_pow_right (by decide) z
    rw [Nat.pow_succ] at this
    omega
  · have : 2 ^ (n + 1) ≤ 2 ^ fit w := Nat.pow_le_pow_right (by decide) z
    rw [Nat.pow_succ] at this
    omega
theorem fit_bound {w : Int} {N : Nat} (h1 : 1 ≤ w) (h2 : w ≤ ((2 ^ N : Nat) : Int)) : fit w ≤ N := by
  obtain ⟨g1, g2⟩ := fit_gen h1
  apply Classical.byContradiction
  intro z
  have : 2 ^ (N + 1) ≤ 2 ^ fit w := Nat.pow_le_pow_right (by decide) (by omega)
  rw [Nat.pow_succ] at this
  omega
def spLaw (K : PySem.W.Frag) : Sp := fun vs H Q _ => ∃ (a : Addr) (ns : List Int), vs = [.ref a] ∧ SqL K H a (ns.map V.int) ∧ ns.length ≤ 63 ∧ ∀ H', Q (.bl true) H'
abbrev sp_law (K : PySem.W.Frag) (_ : Ad) : Sp := spLaw K
def sp_law_cell_at (K : PySem.W.Frag) (_ : Ad) : Sp := fun vs H Q _ => ∃ (l : Addr) (ns : List Int) (k : Nat), vs = [.ref l, .int k] ∧ SqL K H l (ns.map V.int) ∧ ns.length ≤ 63 ∧ Q (.int (cell ns k)) H
def sp_law_whole (_ : PySem.W.Frag) (_ : Ad) : Sp := fun vs H Q _ => ∃ i : Int, vs = [.int i] ∧ Q (.bl true) H
def sp_law_doubled (_ : PySem.W.Frag) (_ : Ad) : Sp := fun vs H Q _ => ∃ n : Nat, vs = [.int n] ∧ n ≤ 1000 ∧ Q (sI n) H
def sp_law_fitting (_ : PySem.W.Frag) (_ : Ad) : Sp := fun vs H Q _ => ∃ x : Int, vs = [.int x] ∧ x ≤ ((2 ^ 200 : Nat) : Int) ∧ (x < 1 → Q (sI 0) H) ∧ (1 ≤ x → Q (sI (fit x)) H)
section
variable {P : Program} {w : World} {K : PySem.W.Frag} {mg : Str → Option Value} {base : Heap} {a : Ad}
theorem ok_law_cell_at (T : Txt K mg a) : FnOk P w K mg base CX0 1 a.f_law_cell_at a.d_law_cell_at ["_law_script", "_law_k"] (sp_law_cell_at K a) := by
  refine T.law_cell_at.fn.ok sc_law_cell_at (fun vs H Q E h => by first | (obtain ⟨rfl, _⟩ := h; rfl) | (obtain ⟨_, rfl, _⟩ := h; rfl) | (obtain ⟨_, _, rfl, _⟩ := h; rfl) | (obtain ⟨_, _, _, rfl, _⟩ := h; rfl) | (obtain ⟨_, _, _, _, rfl, _⟩ := h; rfl) | (obtain ⟨_, _, _, _, _, rfl, _⟩ := h; rfl) | (obtain ⟨_, _, _, _, _, _, rfl, _⟩ := h; rfl) | (obtain ⟨_, _, _, _, _, _, _, rfl, _⟩ := h; rfl) | (obtain ⟨_, _, _, _, _, _, _, _, rfl, _⟩ := h; rfl) | (obtain ⟨_, _, _, _, _, _, _, _, _, rfl, _⟩ := h; rfl) | (obtain ⟨_, _, _, _, _, _, _, _, _, _, rfl, _⟩ := h; rfl) | (obtain ⟨_, _, _, _, _, _, _, _, _, _, _, rfl, _⟩ := h; rfl)) (fun cdv A outer s H vs Q E hr h => ?_)
  refine ⟨_, pss_cons (ps_if (pt_cmpR op_lt (pv 1) (pe_callB call_len_seq (by rfl) T.z_len PySem.boot_len (pa_cons (pv 0) pa_nil)) (nomark _)) (pss_one (ps_ret (pe_ix ix_list (pv 0) (pv 1) (fun _ _ => rfl)))) pss_nil)
      (pss_one (ps_ret pe_int)), ?_⟩
  obtain ⟨l, ns, k, rfl, hS, hl, q⟩ := h
  refine ⟨_, rfl, _, rfl, l, _, rfl, .inl hS, _, _, rfl, rfl, _, rfl, ?_⟩
  by_cases h : k < ns.length
  · refine iteTof (decide_eq_true (by rw [List.length_map]; omega)) ?_
    refine ⟨_, rfl, _, rfl, l, _, _, _, rfl, rfl, hS, atI_nat (by rw [List.getElem?_map, List.getElem?_eq_getElem h]; rfl), ?_⟩
    have e : cell ns k = ns[k] := by simp [cell, List.getD, List.getElem?_eq_getElem h]
    rw [e] at q
    exact q
  · refine iteFof (decide_eq_false (by rw [List.length_map]; omega)) ?_
    have e : cell ns k = 0 := by simp [cell, List.getD, List.getElem?_eq_none (Nat.le_of_not_lt h)]
    rw [e] at q
    exact q
theorem ok_law_whole (T : Txt K mg a) : FnOk P w K mg base CX0 1 a.f_law_whole a.d_law_whole ["_law_found"] (sp_law_whole K a) := by
  refine T.law_whole.fn.ok sc_law_whole (fun vs H Q E h => by first | (obtain ⟨rfl, _⟩ := h; rfl) | (obtain ⟨_, rfl, _⟩ := h; rfl) | (obtain ⟨_, _, rfl, _⟩ := h; rfl) | (obtain ⟨_, _, _, rfl, _⟩ := h; rfl) | (obtain ⟨_, _, _, _, rfl, _⟩ := h; rfl) | (obtain ⟨_, _, _, _, _, rfl, _⟩ := h; rfl) | (obtain ⟨_, _, _, _, _, _, rfl, _⟩ := h; rfl) | (obtain ⟨_, _, _, _, _, _, _, rfl, _⟩ := h; rfl) | (obtain ⟨_, _, _, _, _, _, _, _, rfl, _⟩ := h; rfl) | (obtain ⟨_, _, _, _, _, _, _, _, _, rfl, _⟩ := h; rfl) | (obtain ⟨_, _, _, _, _, _, _, _, _, _, rfl, _⟩ := h; rfl) | (obtain ⟨_, _, _, _, _, _, _, _, _, _, _, rfl, _⟩ := h; rfl)) (fun cdv A outer s H vs Q E hr h => ?_)
  refine ⟨_, pss_one (ps_ret (pe_and (pe_callB call_isi (by rfl) T.z_isinstance PyProof.Rows.boot_isinstance (pa_cons (pv 0) (pa_cons (pe_bltn (v := .ty "int") (by rfl) T.z_int PyProof.Rows.boot_int rfl) pa_nil))) (pe_one (pe_not (pe_callB call_isi (by rfl) T.z_isinstance PyProof.Rows.boot_isinstance (pa_cons (pv 0) (pa_cons (pe_bltn (v := .ty "bool") (by rfl) T.z_bool PyProof.Rows.boot_bool rfl) pa_nil))))))), ?_⟩
  obtain ⟨i, rfl, q⟩ := h
  refine ⟨_, rfl, _, _, _, _, true, rfl, .ty _, .base (.int _), kit_ty (by decide +kernel), true, rfl, iteT ?_⟩
  refine ⟨_, rfl, _, _, _, _, false, rfl, .ty _, .base (.int _), kit_ty (by decide +kernel), false, rfl, ?_⟩
  exact q
theorem ok_law_doubled (T : Txt K mg a) : FnOk P w K mg base CX0 1 a.f_law_doubled a.d_law_doubled ["_law_times"] (sp_law_doubled K a) := by
  refine T.law_doubled.fn.ok sc_law_doubled (fun vs H Q E h => by first | (obtain ⟨rfl, _⟩ := h; rfl) | (obtain ⟨_, rfl, _⟩ := h; rfl) | (obtain ⟨_, _, rfl, _⟩ := h; rfl) | (obtain ⟨_, _, _, rfl, _⟩ := h; rfl) | (obtain ⟨_, _, _, _, rfl, _⟩ := h; rfl) | (obtain ⟨_, _, _, _, _, rfl, _⟩ := h; rfl) | (obtain ⟨_, _, _, _, _, _, rfl, _⟩ := h; rfl) | (obtain ⟨_, _, _, _, _, _, _, rfl, _⟩ := h; rfl) | (obtain ⟨_, _, _, _, _, _, _, _, rfl, _⟩ := h; rfl) | (obtain ⟨_, _, _, _, _, _, _, _, _, rfl, _⟩ := h; rfl) | (obtain ⟨_, _, _, _, _, _, _, _, _, _, rfl, _⟩ := h; rfl) | (obtain ⟨_, _, _, _, _, _, _, _, _, _, _, rfl, _⟩ := h; rfl)) (fun cdv A outer s H vs Q E hr h => ?_)
  refine ⟨_, pss_cons (ps_set (i := 1) sc_law_doubled.nd rfl (Or.inl rfl) pe_int)
      (pss_cons (ps_for PassesOwn.never rfl (pi_range1 rfl T.z_range (pa_cons (pv 0) pa_nil)) (pg_name (i := 2) sc_law_doubled.nd rfl (Or.inl rfl)) (pss_one (ps_set (i := 1) sc_law_doubled.nd rfl (Or.inl rfl) (pe_op op_mulX (pv 1) pe_int))))
      (pss_one (ps_ret (pv 1)))), ?_⟩
  obtain ⟨n, rfl, hn, q⟩ := h
  refine ⟨_, rfl, n, rfl, by omega, by omega, ?_⟩
  refine for_range (n := n) (fun i σ H' => i ≤ n ∧ H' = H ∧ ∃ x, σ = [some (.int n), some (sI i), x]) ⟨Nat.zero_le _, rfl, none, rfl⟩ ?_ ?_
  · rintro i σ H' hi ⟨_, rfl, x, rfl⟩
    refine ⟨_, rfl, _, _, rfl, rfl, mulx_ok (a := i + 1) (b := 3) ?_ (by decide) (by omega), ?_⟩
    · rw [Int.natAbs_natCast]
      exact Nat.pow_lt_pow_right (by decide) (by omega)
    · refine ⟨hi, rfl, some (.int (0 + i)), ?_⟩
      have ez : ((2 ^ i : Nat) : Int) * 2 = ((2 ^ (i + 1) : Nat) : Int) := by rw [Nat.pow_succ, Int.natCast_mul]; rfl
      show [some (V.int n), some (V.int (((2 ^ i : Nat) : Int) * 2)), some (V.int (0 + i))] = _
      rw [ez]
  · rintro σ H' ⟨_, rfl, x, rfl⟩
    exact ⟨_, rfl, q⟩
end
/-! ### the laws' yard: its size, the wishes, the deeds -/
theorem seq_keep {K : PySem.W.Frag} {H H' : Hp} {b : Addr} {xs : List V} (h : SqL K H b xs) (k : ∀ o, H b = some o → H' b = some o) : SqL K H' b xs := by
  rcases h with (h | ⟨o, h⟩) | h
  · exact .inl (.inl (k _ h))
  · exact .inl (.inr ⟨o, k _ h⟩)
  · exact .inr h
/-- the script stays -/
theorem seq_only {K : PySem.W.Frag} {S : List Addr} {H0 H H' : Hp} {b : Addr} {xs : List V} (h : SqL K H b xs) (o : Only S H H') (n : b ∉ S) : SqL K H' b xs := seq_keep h fun _ e => o _ _ e n
def HeldAt (S : List Addr) (H : Hp) (l : Addr) (held : List PN) : Prop := l ∉ S ∧ ∃ ts : List Addr, H l = some (.lst (ts.map V.ref)) ∧ Tups H ts (held.map toI)
theorem HeldAt.only {a : Ad} {Y : YA} {d : Nat} {os held : List PN} {H H' : Hp} {l : Addr} (h : HeldAt (own Y d) H l held) (ya : YardAt a Y d os H) (o : Only (own Y d) H H') : HeldAt (own Y d) H' l held := by
  obtain ⟨n, ts, h1, h2⟩ := h
  exact ⟨n, ts, o _ _ h1 n, h2.keep fun t xs e => o _ _ e (ya.off e (by intro xs z; cases z) (by intro xs z; cases z))⟩
theorem HeldAt.same {S : List Addr} {held : List PN} {H H' : Hp} {l : Addr} (h : HeldAt S H l held) (k : ∀ b o, H b = some o → H' b = some o) : HeldAt S H' l held := by
  obtain ⟨n, ts, h1, h2⟩ := h
  exact ⟨n, ts, k _ _ h1, h2.keep fun t xs e => k _ _ e⟩
theorem toI_inj {p q : PN} (h : toI p = toI q) : p = q := by
  have h1 : (p.1 : Int) = (q.1 : Int) := congrArg Prod.fst h
  have h2 : ((2 ^ p.2 : Nat) : Int) = ((2 ^ q.2 : Nat) : Int) := congrArg Prod.snd h
  exact Prod.ext (by omega) (pow_inj h2)
theorem Good.nodup {d : Nat} {os : List PN} (g : Good d os) : os.Nodup := g.disj.imp fun {p q} h e => h p.1 rfl (by rw [e])
theorem Best.perm {os os' : List PN} {d k m n : Nat} (b : Best os d k m n) (s : os'.Perm os) : Best os' d k m n := by
  have e := Oc.perm s
  exact ⟨b.le, by rw [e]; exact b.mx, b.al, by rw [e]; exact b.small, by rw [e]; exact b.first⟩
theorem Best.uniq {os : List PN} {d k m n m' n' : Nat} (b : Best os d k m n) (b' : Best os d k m' n') : m = m' ∧ n = n' := by
  have e : m = m' := by
    rcases Nat.lt_trichotomy m m' with z | z | z
    · exact absurd b.mx (b'.small m _ b.le z)
    · exact z
    · exact absurd b'.mx (b.small m' _ b'.le z)
  subst e
  refine ⟨rfl, Nat.le_antisymm ?_ ?_⟩
  · have := b.first _ b'.mx
    rw [b'.al] at this
    exact this
  · have := b'.first _ b.mx
    rw [b.al] at this
    exact this
theorem outs_perm {os os' : List PN} (s : os'.Perm os) (n : Nat) : (outs os' n).Perm (outs os n) := s.filter _
theorem Fits.perm {os os' : List PN} {n k : Nat} (f : Fits os n k) (s : os'.Perm os) : Fits os' n k := ⟨f.1, by rw [Oc.perm (outs_perm s n)]; exact f.2⟩
theorem outs_piece {d : Nat} {os : List PN} {n k : Nat} (g : Good d os) (m : (n, k) ∈ os) : os.filter (fun q => decide (q ≠ (n, k))) = outs os n := by
  unfold outs
  refine List.filter_congr fun q hq => ?_
  rw [decide_eq_decide]
  constructor
  · intro h e
    exact h (g.key hq m e)
  · intro h e
    exact h (by rw [e])
theorem outr_perm {d : Nat} {os : List PN} {n h k : Nat} (g : Good d os) (m : (n, h) ∈ os) (hk : k ≤ d) (f : Fits os n k) : (outs os n ++ [(n, k)]).Perm (outr os n k) := by
  have g2 := Good.outr g m hk f.1 f.2
  refine (List.perm_ext_iff_of_nodup ?_ g2.nodup).mpr fun q => ?_
  · refine List.nodup_append.mpr ⟨(g.sub List.filter_sublist).nodup, by simp, fun p hp q hq e => ?_⟩
    have := List.mem_singleton.mp hq
    subst this
    subst e
    have := (List.mem_filter.mp hp).2
    simp at this
  · rw [outr_mem g m, List.mem_append, List.mem_singleton]
theorem outr_len (os : List PN) (n k : Nat) : (outr os n k).length = os.length := by unfold outr; rw [List.length_map]
/-- the wish that a cell makes -/
def wantF (c : Int) (d : Nat) : Int :=
  if c % 8 < 3 then 1 + c / 8 % 9
  else if c % 8 < 6 then ((2 ^ d : Nat) : Int) / ((2 ^ (c / 8 % 7).toNat : Nat) : Int) + c / 8 / 7 % 3 - 1
  else if c % 8 < 7 then 1 + (c / 8).fmod ((2 ^ d : Nat) : Int)
  else ([0, -1 - c / 8 % 10 ^ 30, ((2 ^ d : Nat) : Int) + 1 + c / 8 % 10 ^ 20] : List Int).getD (c / 8 % 3).toNat 0
theorem wantF_le {c : Int} {d : Nat} (h : d ≤ 60) : wantF c d ≤ ((2 ^ 200 : Nat) : Int) := by
  have p := pow60 h
  have pd : 0 < 2 ^ d := Nat.pow_pos (by decide)
  have big : (1152921504606846976 : Int) + 1 + 100000000000000000000 ≤ ((2 ^ 200 : Nat) : Int) := by decide
  have e20 : (10 : Int) ^ 20 = 100000000000000000000 := by decide
  have e30 : (10 : Int) ^ 30 = 1000000000000000000000000000000 := by decide
  generalize ((2 ^ 200 : Nat) : Int) = B at big
  unfold wantF
  rw [e20, e30]
  have q1 : 0 < 2 ^ (c / 8 % 7).toNat := Nat.pow_pos (by decide)
  generalize 2 ^ (c / 8 % 7).toNat = t at q1
  generalize 2 ^ d = n at p pd
  have hdiv : (n : Int) / (t : Int) ≤ n := Int.ediv_le_self _ (by omega)
  split
  · omega
  · split
    · omega
    · split
      · rw [Int.fmod_eq_emod_of_nonneg _ (by omega)]
        have := Int.emod_lt_of_pos (c / 8) (show (0 : Int) < (n : Int) by omega)
        omega
      · have h3 : (c / 8 % 3).toNat < 3 := by omega
        generalize (c / 8 % 3).toNat = i at h3
        match i, h3 with
        | 0, _ => show (0 : Int) ≤ B; omega
        | 1, _ => show -1 - c / 8 % 1000000000000000000000000000000 ≤ B; omega
        | 2, _ => show (n : Int) + 1 + c / 8 % 100000000000000000000 ≤ B; omega
/-- where a wish is granted, if it is -/
noncomputable def giveF (d : Nat) (held : List PN) (x : Int) : Option Nat := by
  classical
  exact if h : 1 ≤ x ∧ x ≤ ((2 ^ d : Nat) : Int) ∧ ∃ n m, Best held d (fit x) m n then some (Classical.choose h.2.2) else none
theorem giveF_some {d : Nat} {held : List PN} {x : Int} {m n : Nat} (h1 : 1 ≤ x) (h2 : x ≤ ((2 ^ d : Nat) : Int)) (b : Best held d (fit x) m n) : giveF d held x = some n := by
  unfold giveF
  have h : 1 ≤ x ∧ x ≤ ((2 ^ d : Nat) : Int) ∧ ∃ n m, Best held d (fit x) m n := ⟨h1, h2, n, m, b⟩
  rw [dif_pos h]
  obtain ⟨m', b'⟩ := Classical.choose_spec h.2.2
  rw [(b'.uniq b).2]
theorem giveF_none {d : Nat} {held : List PN} {x : Int} (h : x < 1 ∨ x > ((2 ^ d : Nat) : Int) ∨ ∀ j i, fit x ≤ j → ¬ Mx (Oc held) d j i) : giveF d held x = none := by
  unfold giveF
  rw [dif_neg]
  rintro ⟨h1, h2, n, m, b⟩
  rcases h with z | z | z
  · omega
  · omega
  · exact z m _ b.le b.mx
/-- a deed -/
noncomputable def doneF (d : Nat) (held : List PN) (c : Int) : List PN := by
  classical
  exact
    if c % 4 < 2 ∨ held = [] then
      match giveF d held (wantF (c / 4) d) with
      | none => held
      | some n => held ++ [(n, fit (wantF (c / 4) d))]
    else
      let p := held.getD ((c / 4).fmod (held.length : Int)).toNat (0, 0)
      let left := held.filter fun q => decide (q ≠ p)
      if c % 4 = 2 then left
      else
        let x := wantF (c / 4 / (held.length : Int)) d
        if 1 ≤ x ∧ x ≤ ((2 ^ d : Nat) : Int) ∧ Fits held p.1 (fit x) then left ++ [(p.1, fit x)] else held
def sp_law_room (K : PySem.W.Frag) (_ : Ad) : Sp := fun vs H Q _ => ∃ (l : Addr) (ns : List Int) (i j : Int), vs = [.ref l, .int i, .int j] ∧ SqL K H l (ns.map V.int) ∧ ns.length ≤ 63 ∧ Q (.int i) H
def sp_law_yard_size (K : PySem.W.Frag) (_ : Ad) : Sp := fun vs H Q _ => ∃ (l : Addr) (ns : List Int), vs = [.ref l] ∧ SqL K H l (ns.map V.int) ∧ ns.length ≤ 63 ∧ ∀ d : Nat, d ≤ 60 → Q (sI d) H
def sp_law_want (_ : PySem.W.Frag) (_ : Ad) : Sp := fun vs H Q _ => ∃ (c : Int) (d : Nat), vs = [.int c, sI d] ∧ d ≤ 60 ∧ ∀ H', (∀ b o, H b = some o → H' b = some o) → Q (.int (wantF c d)) H'
def sp_law_done (_ : PySem.W.Frag) (a : Ad) : Sp := fun vs H Q _ => ∃ (Y : YA) (d : Nat) (os held : List PN) (l : Addr) (c : Int), vs = [.ref Y.y, .ref l, .int c, sI d] ∧ YardAt a Y d os H ∧ HeldAt (own Y d) H l held ∧ held.Perm os ∧ os.length < 50000 ∧
  ∀ (os' : List PN) (l' : Addr) (H' : Hp), YardAt a Y d os' H' → HeldAt (own Y d) H' l' (doneF d held c) → (doneF d held c).Perm os' → os'.length ≤ os.length + 1 → Only (own Y d) H H' → Q (.ref l') H'
section
variable {P : Program} {w : World} {K : PySem.W.Frag} {mg : Str → Option Value} {base : Heap} {a : Ad}
end
/-! ### a deed, and what is out at first -/
theorem doneF_give {d : Nat} {held : List PN} {c : Int} (h : c % 4 < 2 ∨ held = []) : doneF d held c = match giveF d held (wantF (c / 4) d) with | none => held | some n => held ++ [(n, fit (wantF (c / 4) d))] := by
  unfold doneF
  rw [if_pos h]
  all_goals rfl
theorem doneF_back {d : Nat} {held : List PN} {c : Int} (h : ¬ (c % 4 < 2 ∨ held = [])) (h2 : c % 4 = 2) {i : Nat} (hi : (c / 4).fmod (held.length : Int) = (i : Int)) {p : PN} (e : held[i]? = some p) : doneF d held c = held.filter fun q => decide (q ≠ p) := by
  have ep : held.getD ((c / 4).fmod (held.length : Int)).toNat (0, 0) = p := by rw [hi, Int.toNat_natCast, List.getD, e]; rfl
  unfold doneF
  simp only []
  rw [if_neg h, if_pos h2, ep]
theorem doneF_size {d : Nat} {held : List PN} {c : Int} (h : ¬ (c % 4 < 2 ∨ held = [])) (h2 : ¬ c % 4 = 2) {i : Nat} (hi : (c / 4).fmod (held.length : Int) = (i : Int)) {p : PN} (e : held[i]? = some p) :
    ((1 ≤ wantF (c / 4 / (held.length : Int)) d ∧ wantF (c / 4 / (held.length : Int)) d ≤ ((2 ^ d : Nat) : Int) ∧ Fits held p.1 (fit (wantF (c / 4 / (held.length : Int)) d))) →
      doneF d held c = (held.filter fun q => decide (q ≠ p)) ++ [(p.1, fit (wantF (c / 4 / (held.length : Int)) d))]) ∧
    (¬ (1 ≤ wantF (c / 4 / (held.length : Int)) d ∧ wantF (c / 4 / (held.length : Int)) d ≤ ((2 ^ d : Nat) : Int) ∧ Fits held p.1 (fit (wantF (c / 4 / (held.length : Int)) d))) → doneF d held c = held) := by
  have ep : held.getD ((c / 4).fmod (held.length : Int)).toNat (0, 0) = p := by rw [hi, Int.toNat_natCast, List.getD, e]; rfl
  constructor
  · intro z
    unfold doneF
    simp only []
    rw [if_neg h, if_neg h2, ep, if_pos z]
  · intro z
    unfold doneF
    simp only []
    rw [if_neg h, if_neg h2, ep, if_neg z]
theorem filter_take {α : Type} {f : α → Bool} {l : List α} {i : Nat} {x : α} (h : l[i]? = some x) : (l.take (i + 1)).filter f = (l.take i).filter f ++ (if f x then [x] else []) := by
  rw [List.take_add_one, h, Option.toList_some, List.filter_append]
  congr 1
  by_cases e : f x = true
  · rw [List.filter_cons_of_pos e, if_pos e]; rfl
  · rw [List.filter_cons_of_neg e, if_neg e]; rfl
section
variable {P : Program} {w : World} {K : PySem.W.Frag} {mg : Str → Option Value} {base : Heap} {a : Ad}
end
/-- only pieces of one cell, fewer than the yard has: one more can be given -/
theorem one_more {d : Nat} {os : List PN} (h : ∀ q ∈ os, q.2 = 0) (l : os.length < 2 ^ d) : ¬ ∀ j i, 0 ≤ j → ¬ Mx (Oc os) d j i := by
  intro z
  have all : ∀ c, c < 2 ^ d → ∃ q ∈ os, q.1 = c := by
    intro c hc
    apply Classical.byContradiction
    intro no
    have f : Fr (Oc os) 0 (c / 2 ^ 0) := by
      rintro c' e ⟨q, m, e2⟩
      rw [h q m] at e2
      rw [Nat.pow_zero, Nat.div_one, Nat.div_one] at e e2
      exact no ⟨q, m, by omega⟩
    obtain ⟨m, _, hm⟩ := mx_exists hc _ 0 rfl (Nat.zero_le _) f
    exact z m _ (Nat.zero_le _) hm
  have := nodup_le (R := fun c (q : PN) => q.1 = c) (l := List.range (2 ^ d)) (m := os) List.nodup_range (fun c hc => all c (List.mem_range.mp hc)) (fun c c' q _ _ e e' => e.symm.trans e')
  rw [List.length_range] at this
  omega
theorem fit_one : fit 1 = 0 := by decide
/-- what is left when of the pieces every second of the first ones is back -/
def LeftOf (held os : List PN) (j : Nat) : Prop := ∀ q, q ∈ os ↔ ∃ i, held[i]? = some q ∧ ¬ (i % 2 = 1 ∧ i < 2 * j)
theorem left_next {d : Nat} {held os : List PN} {j n k : Nat} (g : Good d held) (h : LeftOf held os j) (e : held[2 * j + 1]? = some (n, k)) : LeftOf held (outs os n) (j + 1) := by
  intro q
  unfold outs
  rw [List.mem_filter, h q]
  constructor
  · rintro ⟨⟨i, e1, n1⟩, n2⟩
    refine ⟨i, e1, fun z => ?_⟩
    have : i = 2 * j + 1 := by omega
    subst this
    rw [e] at e1
    have e1 := Option.some.inj e1
    subst e1
    simp at n2
  · rintro ⟨i, e1, n1⟩
    refine ⟨⟨i, e1, fun z => n1 ⟨z.1, by omega⟩⟩, decide_eq_true fun z => ?_⟩
    have e3 := g.key (List.mem_of_getElem? e1) (List.mem_of_getElem? e) z
    rw [e3] at e1
    have l1 := (List.getElem?_eq_some_iff.mp e1).1
    have := (List.getElem?_inj l1 g.nodup).mp (e1.trans e.symm)
    exact n1 ⟨by omega, by omega⟩
/-- every second one, from the first on -/
def seconds (held : List PN) (n : Nat) : List PN := ((List.range n).filter fun i => decide (i % 2 = 0)).map fun i => held.getD i (0, 0)
theorem seconds_mem {held : List PN} {q : PN} : q ∈ seconds held held.length ↔ ∃ i, held[i]? = some q ∧ i % 2 = 0 := by
  unfold seconds
  constructor
  · intro z
    obtain ⟨i, hi, e⟩ := List.mem_map.mp z
    obtain ⟨h1, h2⟩ := List.mem_filter.mp hi
    have h1 := List.mem_range.mp h1
    refine ⟨i, ?_, of_decide_eq_true h2⟩
    rw [List.getElem?_eq_getElem h1]
    rw [List.getD, List.getElem?_eq_getElem h1] at e
    exact congrArg some e
  · rintro ⟨i, e, h2⟩
    obtain ⟨h1, e1⟩ := List.getElem?_eq_some_iff.mp e
    refine List.mem_map.mpr ⟨i, List.mem_filter.mpr ⟨List.mem_range.mpr h1, decide_eq_true h2⟩, ?_⟩
    rw [List.getD, e]
    rfl
theorem seconds_succ (held : List PN) (i : Nat) : seconds held (i + 1) = seconds held i ++ (if i % 2 = 0 then [held.getD i (0, 0)] else []) := by
  unfold seconds
  rw [List.range_succ, List.filter_append, List.map_append]
  congr 1
  by_cases e : i % 2 = 0
  · simp [e]
  · simp [e]
theorem seconds_nodup {d : Nat} {held : List PN} (g : Good d held) : (seconds held held.length).Nodup := by
  unfold seconds
  refine (List.pairwise_map).mpr ((List.nodup_range.filter _).imp_of_mem fun {i j} hi hj ne e => ne ?_)
  have h1 := List.mem_range.mp (List.mem_filter.mp hi).1
  have h2 := List.mem_range.mp (List.mem_filter.mp hj).1
  rw [List.getD, List.getD, List.getElem?_eq_getElem h1, List.getElem?_eq_getElem h2] at e
  exact (List.getElem?_inj h1 g.nodup).mp (by rw [List.getElem?_eq_getElem h1, List.getElem?_eq_getElem h2]; exact congrArg some e)
def sp_law_begun (_ : PySem.W.Frag) (a : Ad) : Sp := fun vs H Q _ => ∃ (Y : YA) (d : Nat) (c : Int), vs = [.ref Y.y, .int c, sI d] ∧ YardAt a Y d [] H ∧
  ∀ (os held : List PN) (l : Addr) (H' : Hp), YardAt a Y d os H' → HeldAt (own Y d) H' l held → held.Perm os → os.length ≤ 131 → Only (own Y d) H H' → Q (.ref l) H'
section
variable {P : Program} {w : World} {K : PySem.W.Frag} {mg : Str → Option Value} {base : Heap} {a : Ad}
end
/-! ### the pieces, out and free, side by side -/
noncomputable def freeN (os : List PN) (d n : Nat) : List PN := (List.range n).flatMap fun j => (frl (Oc os) d j).map fun x => (x, j)
noncomputable def freeP (os : List PN) (d : Nat) : List PN := freeN os d (d + 1)
theorem freeN_map (os : List PN) (d n : Nat) : (freeN os d n).map toI = allN n (frl (Oc os) d) := by
  unfold freeN allN
  rw [List.map_flatMap]
  congr 1
  funext j
  rw [List.map_map]
  rfl
theorem frees_eq (os : List PN) (d : Nat) : frees os d = srt ((freeP os d).map toI) := by
  unfold frees freeP
  rw [freeN_map]
theorem freeP_mem {os : List PN} {d : Nat} {q : PN} : q ∈ freeP os d ↔ Mx (Oc os) d q.2 (q.1 / 2 ^ q.2) ∧ q.1 / 2 ^ q.2 * 2 ^ q.2 = q.1 := by
  unfold freeP freeN
  rw [List.mem_flatMap]
  constructor
  · rintro ⟨j, hj, hq⟩
    obtain ⟨x, hx, rfl⟩ := List.mem_map.mp hq
    obtain ⟨i, e, h⟩ := frl_mem.mp hx
    subst e
    show Mx (Oc os) d j (i * 2 ^ j / 2 ^ j) ∧ i * 2 ^ j / 2 ^ j * 2 ^ j = i * 2 ^ j
    rw [blk_of]
    exact ⟨h, rfl⟩
  · rintro ⟨h, e⟩
    refine ⟨q.2, List.mem_range.mpr (by have := h.1; omega), List.mem_map.mpr ⟨q.1, frl_mem.mpr ⟨_, e.symm, h⟩, rfl⟩⟩
theorem mx_lt {O : Nat → Prop} {d j c : Nat} (h : Mx O d j (c / 2 ^ j)) (e : c / 2 ^ j * 2 ^ j = c) : c < 2 ^ d := by
  have h1 := h.2.1
  have p : 0 < 2 ^ j := Nat.pow_pos (by decide)
  have e2 : 2 ^ d = 2 ^ (d - j) * 2 ^ j := by rw [← Nat.pow_add, show d - j + j = d by have := h.1; omega]
  rw [← e, e2]
  exact Nat.mul_lt_mul_of_pos_right h1 p
theorem freeP_nodup (os : List PN) (d : Nat) : (freeP os d).Nodup := by
  unfold freeP freeN
  rw [List.Nodup, List.pairwise_flatMap]
  constructor
  · intro j _
    exact List.pairwise_map.mpr ((frl_rise _ _ _).imp fun l e => by
      have := congrArg Prod.fst e
      simp at this
      omega)
  · refine List.pairwise_lt_range.imp fun {i j} l p hp q hq e => ?_
    obtain ⟨x, _, rfl⟩ := List.mem_map.mp hp
    obtain ⟨y, _, rfl⟩ := List.mem_map.mp hq
    have := congrArg Prod.snd e
    simp at this
    omega
theorem good_all {d : Nat} {os : List PN} (g : Good d os) : Good d (os ++ freeP os d) := by
  refine ⟨fun q m => ?_, List.pairwise_append.mpr ⟨g.disj, ?_, fun p hp q hq c e1 e2 => ?_⟩⟩
  · rcases List.mem_append.mp m with m | m
    · exact g.each q m
    · obtain ⟨h, e⟩ := freeP_mem.mp m
      exact ⟨h.1, e, mx_lt h e⟩
  · refine (freeP_nodup os d).imp_of_mem fun {p q} hp hq ne c e1 e2 => ne ?_
    obtain ⟨h1, a1⟩ := freeP_mem.mp hp
    obtain ⟨h2, a2⟩ := freeP_mem.mp hq
    rw [← e1] at h1
    rw [← e2] at h2
    have ej := mx_uniq h1 h2
    have ex : p.1 = q.1 := by rw [← a1, ← a2, ← e1, ← e2, ej]
    exact Prod.ext ex ej
  · obtain ⟨h2, a2⟩ := freeP_mem.mp hq
    exact h2.2.2.1 c e2 ⟨p, hp, e1⟩
theorem cover_all {d c : Nat} {os : List PN} (hc : c < 2 ^ d) : ∃ q ∈ os ++ freeP os d, c / 2 ^ q.2 = q.1 / 2 ^ q.2 := by
  by_cases h : Oc os c
  · obtain ⟨q, m, e⟩ := h
    exact ⟨q, List.mem_append.mpr (.inl m), e⟩
  · have f : Fr (Oc os) 0 (c / 2 ^ 0) := by
      intro c' e z
      rw [Nat.pow_zero, Nat.div_one, Nat.div_one] at e
      rw [e] at z
      exact h z
    obtain ⟨m, _, hm⟩ := mx_exists hc _ 0 rfl (Nat.zero_le _) f
    have e1 : c / 2 ^ m * 2 ^ m / 2 ^ m = c / 2 ^ m := blk_of _ _
    refine ⟨(c / 2 ^ m * 2 ^ m, m), List.mem_append.mpr (.inr (freeP_mem.mpr ⟨by show Mx (Oc os) d m (c / 2 ^ m * 2 ^ m / 2 ^ m); rw [e1]; exact hm, by show c / 2 ^ m * 2 ^ m / 2 ^ m * 2 ^ m = c / 2 ^ m * 2 ^ m; rw [e1]⟩)), ?_⟩
    show c / 2 ^ m = c / 2 ^ m * 2 ^ m / 2 ^ m
    rw [e1]
def Chain : Nat → List PN → Nat → Prop
  | b, [], e => b = e
  | b, q :: l, e => q.1 = b ∧ Chain (q.1 + 2 ^ q.2) l e
theorem chain_of {d : Nat} : ∀ {l : List PN} {b : Nat}, l.Pairwise (fun p q => p.1 < q.1) → Good d l → b ≤ 2 ^ d → (∀ q ∈ l, b ≤ q.1) → (∀ c, b ≤ c → c < 2 ^ d → ∃ q ∈ l, c / 2 ^ q.2 = q.1 / 2 ^ q.2) → Chain b l (2 ^ d)
  | [], b, _, _, hb, _, cov => by
    show b = 2 ^ d
    apply Classical.byContradiction
    intro z
    obtain ⟨q, m, _⟩ := cov b (Nat.le_refl _) (by omega)
    cases m
  | q :: l, b, srtd, g, hb, low, cov => by
    obtain ⟨s1, s2⟩ := List.pairwise_cons.mp srtd
    have gq := g.each q List.mem_cons_self
    have pq : 0 < 2 ^ q.2 := Nat.pow_pos (by decide)
    have start : ∀ p ∈ q :: l, ∀ c, c / 2 ^ p.2 = p.1 / 2 ^ p.2 → p.1 ≤ c := fun p hp c e => by
      have a := (g.each p hp).2.1
      rw [← a, ← e]
      exact Nat.div_mul_le_self c _
    have eb : q.1 = b := by
      apply Classical.byContradiction
      intro z
      have lq := low q List.mem_cons_self
      obtain ⟨p, hp, e⟩ := cov b (Nat.le_refl _) (by omega)
      have h1 := start p hp b e
      rcases List.mem_cons.mp hp with rfl | hp
      · omega
      · have := s1 p hp
        omega
    have fits : q.1 + 2 ^ q.2 ≤ 2 ^ d := by
      obtain ⟨a1, a2, a3⟩ := gq
      have e2 : 2 ^ d = 2 ^ (d - q.2) * 2 ^ q.2 := by rw [← Nat.pow_add, show d - q.2 + q.2 = d by omega]
      have lt : q.1 / 2 ^ q.2 < 2 ^ (d - q.2) := blk_lt a3 a1
      rw [← a2, e2, ← Nat.succ_mul]
      exact Nat.mul_le_mul_right _ lt
    have inq : ∀ c, q.1 ≤ c → c < q.1 + 2 ^ q.2 → c / 2 ^ q.2 = q.1 / 2 ^ q.2 := fun c h1 h2 => by
      have a := gq.2.1
      generalize q.1 / 2 ^ q.2 = i at a
      refine Nat.div_eq_of_lt_le (by omega) ?_
      rw [Nat.succ_mul]
      omega
    have g2 : Good d l := g.sub (List.sublist_cons_self q l)
    refine ⟨eb, chain_of s2 g2 fits (fun p hp => ?_) (fun c h1 h2 => ?_)⟩
    · apply Classical.byContradiction
      intro z
      have l1 := s1 p hp
      have := (List.pairwise_cons.mp g.disj).1 p hp p.1 (inq p.1 (by omega) (by omega))
      exact this rfl
    · obtain ⟨p, hp, e⟩ := cov c (by omega) h2
      rcases List.mem_cons.mp hp with rfl | hp
      · exfalso
        have a := gq.2.1
        have h3 := Nat.lt_div_mul_add (a := c) pq
        rw [e, a] at h3
        omega
      · exact ⟨p, hp, e⟩
theorem chain_sum : ∀ {l : List PN} {b e : Nat}, Chain b l e → b + (l.map fun q => 2 ^ q.2).sum = e
  | [], b, e, h => h
  | q :: l, b, e, h => by
    obtain ⟨h1, h2⟩ := h
    have := chain_sum h2
    rw [List.map_cons, List.sum_cons]
    omega
theorem tile {d : Nat} {os : List PN} (g : Good d os) : ∃ L : List PN, L.Perm (os ++ freeP os d) ∧ srt ((os ++ freeP os d).map toI) = L.map toI ∧ Chain 0 L (2 ^ d) := by
  have ga := good_all g
  let le : PN → PN → Bool := fun p q => decide (p.1 ≤ q.1)
  have perm := List.mergeSort_perm (os ++ freeP os d) le
  have gL := ga.perm perm
  have sorted : ((os ++ freeP os d).mergeSort le).Pairwise fun p q => le p q = true := List.pairwise_mergeSort (fun x y z h1 h2 => by simp [le] at *; omega) (fun x y => by simp [le]; omega) _
  have strict : ((os ++ freeP os d).mergeSort le).Pairwise fun p q => p.1 < q.1 := by
    refine (sorted.and gL.disj).imp_of_mem fun {p q} hp hq h => ?_
    have h1 : p.1 ≤ q.1 := of_decide_eq_true h.1
    have h2 : p.1 ≠ q.1 := fun e => h.2 p.1 rfl (by rw [e])
    omega
  refine ⟨_, perm, ?_, chain_of strict gL (Nat.zero_le _) (fun _ _ => Nat.zero_le _) fun c _ hc => ?_⟩
  · refine (srt_of (perm.map toI) (List.pairwise_map.mpr (strict.imp fun {p q} l => ?_))).symm
    rw [SrtO.lexB_no]
    show ¬ ((q.1 : Int) < (p.1 : Int) ∨ _)
    unfold toI
    show ¬ ((q.1 : Int) < (p.1 : Int) ∨ ((q.1 : Int) = (p.1 : Int) ∧ _))
    omega
  · obtain ⟨q, m, e⟩ := cover_all (os := os) hc
    exact ⟨q, perm.mem_iff.mpr m, e⟩
theorem sum_cast (l : List PN) : ((l.map toI).map (·.2)).sum = (((l.map fun q => 2 ^ q.2).sum : Nat) : Int) := by
  induction l with
  | nil => rfl
  | cons q l ih =>
    rw [List.map_cons, List.map_cons, List.sum_cons, ih, List.map_cons, List.sum_cons, Int.natCast_add]
    rfl
theorem sum_perm {l m : List Int} (p : l.Perm m) : l.sum = m.sum := by
  induction p with
  | nil => rfl
  | cons x _ ih => rw [List.sum_cons, List.sum_cons, ih]
  | swap x y l => rw [List.sum_cons, List.sum_cons, List.sum_cons, List.sum_cons]; omega
  | trans _ _ h1 h2 => rw [h1, h2]
/-- as many cells are free as are not out -/
theorem free_sum {d : Nat} {os held : List PN} (g : Good d os) (p : held.Perm os) : ((frees os d).map (·.2)).sum = ((2 ^ d : Nat) : Int) - ((held.map toI).map (·.2)).sum := by
  obtain ⟨L, pL, _, ch⟩ := tile g
  have s := chain_sum ch
  have e1 : ((L.map toI).map (·.2)).sum = (((held.map toI).map (·.2)).sum) + ((frees os d).map (·.2)).sum := by
    have q := ((pL.trans (p.symm.append_right (freeP os d))).map toI).map (fun z : PI2 => z.2)
    rw [sum_perm q, List.map_append, List.map_append, List.sum_append]
    congr 1
    rw [frees_eq]
    exact sum_perm ((srt_perm _).symm.map _)
  rw [sum_cast L] at e1
  omega
/-- no two twins are both free -/
theorem no_twins {d : Nat} {os : List PN} {q : PN} (m : q ∈ freeP os d) : (sib (q.1 / 2 ^ q.2) * 2 ^ q.2, q.2) ∉ freeP os d := by
  intro z
  obtain ⟨h1, _⟩ := freeP_mem.mp m
  obtain ⟨h2, _⟩ := freeP_mem.mp z
  have e : sib (q.1 / 2 ^ q.2) * 2 ^ q.2 / 2 ^ q.2 = sib (q.1 / 2 ^ q.2) := blk_of _ _
  have h2 : Mx (Oc os) d q.2 (sib (q.1 / 2 ^ q.2)) := by
    have h3 : Mx (Oc os) d q.2 (sib (q.1 / 2 ^ q.2) * 2 ^ q.2 / 2 ^ q.2) := h2
    rw [e] at h3
    exact h3
  by_cases l : q.2 < d
  · exact h1.2.2.2 l (fr_half h1.2.2.1 h2.2.2.1)
  · have a1 := h1.2.1
    have a2 := h2.2.1
    rw [show d - q.2 = 0 by omega, Nat.pow_zero] at a1 a2
    have a3 := sib_ne (q.1 / 2 ^ q.2)
    generalize q.1 / 2 ^ q.2 = z at a1 a2 a3
    omega
/-! ### the first piece of a yard -/
theorem mx_first {d j i : Nat} : Mx (Oc []) d j i ↔ j = d ∧ i = 0 := by
  have no : ∀ k i, Fr (Oc []) k i := fun k i c _ ⟨q, m, _⟩ => by cases m
  constructor
  · rintro ⟨h1, h2, _, h4⟩
    have : j = d := by
      apply Classical.byContradiction
      intro z
      exact h4 (by omega) (no _ _)
    subst this
    rw [Nat.sub_self, Nat.pow_zero] at h2
    omega
  · rintro ⟨rfl, rfl⟩
    exact ⟨Nat.le_refl _, Nat.pow_pos (by decide), no _ _, fun l => by omega⟩
theorem best_first {d k : Nat} (h : k ≤ d) : Best [] d k d 0 := by
  refine ⟨h, ?_, by rw [Nat.zero_div, Nat.zero_mul], fun j i _ l z => ?_, fun i _ => Nat.zero_le _⟩
  · rw [Nat.zero_div]
    exact mx_first.mpr ⟨rfl, rfl⟩
  · have := (mx_first.mp z).1
    omega
/-- the upper halves of the whole yard, from the least on -/
def ups (k n : Nat) : List PI2 := (List.range n).map fun i => (((2 ^ (k + i) : Nat) : Int), ((2 ^ (k + i) : Nat) : Int))
theorem ups_succ (k n : Nat) : ups k (n + 1) = ups k n ++ [(((2 ^ (k + n) : Nat) : Int), ((2 ^ (k + n) : Nat) : Int))] := by
  unfold ups
  rw [List.range_succ, List.map_append]
  rfl
theorem ups_sorted (k n : Nat) : srt (ups k n) = ups k n := by
  refine (srt_of (List.Perm.refl _) ?_).symm
  unfold ups
  refine List.pairwise_map.mpr ((List.pairwise_lt_range).imp fun {i j} l => ?_)
  rw [SrtO.lexB_no]
  have : 2 ^ (k + i) < 2 ^ (k + j) := Nat.pow_lt_pow_right (by decide) (by omega)
  show ¬ (((2 ^ (k + j) : Nat) : Int) < ((2 ^ (k + i) : Nat) : Int) ∨ _)
  omega
theorem frees_one {d k : Nat} (h : k ≤ d) : frees [(0, k)] d = ups k (d - k) := by
  have hM : Mx (Oc []) d d (0 / 2 ^ d) := by rw [Nat.zero_div]; exact mx_first.mpr ⟨rfl, rfl⟩
  have hO : ∀ c, Oc [(0, k)] c ↔ Oc [] c ∨ c / 2 ^ k = 0 / 2 ^ k := fun c => Oc_snoc (os := []) (x := 0) (k := k)
  have lev : ∀ j, j ≤ d → frl (Oc [(0, k)]) d j = if k ≤ j ∧ j < d then [2 ^ j] else [] := by
    intro j hj
    rw [← can_give h hM hO j]
    have e0 : setF (frl (Oc []) d) d (del (0 / 2 ^ d * 2 ^ d) (frl (Oc []) d d)) j = [] := by
      unfold setF
      by_cases e : j = d
      · subst e
        rw [if_pos rfl, ← frl_first j j (Nat.le_refl _)]
        unfold setF
        rw [if_pos rfl, Nat.zero_div, Nat.zero_mul]
        rfl
      · rw [if_neg e]
        exact frl_nil.mpr fun i z => e (mx_first.mp z).1
    unfold addF
    rw [e0]
    by_cases c : k ≤ j ∧ j < d
    · rw [if_pos c, if_pos c, Nat.zero_div]
      show ins (1 * 2 ^ j) [] = [2 ^ j]
      rw [Nat.one_mul]
      rfl
    · rw [if_neg c, if_neg c]
  have all : ∀ n, n ≤ d + 1 → allN n (frl (Oc [(0, k)]) d) = ups k (min n d - k) := by
    intro n
    induction n with
    | zero =>
      intro _
      rw [Nat.zero_min, Nat.zero_sub]
      rfl
    | succ n ih =>
      intro hn
      rw [allN_succ, ih (by omega), lev n (by omega)]
      by_cases c : k ≤ n ∧ n < d
      · rw [if_pos c, Nat.min_eq_left (by omega), Nat.min_eq_left (by omega), show n + 1 - k = n - k + 1 by omega, ups_succ, show k + (n - k) = n by omega]
        rfl
      · rw [if_neg c, List.map_nil, List.append_nil]
        by_cases c1 : n < d
        · rw [show min n d - k = 0 by omega, show min (n + 1) d - k = 0 by omega]
        · rw [show min (n + 1) d = min n d by omega]
  unfold frees
  rw [all (d + 1) (Nat.le_refl _), Nat.min_eq_right (by omega), ups_sorted]
theorem cut_int {ns : List Int} {lo hi : Option Int} {v : V} {i : Nat} (h : (cutV (ns.map V.int) lo hi)[i]? = some v) : ∃ c : Int, v = .int c := by
  have m := List.mem_of_getElem? h
  unfold cutV at m
  have m2 := List.mem_of_mem_drop (List.mem_of_mem_take m)
  obtain ⟨c, _, e⟩ := List.mem_map.mp m2
  exact ⟨c, e.symm⟩
theorem fit_two {e : Nat} (h : e ≤ 60) : fit ((2 ^ e : Nat) : Int) = e := by
  have p60 := pow60 h
  have pe : 0 < 2 ^ e := Nat.pow_pos (by decide)
  obtain ⟨_, h2, h3⟩ := fit_spec (w := ((2 ^ e : Nat) : Int)) (by omega) (by omega)
  generalize fit ((2 ^ e : Nat) : Int) = f at h2 h3
  have a : 2 ^ e ≤ 2 ^ f := by omega
  have b : 2 ^ f < 2 ^ (e + 1) := by rw [Nat.pow_succ]; omega
  have a := (Nat.pow_le_pow_iff_right (by decide)).mp a
  have b := (Nat.pow_lt_pow_iff_right (by decide)).mp b
  omega
def dLL (zss : List (List PI2)) : PyData := .list (zss.map dL)
theorem dLAll_eqv : ∀ zs ws : List (List PI2), PyData.eqvAll (zs.map dL) (ws.map dL) = decide (zs = ws)
  | [], [] => by simp [PyData.eqvAll]
  | [], w :: ws => by simp [PyData.eqvAll]
  | z :: zs, [] => by simp [PyData.eqvAll]
  | z :: zs, w :: ws => by
    rw [List.map_cons, List.map_cons, PyData.eqvAll, dL_eqv, dLAll_eqv zs ws]
    by_cases h1 : z = w <;> by_cases h2 : zs = ws <;> simp [h1, h2]
theorem dLL_eqv (zs ws : List (List PI2)) : PyData.eqv (dLL zs) (dLL ws) = decide (zs = ws) := by
  unfold dLL
  rw [PyData.eqv, dLAll_eqv]
theorem dLAll_lay : ∀ zs : List (List PI2), PyData.canLayAll0 (zs.map dL) = true
  | [] => by simp [PyData.canLayAll0]
  | z :: zs => by rw [List.map_cons, PyData.canLayAll0, dL_lay, dLAll_lay zs]; rfl
theorem dLAll_depth : ∀ zs : List (List PI2), PyData.depthAll (zs.map dL) ≤ 2
  | [] => by simp [PyData.depthAll]
  | z :: zs => by
    have := dLAll_depth zs
    have := dL_depth z
    rw [List.map_cons, PyData.depthAll]
    omega
theorem dLL_shaped (zs : List (List PI2)) : SeqAt.shaped (dLL zs) = true := by
  have h : (dLL zs).depth ≤ 3 := by
    unfold dLL
    rw [PyData.depth]
    have := dLAll_depth zs
    omega
  unfold SeqAt.shaped
  rw [show (dLL zs).canLay0 = true by unfold dLL; rw [PyData.canLay0]; exact dLAll_lay zs, decide_eq_true (by omega)]
  rfl
/-- two yards do not share -/
theorem YardAt.two {a : Ad} {Y Z : YA} {d e : Nat} {os us : List PN} {H H' : Hp} (h2 : YardAt a Z e us H) (h1 : YardAt a Y d os H) (n : ∀ b ∈ own Z e, b ∉ own Y d) (o : Only (own Y d) H H') : YardAt a Z e us H' := by
  have pdn : Z.pd ∉ own Y d := fun z => by
    rcases List.mem_cons.mp z with z | z
    · have x := h2.po.dk
      rw [z, h1.so] at x
      have x : os.map outI = pdK e Z.ls := HO.dK.inj (Option.some.inj x)
      have m : ((Sum.inl ((2 ^ 0 : Nat) : Int) : Key), V.ref (Z.ls 0)) ∈ pdK e Z.ls := List.mem_map.mpr ⟨0, List.mem_range.mpr (by omega), rfl⟩
      rw [← x] at m
      obtain ⟨q, _, eq⟩ := List.mem_map.mp m
      cases congrArg Prod.snd eq
    · exact h1.po.off h2.po.dk (by intro xs z; cases z) z
  exact ⟨o _ _ h2.yo (h1.off h2.yo (by intro xs z; cases z) (by intro xs z; cases z)), o _ _ h2.so (n _ List.mem_cons_self), ⟨o _ _ h2.po.ob (h1.off h2.po.ob (by intro xs z; cases z) (by intro xs z; cases z)), o _ _ h2.po.dk pdn, fun j hj => o _ _ (h2.po.at_ j hj) (n _ (lsA_own _ (lsA_mem hj))), h2.po.inj, h2.po.rise, h2.po.len, h2.po.d60⟩, h2.good, h2.few, h2.ne⟩
/-- two lists kept -/
def BefAt (S : List Addr) (H : Hp) (b : Addr) (zs ws : List PI2) : Prop := b ∉ S ∧ ∃ (c1 c2 : Addr) (u1 u2 : List Addr), c1 ∉ S ∧ c2 ∉ S ∧ H b = some (.lst [.ref c1, .ref c2]) ∧ H c1 = some (.lst (u1.map V.ref)) ∧ H c2 = some (.lst (u2.map V.ref)) ∧ Tups H u1 zs ∧ Tups H u2 ws
theorem BefAt.only {S : List Addr} {H H' : Hp} {b : Addr} {zs ws : List PI2} (h : BefAt S H b zs ws) (o : Only S H H') (n : ∀ t xs, H t = some (.tup xs) → t ∉ S) : BefAt S H' b zs ws := by
  obtain ⟨n0, c1, c2, u1, u2, n1, n2, e0, e1, e2, t1, t2⟩ := h
  exact ⟨n0, c1, c2, u1, u2, n1, n2, o _ _ e0 n0, o _ _ e1 n1, o _ _ e2 n2, t1.keep fun t xs e => o _ _ e (n t _ e), t2.keep fun t xs e => o _ _ e (n t _ e)⟩
theorem BefAt.dp {S : List Addr} {K : PySem.W.Frag} {H : Hp} {b : Addr} {zs ws : List PI2} (h : BefAt S H b zs ws) : Dp K H (.ref b) (dLL [zs, ws]) := by
  obtain ⟨n0, c1, c2, u1, u2, n1, n2, e0, e1, e2, t1, t2⟩ := h
  exact .lst (SqL.of e0) (.cons (dp_list e1 t1) (.cons (dp_list e2 t2) .nil))
/-! ### name = {..} by a comprehension whose names the def bears too -/
section
open PySem PySem.Spec PyProof PyProof.Rows L2
variable {X : Cx}
theorem sw_trueD {kx vx : Expr} {gs : List Comprehension} {scope : Scope} {pos py : Pos} {y : Str} {l : Nat} {env : Env} (hk : env.scope.kind = .function) (hy : env.scope.names.lookup y = some .local) (hl : (py.line == pos.line) = true)
    (ha : (scope.names.any fun (n, k) => n == y && (k == .local || k == .cell)) = false) : swapsWith (.DictComp kx vx gs scope pos) (some (.Name y py)) l env = pure true := by
  have ky : env.kindOf y = some .local := hy
  have hb : env.blockKind = .function := by unfold Env.blockKind; rw [hk]; rfl
  unfold swapsWith
  simp only [hb, ky, ha, Expr.pos, hl]
  rfl
theorem ps_setDc {i : Nat} {y : Str} {py : Pos} {kx vx tg iter : Expr} {ifs : List Expr} {scope : Scope} {own : List (Str × Nat)} {pos spos : Pos} {wi : TI} {g : TG} {tt : TT} {tk tv : TE} (hc : X.calm = true) (hN : X.N.Nodup) (hy : X.N[i]? = some y) (hyl : X.env.scope.names.lookup y = some .local)
    (hsw : swapsWith (.DictComp kx vx [⟨tg, iter, ifs, 0⟩] scope pos) (some (.Name y py)) spos.line X.env = pure true) (hi : PI X tg iter wi) (ok : BlkOk X.N X.env.scope scope own)
    (hg : ∀ (s : Shared) (H : Hp) (C : Addr) (cl : List (Str × Addr)) (fp : List Addr), PG (X.blk s H scope (compEnvC scope cl C X.env) fp) tg g) (ht : ∀ (s : Shared) (H : Hp) (C : Addr) (cl : List (Str × Addr)) (fp : List Addr), PTs (X.blk s H scope (compEnvC scope cl C X.env) fp) ifs tt)
    (hk : ∀ (s : Shared) (H : Hp) (C : Addr) (cl : List (Str × Addr)) (fp : List Addr), PE (X.blk s H scope (compEnvC scope cl C X.env) fp) kx tk)
    (he : ∀ (s : Shared) (H : Hp) (C : Addr) (cl : List (Str × Addr)) (fp : List Addr), PE (X.blk s H scope (compEnvC scope cl C X.env) fp) vx tv) (hs : ∀ x, foldedSetIterable iter X.env x = pure x := by intro _; rfl) :
    PS X (.Assign [.Name y py] (.DictComp kx vx [⟨tg, iter, ifs, 0⟩] scope pos) spos) (tAsg (tDc wi g tt tk tv (own.map (·.2))) (gName i)) := by
  refine ⟨fun pins s σ H D I h => ?_⟩
  rw [exec_Assign_Name_used _ _ _ _ hsw]
  refine wpAny_bind (wpAny_standAt (wpAny_bind ?_))
  show wpAny _ X.A (do let _ ← comprehension (.DictComp kx vx [⟨tg, iter, ifs, 0⟩] scope pos) scope X.env (firstIterPos [⟨tg, iter, ifs, 0⟩] pos) newDict false (eval iter X.env) (some (assign (.Name y py) X.env))) _ _ s
  have h : tDc wi g tt tk tv (own.map (·.2)) σ H (fun x H1 => gName i x σ H1 D.nx) := h
  refine wpAny_bind (thn (dc_core (Qf := fun _ s' => SP X pins D .next s') hc hN I hi ok hg ht hk he hs h fun L C s' m H' I' q hn f => ?_) fun _ s' hq => wpAny_pure (wpAny_pure hq))
  show wpAny _ _ (assign (.Name y py) X.env (.ref L)) _ _ _
  refine wpAny_assign_Name (store_ok2 (v := V.ref L) I' hN hy (.inl hyl) rfl (fun s2 I2 ⟨a, sb, ha⟩ => ?_) (.inr hyl))
  obtain ⟨f0, f1, f2, f3, f4, f5⟩ := f
  have haC : C ≠ a := by
    rcases ha with z | z
    · rw [z]; exact f1
    · exact fun e => f4 y a z e.symm
  refine ⟨m, hn.sameBut sb haC, fun h3 sb3 => ?_⟩
  exact ⟨_, H', I2.turned (t' := s2.toks) (fun b o hb e => (sb3.2 b hb).trans e) f0 f1 f3 f4 f5, q⟩
end
/-! ### rows that stand side by side -/
structure Row where
  n : Nat
  k : Nat
  free : Bool
def Row.pn (r : Row) : PN := (r.n, r.k)
def Row.st (r : Row) : Str := if r.free then "free" else "out"
def Row.v (r : Row) : List V := [nI r.n, sI r.k, .str r.st]
inductive Rws (H : Hp) : List Addr → List Row → Prop
  | nil : Rws H [] []
  | cons {t : Addr} {r : Row} {ts : List Addr} {rs : List Row} : H t = some (.tup r.v) → Rws H ts rs → Rws H (t :: ts) (r :: rs)
theorem Rws.len {H : Hp} : ∀ {ts : List Addr} {rs : List Row}, Rws H ts rs → ts.length = rs.length
  | _, _, .nil => rfl
  | _, _, .cons _ h => congrArg (· + 1) h.len
theorem Rws.keep {H H' : Hp} : ∀ {ts : List Addr} {rs : List Row}, Rws H ts rs → (∀ t xs, H t = some (.tup xs) → H' t = some (.tup xs)) → Rws H' ts rs
  | _, _, .nil, _ => .nil
  | _, _, .cons a h, k => .cons (k _ _ a) (h.keep k)
theorem Rws.get {H : Hp} : ∀ {ts : List Addr} {rs : List Row}, Rws H ts rs → ∀ {i : Nat} {r : Row}, rs[i]? = some r → ∃ t, ts[i]? = some t ∧ H t = some (.tup r.v)
  | _, _, .nil, i, r, h => by cases h
  | _, _, .cons a h, 0, r, e => by
    cases e
    exact ⟨_, rfl, a⟩
  | _, _, .cons a h, i + 1, r, e => h.get (i := i) e
theorem Rws.snoc {H : Hp} {t : Addr} {r : Row} (ht : H t = some (.tup r.v)) : ∀ {ts : List Addr} {rs : List Row}, Rws H ts rs → Rws H (ts ++ [t]) (rs ++ [r])
  | _, _, .nil => .cons ht .nil
  | _, _, .cons a h => .cons a (h.snoc ht)
/-- what the rows' beginnings cover -/
theorem chain_cover : ∀ {L : List PN} {b e : Nat}, Chain b L e → (∀ q ∈ L, q.1 / 2 ^ q.2 * 2 ^ q.2 = q.1) → ∀ c, Oc L c ↔ b ≤ c ∧ c < e
  | [], b, e, h, _, c => by
    have h : b = e := h
    constructor
    · rintro ⟨q, m, _⟩
      cases m
    · omega
  | q :: L, b, e, ⟨h1, h2⟩, al, c => by
    have ih := chain_cover h2 (fun p hp => al p (List.mem_cons_of_mem _ hp)) c
    have aq := al q List.mem_cons_self
    have pq : 0 < 2 ^ q.2 := Nat.pow_pos (by decide)
    have le : q.1 + 2 ^ q.2 ≤ e := by
      have := chain_sum h2
      omega
    have iq : c / 2 ^ q.2 = q.1 / 2 ^ q.2 ↔ q.1 ≤ c ∧ c < q.1 + 2 ^ q.2 := by
      constructor
      · intro z
        have a1 := Nat.div_mul_le_self c (2 ^ q.2)
        have a2 := Nat.lt_div_mul_add (a := c) pq
        rw [z, aq] at a1 a2
        exact ⟨a1, a2⟩
      · rintro ⟨a1, a2⟩
        generalize q.1 / 2 ^ q.2 = i at aq
        refine Nat.div_eq_of_lt_le (by omega) ?_
        rw [Nat.succ_mul]
        omega
    have oc : Oc (q :: L) c ↔ c / 2 ^ q.2 = q.1 / 2 ^ q.2 ∨ Oc L c := by
      constructor
      · rintro ⟨p, hp, ep⟩
        rcases List.mem_cons.mp hp with rfl | hp
        · exact .inl ep
        · exact .inr ⟨p, hp, ep⟩
      · rintro (z | ⟨p, hp, ep⟩)
        · exact ⟨q, List.mem_cons_self, z⟩
        · exact ⟨p, List.mem_cons_of_mem _ hp, ep⟩
    rw [oc, iq, ih]
    omega
theorem chain_take : ∀ {L : List PN} {b e i : Nat} {q : PN}, Chain b L e → L[i]? = some q → Chain b (L.take i) q.1 ∧ q.1 + 2 ^ q.2 ≤ e
  | [], b, e, i, q, _, h => by cases h
  | p :: L, b, e, 0, q, ⟨h1, h2⟩, h => by
    cases h
    have := chain_sum h2
    exact ⟨h1.symm, by omega⟩
  | p :: L, b, e, i + 1, q, ⟨h1, h2⟩, h => by
    obtain ⟨a1, a2⟩ := chain_take (i := i) h2 h
    exact ⟨⟨h1, a1⟩, a2⟩
/-- where all before p is out and nothing behind it, a wish that fits at p is given there -/
theorem best_side {os : List PN} {d k p : Nat} (oc : ∀ c, Oc os c ↔ c < p) (al : p / 2 ^ k * 2 ^ k = p) (fits : p + 2 ^ k ≤ 2 ^ d) : ∃ m, Best os d k m p := by
  have pk : 0 < 2 ^ k := Nat.pow_pos (by decide)
  have lt : p < 2 ^ d := by omega
  have kd : k ≤ d := by
    refine Classical.byContradiction fun z => ?_
    have : 2 ^ d < 2 ^ k := Nat.pow_lt_pow_right (by decide) (by omega)
    omega
  have fr : Fr (Oc os) k (p / 2 ^ k) := fun c ec o => by
    have h1 := Nat.div_mul_le_self c (2 ^ k)
    rw [ec, al] at h1
    have := (oc c).mp o
    omega
  obtain ⟨m, km, hM⟩ := mx_exists lt _ k rfl kd fr
  have pm : 0 < 2 ^ m := Nat.pow_pos (by decide)
  have am : p / 2 ^ m * 2 ^ m = p := by
    have h1 := Nat.div_mul_le_self p (2 ^ m)
    refine Nat.le_antisymm h1 (Nat.le_of_not_lt fun z => ?_)
    refine hM.2.2.1 (p / 2 ^ m * 2 ^ m) (Nat.mul_div_cancel _ pm) ((oc _).mpr z)
  have notlow : ∀ {j i : Nat}, Mx (Oc os) d j i → p ≤ i * 2 ^ j := fun {j i} h => by
    have pj : 0 < 2 ^ j := Nat.pow_pos (by decide)
    refine Nat.le_of_not_lt fun z => ?_
    exact h.2.2.1 (i * 2 ^ j) (Nat.mul_div_cancel _ pj) ((oc _).mpr z)
  refine ⟨m, km, hM, am, fun j i _ jm h => ?_, fun i h => notlow h⟩
  have pj : 0 < 2 ^ j := Nat.pow_pos (by decide)
  have low := notlow h
  have jd : j < d := Nat.lt_of_lt_of_le jm hM.1
  obtain ⟨c, ec, o⟩ : ∃ c, c / 2 ^ (j + 1) = i / 2 ∧ Oc os c := Classical.byContradiction fun z => h.2.2.2 jd fun c ec o => z ⟨c, ec, o⟩
  have cp := (oc c).mp o
  have es : i * 2 ^ j / 2 ^ (j + 1) = i / 2 := by rw [blk_succ, Nat.mul_div_cancel _ pj]
  by_cases far : i * 2 ^ j < p + 2 ^ m
  · have e1 : i * 2 ^ j / 2 ^ m = p / 2 ^ m := by
      generalize p / 2 ^ m = t at am
      refine Nat.div_eq_of_lt_le (by omega) ?_
      rw [Nat.succ_mul]
      omega
    have e2 : c / 2 ^ m = i * 2 ^ j / 2 ^ m := blk_mono (by omega) (ec.trans es.symm)
    exact hM.2.2.1 c (e2.trans e1) o
  · have pj1 : 0 < 2 ^ (j + 1) := Nat.pow_pos (by decide)
    have a1 := Nat.lt_div_mul_add (a := i * 2 ^ j) pj1
    have a2 := Nat.div_mul_le_self c (2 ^ (j + 1))
    rw [es] at a1
    rw [ec] at a2
    have a3 : 2 ^ (j + 1) ≤ 2 ^ m := Nat.pow_le_pow_right (by decide) (by omega)
    omega
theorem uniqN : ∀ {rows : List Row}, rows.Pairwise (fun r s => r.n ≠ s.n) → ∀ {r s : Row}, r ∈ rows → s ∈ rows → r.n = s.n → r = s
  | [], _, _, _, hr, _, _ => by cases hr
  | x :: l, h, r, s, hr, hs, e => by
    obtain ⟨h1, h2⟩ := List.pairwise_cons.mp h
    rcases List.mem_cons.mp hr with rfl | hr' <;> rcases List.mem_cons.mp hs with rfl | hs'
    · rfl
    · exact absurd e (h1 s hs')
    · exact absurd e.symm (h1 r hr')
    · exact uniqN h2 hr' hs' e
def outPn (rows : List Row) : List PN := (rows.filter fun r => !r.free).map Row.pn
def freeR (rows : List Row) : List Row := rows.filter fun r => r.free
theorem rows_ne {d : Nat} {rows : List Row} (g : Good d (rows.map Row.pn)) : rows.Pairwise fun r s => r.n ≠ s.n :=
  (List.pairwise_map.mp g.disj).imp fun {r s} h e => h r.n rfl (by show r.n / 2 ^ s.k = s.n / 2 ^ s.k; rw [e])
def sp_yard_of (_ : PySem.W.Frag) (a : Ad) : Sp := fun vs H Q _ => ∃ (l : Addr) (ts : List Addr) (rows : List Row) (d : Nat), vs = [sI d, .ref l] ∧ H l = some (.lst (ts.map V.ref)) ∧ Rws H ts rows ∧ Chain 0 (rows.map Row.pn) (2 ^ d) ∧ (∀ r ∈ rows, r.n / 2 ^ r.k * 2 ^ r.k = r.n) ∧ rows.length ≤ 20000 ∧ d ≤ 60 ∧
  ∀ (Y : YA) (H' : Hp), YardAt a Y d (outPn rows) H' → (∀ b ∈ own Y d, H b = none) → (∀ b o, H b = some o → H' b = some o) → Q (.ref Y.y) H'
theorem updB {a : Ad} {Y : YA} {d : Nat} {os : List PN} {H : Hp} (h : YardAt a Y d os H) {b : Addr} {xs : List V} {o : HO} (e : H b = some (.lst xs)) (n : b ∉ own Y d) : YardAt a Y d os (L2.upd H b o) := by
  have k : ∀ {c u}, H c = some u → (∀ xs, u ≠ .lst xs) → L2.upd H b o c = some u := fun {c u} ec nu => by
    rw [upd_ne (fun z => by rw [z, e] at ec; exact nu _ (Option.some.inj ec).symm)]
    exact ec
  refine ⟨k h.yo (by intro xs z; cases z), k h.so (by intro xs z; cases z), ⟨k h.po.ob (by intro xs z; cases z), k h.po.dk (by intro xs z; cases z), fun j hj => ?_, h.po.inj, h.po.rise, h.po.len, h.po.d60⟩, h.good, h.few, h.ne⟩
  rw [upd_ne (fun z => n (by rw [← z]; exact lsA_own _ (lsA_mem hj)))]
  exact h.po.at_ j hj
section
variable {P : Program} {w : World} {K : PySem.W.Frag} {mg : Str → Option Value} {base : Heap} {a : Ad}
theorem ok_yard_of (T : Txt K mg a) : FnOk P w K mg base CX0 5 a.f_yard_of a.d_yard_of ["cells", "rows"] (sp_yard_of K a) := by
  have G_Yard_init : FnOk P w K mg base (L2.CX P w) 3 a.f_Yard_init a.d_Yard_init ["self", "cells"] (sp_Yard_init K a) := ok_Yard_init T
  have G_Yard_give : FnOk P w K mg base (L2.CX P w) 4 a.f_Yard_give a.d_Yard_give ["self", "want"] (sp_Yard_give K a) := ok_Yard_give T
  have G_Yard_take_back : FnOk P w K mg base (L2.CX P w) 4 a.f_Yard_take_back a.d_Yard_take_back ["self", "at"] (sp_Yard_take_back K a) := ok_Yard_take_back T
  obtain ⟨tFREE, mFREE⟩ := T.v_FREE
  refine T.yard_of.fn.ok sc_yard_of (fun vs H Q E h => by first | (obtain ⟨rfl, _⟩ := h; rfl) | (obtain ⟨_, rfl, _⟩ := h; rfl) | (obtain ⟨_, _, rfl, _⟩ := h; rfl) | (obtain ⟨_, _, _, rfl, _⟩ := h; rfl) | (obtain ⟨_, _, _, _, rfl, _⟩ := h; rfl) | (obtain ⟨_, _, _, _, _, rfl, _⟩ := h; rfl) | (obtain ⟨_, _, _, _, _, _, rfl, _⟩ := h; rfl) | (obtain ⟨_, _, _, _, _, _, _, rfl, _⟩ := h; rfl) | (obtain ⟨_, _, _, _, _, _, _, _, rfl, _⟩ := h; rfl) | (obtain ⟨_, _, _, _, _, _, _, _, _, rfl, _⟩ := h; rfl) | (obtain ⟨_, _, _, _, _, _, _, _, _, _, rfl, _⟩ := h; rfl) | (obtain ⟨_, _, _, _, _, _, _, _, _, _, _, rfl, _⟩ := h; rfl)) (fun cdv A outer s H vs Q E hr h => ?_)
  refine ⟨_, pss_cons (ps_set (i := 2) sc_yard_of.nd rfl (Or.inl rfl) (pe_make T.m_Yard_init G_Yard_init (hr.mono (by decide)) rfl T.g_Yard T.b_Yard_init .nil passL (pa_cons (pv 0) pa_nil)))
      (pss_cons (ps_set (i := 3) sc_yard_of.nd rfl (Or.inl rfl) (pe_lst pa_nil))
      (pss_cons (ps_for PassesOwn.never rfl (pi_list (pv 1)) (pg_tup rfl (pgs_cons (pg_name (i := 4) sc_yard_of.nd rfl (Or.inl rfl)) (pgs_cons (pg_name (i := 5) sc_yard_of.nd rfl (Or.inl rfl)) (pgs_cons (pg_name (i := 6) sc_yard_of.nd rfl (Or.inl rfl)) pgs_nil)))) (pss_cons (ps_expr (pe_meth (pv 2) T.cl_Yard T.m_Yard_give G_Yard_give (hr.mono (by decide)) T.b_Yard_give .nil passL (pa_cons (pv 5) pa_nil)))
      (pss_one (ps_if (pt_cmpR op_eq (pv 6) (pe_glob (v := .str "free") rfl mFREE ⟨_, rfl⟩) (nomark _)) (pss_one (ps_expr (pe_bm PySem.F.plainAttrs_list PySem.F.slot_list_append PySem.F.type_list_append mt_append (pv 3) (pa_cons (pv 4) pa_nil)))) pss_nil))))
      (pss_cons (ps_for PassesOwn.never rfl (pi_list (pv 3)) (pg_name (i := 4) sc_yard_of.nd rfl (Or.inl rfl)) (pss_one (ps_expr (pe_meth (pv 2) T.cl_Yard T.m_Yard_take_back G_Yard_take_back (hr.mono (by decide)) T.b_Yard_take_back .nil passL (pa_cons (pv 4) pa_nil)))))
      (pss_one (ps_ret (pv 2)))))), ?_⟩
  obtain ⟨l, ts, rows, d, rfl, hat, rws, ch, al, few, d60, q⟩ := h
  have lts := rws.len
  have pd : 0 < 2 ^ d := Nat.pow_pos (by decide)
  refine ⟨_, rfl, fun y dy n1 n2 n3 => ⟨y, dy, _, rfl, upd_same, fun z => absurd ⟨d, d60, rfl⟩ z, fun d' d60' e Y H2 ey ya fr only => ⟨rfl, ?_⟩⟩⟩
  have ed := pow_inj e
  subst ed
  subst ey
  have k1 : ∀ b o, H b = some o → L2.upd (L2.upd H dy (.own Y.y)) Y.y (.ins a.c_Yard dy []) b = some o := fun b o eo => by
    have b1 : b ≠ Y.y := fun z => by rw [z, n1] at eo; cases eo
    have b2 : b ≠ dy := fun z => by rw [z, n2] at eo; cases eo
    rw [upd_ne b1, upd_ne b2]
    exact eo
  have k2 : ∀ b o, H b = some o → H2 b = some o := fun b o eo => only _ _ (k1 b o eo) (by
    have b1 : b ≠ Y.y := fun z => by rw [z, n1] at eo; cases eo
    simp [b1])
  have fresh : ∀ b ∈ own Y d, H b = none := fun b hb => Classical.byContradiction fun z => by
    obtain ⟨o, ho⟩ := Option.ne_none_iff_exists'.mp z
    have := k1 b o ho
    rw [fr b hb] at this
    cases this
  refine ⟨by show 0 ≤ sizeLine; omega, fun lb hlb => ?_⟩
  have nlb : lb ∉ own Y d := ya.new hlb
  have k3 : ∀ b o, H2 b = some o → L2.upd H2 lb (.lst []) b = some o := fun b o e => by rw [upd_ne (ne_of_none e hlb)]; exact e
  have hlb0 : H lb = none := Classical.byContradiction fun z => by
    obtain ⟨o, ho⟩ := Option.ne_none_iff_exists'.mp z
    rw [k2 _ _ ho] at hlb
    cases hlb
  -- all out
  refine ⟨_, rfl, l, rfl, ⟨_, SqL.of (k3 _ _ (k2 _ _ hat))⟩, ?_⟩
  refine for_list (xs := ts.map V.ref) (fun i σ H' => ∃ x4 x5 x6, σ = [some (sI d), some (.ref l), some (.ref Y.y), some (.ref lb), x4, x5, x6] ∧ YardAt a Y d ((rows.take i).map Row.pn) H' ∧ H' lb = some (.lst ((freeR (rows.take i)).map fun r => nI r.n)) ∧ (∀ b o, H b = some o → H' b = some o))
    ⟨_, _, _, rfl, ya.keep k3, upd_same, fun b o e => k3 _ _ (k2 _ _ e)⟩ (fun i σ H' _ p => by obtain ⟨_, _, _, _, _, _, p⟩ := p; exact SqL.of (p _ _ hat)) ?_ ?_
  · rintro i v σ H4 hv ⟨x4, x5, x6, rfl, y4, hb4, s4⟩
    have hi := (List.getElem?_eq_some_iff.mp hv).1
    rw [List.length_map, lts] at hi
    obtain ⟨r, hr⟩ : ∃ r, rows[i]? = some r := ⟨_, List.getElem?_eq_getElem hi⟩
    obtain ⟨t, ht, hatt⟩ := rws.get hr
    rw [List.getElem?_map, ht] at hv
    have hv := Option.some.inj hv
    subst hv
    have hatt4 := s4 _ _ hatt
    have pk : 0 < 2 ^ r.k := Nat.pow_pos (by decide)
    obtain ⟨c1, c2⟩ := chain_take (i := i) (q := r.pn) ch (by rw [List.getElem?_map, hr]; rfl)
    rw [← List.map_take] at c1
    have c2 : r.n + 2 ^ r.k ≤ 2 ^ d := c2
    have oc : ∀ c, Oc ((rows.take i).map Row.pn) c ↔ c < r.n := fun c => by
      rw [chain_cover c1 (fun q hq => by
        obtain ⟨s, hs, rfl⟩ := List.mem_map.mp hq
        exact al s (List.mem_of_mem_take hs)) c]
      show 0 ≤ c ∧ c < r.n ↔ _
      omega
    have ar := al r (List.mem_of_getElem? hr)
    obtain ⟨m0, best0⟩ := best_side oc ar c2
    have kd : r.k ≤ d := Nat.le_trans best0.le best0.mx.1
    have ft : fit ((2 ^ r.k : Nat) : Int) = r.k := fit_two (by omega)
    have et : rows.take (i + 1) = rows.take i ++ [r] := by rw [List.take_add_one, hr]; rfl
    refine ⟨t, _, rfl, SqT.of hatt4, rfl, ?_⟩
    refine ⟨_, _, rfl, _, _, rfl, _, _, rfl, rfl, ?_⟩
    refine ⟨_, rfl, Y.y, Y.dy, _, rfl, y4.yo, yFs_no Y d (by decide +kernel) (by decide +kernel) (by decide +kernel), _, rfl, Y, d, (rows.take i).map Row.pn, ((2 ^ r.k : Nat) : Int), rfl, y4, by rw [List.length_map, List.length_take]; omega, fun z => by omega, fun _ g H5 _ => ?_, fun g1 g2 m n best H5 y5 o5 => ?_⟩
    · exfalso
      rw [ft] at g
      rcases g with g | g
      · have : 2 ^ r.k ≤ 2 ^ d := Nat.pow_le_pow_right (by decide) kd
        omega
      · exact g _ _ best0.le best0.mx
    rw [ft] at best y5
    obtain ⟨em, en⟩ := best.uniq best0
    subst en
    have y5 : YardAt a Y d ((rows.take (i + 1)).map Row.pn) H5 := by
      rw [et, List.map_append]
      exact y5
    have hb5 := o5 _ _ hb4 nlb
    have s5 : ∀ b o, H b = some o → H5 b = some o := fun b o e => o5 _ _ (s4 _ _ e) fun z => by rw [fresh b z] at e; cases e
    refine ⟨_, rfl, rfl, _, rfl, ?_⟩
    cases hf : r.free with
    | true =>
      have es : r.st = "free" := by unfold Row.st; rw [hf]; rfl
      refine iteTof (by show decide (V.str r.st = V.str "free") = true; rw [es]; exact decide_eq_true rfl) ?_
      refine ⟨_, rfl, .inl ⟨rfl, _, SqL.of hb5⟩, _, rfl, lb, _, _, rfl, rfl, hb5, ?_, ?_⟩
      · rw [List.length_map, sizeLine_eq]
        have : (freeR (rows.take i)).length ≤ (rows.take i).length := List.length_filter_le _ _
        rw [List.length_take] at this
        omega
      · refine ⟨_, _, _, rfl, updB y5 hb5 nlb, ?_, fun b o e => ?_⟩
        · rw [upd_same, et]
          unfold freeR
          rw [List.filter_append, List.map_append, List.filter_cons_of_pos (by simpa using hf)]
          rfl
        · rw [upd_ne (fun z => by rw [z, hlb0] at e; cases e)]
          exact s5 _ _ e
    | false =>
      have es : r.st = "out" := by unfold Row.st; rw [hf]; rfl
      refine iteFof (by show decide (V.str r.st = V.str "free") = false; rw [es]; decide) ?_
      refine ⟨_, _, _, rfl, y5, ?_, s5⟩
      rw [hb5, et]
      unfold freeR
      rw [List.filter_append, List.filter_cons_of_neg (by simpa using hf)]
      simp
  · rintro σ H4 ⟨x4, x5, x6, rfl, y4, hb4, s4⟩
    rw [List.length_map, lts, List.take_length] at y4 hb4
    have gR := y4.good
    have ne := rows_ne gR
    have nb4 : lb ∉ own Y d := nlb
    generalize hF : freeR rows = F at hb4
    have ndF : F.Pairwise fun r s => r.n ≠ s.n := by rw [← hF]; exact ne.sublist List.filter_sublist
    have inF : ∀ r ∈ F, r ∈ rows := fun r hr => by rw [← hF] at hr; exact (List.mem_filter.mp hr).1
    have lF : F.length ≤ rows.length := by rw [← hF]; exact List.length_filter_le _ _
    refine ⟨_, rfl, lb, rfl, ⟨_, SqL.of hb4⟩, ?_⟩
    refine for_list (xs := F.map fun r => nI r.n) (fun j σ H' => ∃ x4 x5 x6, σ = [some (sI d), some (.ref l), some (.ref Y.y), some (.ref lb), x4, x5, x6] ∧ YardAt a Y d ((rows.map Row.pn).filter fun q => !((F.take j).map Row.n).contains q.1) H' ∧ H' lb = some (.lst (F.map fun r => nI r.n)) ∧ (∀ b o, H b = some o → H' b = some o))
      ⟨_, _, _, rfl, ?_, hb4, s4⟩ (fun j σ H' _ p => by obtain ⟨_, _, _, _, _, p, _⟩ := p; exact SqL.of p) ?_ ?_
    · have e0 : (rows.map Row.pn).filter (fun q => !(([] : List Row).map Row.n).contains q.1) = rows.map Row.pn := List.filter_eq_self.mpr fun q _ => rfl
      rw [List.take_zero, e0]
      exact y4
    · rintro j v σ H5 hv ⟨x4, x5, x6, rfl, y5, hb5, s5⟩
      have hj := (List.getElem?_eq_some_iff.mp hv).1
      rw [List.length_map] at hj
      obtain ⟨r, hr⟩ : ∃ r, F[j]? = some r := ⟨_, List.getElem?_eq_getElem hj⟩
      rw [List.getElem?_map, hr] at hv
      have hv := Option.some.inj hv
      subst hv
      have mr : r ∈ F := List.mem_of_getElem? hr
      have notT : r.n ∉ (F.take j).map Row.n := fun z => by
        obtain ⟨s, hs, e⟩ := List.mem_map.mp z
        obtain ⟨i, hi⟩ := List.mem_iff_getElem?.mp hs
        have il := (List.getElem?_eq_some_iff.mp hi).1
        rw [List.length_take] at il
        rw [List.getElem?_take, if_pos (by omega)] at hi
        obtain ⟨a1, a2⟩ := List.getElem?_eq_some_iff.mp hi
        obtain ⟨b1, b2⟩ := List.getElem?_eq_some_iff.mp hr
        have := List.pairwise_iff_getElem.mp ndF i j a1 b1 (by omega)
        rw [a2, b2] at this
        exact this e
      have mo : (r.n, r.k) ∈ (rows.map Row.pn).filter fun q => !((F.take j).map Row.n).contains q.1 := by
        refine List.mem_filter.mpr ⟨List.mem_map.mpr ⟨r, inF r mr, rfl⟩, ?_⟩
        show (!((F.take j).map Row.n).contains r.n) = true
        rw [Bool.not_eq_true', List.contains_eq_mem, decide_eq_false notT]
      refine ⟨_, rfl, Y.y, Y.dy, _, rfl, y5.yo, yFs_no Y d (by decide +kernel) (by decide +kernel) (by decide +kernel), _, rfl, Y, d, _, (r.n : Int), rfl, y5, fun z => absurd rfl (z _ mo), fun n' k' m' e H6 y6 o6 => ?_⟩
      have en : n' = r.n := by omega
      subst en
      refine ⟨_, _, _, rfl, ?_, o6 _ _ hb5 nlb, fun b o e => o6 _ _ (s5 _ _ e) fun z => by rw [fresh b z] at e; cases e⟩
      have et : F.take (j + 1) = F.take j ++ [r] := by rw [List.take_add_one, hr]; rfl
      have eo : (rows.map Row.pn).filter (fun q => !((F.take (j + 1)).map Row.n).contains q.1) = outs ((rows.map Row.pn).filter fun q => !((F.take j).map Row.n).contains q.1) r.n := by
        unfold outs
        rw [List.filter_filter, et, List.map_append]
        refine List.filter_congr fun q _ => ?_
        rw [List.contains_eq_mem, List.contains_eq_mem, ← decide_not, ← decide_not]
        by_cases e1 : q.1 = r.n <;> by_cases e2 : q.1 ∈ (F.take j).map Row.n <;> simp [e1, e2]
      rw [eo]
      exact y6
    · rintro σ H5 ⟨x4, x5, x6, rfl, y5, hb5, s5⟩
      rw [List.length_map, List.take_length] at y5
      refine ⟨_, rfl, q Y H5 ?_ fresh s5⟩
      have eo : (rows.map Row.pn).filter (fun q => !(F.map Row.n).contains q.1) = outPn rows := by
        unfold outPn
        rw [List.filter_map]
        congr 1
        refine List.filter_congr fun r hr => ?_
        show (!(F.map Row.n).contains r.n) = !r.free
        congr 1
        rw [List.contains_eq_mem]
        cases hf : r.free with
        | true =>
          refine decide_eq_true (List.mem_map.mpr ⟨r, ?_, rfl⟩)
          rw [← hF]
          exact List.mem_filter.mpr ⟨hr, hf⟩
        | false =>
          refine decide_eq_false fun z => ?_
          obtain ⟨s, hs, e⟩ := List.mem_map.mp z
          have es := uniqN ne (inF s hs) hr e
          subst es
          rw [← hF] at hs
          have := (List.mem_filter.mp hs).2
          rw [hf] at this
          cases this
      rw [← eo]
      exact y5
end
/-! ### a word that is a number -/
def Ascii (s : Str) : Prop := ∀ c ∈ s.cps.toList, c < 128
def numS (n : Nat) : Str := Str.ofString (toString ((n : Nat) : Int))
def Num (w : Str) (n : Nat) : Prop := w = numS n ∧ w.length ≤ 19
theorem dec_digit : ∀ c, c < 128 → PySem.Unicode.isDecimal c = true → 48 ≤ c ∧ c ≤ 57 := by decide +kernel
theorem digit_dec : ∀ c, c < 128 → 48 ≤ c ∧ c ≤ 57 → PySem.Unicode.isDecimal c = true := by decide +kernel
theorem numS_digits (n : Nat) : PySem.NumText.AllDigits (numS n).cps.toList := by
  intro c hc
  unfold numS at hc
  rw [PySem.W.KIN.signs_num] at hc
  obtain ⟨ch, hch, e⟩ := List.mem_map.mp hc
  have r := Nat.isDigit_of_mem_toDigits (by decide) (by decide) hch
  unfold Char.isDigit at r
  rw [Bool.and_eq_true, decide_eq_true_iff, decide_eq_true_iff] at r
  rw [← e]
  exact ⟨UInt32.le_iff_toNat_le.mp r.1, UInt32.le_iff_toNat_le.mp r.2⟩
theorem numS_ne (n : Nat) : (numS n).cps.toList ≠ [] := by
  unfold numS
  rw [PySem.W.KIN.signs_num]
  intro e
  have h := PySem.toDigits_len_ge 10 n
  rw [List.map_eq_nil_iff.mp e] at h
  exact absurd h (by decide)
theorem numS_inj {n m : Nat} (h : numS n = numS m) : n = m := by
  have e : (numS n).cps.toList = (numS m).cps.toList := by rw [h]
  unfold numS at e
  rw [PySem.W.KIN.signs_num, PySem.W.KIN.signs_num] at e
  have := congrArg PySem.NumText.digitsVal e
  rwa [PySem.W.KIN.val_back, PySem.W.KIN.val_back] at this
theorem isdec_digits {w : Str} (as : Ascii w) (h : Txt.isdecimal w = true) : PySem.NumText.AllDigits w.cps.toList ∧ w.cps.toList ≠ [] := by
  unfold Txt.isdecimal at h
  rw [Bool.and_eq_true, decide_eq_true_iff] at h
  obtain ⟨h1, h2⟩ := h
  refine ⟨fun c hc => dec_digit c (as c hc) ?_, fun e => ?_⟩
  · rw [← Array.all_toList, List.all_eq_true] at h2
    exact h2 c hc
  · have : w.cps.toList.length = w.length := Array.length_toList
    rw [e] at this
    have : w.length = 0 := this.symm
    omega
theorem num_isdec (n : Nat) : Txt.isdecimal (numS n) = true := by
  unfold Txt.isdecimal
  rw [Bool.and_eq_true, decide_eq_true_iff]
  refine ⟨?_, ?_⟩
  · have h := numS_ne n
    have : (numS n).cps.toList.length = (numS n).length := Array.length_toList
    have := List.length_pos_iff.mpr h
    omega
  · rw [← Array.all_toList, List.all_eq_true]
    intro c hc
    have := numS_digits n c hc
    exact digit_dec c (by omega) this
theorem num_int {n : Nat} (h : (numS n).length ≤ 19) : PySem.intText? (numS n) = some ((n : Nat) : Int) := by
  have e := PySem.intText_digits (numS_digits n) (numS_ne n) (by omega)
  unfold numS at e ⊢
  rw [PySem.W.KIN.signs_num, PySem.W.KIN.val_back] at e
  exact e
theorem val_lt : ∀ (cs : List Nat) (acc : Nat), PySem.NumText.AllDigits cs → cs.foldl (fun acc c => acc * 10 + (c - 48)) acc < (acc + 1) * 10 ^ cs.length
  | [], acc, _ => by
    show acc < (acc + 1) * 10 ^ 0
    omega
  | c :: cs, acc, h => by
    have hc := h.head
    have ih := val_lt cs (acc * 10 + (c - 48)) h.tail
    refine Nat.lt_of_lt_of_le ih ?_
    rw [List.length_cons, Nat.pow_succ, Nat.mul_comm (10 ^ cs.length) 10, ← Nat.mul_assoc]
    exact Nat.mul_le_mul_right _ (by omega)
def sp_read_number (_ : PySem.W.Frag) (a : Ad) : Sp := fun vs H Q E => ∃ w : Str, vs = [.str w] ∧ Ascii w ∧ w.length ≤ 1000000 ∧ (∀ n, Num w n → Q (nI n) H) ∧ ((∀ n, ¬ Num w n) → E (.ref a.c_NoNote) none H)
section
variable {P : Program} {w : World} {K : PySem.W.Frag} {mg : Str → Option Value} {base : Heap} {a : Ad}
theorem ok_read_number (T : Txt K mg a) : FnOk P w K mg base (L2.CX P w) 1 a.f_read_number a.d_read_number ["word"] (sp_read_number K a) := by
  obtain ⟨tM, mM⟩ := T.v_MOST
  refine T.read_number.fn.okX sc_read_number (fun vs H Q E h => by first | (obtain ⟨rfl, _⟩ := h; rfl) | (obtain ⟨_, rfl, _⟩ := h; rfl) | (obtain ⟨_, _, rfl, _⟩ := h; rfl) | (obtain ⟨_, _, _, rfl, _⟩ := h; rfl) | (obtain ⟨_, _, _, _, rfl, _⟩ := h; rfl) | (obtain ⟨_, _, _, _, _, rfl, _⟩ := h; rfl) | (obtain ⟨_, _, _, _, _, _, rfl, _⟩ := h; rfl) | (obtain ⟨_, _, _, _, _, _, _, rfl, _⟩ := h; rfl) | (obtain ⟨_, _, _, _, _, _, _, _, rfl, _⟩ := h; rfl) | (obtain ⟨_, _, _, _, _, _, _, _, _, rfl, _⟩ := h; rfl) | (obtain ⟨_, _, _, _, _, _, _, _, _, _, rfl, _⟩ := h; rfl) | (obtain ⟨_, _, _, _, _, _, _, _, _, _, _, rfl, _⟩ := h; rfl)) (fun cdv A outer s H vs Q E hr h => ?_)
  refine ⟨_, pss_cons (ps_if (PW.pt (pw_or (pt_not (pt_truth (pe_bm0 PySem.F.plainAttrs_str PySem.F.slot_str_isdecimal PySem.F.type_str_isdecimal mt_isdecimal (pv 0)) (by intro _; rfl))) (pw_or1 (pt_cmpR op_gt (pe_callB call_len_str (by rfl) T.z_len PySem.boot_len (pa_cons (pv 0) pa_nil)) (pe_callB call_len_str (by rfl) T.z_len PySem.boot_len (pa_cons (pe_callTy call_str_int (by rfl) T.z_str (by decide +kernel) (pa_cons (pe_glob (v := .int 1152921504606846976) rfl mM ⟨_, rfl⟩) pa_nil)) pa_nil)) (nomark _))))) (pss_one (ps_raise rfl (takes_of rfl rfl rfl rfl) (pmk_own PySem.F.excBase_ValueError T.e_NoNote.x T.e_NoNote.g T.e_NoNote.k (raises_own T.e_NoNote.is.hs T.e_NoNote.t) (by exact rfl)))) pss_nil)
      (pss_cons (ps_set (i := 1) sc_read_number.nd rfl (Or.inl rfl) (pe_callTy call_int_str (by rfl) T.z_int (by decide +kernel) (pa_cons (pv 0) pa_nil)))
      (pss_cons (ps_if (pt_cmpR op_ne (pe_callTy call_str_int (by rfl) T.z_str (by decide +kernel) (pa_cons (pv 1) pa_nil)) (pv 0) (nomark _)) (pss_one (ps_raise rfl (takes_of rfl rfl rfl rfl) (pmk_own PySem.F.excBase_ValueError T.e_NoNote.x T.e_NoNote.g T.e_NoNote.k (raises_own T.e_NoNote.is.hs T.e_NoNote.t) (by exact rfl)))) pss_nil)
      (pss_one (ps_ret (pv 1))))), ?_⟩
  obtain ⟨x, rfl, as, lx, q1, q2⟩ := h
  refine ⟨_, rfl, rfl, x, rfl, rfl, trivial, ?_⟩
  have no : (∃ n, Num x n) ∨ ∀ n, ¬ Num x n := (Classical.em _).imp id fun z n h => z ⟨n, h⟩
  cases hd : Txt.isdecimal x with
  | false =>
    have hn : ∀ n, ¬ Num x n := fun n ⟨e, _⟩ => by rw [e, num_isdec] at hd; cases hd
    refine ⟨false, rfl, iteTof rfl ?_⟩
    exact q2 hn
  | true =>
    obtain ⟨ad, ne⟩ := isdec_digits as hd
    refine ⟨true, rfl, iteFof rfl ?_⟩
    have e19 : (Str.ofString (toString (1152921504606846976 : Int))).length = 19 := by decide +kernel
    refine ⟨_, rfl, _, rfl, by rw [sizeLine_eq]; omega, _, rfl, by decide, _, rfl, by rw [e19]; decide, _, _, rfl, rfl, _, rfl, ?_⟩
    by_cases l19 : x.length ≤ 19
    · refine iteFof (decide_eq_false (by rw [e19]; omega)) ?_
      have ei := PySem.intText_digits ad ne (by omega)
      have small : PySem.NumText.digitsVal x.cps.toList < 2 ^ 70 := by
        have h := val_lt x.cps.toList 0 ad
        have e : x.cps.toList.length = x.length := Array.length_toList
        have p : 10 ^ x.cps.toList.length ≤ 10 ^ 19 := Nat.pow_le_pow_right (by decide) (by omega)
        have q : (10 : Nat) ^ 19 < 2 ^ 70 := by decide
        unfold PySem.NumText.digitsVal
        omega
      generalize PySem.NumText.digitsVal x.cps.toList = m at ei small
      refine ⟨_, rfl, x, _, rfl, ei, by omega, ?_⟩
      refine ⟨_, rfl, _, rfl, ?_, _, rfl, rfl, _, rfl, ?_⟩
      · rw [Int.natAbs_natCast]
        by_cases z : m = 0
        · subst z
          decide
        · have := (Nat.log2_lt z).mpr small
          omega
      by_cases ex : numS m = x
      · refine iteFof (by show (!decide (V.str (numS m) = V.str x)) = false; rw [ex, decide_eq_true rfl]; rfl) ?_
        exact ⟨_, rfl, q1 m ⟨ex.symm, l19⟩⟩
      · refine iteTof (by show (!decide (V.str (numS m) = V.str x)) = true; rw [decide_eq_false (show ¬ V.str (numS m) = V.str x from fun z => ex (V.str.inj z))]; rfl) ?_
        refine q2 fun n ⟨e, _⟩ => ex ?_
        rw [e] at ei l19
        rw [num_int l19] at ei
        have : n = m := Int.ofNat.inj (Option.some.inj ei)
        rw [← this, e]
    · refine iteTof (decide_eq_true (by rw [e19]; omega)) ?_
      exact q2 fun n ⟨_, l⟩ => l19 l
end
/-! ### the rows together -/
def sp_count_cells (_ : PySem.W.Frag) (a : Ad) : Sp := fun vs H Q E => ∃ (l : Addr) (ts : List Addr) (rows : List Row), vs = [.ref l] ∧ H l = some (.lst (ts.map V.ref)) ∧ Rws H ts rows ∧
  (∀ d, d ≤ 60 → Chain 0 (rows.map Row.pn) (2 ^ d) → Q (sI d) H) ∧ ((∀ d, d ≤ 60 → ¬ Chain 0 (rows.map Row.pn) (2 ^ d)) → E (.ref a.c_NoNote) none H)
theorem chain_app : ∀ {L : List PN} {b m : Nat} {q : PN}, Chain b L m → q.1 = m → Chain b (L ++ [q]) (q.1 + 2 ^ q.2)
  | [], b, m, q, h, e => by
    have h : b = m := h
    exact ⟨e.trans h.symm, rfl⟩
  | p :: L, b, m, q, ⟨h1, h2⟩, e => ⟨h1, chain_app h2 e⟩
section
variable {P : Program} {w : World} {K : PySem.W.Frag} {mg : Str → Option Value} {base : Heap} {a : Ad}
theorem ok_count_cells (T : Txt K mg a) : FnOk P w K mg base (L2.CX P w) 2 a.f_count_cells a.d_count_cells ["rows"] (sp_count_cells K a) := by
  have G_is_size : FnOk P w K mg base CX0 1 a.f_is_size a.d_is_size ["number"] (sp_is_size K a) := ok_is_size T
  refine T.count_cells.fn.okX sc_count_cells (fun vs H Q E h => by first | (obtain ⟨rfl, _⟩ := h; rfl) | (obtain ⟨_, rfl, _⟩ := h; rfl) | (obtain ⟨_, _, rfl, _⟩ := h; rfl) | (obtain ⟨_, _, _, rfl, _⟩ := h; rfl) | (obtain ⟨_, _, _, _, rfl, _⟩ := h; rfl) | (obtain ⟨_, _, _, _, _, rfl, _⟩ := h; rfl) | (obtain ⟨_, _, _, _, _, _, rfl, _⟩ := h; rfl) | (obtain ⟨_, _, _, _, _, _, _, rfl, _⟩ := h; rfl) | (obtain ⟨_, _, _, _, _, _, _, _, rfl, _⟩ := h; rfl) | (obtain ⟨_, _, _, _, _, _, _, _, _, rfl, _⟩ := h; rfl) | (obtain ⟨_, _, _, _, _, _, _, _, _, _, rfl, _⟩ := h; rfl) | (obtain ⟨_, _, _, _, _, _, _, _, _, _, _, rfl, _⟩ := h; rfl)) (fun cdv A outer s H vs Q E hr h => ?_)
  refine ⟨_, pss_cons (ps_set (i := 1) sc_count_cells.nd rfl (Or.inl rfl) pe_int)
      (pss_cons (ps_for (passes_of rfl) rfl (pi_list (pv 0)) (pg_tup rfl (pgs_cons (pg_name (i := 2) sc_count_cells.nd rfl (Or.inl rfl)) (pgs_cons (pg_name (i := 3) sc_count_cells.nd rfl (Or.inl rfl)) (pgs_cons (pg_name (i := 4) sc_count_cells.nd rfl (Or.inl rfl)) pgs_nil)))) (pss_cons (ps_if (pt_cmpR op_ne (pv 2) (pv 1) (nomark _)) (pss_one (ps_raise rfl (takes_of rfl rfl rfl rfl) (pmk_own PySem.F.excBase_ValueError T.e_NoNote.x T.e_NoNote.g T.e_NoNote.k (raises_own T.e_NoNote.is.hs T.e_NoNote.t) (by exact rfl)))) pss_nil)
      (pss_one (ps_aug (i := 1) sc_count_cells.nd rfl (Or.inl rfl) (pv 3) ip_add))))
      (pss_cons (ps_if (pt_not (pt_val (pe_call G_is_size (hr.mono (by decide)) rfl T.is_size.mg T.is_size.fn.kp T.is_size.bd .nil pass0 (pa_cons (pv 1) pa_nil)))) (pss_one (ps_raise rfl (takes_of rfl rfl rfl rfl) (pmk_own PySem.F.excBase_ValueError T.e_NoNote.x T.e_NoNote.g T.e_NoNote.k (raises_own T.e_NoNote.is.hs T.e_NoNote.t) (by exact rfl)))) pss_nil)
      (pss_one (ps_ret (pv 1))))), ?_⟩
  obtain ⟨l, ts, rows, rfl, hat, rws, q1, q2⟩ := h
  have lts := rws.len
  refine ⟨_, rfl, l, rfl, ⟨_, SqL.of hat⟩, ?_⟩
  refine for_list (xs := ts.map V.ref) (fun i σ H' => ∃ (e : Nat) (x2 x3 x4 : Option V), H' = H ∧ σ = [some (.ref l), some (nI e), x2, x3, x4] ∧ Chain 0 ((rows.take i).map Row.pn) e)
    ⟨0, none, none, none, rfl, rfl, rfl⟩ (fun i σ H' _ p => by obtain ⟨_, _, _, _, p, _⟩ := p; rw [p]; exact SqL.of hat) ?_ ?_
  · rintro i v σ H4 hv ⟨e, x2, x3, x4, rfl, rfl, ch⟩
    have hi := (List.getElem?_eq_some_iff.mp hv).1
    rw [List.length_map, lts] at hi
    obtain ⟨r, hr⟩ : ∃ r, rows[i]? = some r := ⟨_, List.getElem?_eq_getElem hi⟩
    obtain ⟨t, ht, hatt⟩ := rws.get hr
    rw [List.getElem?_map, ht] at hv
    have hv := Option.some.inj hv
    subst hv
    have et : rows.take (i + 1) = rows.take i ++ [r] := by rw [List.take_add_one, hr]; rfl
    refine ⟨t, _, rfl, SqT.of hatt, rfl, _, _, rfl, _, _, rfl, _, _, rfl, rfl, ?_⟩
    refine ⟨_, rfl, _, rfl, rfl, _, rfl, ?_⟩
    by_cases ee : r.n = e
    · refine iteFof (by show (!decide (nI r.n = nI e)) = false; rw [ee, decide_eq_true rfl]; rfl) ?_
      refine ⟨_, rfl, _, rfl, _, _, rfl, rfl, ?_⟩
      refine ⟨e + 2 ^ r.k, some (nI r.n), some (sI r.k), some (.str r.st), rfl, ?_, ?_⟩
      · show [some (V.ref l), some (V.int ((e : Int) + ((2 ^ r.k : Nat) : Int))), some (nI r.n), some (sI r.k), some (.str r.st)] = _
        rw [← Int.natCast_add]
        rfl
      · rw [et, List.map_append, ← ee]
        rw [← ee] at ch
        exact chain_app (q := r.pn) ch rfl
    · refine iteTof (by show (!decide (nI r.n = nI e)) = true; rw [decide_eq_false (show ¬ nI r.n = nI e from fun z => ee (Int.ofNat.inj (V.int.inj z)))]; rfl) ?_
      refine q2 fun d d60 full => ee ?_
      obtain ⟨c1, _⟩ := chain_take (i := i) (q := r.pn) full (by rw [List.getElem?_map, hr]; rfl)
      rw [← List.map_take] at c1
      have s1 := chain_sum c1
      have s2 := chain_sum ch
      show r.pn.1 = e
      omega
  · rintro σ H4 ⟨e, x2, x3, x4, rfl, rfl, ch⟩
    rw [List.length_map, lts, List.take_length] at ch
    refine ⟨_, rfl, (e : Int), rfl, fun ⟨d, d60, ed⟩ => ⟨true, rfl, iteF ?_⟩, fun z => ⟨false, rfl, iteT ?_⟩⟩
    · have ed : e = 2 ^ d := Int.ofNat.inj ed
      subst ed
      exact ⟨_, rfl, q1 d d60 ch⟩
    · refine q2 fun d d60 full => z ⟨d, d60, ?_⟩
      have s1 := chain_sum full
      have s2 := chain_sum ch
      have : e = 2 ^ d := by omega
      rw [this]
end
/-! ### a row -/
def RowOf (s : Str) (r : Row) : Prop := ∃ w0 w1 : Str, Txt.split s " " = [w0, w1, r.st] ∧ Num w0 r.n ∧ Num w1 (2 ^ r.k) ∧ r.k ≤ 60 ∧ r.n / 2 ^ r.k * 2 ^ r.k = r.n
def sp_read_row (_ : PySem.W.Frag) (a : Ad) : Sp := fun vs H Q E => ∃ s : Str, vs = [.str s] ∧ s.length ≤ 1000000 ∧ (∀ x ∈ Txt.split s " ", Ascii x ∧ x.length ≤ 1000000) ∧
  (∀ r, RowOf s r → ∀ (t : Addr) (H' : Hp), (∀ b o, H b = some o → H' b = some o) → H' t = some (.tup r.v) → Q (.ref t) H') ∧ ((∀ r, ¬ RowOf s r) → ∀ H' : Hp, (∀ b o, H b = some o → H' b = some o) → E (.ref a.c_NoNote) none H')
theorem inV_two {w : Str} : inV (.str w) [.str "out", .str "free"] = true ↔ w = "out" ∨ w = "free" := by
  unfold inV
  simp [eqV]
  constructor
  · rintro (h | h)
    · exact .inl h.symm
    · exact .inr h.symm
  · rintro (h | h)
    · exact .inl h.symm
    · exact .inr h.symm
theorem num_uniq {w : Str} {n m : Nat} (h : Num w n) (g : Num w m) : n = m := numS_inj (h.1.symm.trans g.1)
section
variable {P : Program} {w : World} {K : PySem.W.Frag} {mg : Str → Option Value} {base : Heap} {a : Ad}
theorem ok_read_row (T : Txt K mg a) : FnOk P w K mg base (L2.CX P w) 2 a.f_read_row a.d_read_row ["row"] (sp_read_row K a) := by
  have G_is_size : FnOk P w K mg base CX0 1 a.f_is_size a.d_is_size ["number"] (sp_is_size K a) := ok_is_size T
  have G_read_number : FnOk P w K mg base (L2.CX P w) 1 a.f_read_number a.d_read_number ["word"] (sp_read_number K a) := ok_read_number T
  obtain ⟨tOUT, mOUT⟩ := T.v_OUT
  obtain ⟨tFREE, mFREE⟩ := T.v_FREE
  refine T.read_row.fn.okX sc_read_row (fun vs H Q E h => by first | (obtain ⟨rfl, _⟩ := h; rfl) | (obtain ⟨_, rfl, _⟩ := h; rfl) | (obtain ⟨_, _, rfl, _⟩ := h; rfl) | (obtain ⟨_, _, _, rfl, _⟩ := h; rfl) | (obtain ⟨_, _, _, _, rfl, _⟩ := h; rfl) | (obtain ⟨_, _, _, _, _, rfl, _⟩ := h; rfl) | (obtain ⟨_, _, _, _, _, _, rfl, _⟩ := h; rfl) | (obtain ⟨_, _, _, _, _, _, _, rfl, _⟩ := h; rfl) | (obtain ⟨_, _, _, _, _, _, _, _, rfl, _⟩ := h; rfl) | (obtain ⟨_, _, _, _, _, _, _, _, _, rfl, _⟩ := h; rfl) | (obtain ⟨_, _, _, _, _, _, _, _, _, _, rfl, _⟩ := h; rfl) | (obtain ⟨_, _, _, _, _, _, _, _, _, _, _, rfl, _⟩ := h; rfl)) (fun cdv A outer s H vs Q E hr h => ?_)
  refine ⟨_, pss_cons (ps_set (i := 1) sc_read_row.nd rfl (Or.inl rfl) (pe_split (pv 0) pe_str))
      (pss_cons (ps_if (PW.pt (pw_or (pt_cmpR op_ne (pe_callB call_len_seq (by rfl) T.z_len PySem.boot_len (pa_cons (pv 1) pa_nil)) pe_int (nomark _)) (pw_or1 (pt_cmpR op_notIn_seq (pe_ix ix_list (pv 1) pe_int (fun _ _ => rfl)) (pe_tup (pa_cons (pe_glob (v := .str "out") rfl mOUT ⟨_, rfl⟩) (pa_cons (pe_glob (v := .str "free") rfl mFREE ⟨_, rfl⟩) pa_nil))) (by rfl))))) (pss_one (ps_raise rfl (takes_of rfl rfl rfl rfl) (pmk_own PySem.F.excBase_ValueError T.e_NoNote.x T.e_NoNote.g T.e_NoNote.k (raises_own T.e_NoNote.is.hs T.e_NoNote.t) (by exact rfl)))) pss_nil)
      (pss_cons (ps_set (i := 2) sc_read_row.nd rfl (Or.inl rfl) (pe_call G_read_number (hr.mono (by decide)) rfl T.read_number.mg T.read_number.fn.kp T.read_number.bd .nil (passX (takes_of rfl rfl rfl rfl)) (pa_cons (pe_ix ix_list (pv 1) pe_int (fun _ _ => rfl)) pa_nil)))
      (pss_cons (ps_set (i := 3) sc_read_row.nd rfl (Or.inl rfl) (pe_call G_read_number (hr.mono (by decide)) rfl T.read_number.mg T.read_number.fn.kp T.read_number.bd .nil (passX (takes_of rfl rfl rfl rfl)) (pa_cons (pe_ix ix_list (pv 1) pe_int (fun _ _ => rfl)) pa_nil)))
      (pss_cons (ps_if (PW.pt (pw_or (pt_not (pt_val (pe_call G_is_size (hr.mono (by decide)) rfl T.is_size.mg T.is_size.fn.kp T.is_size.bd .nil pass0 (pa_cons (pv 3) pa_nil)))) (pw_or1 (pt_cmpR op_ne (pe_op op_modN (pv 2) (pv 3)) pe_int (nomark _))))) (pss_one (ps_raise rfl (takes_of rfl rfl rfl rfl) (pmk_own PySem.F.excBase_ValueError T.e_NoNote.x T.e_NoNote.g T.e_NoNote.k (raises_own T.e_NoNote.is.hs T.e_NoNote.t) (by exact rfl)))) pss_nil)
      (pss_one (ps_ret (pe_tup (pa_cons (pv 2) (pa_cons (pv 3) (pa_cons (pe_ix ix_list (pv 1) pe_int (fun _ _ => rfl)) pa_nil)))))))))), ?_⟩
  obtain ⟨s, rfl, ls, as, q1, q2⟩ := h
  refine ⟨_, rfl, ⟨_, rfl⟩, s, _, rfl, rfl, by decide, by rw [sizeLine_eq]; omega, fun p hp => ?_⟩
  have kp : ∀ b o, H b = some o → L2.upd H p (.lst ((Txt.split s " ").map V.str)) b = some o := fun b o e => by rw [upd_ne (ne_of_none e hp)]; exact e
  have hpp : L2.upd H p (.lst ((Txt.split s " ").map V.str)) p = some (.lst ((Txt.split s " ").map V.str)) := upd_same
  generalize L2.upd H p (.lst ((Txt.split s " ").map V.str)) = H1 at kp hpp
  refine ⟨_, rfl, p, _, rfl, .inl (SqL.of hpp), rfl, _, rfl, ?_⟩
  unfold RowOf at q1 q2
  generalize hws : Txt.split s " " = ws at as q1 q2 hpp
  by_cases l3 : ws.length = 3
  · obtain ⟨w0, w1, w2, rfl⟩ : ∃ w0 w1 w2, ws = [w0, w1, w2] := by
      match ws, l3 with
      | [w0, w1, w2], _ => exact ⟨w0, w1, w2, rfl⟩
    refine iteFof rfl ?_
    refine ⟨_, rfl, p, _, _, .str w2, rfl, rfl, SqL.of hpp, at_of (j := 2) rfl rfl, ?_⟩
    refine ⟨by show 2 ≤ sizeLine; decide, fun t ht => ?_⟩
    have kt : ∀ b o, H1 b = some o → L2.upd H1 t (.tup [.str "out", .str "free"]) b = some o := fun b o e => by rw [upd_ne (ne_of_none e ht)]; exact e
    refine ⟨t, _, rfl, .inr (SqT.of upd_same), rfl, rfl, _, rfl, ?_⟩
    have hp2 := kt _ _ hpp
    have k2 : ∀ b o, H b = some o → L2.upd H1 t (.tup [.str "out", .str "free"]) b = some o := fun b o e => kt _ _ (kp _ _ e)
    generalize L2.upd H1 t (.tup [.str "out", .str "free"]) = H2 at hp2 k2
    by_cases hw2 : w2 = "out" ∨ w2 = "free"
    · obtain ⟨fr, ef⟩ : ∃ fr : Bool, w2 = Row.st ⟨0, 0, fr⟩ := by
        rcases hw2 with h | h
        · exact ⟨false, h⟩
        · exact ⟨true, h⟩
      refine iteFof (by show (!inV (.str w2) [.str "out", .str "free"]) = false; rw [inV_two.mpr hw2]; rfl) ?_
      have a0 := as w0 (by simp)
      have a1 := as w1 (by simp)
      refine ⟨_, rfl, p, _, _, .str w0, rfl, rfl, SqL.of hp2, at_of (j := 0) rfl rfl, w0, rfl, a0.1, a0.2, fun n hn => ?_, fun no => ?_⟩
      · refine ⟨_, rfl, p, _, _, .str w1, rfl, rfl, SqL.of hp2, at_of (j := 1) rfl rfl, w1, rfl, a1.1, a1.2, fun m hm => ?_, fun no => ?_⟩
        · refine ⟨_, rfl, (m : Int), rfl, fun ⟨k, k60, ek⟩ => ⟨true, rfl, iteF ?_⟩, fun z => ⟨false, rfl, iteT ?_⟩⟩
          · have ek : m = 2 ^ k := Int.ofNat.inj ek
            subst ek
            have pk : 0 < 2 ^ k := Nat.pow_pos (by decide)
            refine ⟨_, rfl, _, rfl, _, _, rfl, rfl, by show ((2 ^ k : Nat) : Int) ≠ 0; omega, rfl, _, rfl, ?_⟩
            have em : (n : Int).fmod ((2 ^ k : Nat) : Int) = ((n % 2 ^ k : Nat) : Int) := by
              rw [Int.fmod_eq_emod_of_nonneg _ (by omega)]
              exact (Int.natCast_emod n (2 ^ k)).symm
            have ea : n / 2 ^ k * 2 ^ k = n ↔ n % 2 ^ k = 0 := by
              have := Nat.div_add_mod n (2 ^ k)
              rw [Nat.mul_comm] at this
              omega
            by_cases c3 : n % 2 ^ k = 0
            · refine iteFof (by show (!decide (V.int ((n : Int).fmod ((2 ^ k : Nat) : Int)) = V.int 0)) = false; rw [em, c3]; rfl) ?_
              refine ⟨_, rfl, _, rfl, _, rfl, p, _, _, .str w2, rfl, rfl, SqL.of hp2, at_of (j := 2) rfl rfl, by show 3 ≤ sizeLine; decide, fun t ht => ?_⟩
              refine q1 ⟨n, k, fr⟩ ⟨w0, w1, ?_, hn, hm, k60, ea.mpr c3⟩ t _ (fun b o e => by rw [upd_ne (ne_of_none (k2 _ _ e) ht)]; exact k2 _ _ e) ?_
              · rw [ef]
                rfl
              · rw [upd_same, ef]
                rfl
            · refine iteTof (by show (!decide (V.int ((n : Int).fmod ((2 ^ k : Nat) : Int)) = V.int 0)) = true; rw [em, decide_eq_false fun z => c3 (by have := V.int.inj z; omega)]; rfl) ?_
              refine q2 (fun r ⟨v0, v1, e, g0, g1, _, g3⟩ => ?_) H2 k2
              injection e with e1 e
              injection e with e2 e
              subst e1
              subst e2
              have en := num_uniq hn g0
              have ek := num_uniq hm g1
              rw [← en, ← ek] at g3
              exact c3 (ea.mp g3)
          · refine q2 (fun r ⟨v0, v1, e, g0, g1, g2, _⟩ => z ⟨r.k, g2, ?_⟩) H2 k2
            injection e with e1 e
            injection e with e2 e
            subst e2
            rw [num_uniq hm g1]
        · refine q2 (fun r ⟨v0, v1, e, g0, g1, _⟩ => ?_) H2 k2
          injection e with e1 e
          injection e with e2 e
          subst e2
          exact no _ g1
      · refine q2 (fun r ⟨v0, v1, e, g0, g1, _⟩ => ?_) H2 k2
        injection e with e1 e
        subst e1
        exact no _ g0
    · refine iteTof ?_ ?_
      · show (!inV (.str w2) [.str "out", .str "free"]) = true
        rw [show inV (.str w2) [.str "out", .str "free"] = false from Bool.eq_false_iff.mpr fun z => hw2 (inV_two.mp z)]
        rfl
      · refine q2 (fun r ⟨v0, v1, e, _⟩ => hw2 ?_) H2 k2
        injection e with e1 e
        injection e with e2 e
        injection e with e3 e
        rw [e3]
        unfold Row.st
        cases r.free
        · exact .inl rfl
        · exact .inr rfl
  · refine iteTof ?_ (iteT ?_)
    · show (!decide (V.int ((ws.map V.str).length : Int) = V.int 3)) = true
      rw [List.length_map, decide_eq_false (fun z => l3 (by have := V.int.inj z; omega))]
      rfl
    · refine q2 (fun r ⟨w0, w1, e, _⟩ => l3 ?_) H1 kp
      rw [e]
      rfl
end
/-! ### two twins that are both free -/
def FreeTw (rows : List Row) : Prop := ∃ r ∈ rows, ∃ s ∈ rows, r.free = true ∧ s.free = true ∧ s.k = r.k ∧ s.n = sib (r.n / 2 ^ r.k) * 2 ^ r.k
def kvR (r : Row) : Key × V := (Sum.inl (r.n : Int), sI r.k)
def sp_refuse_free_twins (_ : PySem.W.Frag) (a : Ad) : Sp := fun vs H Q E => ∃ (l : Addr) (ts : List Addr) (rows : List Row), vs = [.ref l] ∧ H l = some (.lst (ts.map V.ref)) ∧ Rws H ts rows ∧ rows.Pairwise (fun r s => r.n ≠ s.n) ∧ (∀ r ∈ rows, r.n / 2 ^ r.k * 2 ^ r.k = r.n) ∧ rows.length ≤ 20000 ∧
  (FreeTw rows → ∀ H' : Hp, (∀ b o, H b = some o → H' b = some o) → E (.ref a.c_NoNote) none H') ∧ (¬ FreeTw rows → ∀ H' : Hp, (∀ b o, H b = some o → H' b = some o) → Q .non H')
theorem putK_new {kvs : List (Key × V)} {k : Key} {v : V} (h : ∀ p ∈ kvs, p.1 ≠ k) : putK kvs k v = kvs ++ [(k, v)] := by
  unfold putK
  rw [if_neg]
  intro z
  obtain ⟨p, hp, e⟩ := List.any_eq_true.mp z
  exact h p hp (of_decide_eq_true e)
theorem valF {F : List Row} {m : Nat} : valV (F.map kvR) (Sum.inl (m : Int)) = (F.find? fun s => decide (s.n = m)).map fun s => sI s.k := by
  unfold valV
  rw [List.find?_map]
  have e : ((fun kv : Key × V => decide (kv.1 = Sum.inl (m : Int))) ∘ kvR) = fun s : Row => decide (s.n = m) := by
    funext s
    show decide ((Sum.inl (s.n : Int) : Key) = Sum.inl (m : Int)) = decide (s.n = m)
    rw [decide_eq_decide]
    exact ⟨fun z => Int.ofNat.inj (Sum.inl.inj z), fun z => by rw [z]⟩
  rw [e, Option.map_map]
  rfl
section
variable {P : Program} {w : World} {K : PySem.W.Frag} {mg : Str → Option Value} {base : Heap} {a : Ad}
theorem ok_refuse_free_twins (T : Txt K mg a) : FnOk P w K mg base (L2.CX P w) 2 a.f_refuse_free_twins a.d_refuse_free_twins ["rows"] (sp_refuse_free_twins K a) := by
  have G_twin_of : FnOk P w K mg base CX0 1 a.f_twin_of a.d_twin_of ["at", "size"] (sp_twin_of K a) := ok_twin_of T
  obtain ⟨tFREE, mFREE⟩ := T.v_FREE
  refine T.refuse_free_twins.fn.okX sc_refuse_free_twins (fun vs H Q E h => by first | (obtain ⟨rfl, _⟩ := h; rfl) | (obtain ⟨_, rfl, _⟩ := h; rfl) | (obtain ⟨_, _, rfl, _⟩ := h; rfl) | (obtain ⟨_, _, _, rfl, _⟩ := h; rfl) | (obtain ⟨_, _, _, _, rfl, _⟩ := h; rfl) | (obtain ⟨_, _, _, _, _, rfl, _⟩ := h; rfl) | (obtain ⟨_, _, _, _, _, _, rfl, _⟩ := h; rfl) | (obtain ⟨_, _, _, _, _, _, _, rfl, _⟩ := h; rfl) | (obtain ⟨_, _, _, _, _, _, _, _, rfl, _⟩ := h; rfl) | (obtain ⟨_, _, _, _, _, _, _, _, _, rfl, _⟩ := h; rfl) | (obtain ⟨_, _, _, _, _, _, _, _, _, _, rfl, _⟩ := h; rfl) | (obtain ⟨_, _, _, _, _, _, _, _, _, _, _, rfl, _⟩ := h; rfl)) (fun cdv A outer s H vs Q E hr h => ?_)
  refine ⟨_, pss_cons (ps_setDc (i := 3) (own := [("at", 1), ("size", 2), ("state", 4)]) (g := gTup K 3 (gCons (gName 1) (gCons (gName 2) (gCons (gName 4) gNil)))) (tt := (tTest (tOp rEq (tVar 4) (tC (.str "free"))))) rfl sc_refuse_free_twins.nd rfl rfl (sw_trueD rfl rfl rfl (by decide +kernel)) (pi_list (pv 0)) (blkOk_by (own := [("at", 1), ("size", 2), ("state", 4)]) (N := ["rows", "at", "size", "sizes", "state"]) (sc := defScope s_refuse_free_twins) (by decide +kernel)) (fun _ _ _ _ _ => (pg_tup rfl (pgs_cons (pg_name (i := 1) sc_refuse_free_twins.nd rfl (Or.inl rfl)) (pgs_cons (pg_name (i := 2) sc_refuse_free_twins.nd rfl (Or.inl rfl)) (pgs_cons (pg_name (i := 4) sc_refuse_free_twins.nd rfl (Or.inl rfl)) pgs_nil))))) (fun _ _ _ _ _ => (pts_one (pt_cmpR op_eq (pv 4) (pe_glob (v := .str "free") rfl mFREE ⟨_, rfl⟩) (nomark _)))) (fun _ _ _ _ _ => (pv 1)) (fun _ _ _ _ _ => (pv 2)))
      (pss_one (ps_lock (ps_for (passes_of rfl) rfl (pi_items (pv 3)) (pg_tup rfl (pgs_cons (pg_name (i := 1) sc_refuse_free_twins.nd rfl (Or.inl rfl)) (pgs_cons (pg_name (i := 2) sc_refuse_free_twins.nd rfl (Or.inl rfl)) pgs_nil))) (pss_one (ps_if (pt_cmpR op_eq (pe_dget1 (hu_of hr) (pv 3) (pe_call G_twin_of (hr.mono (by decide)) rfl T.twin_of.mg T.twin_of.fn.kp T.twin_of.bd .nil pass0 (pa_cons (pv 1) (pa_cons (pv 2) pa_nil))) ⟨rfl, rfl, rfl, rfl⟩) (pv 2) (nomark _)) (pss_one (ps_raise rfl (takes_of rfl rfl rfl rfl) (pmk_own PySem.F.excBase_ValueError T.e_NoNote.x T.e_NoNote.g T.e_NoNote.k (raises_own T.e_NoNote.is.hs T.e_NoNote.t) (by exact rfl)))) pss_nil))))), ?_⟩
  obtain ⟨l, ts, rows, rfl, hat, rws, ne, al, few, q1, q2⟩ := h
  have lts := rws.len
  refine ⟨_, rfl, l, rfl, ⟨_, SqL.of hat⟩, fun D newD => ?_⟩
  refine lc_out walk_list (fun j H' => H' D = some (.dK ((freeR (rows.take j)).map kvR)) ∧ (∀ b o, H b = some o → H' b = some o))
    ⟨upd_same, fun b o e => by rw [upd_ne (ne_of_none e newD)]; exact e⟩ (fun j H' _ p => SqL.of (p.2 _ _ hat)) ?_ ?_
  · rintro j v H3 H4 hj ⟨hD, s2⟩ ⟨rfl, hv⟩
    rw [List.length_map, lts] at hj
    obtain ⟨r, hr⟩ : ∃ r, rows[j]? = some r := ⟨_, List.getElem?_eq_getElem hj⟩
    obtain ⟨t, ht, hatt⟩ := rws.get hr
    rw [List.getElem?_map, ht] at hv
    have hv := Option.some.inj hv
    subst hv
    have et : rows.take (j + 1) = rows.take j ++ [r] := by rw [List.take_add_one, hr]; rfl
    refine ⟨t, _, rfl, SqT.of (s2 _ _ hatt), rfl, _, _, rfl, _, _, rfl, _, _, rfl, rfl, rfl, ?_⟩
    refine ⟨_, rfl, rfl, _, rfl, ?_⟩
    cases hf : r.free with
    | true =>
      have es : r.st = "free" := by unfold Row.st; rw [hf]; rfl
      refine iteTof (by show decide (V.str r.st = V.str "free") = true; rw [es]; exact decide_eq_true rfl) ?_
      refine ⟨_, rfl, _, rfl, _, Sum.inl (r.n : Int), rfl, hD, ?_, ?_, fun b o e => ?_⟩
      · rw [List.length_map, sizeLine_eq]
        have : (freeR (rows.take j)).length ≤ (rows.take j).length := List.length_filter_le _ _
        rw [List.length_take] at this
        omega
      · rw [upd_same, putK_new, et]
        · unfold freeR
          rw [List.filter_append, List.map_append, List.filter_cons_of_pos (by simpa using hf)]
          rfl
        · intro p hp e
          obtain ⟨s, hs, rfl⟩ := List.mem_map.mp hp
          have hs := (List.mem_filter.mp hs).1
          obtain ⟨i, hi⟩ := List.mem_iff_getElem?.mp hs
          have il := (List.getElem?_eq_some_iff.mp hi).1
          rw [List.length_take] at il
          rw [List.getElem?_take, if_pos (by omega)] at hi
          obtain ⟨a1, a2⟩ := List.getElem?_eq_some_iff.mp hi
          obtain ⟨b1, b2⟩ := List.getElem?_eq_some_iff.mp hr
          have := List.pairwise_iff_getElem.mp ne i j a1 b1 (by omega)
          rw [a2, b2] at this
          exact this (Int.ofNat.inj (Sum.inl.inj e))
      · rw [upd_ne (fun z => by rw [z, newD] at e; cases e)]
        exact s2 _ _ e
    | false =>
      have es : r.st = "out" := by unfold Row.st; rw [hf]; rfl
      refine iteFof (by show decide (V.str r.st = V.str "free") = false; rw [es]; decide) ?_
      refine ⟨?_, s2⟩
      rw [hD, et]
      unfold freeR
      rw [List.filter_append, List.filter_cons_of_neg (by simpa using hf)]
      simp
  rintro H2 ⟨hD, s2⟩
  rw [List.length_map, lts, List.take_length] at hD
  generalize hF : freeR rows = F at hD
  have inF : ∀ r, r ∈ F ↔ r ∈ rows ∧ r.free = true := fun r => by rw [← hF]; exact List.mem_filter
  have nlD : ∀ b o, H b = some o → b ≠ D := fun b o e z => by rw [z, newD] at e; cases e
  refine ⟨D, _, hD, trivial, fun od => ?_⟩
  refine ⟨_, rfl, D, od, _, rfl, upd_same, ?_⟩
  have lock : ∀ b o, H b = some o → L2.upd H2 D (.frz od (.dK (F.map kvR))) b = some o := fun b o e => by rw [upd_ne (nlD b o e)]; exact s2 _ _ e
  refine for_it walk_items (fun i σ H' => (∃ x1 x2 x4, σ = [some (.ref l), x1, x2, some (.ref D), x4]) ∧ (∀ j r, j < i → F[j]? = some r → ¬ ∃ s ∈ F, s.k = r.k ∧ s.n = sib (r.n / 2 ^ r.k) * 2 ^ r.k) ∧ (∀ b o, L2.upd H2 D (.frz od (.dK (F.map kvR))) b = some o → H' b = some o))
    ⟨⟨_, _, _, rfl⟩, fun j r h => by omega, fun b o e => e⟩ (fun i σ H' _ p => p.2.2 _ _ upd_same) ?_ ?_
  · rintro i x σ H3 H4 hi ⟨⟨x1, x2, x4, rfl⟩, none_yet, same⟩ ⟨t, u, v, rfl, new, rfl, eu, ev⟩
    rw [List.length_map] at hi
    dsimp only at eu ev
    obtain ⟨r, hr⟩ : ∃ r, F[i]? = some r := ⟨_, List.getElem?_eq_getElem hi⟩
    rw [List.getElem?_map, hr] at eu ev
    have eu : nI r.n = u := Option.some.inj eu
    have ev : sI r.k = v := Option.some.inj ev
    subst eu ev
    have mr := (inF r).mp (List.mem_of_getElem? hr)
    have ar := al r mr.1
    have hfz : L2.upd H3 t (.tup [nI r.n, sI r.k]) D = some (.frz od (.dK (F.map kvR))) := by
      rw [upd_ne (ne_of_none (same _ _ upd_same) new)]
      exact same _ _ upd_same
    have grow : ∀ b o, L2.upd H2 D (.frz od (.dK (F.map kvR))) b = some o → L2.upd H3 t (.tup [nI r.n, sI r.k]) b = some o := fun b o e => by
      have z := same b o e
      rw [upd_ne (ne_of_none z new)]
      exact z
    refine ⟨t, _, rfl, SqT.of upd_same, rfl, _, _, rfl, _, _, rfl, rfl, ?_⟩
    generalize L2.upd H3 t (.tup [nI r.n, sI r.k]) = H5 at hfz grow
    refine ⟨_, rfl, D, rfl, .inl ⟨_, .inr ⟨od, hfz⟩⟩, _, rfl, _, rfl, r.n / 2 ^ r.k, r.k, by show [nI r.n, sI r.k] = _; rw [ar], _, .inl ⟨_, Sum.inl ((sib (r.n / 2 ^ r.k) * 2 ^ r.k : Nat) : Int), .inr ⟨od, hfz⟩, rfl, rfl⟩, _, rfl, ?_⟩
    rw [valF]
    have next : (¬ ∃ s ∈ F, s.k = r.k ∧ s.n = sib (r.n / 2 ^ r.k) * 2 ^ r.k) → ∀ j q, j < i + 1 → F[j]? = some q → ¬ ∃ s ∈ F, s.k = q.k ∧ s.n = sib (q.n / 2 ^ q.k) * 2 ^ q.k := fun z j q hj e => by
      by_cases ej : j = i
      · subst ej
        rw [hr] at e
        rw [← Option.some.inj e]
        exact z
      · exact none_yet j q (by omega) e
    cases hs : F.find? fun s => decide (s.n = sib (r.n / 2 ^ r.k) * 2 ^ r.k) with
    | none =>
      have no := List.find?_eq_none.mp hs
      refine ⟨rfl, _, rfl, iteFof rfl ?_⟩
      exact ⟨⟨_, _, _, rfl⟩, next fun ⟨s, hs, _, e⟩ => no s hs (decide_eq_true e), grow⟩
    | some s =>
      have es : s.n = sib (r.n / 2 ^ r.k) * 2 ^ r.k := by
        have := List.find?_some hs
        exact of_decide_eq_true this
      have ms := List.mem_of_find?_eq_some hs
      refine ⟨rfl, _, rfl, ?_⟩
      by_cases ek : s.k = r.k
      · refine iteTof (by show decide (sI s.k = sI r.k) = true; rw [ek]; exact decide_eq_true rfl) ?_
        exact q1 ⟨r, mr.1, s, ((inF s).mp ms).1, mr.2, ((inF s).mp ms).2, ek, es⟩ H5 fun b o e => grow _ _ (lock _ _ e)
      · refine iteFof (by show decide (sI s.k = sI r.k) = false; exact decide_eq_false fun z => ek (pow_inj (V.int.inj z))) ?_
        refine ⟨⟨_, _, _, rfl⟩, next fun ⟨s', hs', e1, e2⟩ => ek ?_, grow⟩
        have := uniqN ne ((inF s).mp ms).1 ((inF s').mp hs').1 (es.trans e2.symm)
        rw [this, e1]
  · rintro σ H3 ⟨⟨x1, x2, x4, rfl⟩, none_yet, same⟩
    rw [List.length_map] at none_yet
    refine ⟨same _ _ upd_same, ?_⟩
    refine q2 (fun ⟨r, hr, s, hs, f1, f2, e1, e2⟩ => ?_) _ (fun b o e => ?_)
    · obtain ⟨j, hj⟩ := List.mem_iff_getElem?.mp ((inF r).mpr ⟨hr, f1⟩)
      exact none_yet j r (List.getElem?_eq_some_iff.mp hj).1 hj ⟨s, (inF s).mpr ⟨hs, f2⟩, e1, e2⟩
    · rw [upd_ne (nlD b o e)]
      exact same _ _ (lock _ _ e)
end
/-! ### what is free in a yard of rows -/
theorem out_mem {rows : List Row} {q : PN} : q ∈ outPn rows ↔ ∃ r ∈ rows, r.free = false ∧ r.pn = q := by
  unfold outPn
  rw [List.mem_map]
  constructor
  · rintro ⟨r, hr, e⟩
    obtain ⟨h1, h2⟩ := List.mem_filter.mp hr
    exact ⟨r, h1, by simpa using h2, e⟩
  · rintro ⟨r, h1, h2, e⟩
    exact ⟨r, List.mem_filter.mpr ⟨h1, by simpa using h2⟩, e⟩
theorem cover_row {d : Nat} {rows : List Row} (g : Good d (rows.map Row.pn)) (ch : Chain 0 (rows.map Row.pn) (2 ^ d)) {c : Nat} (hc : c < 2 ^ d) (no : ¬ Oc (outPn rows) c) : ∃ s ∈ rows, s.free = true ∧ c / 2 ^ s.k = s.n / 2 ^ s.k := by
  have oc := (chain_cover ch (fun q hq => (g.each q hq).2.1) c).mpr ⟨Nat.zero_le _, hc⟩
  obtain ⟨q, hq, e⟩ := oc
  obtain ⟨s, hs, rfl⟩ := List.mem_map.mp hq
  refine ⟨s, hs, ?_, e⟩
  cases hf : s.free with
  | true => rfl
  | false => exact absurd ⟨s.pn, out_mem.mpr ⟨s, hs, hf, rfl⟩, e⟩ no
theorem same_row {d : Nat} {rows : List Row} (g : Good d (rows.map Row.pn)) {r s : Row} (hr : r ∈ rows) (hs : s ∈ rows) {c : Nat} (e1 : c / 2 ^ r.k = r.n / 2 ^ r.k) (e2 : c / 2 ^ s.k = s.n / 2 ^ s.k) : r = s := by
  have := g.one (List.mem_map.mpr ⟨r, hr, rfl⟩) (List.mem_map.mpr ⟨s, hs, rfl⟩) e1 e2
  exact uniqN (rows_ne g) hr hs (congrArg Prod.fst this)
theorem free_max {d : Nat} {rows : List Row} (g : Good d (rows.map Row.pn)) (ch : Chain 0 (rows.map Row.pn) (2 ^ d)) (nt : ¬ FreeTw rows) : ∀ (k : Nat) (r : Row), r ∈ rows → r.free = true → r.k = k → k < d → ¬ Fr (Oc (outPn rows)) (k + 1) (r.n / 2 ^ k / 2) := by
  intro k
  induction k using Nat.strongRecOn with
  | ind k ih =>
    intro r hr fr ek kd fp
    subst ek
    have pk : 0 < 2 ^ r.k := Nat.pow_pos (by decide)
    have gr := g.each r.pn (List.mem_map.mpr ⟨r, hr, rfl⟩)
    have ec : sib (r.n / 2 ^ r.k) * 2 ^ r.k / 2 ^ r.k = sib (r.n / 2 ^ r.k) := Nat.mul_div_cancel _ pk
    have ep : sib (r.n / 2 ^ r.k) * 2 ^ r.k / 2 ^ (r.k + 1) = r.n / 2 ^ r.k / 2 := by rw [blk_succ, ec, sib_half]
    have hc : sib (r.n / 2 ^ r.k) * 2 ^ r.k < 2 ^ d := by
      have ed : 2 ^ d = 2 ^ (d - (r.k + 1)) * 2 ^ (r.k + 1) := by rw [← Nat.pow_add]; congr 1; omega
      have p1 : 0 < 2 ^ (r.k + 1) := Nat.pow_pos (by decide)
      rw [ed]
      refine (Nat.div_lt_iff_lt_mul p1).mp ?_
      rw [ep, ← blk_succ]
      exact blk_lt gr.2.2 kd
    obtain ⟨s, hs, fs, es⟩ := cover_row g ch hc (fp _ ep)
    rcases Nat.lt_trichotomy s.k r.k with z | z | z
    · refine ih s.k z s hs fs rfl (by omega) ?_
      rw [← blk_succ, ← blk_mono (show s.k ≤ s.k + 1 by omega) es]
      refine fr_down (m := r.k + 1) ?_ (by omega)
      rw [ep]
      exact fp
    · refine nt ⟨r, hr, s, hs, fr, fs, z, ?_⟩
      have as := (g.each s.pn (List.mem_map.mpr ⟨s, hs, rfl⟩)).2.1
      have as : s.n / 2 ^ s.k * 2 ^ s.k = s.n := as
      rw [← as, ← es, z, ec]
    · have e2 : r.n / 2 ^ s.k = s.n / 2 ^ s.k := by
        rw [← es]
        refine blk_mono (show r.k + 1 ≤ s.k by omega) ?_
        rw [ep, blk_succ]
      have := same_row g hr hs rfl e2
      rw [this] at z
      omega
theorem free_mx {d : Nat} {rows : List Row} (g : Good d (rows.map Row.pn)) (ch : Chain 0 (rows.map Row.pn) (2 ^ d)) (nt : ¬ FreeTw rows) {j i : Nat} : Mx (Oc (outPn rows)) d j i ↔ ∃ r ∈ rows, r.free = true ∧ r.k = j ∧ r.n / 2 ^ j = i := by
  have notO : ∀ {s : Row} {c : Nat}, s ∈ rows → s.free = true → c / 2 ^ s.k = s.n / 2 ^ s.k → ¬ Oc (outPn rows) c := fun {s c} hs fs e ⟨q, hq, eq⟩ => by
    obtain ⟨o, ho, fo, rfl⟩ := out_mem.mp hq
    have := same_row g hs ho e eq
    rw [this, fo] at fs
    cases fs
  constructor
  · rintro ⟨jd, hi, f, mx⟩
    have pj : 0 < 2 ^ j := Nat.pow_pos (by decide)
    have e : i * 2 ^ j / 2 ^ j = i := Nat.mul_div_cancel _ pj
    have ed : 2 ^ d = 2 ^ (d - j) * 2 ^ j := by rw [← Nat.pow_add]; congr 1; omega
    have lt : i * 2 ^ j < 2 ^ d := by rw [ed]; exact (Nat.mul_lt_mul_right pj).mpr hi
    obtain ⟨s, hs, fs, es⟩ := cover_row g ch lt (f _ e)
    have sd := (g.each s.pn (List.mem_map.mpr ⟨s, hs, rfl⟩)).1
    have sd : s.k ≤ d := sd
    rcases Nat.lt_trichotomy s.k j with z | z | z
    · exfalso
      refine free_max g ch nt s.k s hs fs rfl (by omega) ?_
      rw [← blk_succ, ← blk_mono (show s.k ≤ s.k + 1 by omega) es]
      refine fr_down (m := j) ?_ (by omega)
      rw [e]
      exact f
    · refine ⟨s, hs, fs, z, ?_⟩
      rw [z] at es
      rw [← es, e]
    · exfalso
      refine mx (by omega) fun c ec => notO hs fs ?_
      rw [← es]
      refine blk_mono (show j + 1 ≤ s.k by omega) ?_
      rw [ec, blk_succ, e]
  · rintro ⟨r, hr, fr, rfl, rfl⟩
    have gr := g.each r.pn (List.mem_map.mpr ⟨r, hr, rfl⟩)
    exact ⟨gr.1, blk_lt gr.2.2 gr.1, fun c ec => notO hr fr ec, fun l => free_max g ch nt r.k r hr fr rfl l⟩
theorem chain_lt : ∀ {L : List PN} {b e : Nat}, Chain b L e → L.Pairwise (fun p q => p.1 < q.1) ∧ ∀ q ∈ L, b ≤ q.1
  | [], b, e, _ => ⟨.nil, fun q h => by cases h⟩
  | p :: L, b, e, ⟨h1, h2⟩ => by
    obtain ⟨a1, a2⟩ := chain_lt h2
    have pp : 0 < 2 ^ p.2 := Nat.pow_pos (by decide)
    refine ⟨List.pairwise_cons.mpr ⟨fun q hq => ?_, a1⟩, fun q hq => ?_⟩
    · have := a2 q hq
      omega
    · rcases List.mem_cons.mp hq with rfl | hq
      · omega
      · have := a2 q hq
        omega
theorem srt_rows {L M : List PN} (pm : M.Perm L) (h : M.Pairwise fun p q => p.1 < q.1) : srt (L.map toI) = M.map toI := by
  refine (srt_of (pm.map toI) (List.pairwise_map.mpr (h.imp fun {p q} l => ?_))).symm
  rw [SrtO.lexB_no]
  show ¬ ((q.1 : Int) < (p.1 : Int) ∨ _)
  unfold toI
  show ¬ ((q.1 : Int) < (p.1 : Int) ∨ ((q.1 : Int) = (p.1 : Int) ∧ _))
  omega
theorem sub_rows {rows : List Row} {e : Nat} (ch : Chain 0 (rows.map Row.pn) e) (f : Row → Bool) : ((rows.filter f).map Row.pn).Pairwise fun p q => p.1 < q.1 :=
  (chain_lt ch).1.sublist (List.filter_sublist.map _)
theorem outZ_rows {rows : List Row} {e : Nat} (ch : Chain 0 (rows.map Row.pn) e) : outZ (outPn rows) = (outPn rows).map toI := srt_rows (List.Perm.refl _) (sub_rows ch _)
theorem frees_rows {d : Nat} {rows : List Row} (g : Good d (rows.map Row.pn)) (go : Good d (outPn rows)) (ch : Chain 0 (rows.map Row.pn) (2 ^ d)) (nt : ¬ FreeTw rows) : frees (outPn rows) d = ((freeR rows).map Row.pn).map toI := by
  rw [frees_eq]
  have st : ((freeR rows).map Row.pn).Pairwise fun p q => p.1 < q.1 := sub_rows ch _
  refine srt_rows ?_ st
  refine (List.perm_ext_iff_of_nodup (st.imp fun {p q} l e => by rw [e] at l; omega) ?_).mpr fun q => ?_
  · exact (List.nodup_append.mp (good_all go).nodup).2.1
  · rw [freeP_mem, free_mx g ch nt]
    constructor
    · intro h
      obtain ⟨r, hr, rfl⟩ := List.mem_map.mp h
      obtain ⟨h1, h2⟩ := List.mem_filter.mp hr
      exact ⟨⟨r, h1, h2, rfl, rfl⟩, (g.each r.pn (List.mem_map.mpr ⟨r, h1, rfl⟩)).2.1⟩
    · rintro ⟨⟨r, h1, h2, e1, e2⟩, al⟩
      refine List.mem_map.mpr ⟨r, List.mem_filter.mpr ⟨h1, h2⟩, ?_⟩
      have ar := (g.each r.pn (List.mem_map.mpr ⟨r, h1, rfl⟩)).2.1
      have ar : r.n / 2 ^ r.k * 2 ^ r.k = r.n := ar
      refine Prod.ext ?_ e1
      show r.n = q.1
      rw [← al, ← e2, ← e1, ar]
theorem good_rows {d : Nat} : ∀ {L : List PN} {b e : Nat}, Chain b L e → (∀ q ∈ L, q.1 / 2 ^ q.2 * 2 ^ q.2 = q.1) → e ≤ 2 ^ d → Good d L
  | [], b, e, _, _, _ => Good.nil d
  | q :: L, b, e, ⟨h1, h2⟩, al, le => by
    have gL := good_rows h2 (fun p hp => al p (List.mem_cons_of_mem _ hp)) le
    have aq := al q List.mem_cons_self
    have pq : 0 < 2 ^ q.2 := Nat.pow_pos (by decide)
    have s := chain_sum h2
    refine ⟨fun p hp => ?_, List.pairwise_cons.mpr ⟨fun p hp c e1 e2 => ?_, gL.disj⟩⟩
    · rcases List.mem_cons.mp hp with rfl | hp
      · exact ⟨(Nat.pow_le_pow_iff_right (a := 2) (by decide)).mp (by omega), aq, by omega⟩
      · exact gL.each p hp
    · have a2 := Nat.lt_div_mul_add (a := c) pq
      rw [e1, aq] at a2
      have := (chain_cover h2 (fun p hp => al p (List.mem_cons_of_mem _ hp)) c).mp ⟨p, hp, e2⟩
      omega
/-! ### name = [..] by a comprehension whose element may raise an error of the def's -/
section
open PySem PySem.Spec PyProof PyProof.Rows L2
theorem note_same {e : Value} {c d : Env} (h : c.frame = d.frame) : noteFrame e c = noteFrame e d := by
  unfold noteFrame PySem.frameOf
  rw [h]
/-- what a comprehension's block comes to: as in the library, but an error is passed on by the block's own environment -/
def endX (M : Model) (A : Around) (E : Value → Shared → Prop) (use : Option (Value → Sem Unit)) (Q : Value → Shared → Prop) (acc : Value) (ce : Env) : Result → Shared → Prop
  | .ok f, t => compPost M A E use Q acc ce.locals (.ok f) t
  | .error x, t => ∃ m, t.heap.Ns ce.locals m ∧ ∀ g, Heap.SameBut ce.locals t.heap g →
      wpAny M A (passOn "comprehension.variables-let-go" x ce : Sem Value) (fun _ _ => False) E { t with heap := g }
theorem comp_ends {M : Model} {A : Around} {E : Value → Shared → Prop} {s : Shared} {env : Env} {e : Expr} {scope : Scope} {pos : Pos} {nw fst : Sem Value} {g : Comprehension} {gs : List Comprehension}
    {cl : List (Str × Addr)} {use : Option (Value → Sem Unit)} {Q : Value → Shared → Prop}
    (c1 : clausesOf e = g :: gs) (c2 : ∀ x, foldedSetIterable g.iter env x = pure x) (c3 : closureFor scope env = pure cl)
    (kd : scope.kind = .function) (nms : ∀ x ∈ scope.names, x.2 = .local → scope.names.lookup x.1 = some .local)
    (run : wpAny M A fst (fun x t1 => wpAny M A (pyIter x) (fun it t2 => wpAny M A nw (fun acc t3 =>
      wpAny M A (newFunctionEnv scope env.globals cl [] env.qual none .none (some env)) (fun ce t4 =>
        codeAny M A (.compStart e 0 it acc { ce with scope := relabel scope env }) (endX M A E use Q acc { ce with scope := relabel scope env }) t4) E t3) E t2) E t1) E s) :
    wpAny M A (comprehension e scope env pos nw false fst use) Q E s := by
  unfold comprehension
  rw [c3, c1]
  have up : ∀ {α : Type} {m : Sem α} {Q1 Q2 : α → Shared → Prop} {t : Shared}, wpAny M A m Q1 E t → (∀ v u, Q1 v u → Q2 v u) → wpAny M A m Q2 E t := fun z k => wpAny_mono z k fun _ _ y => y
  refine wpAny_bind (up run fun x t1 r1 => wpAny_bind (wpAny_standAt (wpAny_bind (wpAny_of_eq (c2 x) (wpAny_bind (wpAny_holding (up r1 fun it t2 r2 => ?_)))))))
  refine wpAny_standIf (wpAny_bind (up r2 fun acc t3 r3 => wpAny_bind (wpAny_pure (wpAny_bind (up r3 fun ce t4 r4 => ?_)))))
  dsimp only
  have vars : ∀ L : List (Str × NameKind), (∀ x ∈ L, x ∈ scope.names) → ∀ x ∈ L, x.2 = .local → Env.kindOf { ce with scope := relabel scope env } x.1 = some .local :=
    fun L hL x hx xl => lookup_relabel_local (nms x (hL x hx) xl)
  have all1 : ∀ x ∈ (scope.names.filter fun x => (x.2 == .local || x.2 == .cell) && x.1 != (".0" : Str)).reverse, x ∈ scope.names :=
    fun x hx => (List.mem_filter.mp (List.mem_reverse.mp hx)).1
  have v1 := vars _ all1
  have v2 := vars ((scope.names.filter fun x => (x.2 == .local || x.2 == .cell) && x.1 != (".0" : Str)).reverse.drop 1 ++
      (scope.names.filter fun x => (x.2 == .local || x.2 == .cell) && x.1 != (".0" : Str)).reverse.take 1) (fun x hx => by
    rcases List.mem_append.mp hx with z | z
    · exact all1 x (List.mem_of_mem_drop z)
    · exact all1 x (List.mem_of_mem_take z))
  refine wpAny_holding (wpAny_bind (wpAny_attempt (wpAny_holding (wpAny_run (codeAny_mono r4 fun r t hr => ?_)))))
  cases r with
  | ok f =>
    cases use with
    | none =>
      obtain ⟨m, nsm, q⟩ := hr
      exact wpAny_bind (wpAny_holding (wpAny_comp_letGo (cenv := { ce with scope := relabel scope env }) kd _ t m v1 nsm fun g' _ _ sb => wpAny_pure (q g' sb)))
    | some u =>
      refine wpAny_bind (wpAny_rule (wpAny_bind (wpAny_holding (up hr fun _ t' q => ?_))))
      obtain ⟨m, nsm, q⟩ := q
      exact wpAny_bind (wpAny_comp_letGo (cenv := { ce with scope := relabel scope env }) kd _ t' m v2 nsm fun g' _ _ sb => wpAny_pure (q g' sb))
  | error x =>
    obtain ⟨m, nsm, q⟩ := hr
    exact wpAny_bind (wpAny_holding (wpAny_comp_letGo (cenv := { ce with scope := relabel scope env }) kd _ t m v1 nsm fun g' _ _ sb =>
      wpAny_mono (q g' sb) (fun _ _ z => z.elim) fun _ _ y => y))
/-- one exception, told twice -/
theorem sky_fly {B C : Heap} {l l' : List Env} {a : Addr} {Z Z' : Obj → Prop} {L : Addr} {h : Heap} (sk : Sky B l a Z L h) (fl : HandSPX.FlyingZ C l' a Z' h) : HandSPX.FlyingZ B l a Z h := by
  obtain ⟨_, _, _, o1, w1, T, oT, ts, e1, _, d1, i1, _, _, eT, dT, i3⟩ := fl
  rcases sk with ⟨_, _, _, o2, w2, e2, _, d2, i2⟩ | f | ⟨_, _, _, o2, w2, T2, oT2, ts2, e2, _, d2, i2, _, _, eT2, dT2, i32⟩
  · exfalso
    rw [e1] at e2
    cases e2
    rw [d1] at d2
    cases d2
    rw [i1] at i2
    cases i2
  · exact f
  · exfalso
    rw [e1] at e2
    cases e2
    rw [d1] at d2
    cases d2
    rw [i1] at i2
    cases i2
    rw [eT] at eT2
    cases eT2
    rw [dT] at dT2
    cases dT2
    rw [i3] at i32
    cases i32
theorem frames_but {base h g : Heap} {C : Addr} (sb : Heap.SameBut C h g) : ∀ {l : List Env}, h.FunFrames base l → C ∉ frs l → g.FunFrames (PySem.W.hideAll base [C]) l
  | [], _, _ => trivial
  | env :: l, ⟨hk, ⟨L, o, hf, hn, ho, hd⟩, hr⟩, nc => by
    have nL : L ≠ C := fun z => nc (List.mem_filterMap.mpr ⟨env, List.mem_cons_self, by rw [hf, z]⟩)
    refine ⟨hk, ⟨L, o, hf, ?_, (sb.2 L nL).trans ho, hd⟩, frames_but sb hr fun z => nc ?_⟩
    · cases q : (PySem.W.hideAll base [C]).get? L with
      | none => rfl
      | some u =>
        have := PySem.W.of_hideAll _ q
        rw [hn] at this
        cases this
    · obtain ⟨x, hx, q⟩ := List.mem_filterMap.mp z
      exact List.mem_filterMap.mpr ⟨x, List.mem_cons_of_mem _ hx, q⟩
/-- an error of the block's element leaves the comprehension -/
theorem comp_out {X : Cx} {pins pb : List (Addr × Obj)} {σ σb : L2.St} {H3 Hb : Hp} {s3 sb t : Shared} {scope : Scope} {ce : Env} {fp : List Addr} {E : XK} {u : Value} {use : Option (Value → Sem Unit)} {Qf : Value → Shared → Prop} {acc : Value}
    (hs : X.stack = X.env :: X.outer) (hf : X.env.frame = some X.env.locals) (I3 : Inv X pins σ H3 s3) (f3 : ∀ b ∈ fp, FpOk X pins H3 b) (cf : ce.frame = X.env.frame) (cC : s3.heap.objs.size ≤ ce.locals)
    (Ib : Inv (X.blk s3 H3 scope ce fp) pb σb Hb sb) (c : L2.CX X.prog X.w X.stack Hb sb E u t) (tk : Takes X (fun cls d _ H => E cls d H)) :
    notedBy (model X.prog X.w) X.A ce (fun e t' => endX (model X.prog X.w) X.A X.xe use Qf acc ce (.error e) t') u t := by
  have x := XE.of_call (W := fun cls d _ H => E cls d H) Ib (fun _ _ _ h => h) c
  obtain ⟨a0, B0, H0, cls0, d0, e0, fl0, _⟩ := c
  obtain ⟨a, B, sI, pI, σI, HI, cls, d, ea, J, nb, up, sky, na, os, ag, wE⟩ := x
  have ea0 : a0 = a := by
    rw [e0] at ea
    exact Value.ref.inj ea
  subst ea0
  subst e0
  have nb : ∀ b o, sI.heap.get? b = some o → b ∉ frs X.stack → B.get? b = some o := nb
  have fl : HandSPX.FlyingZ B X.stack a0 (Zc cls d) t.heap := sky_fly sky fl0
  rw [hs] at fl
  have hfr : X.A.frames = some (X.env :: X.outer) := by rw [I3.ok.frames, hs]
  have nC : HI ce.locals = none := J.free
  have fC := I3.fpOk cC nC
  have Cfr : ce.locals ∉ frs X.stack := fun z => by
    rcases List.mem_cons.mp (I3.stkSub _ z) with y | y
    · exact fC.2.1 y
    · exact fC.2.2.1 y
  obtain ⟨m, hm, _⟩ := J.loc
  have hm : sI.heap.Ns ce.locals m := hm
  show wpAny (model X.prog X.w) X.A (noteFrame (.ref a0) ce) _ _ t
  rw [note_same cf]
  refine HandSPX.looks_onZ Zc.steady hfr hf fl fun h1 hh1 up1 => ?_
  have Cin : ∀ o, sI.heap.get? ce.locals = some o → h1.get? ce.locals = some o := fun o e => hh1.1 _ _ (nb _ _ e Cfr)
  have hm1 := hm.at' Cin
  refine ⟨m, hm1, fun h2 same => ?_⟩
  -- the ground without the block's names
  have hideC : ∀ {G : Heap} {b : Addr} {o : Obj}, (PySem.W.hideAll G [ce.locals]).get? b = some o → G.get? b = some o ∧ b ≠ ce.locals := fun {G b o} e =>
    ⟨PySem.W.of_hideAll _ e, fun z => by rw [z, PySem.W.hideAll_none _ (List.mem_singleton.mpr rfl)] at e; cases e⟩
  obtain ⟨oC, esC, epC, hoC, hdC, _⟩ := id hm1
  have held : HandSPX.HeldZ (PySem.W.hideAll B [ce.locals]) (X.env :: X.outer) a0 (Zc cls d) X.env.locals h2 := by
    obtain ⟨k1, k2, k3, oe, vs, T, oT, ts, he, hz, hd, i1, nT, Te, hT, dT, i3⟩ := id hh1
    have notC : ∀ {b : Addr} {o : Obj} {ws : Array Value}, h1.get? b = some o → o.data = .fields ws → b ≠ ce.locals := fun {b o ws} e q z => by
      rw [z, hoC] at e
      cases e
      rw [hdC] at q
      cases q
    have gone : ∀ {b : Addr}, B.get? b = none → (PySem.W.hideAll B [ce.locals]).get? b = none := fun {b} e => by
      cases q : (PySem.W.hideAll B [ce.locals]).get? b with
      | none => rfl
      | some o =>
        rw [(hideC q).1] at e
        cases e
    refine ⟨fun b o e => ?_, gone k2, frames_but same k3 (by rw [← hs]; exact Cfr), oe, vs, T, oT, ts, (same.2 _ (notC he hd)).trans he, hz, hd, i1, gone nT, Te, (same.2 _ (notC hT dT)).trans hT, dT, i3⟩
    obtain ⟨q1, q2⟩ := hideC e
    exact (same.2 b q2).trans (k1 b o q1)
  obtain ⟨_, _, _, oe, vs, T, oT, ts, he, hz, hd, i1, _⟩ := id held
  unfold PySem.passOn
  refine wpAny_bind (wpAny_field he hd i1 ?_)
  rw [if_neg (show ¬ ((Value.ref T == Value.none) = true) from by simp)]
  have fin : wpAny (model X.prog X.w) X.A (setFlight (.ref a0) ce.frame) (fun _ t4 => wpAny (model X.prog X.w) X.A (throw (.ref a0) : Sem Value) (fun _ _ => False) X.xe t4) X.xe { t with heap := h2 } := by
    rw [cf, hf]
    refine HandSPX.setFlight_onZ held fun h3 hh3 up3 => wpAny_throw (tk _ _ ?_)
    have I7 : Inv X pins σ HI sI := I3.call' (ch := fp) J.os J.base J.hok J.bare fun b hb => ⟨(f3 b hb).2.2.2.1, (f3 b hb).2.1, (f3 b hb).2.2.2.2.1, (f3 b hb).2.2.2.2.2⟩
    have I8 := I7.turned (t' := sI.toks) (h' := PySem.W.hideAll sI.heap [ce.locals]) (it := ce.locals) (fun b o ne e => PySem.W.hideAll_get _ e fun z => ne (List.mem_singleton.mp z)) nC fC.2.1 fC.2.2.2.1 fC.2.2.2.2.1 fC.2.2.2.2.2
    refine ⟨a0, PySem.W.hideAll B [ce.locals], _, pins, σ, HI, cls, d, rfl, I8, fun b o e hb => ?_, fun b o e nf => ?_, .inr (.inr (by rw [hs]; exact hh3)), na, os, ag, wE⟩
    · obtain ⟨q1, q2⟩ := hideC e
      exact PySem.W.hideAll_get _ (nb b o q1 hb) fun z => q2 (List.mem_singleton.mp z)
    · obtain ⟨q1, q2⟩ := hideC e
      obtain ⟨l1, g1⟩ := up b o q1 nf
      obtain ⟨l2, g2⟩ := up1 b _ g1 nf
      have g2' := (same.2 b q2).trans g2
      obtain ⟨l3, g3⟩ := up3 b _ g2' nf
      exact ⟨l3, g3⟩
  first
    | exact wpAny_bind (wpAny_pure (wpAny_bind fin))
    | exact wpAny_bind fin
end
section
open PySem PySem.Spec PyProof PyProof.Rows L2
variable {X : Cx}
theorem lc_raise {pins : List (Addr × Obj)} {s : Shared} {σ : L2.St} {H : Hp} {Q : VK} {elt tg iter : Expr} {ifs : List Expr} {scope : Scope} {own : List (Str × Nat)} {pos pos' : Pos} {wi : TI} {g : TG} {tt : TT} {te : TE} {use : Option (Value → Sem Unit)} {Qf : Value → Shared → Prop} {E : XK}
    (hs : X.stack = X.env :: X.outer) (hf : X.env.frame = some X.env.locals) (tk : Takes X (fun cls d _ H => E cls d H))
    (hc : X.calm = true) (hN : X.N.Nodup) (I : Inv X pins σ H s) (hi : PI X tg iter wi) (ok : BlkOk X.N X.env.scope scope own)
    (hg : ∀ (s : Shared) (H : Hp) (C : Addr) (cl : List (Str × Addr)) (fp : List Addr), PG (X.blk s H scope (compEnvC scope cl C X.env) fp) tg g)
    (ht : ∀ (s : Shared) (H : Hp) (C : Addr) (cl : List (Str × Addr)) (fp : List Addr), PTs (X.blk s H scope (compEnvC scope cl C X.env) fp) ifs tt)
    (he : ∀ (s : Shared) (H : Hp) (C : Addr) (cl : List (Str × Addr)) (fp : List Addr) (xe : Value → Shared → Prop), Passes (L2.CX X.prog X.w) ((X.blk s H scope (compEnvC scope cl C X.env) fp).wish xe) E → PE ((X.blk s H scope (compEnvC scope cl C X.env) fp).wish xe) elt te)
    (hfo : ∀ x, foldedSetIterable iter X.env x = pure x) (h : tLc wi g tt te (own.map (·.2)) σ H Q)
    (fin : ∀ D C t m H', Inv X pins σ H' t → Q (.ref D) H' → t.heap.Ns C m → FpOk X pins H' C → compPost (model X.prog X.w) X.A X.xe use Qf (.ref D) C (.ok .next) t) :
    wpAny (model X.prog X.w) X.A (comprehension (.ListComp elt [⟨tg, iter, ifs, 0⟩] scope pos) scope X.env pos' (newList []) false (eval iter X.env) use) Qf X.xe s := by
  have free1 : ∀ y ∈ scope.names, y.2 = .free → ∃ c, X.env.cells.lookup y.1 = some c := fun y hy e => by
    rcases ok.free y hy e with z | z
    · exact I.ok.has _ (.inl z)
    · exact I.ok.has _ (.inr z)
  refine comp_ends (use := use) rfl hfo (closure_ok free1) ok.kind (fun y hy e => by rw [ok.uniq y hy, e]) (thn (hi.run pins s σ H _ I h) fun xv t1 got => thn got fun itv t2 got2 => ?_)
  obtain ⟨it, fp, tn, J, H2, e, I2, T, at0, fps, q⟩ := got2
  subst e
  refine wpAny_newObj_type (newEnv_comp ?_) (by show 0 ≤ sizeLine; decide)
  generalize eD : t2.heap.objs.size = D
  have newD : H2 D = none := I2.hok.fresh (Nat.le_of_eq eD)
  obtain ⟨W, ⟨n0, w0⟩, turn⟩ := q D newD
  generalize et3 : ({ t2 with heap := t2.heap.push { cls := .type "list", data := .seq ([] : List Value).toArray } } : Shared) = t3
  have I3 : Inv X pins σ (L2.upd H2 D (.lst [])) t3 := by
    rw [← et3]
    refine I2.laid (t' := t2.toks) (fun b o e => Heap.get?_push_of_some _ e) (Nat.le_of_eq eD) ⟨Nat.zero_le _, [], 0, .nil, ?_⟩
    rw [← eD]
    exact Heap.get?_push_size _ rfl
  have heap3 : t3.heap = t2.heap.push { cls := .type "list", data := .seq ([] : List Value).toArray } := by rw [← et3]
  have fps3 : ∀ b ∈ fp, FpOk X pins (L2.upd H2 D (.lst [])) b ∧ b < t3.heap.objs.size := fun b hb => by
    obtain ⟨o, e, _⟩ := T.obj _ _ at0 b hb
    have lt := Heap.lt_size e
    refine ⟨⟨?_, (fps b hb).2⟩, by rw [heap3, Heap.size_push]; exact Nat.lt_succ_of_lt lt⟩
    rw [upd_ne (by rw [← eD]; exact Nat.ne_of_lt lt)]
    exact (fps b hb).1
  have at3 : tn 0 t3.heap := T.keep _ _ _ at0 fun b _ o e => by
    rw [heap3]
    exact Heap.get?_push_of_some _ e
  have I4 := block_start I3 ok hN fps3
  have pg := hg t3 (L2.upd H2 D (.lst [])) t3.heap.objs.size (cellsFrom (t3.heap.objs.size + 1) scope.names (cloFrom X.env.cells scope.names [])) fp
  have pt := ht t3 (L2.upd H2 D (.lst [])) t3.heap.objs.size (cellsFrom (t3.heap.objs.size + 1) scope.names (cloFrom X.env.cells scope.names [])) fp
  have pe := he t3 (L2.upd H2 D (.lst [])) t3.heap.objs.size (cellsFrom (t3.heap.objs.size + 1) scope.names (cloFrom X.env.cells scope.names [])) fp
  show codeAny _ _ (.compStart (.ListComp elt [⟨tg, iter, ifs, 0⟩] scope pos) 0 (.ref it) (.ref D) (compEnvC scope (cellsFrom (t3.heap.objs.size + 1) scope.names (cloFrom X.env.cells scope.names [])) t3.heap.objs.size X.env))
    (endX (model X.prog X.w) X.A X.xe use Qf (.ref D) (compEnvC scope (cellsFrom (t3.heap.objs.size + 1) scope.names (cloFrom X.env.cells scope.names [])) t3.heap.objs.size X.env)) { t3 with heap := pushCells (t3.heap.push { cls := .type "dict", data := .dict #[] }) scope.names }
  have none3 : ∀ b ∈ fp, (L2.upd H2 D (.lst [])) b = none := fun b hb => (fps3 b hb).1.1
  generalize ece : compEnvC scope (cellsFrom (t3.heap.objs.size + 1) scope.names (cloFrom X.env.cells scope.names [])) t3.heap.objs.size X.env = ce at I4 pg pt pe ⊢
  have ceL : ce.locals = t3.heap.objs.size := by rw [← ece]; rfl
  have ceF : ce.frame = X.env.frame := by rw [← ece]; rfl
  generalize eH3 : L2.upd H2 D (.lst []) = H3 at I3 I4 pg pt pe w0 none3 fps3
  generalize et4 : ({ t3 with heap := pushCells (t3.heap.push { cls := .type "dict", data := .dict #[] }) scope.names } : Shared) = t4 at I4 ⊢
  have at4 : tn 0 t4.heap := T.keep _ _ _ at3 fun b _ o e => by
    rw [← et4]
    exact pushCells_keeps _ _ _ _ (Heap.get?_push_of_some _ e)
  have still : ∀ {σ' : L2.St} {H' : Hp} {t' : Shared}, Inv (X.blk t3 H3 scope ce fp) [] σ' H' t' → (∀ b ∈ fp, H' b = none) → ∀ b ∈ fp, FpOk (X.blk t3 H3 scope ce fp) [] H' b :=
    fun {σ' H' t'} J' hn b hb => ⟨hn b hb, (J'.ok.exf b hb).1, J'.ok.exfs b hb, .inl hb, fun x c e => (J'.ok.exf b hb).2 x c e, fun p hp => absurd (show p ∈ ([] : List (Addr × Obj)) ++ [] from hp) (by simp)⟩
  have loop : codeAny (model X.prog X.w) X.A (.compLoop (.ListComp elt [⟨tg, iter, ifs, 0⟩] scope pos) 0 (.ref it) (.ref D) ce) (endX (model X.prog X.w) X.A X.xe use Qf (.ref D) ce) t4 := by
    refine compLoop_any (fun n t' => ∃ i H', Inv (X.blk t3 H3 scope ce fp) [] (wipe σ (own.map (·.2))) H' t' ∧ tn i t'.heap ∧ (∀ b ∈ fp, H' b = none) ∧ W i n H') ?_ n0 ⟨0, H3, I4, at4, none3, w0⟩
    rintro n t5 ⟨i, H5, I5, at5, none5, w5⟩
    rcases turn i n H5 w5 with ⟨stop, qq⟩ | ⟨go, Nx, hNx, step⟩
    · refine thnF (T.done (X.blk t3 H3 scope ce fp) rfl rfl rfl hc i [] t5 _ H5 (fun _ _ => False) I5 (still I5 none5) at5 stop) fun r t6 ⟨er, I6⟩ => ?_
      subst er
      have I7 : Inv X pins σ H5 t6 := I3.call' (ch := fp) I6.os I6.base I6.hok I6.bare fun b hb =>
        ⟨(fps3 b hb).1.2.2.2.1, (fps3 b hb).1.2.1, (fps3 b hb).1.2.2.2.2.1, (fps3 b hb).1.2.2.2.2.2⟩
      have noC : H5 ce.locals = none := I6.free
      obtain ⟨m, hn, _⟩ := I6.loc
      have hn : t6.heap.Ns ce.locals m := hn
      exact fin D ce.locals t6 m H5 I7 qq hn (I3.fpOk (Nat.le_of_eq ceL.symm) noC)
    · refine thnF (T.item (X.blk t3 H3 scope ce fp) rfl rfl rfl hc i [] t5 _ H5 (fun _ _ => False) I5 (still I5 none5) at5 go) fun r t6 ⟨u, er, got6⟩ => ?_
      subst er
      refine thnF got6 fun _ t7 ⟨x, H7, I7, rx, yx, at7, none7⟩ => ?_
      have J7 := I7.pinned (still I7 none7) (T.obj _ _ at7)
      refine thnF (pg.run _ t7 _ H7 x u _ J7 rx (step x H7 yx)) fun _ t8 ⟨σ8, H8, I8, wip8, q8⟩ => ?_
      refine thnF (pt.run _ t8 σ8 H8 _ I8 q8) fun b t9 ⟨H9, I9, q9⟩ => ?_
      have next : ∀ {t' : Shared} {H' : Hp}, Inv (X.blk t3 H3 scope ce fp) ([] ++ pinsAt fp t7.heap) σ8 H' t' → Nx H' →
          ∃ m, m < n ∧ ∃ i H', Inv (X.blk t3 H3 scope ce fp) [] (wipe σ (own.map (·.2))) H' t' ∧ tn i t'.heap ∧ (∀ b ∈ fp, H' b = none) ∧ W i m H' := fun {t' H'} J' nx => by
        obtain ⟨m', less, w'⟩ := hNx H' nx
        have stay : ∀ b ∈ fp, ∀ o, t7.heap.get? b = some o → t'.heap.get? b = some o ∧ H' b = none := fun b hb o e =>
          let z := J'.pin (b, o) (List.mem_append_right _ (List.mem_append_right _ (mem_pinsAt hb e)))
          ⟨z.1, z.2.1⟩
        refine ⟨m', less, i + 1, H', (J'.unpinned (pins := [])).weak (by rw [← wip8, wipe_length]) (fun j v e => ?_), T.keep _ _ _ at7 fun b hb o e => (stay b hb o e).1, fun b hb => ?_, w'⟩
        · rw [← wip8] at e
          exact (wipe_some e).1
        · obtain ⟨o, e, _⟩ := T.obj _ _ at7 b hb
          exact (stay b hb o e).2
      cases b with
      | false =>
        simp only [Bool.false_eq_true, if_false] at q9 ⊢
        exact next I9 q9
      | true =>
        simp only [if_true] at q9 ⊢
        -- the element: its error is the def's
        have pex := pe (fun u t' => ∃ (pb : List (Addr × Obj)) (σb : L2.St) (Hb : Hp) (sb : Shared), Inv (X.blk t3 H3 scope ce fp) pb σb Hb sb ∧ L2.CX X.prog X.w X.stack Hb sb E u t') (fun pb σb Hb sb u t' Ib cx => ⟨pb, σb, Hb, sb, Ib.unwish, cx⟩)
        refine wpAny_mono (pex.run _ t9 σ8 H9 _ (I9.wish _) q9) (fun z t10 ⟨yv, H10, I10, r10, acc, hD10, few, nx⟩ => ?_) fun u t' ⟨pb, σb, Hb, sb, Ib, cx⟩ => ?_
        · exact app_ok (X := X.blk t3 H3 scope ce fp) I10.unwish hD10 few r10 fun t11 I11 => next I11 nx
        · exact comp_out hs hf I3 (fun b hb => (fps3 b hb).1) ceF (Nat.le_of_eq ceL.symm) Ib cx tk
  exact codeAny_compStart_list loop (T.self X.A 0 _ _ _ at4 loop)
theorem ps_setLcX {i : Nat} {y : Str} {py : Pos} {elt tg iter : Expr} {ifs : List Expr} {scope : Scope} {own : List (Str × Nat)} {pos spos : Pos} {wi : TI} {g : TG} {tt : TT} {te : TE} {E : XK}
    (hs : X.stack = X.env :: X.outer) (hf : X.env.frame = some X.env.locals) (tk : Takes X (fun cls d _ H => E cls d H)) (hc : X.calm = true) (hN : X.N.Nodup) (hy : X.N[i]? = some y) (hyl : X.env.scope.names.lookup y = some .local)
    (hsw : swapsWith (.ListComp elt [⟨tg, iter, ifs, 0⟩] scope pos) (some (.Name y py)) spos.line X.env = pure true) (hi : PI X tg iter wi) (ok : BlkOk X.N X.env.scope scope own)
    (hg : ∀ (s : Shared) (H : Hp) (C : Addr) (cl : List (Str × Addr)) (fp : List Addr), PG (X.blk s H scope (compEnvC scope cl C X.env) fp) tg g)
    (ht : ∀ (s : Shared) (H : Hp) (C : Addr) (cl : List (Str × Addr)) (fp : List Addr), PTs (X.blk s H scope (compEnvC scope cl C X.env) fp) ifs tt)
    (he : ∀ (s : Shared) (H : Hp) (C : Addr) (cl : List (Str × Addr)) (fp : List Addr) (xe : Value → Shared → Prop), Passes (L2.CX X.prog X.w) ((X.blk s H scope (compEnvC scope cl C X.env) fp).wish xe) E → PE ((X.blk s H scope (compEnvC scope cl C X.env) fp).wish xe) elt te)
    (hfo : ∀ x, foldedSetIterable iter X.env x = pure x := by intro _; rfl) :
    PS X (.Assign [.Name y py] (.ListComp elt [⟨tg, iter, ifs, 0⟩] scope pos) spos) (tAsg (tLc wi g tt te (own.map (·.2))) (gName i)) := by
  refine ⟨fun pins s σ H D I h => ?_⟩
  rw [exec_Assign_Name_used _ _ _ _ hsw]
  refine wpAny_bind (wpAny_standAt (wpAny_bind ?_))
  show wpAny _ X.A (do let _ ← comprehension (.ListComp elt [⟨tg, iter, ifs, 0⟩] scope pos) scope X.env (firstIterPos [⟨tg, iter, ifs, 0⟩] pos) (newList []) false (eval iter X.env) (some (assign (.Name y py) X.env))) _ _ s
  have h : tLc wi g tt te (own.map (·.2)) σ H (fun x H1 => gName i x σ H1 D.nx) := h
  refine wpAny_bind (thn (lc_raise (Qf := fun _ t => SP X pins D .next t) hs hf tk hc hN I hi ok hg ht he hfo h fun L C t m H' I' q hn f => ?_) fun _ _ hq => wpAny_pure (wpAny_pure hq))
  show wpAny _ _ (assign (.Name y py) X.env (.ref L)) _ _ _
  refine wpAny_assign_Name (store_ok2 (v := V.ref L) I' hN hy (.inl hyl) rfl (fun t2 I2 ⟨a, sb, ha⟩ => ?_) (.inr hyl))
  obtain ⟨f0, f1, f2, f3, f4, f5⟩ := f
  have ne : C ≠ a := by
    rcases ha with z | z
    · rw [z]
      exact f1
    · exact fun e => f4 y a z e.symm
  refine ⟨m, hn.sameBut sb ne, fun h3 sb3 => ⟨_, H', I2.turned (t' := t2.toks) (fun b o hb e => (sb3.2 b hb).trans e) f0 f1 f3 f4 f5, q⟩⟩
end
/-! ### list(reversed(xs)), a new list -/
section
open PySem PySem.Spec PyProof PyProof.Rows L2 RT
variable {prog : Program} {w : World} {A : Around} {E : Value → Shared → Prop} {s : Shared}
theorem init_rev {R : Result → Shared → Prop} {it l S : Addr} {items : Array Value} {c0 : Nat} (calm : A.handled = none) (hit : s.heap.IsRevIter it l ((items.size : Int) - 1)) (hl : s.heap.IsList l items) (ne : l ≠ it) (few : items.size ≤ sizeLine)
    (Si : S ≠ it) (Sl : S ≠ l) (hS : s.heap.get? S = some { cls := .type "list", data := .seq #[] c0 })
    (done : ∀ g tk acc c, (∀ b o, b ≠ S → b ≠ it → s.heap.get? b = some o → g.get? b = some o) → g.get? S = some { cls := .type "list", dict := none, data := .seq acc c, slots := #[] } →
      ItemsOf (fun i v => items[items.size - 1 - i]? = some v) acc items.size → R (.ok (.ret .none)) { s with heap := g, toks := tk }) :
    wpAny (model prog w) A.in1 (Builtin.«list.__init__» ⟨[.ref S, .ref it], []⟩)
      (fun fin t => match fin with | .done f => R (.ok f) t | .again c => c.quiet = true ∧ codeAny (model prog w) A c R t) (fun e t => R (.error e) t) s := by
  show wpAny _ _ (do let old ← Builtin.List.listItems (.ref S); Builtin.List.listUpdate (.ref S) (fun _ => #[]); letGo old.toList.reverse; Builtin.List.listExtendWith (.ref S) (.ref it) .none) _ _ s
  have W := (Walks.listRev (prog := prog) (w := w) (A := A.in1) calm it l ne items).toS
  have nf : S ∉ [it, l] := by simp only [List.mem_cons, List.not_mem_nil, or_false, not_or]; exact ⟨Si, Sl⟩
  refine wpAny_bind ?_
  unfold Builtin.List.listItems
  refine wpAny_bind (wpAny_seqItems hS rfl (wpAny_pure ?_))
  show wpAny _ _ (updateSeq S (fun _ => #[]) >>= fun _ => letGo (#[] : Array Value).toList.reverse >>= fun _ => Builtin.List.listExtendWith (.ref S) (.ref it) .none) _ _ s
  refine wpAny_bind (wpAny_updateSeq hS rfl ?_)
  have h2 := Heap.get?_update_self (Obj.mapSeq (fun _ => (#[] : Array Value))) hS rfl
  have old : ∀ b o, b ≠ S → s.heap.get? b = some o → (s.heap.update S (Obj.mapSeq (fun _ => (#[] : Array Value)))).get? b = some o :=
    fun b o nb e => (Heap.get?_update_other _ _ (Ne.symm nb)).trans e
  refine wpAny_bind (wpAny_letGo ?_)
  have hit2 := hit.at (h' := s.heap.update S (Obj.mapSeq (fun _ => (#[] : Array Value)))) fun o e => old _ o (Ne.symm Si) e
  have hl2 : (s.heap.update S (Obj.mapSeq (fun _ => (#[] : Array Value)))).IsList l items := hl.at fun o e => old _ o (Ne.symm Sl) e
  have ty : ({ s with heap := s.heap.update S (Obj.mapSeq (fun _ => (#[] : Array Value))) } : Shared).TypeIs (.ref it) "list_reverseiterator" :=
    Heap.IsRevIter.typeIs (s := { s with heap := s.heap.update S (Obj.mapSeq (fun _ => (#[] : Array Value))) }) hit2
  have apart : Builtin.List.listSameRef (.ref S) (.ref it) = false := by simp [Builtin.List.listSameRef, Si]
  unfold Builtin.List.listExtendWith
  refine wpAny_bind (wpAny_typeOf ty ?_)
  rw [if_neg (by rw [apart]; decide)]
  refine wpAny_bind (wpAny_pyIter_revIter (s := { s with heap := s.heap.update S (Obj.mapSeq (fun _ => (#[] : Array Value))) }) hit2 ?_)
  refine wpAny_bind (wpAny_holding ?_)
  unfold Builtin.List.listLengthHint
  refine wpAny_bind (wpAny_specialOf ty nolen_lri ?_)
  show wpAny _ A.in1 (specialOf (Value.ref it) (Str.ofString "__length_hint__") >>= _) _ _ _
  refine wpAny_bind (wpAny_specialOf ty hint_lri ?_)
  generalize nm : ("list_reverseiterator.__length_hint__" : String) = id0
  wp_delta
  rw [show splitId id0 = some ("list_reverseiterator", "__length_hint__") from by subst nm; decide +kernel]
  subst nm
  refine wpAny_bind (wpAny_isInstance (b := true) ty (by rw [isSubtype_type]; kernel_rfl) ?_)
  refine wpAny_pure ?_
  rw [if_neg (by decide)]
  have e0 : ((items.size : Nat) : Int) - 1 - ((0 : Nat) : Int) = (items.size : Int) - 1 := by omega
  refine wpAny_pure ⟨plainId_quiet F.plain_extend_loop _, codeAny_extend_loopS W few _ nf _ items.size 0 _ _ _ rfl (Nat.zero_le _) ⟨Nat.zero_le _, by rw [e0]; exact hit2, hl2⟩ h2 (ItemsOf.nil _) fun t acc c mv hS' its => ?_⟩
  rw [Moved.eq_with mv]
  refine done t.heap t.toks acc c (fun b o nS ni e => mv.heap b o (fun m => ?_) (old b o nS e)) hS' its
  rcases List.mem_cons.mp m with z | m
  · exact nS z
  · exact ni (List.mem_singleton.mp m)
theorem call_list_rev {it l : Addr} {items : Array Value} {Q : Value → Shared → Prop} (calm : A.handled = none) (hit : s.heap.IsRevIter it l ((items.size : Int) - 1)) (hl : s.heap.IsList l items) (ne : l ≠ it) (few : items.size ≤ sizeLine)
    (done : ∀ g tk acc c, (∀ b o, b ≠ it → s.heap.get? b = some o → g.get? b = some o) → g.get? s.heap.objs.size = some { cls := .type "list", dict := none, data := .seq acc c, slots := #[] } →
      ItemsOf (fun i v => items[items.size - 1 - i]? = some v) acc items.size → Q (.ref s.heap.objs.size) { s with heap := g, toks := tk }) :
    wpAny (model prog w) A (call (.type "list") [.ref it]) Q E s := by
  refine callType_codes (Q₁ := fun obj t => obj = .ref s.heap.objs.size ∧ t = { s with heap := s.heap.push { cls := .type "list", data := .seq #[] } }) F.called_list (F.typeCall_list_1 _) F.entry_list_init
    (code_list_new _ ⟨rfl, rfl⟩) fun obj t z => ?_
  obtain ⟨rfl, rfl⟩ := z
  have hS : (s.heap.push { cls := .type "list", data := .seq #[] }).get? s.heap.objs.size = some { cls := .type "list", data := .seq #[] } := Heap.get?_push_size _ rfl
  obtain ⟨oi, hoi, _⟩ := id hit
  obtain ⟨ol, hol, _⟩ := id hl
  refine ⟨⟨_, hS, rfl⟩, F.args_list_init_2 _ _, init_rev (A := A.in1) (s := { s with heap := s.heap.push { cls := .type "list", data := .seq #[] } }) calm (hit.at fun o e => Heap.get?_push_of_some _ e) (hl.push _) ne few
    (Nat.ne_of_gt (Heap.lt_size hoi)) (Nat.ne_of_gt (Heap.lt_size hol)) hS fun g tk acc c hk hS' its => ?_⟩
  exact ⟨rfl, done g tk acc c (fun b o nb e => hk b o (Nat.ne_of_lt (Heap.lt_size e)) nb (Heap.get?_push_of_some _ e)) hS' its⟩
end
section
open PySem PySem.Spec PyProof PyProof.Rows L2 RT
variable {X : Cx}
def tListRev (K : PySem.W.Frag) (te : TE) : TE := fun σ H Q => te σ H fun v H1 => ∃ (b : Addr) (xs : List V), v = .ref b ∧ SqL K H1 b xs ∧ ∀ q, H1 q = none → Q (.ref q) (L2.upd H1 q (.lst xs.reverse))
theorem pe_listRev {e : Expr} {te : TE} {p p2 pos pos2 : Pos} (hc : X.calm = true) (g1 : Gl X "list") (m1 : X.mg "list" = none) (g2 : Gl X "reversed") (m2 : X.mg "reversed" = none) (he : PE X e te)
    (st1 : starEach [e] X.env = (false, eval e X.env) :: starEach [] X.env := by rfl)
    (st2 : starEach [.Call (.Name "reversed" p2) [e] [] pos2] X.env = (false, eval (.Call (.Name "reversed" p2) [e] [] pos2) X.env) :: starEach [] X.env := by rfl) :
    PE X (.Call (.Name "list" p) [.Call (.Name "reversed" p2) [e] [] pos2] [] pos) (tListRev X.K te) := by
  refine ⟨fun pins s σ H Q I h => ?_⟩
  refine Call_ (ld_blt I g1 m1 (by decide +kernel : bootBuiltins "list" = some (.type "list")) (PyProof.Rows.callWith_type1 (args_cons (Call_ (ld_blt I g2 m2 PyProof.Rows.boot_reversed (PyProof.Rows.callWith_type1 (args_cons (thn (he.run pins s σ H _ I h) fun u t1 ⟨v, H1, I1, r1, q1⟩ => args_nil ?_) st1) st1 rfl))) st2) st2 rfl))
  obtain ⟨b, xs, ev, hq, q⟩ := q1
  subst ev
  obtain rfl : u = Value.ref b := r1
  obtain ⟨its, rv, pl, hz⟩ := I1.list hq
  refine call_reversed_list pl.isList (args_nil ?_)
  have I2 : Inv X pins σ H1 { t1 with heap := t1.heap.push (revObj b ((its.toArray.size : Int) - 1)) } := I1.kept (t' := t1.toks) fun c o e => Heap.get?_push_of_some _ e
  obtain ⟨f0, f1, f2, f3, f4, f5⟩ := I1.fpOk (H' := H1) (b := t1.heap.objs.size) (Nat.le_refl _) (I1.hok.fresh (Nat.le_refl _))
  obtain ⟨ol, hol, _⟩ := id pl.isList
  have ne : b ≠ t1.heap.objs.size := Nat.ne_of_lt (Heap.lt_size hol)
  refine call_list_rev (s := { t1 with heap := t1.heap.push (revObj b ((its.toArray.size : Int) - 1)) }) (I1.ok.hd hc) ⟨_, Heap.get?_push_size _ rfl, rfl, rfl⟩ (pl.isList.push _) ne (by rw [List.size_toArray, ← rv.length]; exact hz) fun g tk acc c hk hS its' => ?_
  have new := I2.hok.fresh (Nat.le_refl (t1.heap.push (revObj b ((its.toArray.size : Int) - 1))).objs.size)
  refine ⟨.ref _, L2.upd H1 _ (.lst xs.reverse), I2.turnedNew (t' := tk) (ch := [t1.heap.objs.size]) (fun c o hc e => hk c o (fun z => hc (List.mem_singleton.mpr z)) e) (fun c hc => ?_) (Nat.le_refl _) ?_, rfl, q _ new⟩
  · rw [List.mem_singleton.mp hc]
    exact ⟨f0, f1, f2, f3, f4, f5⟩
  · refine (show ObjOk X.prog X.w _ _ _ (.lst xs.reverse) from ⟨by rw [List.length_reverse]; exact hz, acc.toList, c, vals_rev rv its', ?_⟩)
    rw [Array.toArray_toList]
    exact hS
end
/-! ### the texts that are cut -/
section
open TL
theorem joinL_mem {S : List Nat} {c : Nat} : ∀ {L : List (List Nat)} {p : List Nat}, p ∈ L → c ∈ p → c ∈ joinL S L
  | [p], q, h, hc => by
    rw [List.mem_singleton.mp h] at hc
    exact hc
  | p :: q :: r, x, h, hc => by
    show c ∈ p ++ (S ++ joinL S (q :: r))
    rcases List.mem_cons.mp h with rfl | h
    · exact List.mem_append_left _ hc
    · exact List.mem_append_right _ (List.mem_append_right _ (joinL_mem h hc))
theorem joinL_le {S : List Nat} : ∀ {L : List (List Nat)} {p : List Nat}, p ∈ L → p.length ≤ (joinL S L).length
  | [p], q, h => by
    rw [List.mem_singleton.mp h]
    exact Nat.le_refl _
  | p :: q :: r, x, h => by
    show x.length ≤ (p ++ (S ++ joinL S (q :: r))).length
    rw [List.length_append, List.length_append]
    rcases List.mem_cons.mp h with rfl | h
    · omega
    · have := joinL_le (S := S) h
      omega
theorem split_piece {s y x : Str} (h : x ∈ Txt.split s y) : (∀ c ∈ x.cps.toList, c ∈ s.cps.toList) ∧ x.length ≤ s.length := by
  have e := tl_join y (Txt.split s y)
  rw [PySem.StrLaws.join_split] at e
  have m : tl x ∈ (Txt.split s y).map tl := List.mem_map.mpr ⟨x, h, rfl⟩
  refine ⟨fun c hc => ?_, ?_⟩
  · have := joinL_mem (S := tl y) m hc
    rw [← e] at this
    exact this
  · have := joinL_le (S := tl y) m
    rw [← e] at this
    have e1 : (tl x).length = x.length := Array.length_toList
    have e2 : (tl s).length = s.length := Array.length_toList
    omega
end
/-! ### the yard that a text shows -/
def Shows (s : Str) (rows : List Row) (d : Nat) : Prop := d ≤ 60 ∧ Paired RowOf (Txt.split s "\n") rows ∧ Chain 0 (rows.map Row.pn) (2 ^ d) ∧ ¬ FreeTw rows
def sp_read (_ : PySem.W.Frag) (a : Ad) : Sp := fun vs H Q E => ∃ s : Str, vs = [.str s] ∧ Ascii s ∧ s.length ≤ 1000000 ∧ (Txt.split s "\n").length ≤ 20000 ∧
  (∀ rows d, Shows s rows d → ∀ (Y : YA) (H' : Hp), YardAt a Y d (outPn rows) H' → (∀ b ∈ own Y d, H b = none) → (∀ b o, H b = some o → H' b = some o) → Q (.ref Y.y) H') ∧
  ((∀ rows d, ¬ Shows s rows d) → ∀ H' : Hp, (∀ b o, H b = some o → H' b = some o) → E (.ref a.c_NoNote) none H')
theorem paired_snoc {α β : Type} {F : α → β → Prop} {x : α} {y : β} (h : F x y) : ∀ {l : List α} {m : List β}, Paired F l m → Paired F (l ++ [x]) (m ++ [y])
  | _, _, .nil => .cons h .nil
  | _, _, .cons a t => .cons a (paired_snoc h t)
theorem paired_left {α β : Type} {F : α → β → Prop} : ∀ {l : List α} {m : List β}, Paired F l m → ∀ x ∈ l, ∃ y ∈ m, F x y
  | _, _, .cons a t, x, h => by
    rcases List.mem_cons.mp h with rfl | h
    · exact ⟨_, List.mem_cons_self, a⟩
    · obtain ⟨y, hy, e⟩ := paired_left t x h
      exact ⟨y, List.mem_cons_of_mem _ hy, e⟩
theorem paired_right {α β : Type} {F : α → β → Prop} : ∀ {l : List α} {m : List β}, Paired F l m → ∀ y ∈ m, ∃ x ∈ l, F x y
  | _, _, .cons a t, y, h => by
    rcases List.mem_cons.mp h with rfl | h
    · exact ⟨_, List.mem_cons_self, a⟩
    · obtain ⟨x, hx, e⟩ := paired_right t y h
      exact ⟨x, List.mem_cons_of_mem _ hx, e⟩
theorem st_inj {r s : Row} (h : r.st = s.st) : r.free = s.free := by
  unfold Row.st at h
  cases h1 : r.free <;> cases h2 : s.free <;> rw [h1, h2] at h
  · exact absurd h (by decide +kernel)
  · exact absurd h (by decide +kernel)
theorem rowOf_uniq {x : Str} {r s : Row} (h : RowOf x r) (g : RowOf x s) : r = s := by
  obtain ⟨w0, w1, e, a1, a2, a3, a4⟩ := h
  obtain ⟨v0, v1, f, b1, b2, b3, b4⟩ := g
  rw [e] at f
  injection f with f1 f
  injection f with f2 f
  injection f with f3 f
  subst f1
  subst f2
  have en := num_uniq a1 b1
  have ek := (Nat.pow_right_inj (show 1 < 2 by decide)).mp (num_uniq a2 b2)
  have ef := st_inj f3
  cases r
  cases s
  cases en
  cases ek
  cases ef
  rfl
theorem rows_uniq : ∀ {ws : List Str} {rows rows' : List Row}, Paired RowOf ws rows → Paired RowOf ws rows' → rows = rows'
  | _, _, _, .nil, .nil => rfl
  | _, _, _, .cons a t, .cons b u => by rw [rowOf_uniq a b, rows_uniq t u]
section
variable {P : Program} {w : World} {K : PySem.W.Frag} {mg : Str → Option Value} {base : Heap} {a : Ad}
theorem ok_read (T : Txt K mg a) : FnOk P w K mg base (L2.CX P w) 6 a.f_read a.d_read ["text"] (sp_read K a) := by
  have G_count_cells : FnOk P w K mg base (L2.CX P w) 2 a.f_count_cells a.d_count_cells ["rows"] (sp_count_cells K a) := ok_count_cells T
  have G_read_row : FnOk P w K mg base (L2.CX P w) 2 a.f_read_row a.d_read_row ["row"] (sp_read_row K a) := ok_read_row T
  have G_refuse_free_twins : FnOk P w K mg base (L2.CX P w) 2 a.f_refuse_free_twins a.d_refuse_free_twins ["rows"] (sp_refuse_free_twins K a) := ok_refuse_free_twins T
  have G_yard_of : FnOk P w K mg base CX0 5 a.f_yard_of a.d_yard_of ["cells", "rows"] (sp_yard_of K a) := ok_yard_of T
  refine T.read.fn.okX sc_read (fun vs H Q E h => by first | (obtain ⟨rfl, _⟩ := h; rfl) | (obtain ⟨_, rfl, _⟩ := h; rfl) | (obtain ⟨_, _, rfl, _⟩ := h; rfl) | (obtain ⟨_, _, _, rfl, _⟩ := h; rfl) | (obtain ⟨_, _, _, _, rfl, _⟩ := h; rfl) | (obtain ⟨_, _, _, _, _, rfl, _⟩ := h; rfl) | (obtain ⟨_, _, _, _, _, _, rfl, _⟩ := h; rfl) | (obtain ⟨_, _, _, _, _, _, _, rfl, _⟩ := h; rfl) | (obtain ⟨_, _, _, _, _, _, _, _, rfl, _⟩ := h; rfl) | (obtain ⟨_, _, _, _, _, _, _, _, _, rfl, _⟩ := h; rfl) | (obtain ⟨_, _, _, _, _, _, _, _, _, _, rfl, _⟩ := h; rfl) | (obtain ⟨_, _, _, _, _, _, _, _, _, _, _, rfl, _⟩ := h; rfl)) (fun cdv A outer s H vs Q E hr h => ?_)
  refine ⟨_, pss_cons (ps_setLcX (i := 1) (own := [("row", 3)]) (g := gName 3) (te := (tCall (sp_read_row K a) [] E (tCons (tVar 3) tNil))) rfl rfl (takes_of rfl rfl rfl rfl) rfl sc_read.nd rfl rfl (sw_true rfl rfl rfl (by decide +kernel)) (pi_list (pe_split (pv 0) pe_str)) (blkOk_by (own := [("row", 3)]) (N := ["text", "rows", "cells", "row"]) (sc := defScope s_read) (by decide +kernel)) (fun _ _ _ _ _ => (pg_name (i := 3) sc_read.nd rfl (Or.inl rfl))) (fun _ _ _ _ _ => pts_nil) (fun _ _ _ _ _ _ pass => (pe_call G_read_row (hr.mono (by decide)) rfl T.read_row.mg T.read_row.fn.kp T.read_row.bd .nil pass (pa_cons (pv 3) pa_nil))))
      (pss_cons (ps_set (i := 2) sc_read.nd rfl (Or.inl rfl) (pe_call G_count_cells (hr.mono (by decide)) rfl T.count_cells.mg T.count_cells.fn.kp T.count_cells.bd .nil (passX (takes_of rfl rfl rfl rfl)) (pa_cons (pv 1) pa_nil)))
      (pss_cons (ps_expr (pe_call G_refuse_free_twins (hr.mono (by decide)) rfl T.refuse_free_twins.mg T.refuse_free_twins.fn.kp T.refuse_free_twins.bd .nil (passX (takes_of rfl rfl rfl rfl)) (pa_cons (pv 1) pa_nil)))
      (pss_one (ps_ret (pe_call G_yard_of (hr.mono (by decide)) rfl T.yard_of.mg T.yard_of.fn.kp T.yard_of.bd .nil pass0 (pa_cons (pv 2) (pa_cons (pv 1) pa_nil))))))), ?_⟩
  obtain ⟨s, rfl, as, ls, few, q1, q2⟩ := h
  have sub := fun (x : Str) (h : x ∈ Txt.split s "\n") => split_piece h
  unfold Shows at q1 q2
  refine ⟨_, rfl, ⟨_, rfl⟩, s, _, rfl, rfl, by decide, by rw [sizeLine_eq]; omega, fun p hp => ⟨p, rfl, ⟨_, SqL.of upd_same⟩, fun D newD => ?_⟩⟩
  generalize Txt.split s "\n" = ws at few q1 q2 sub newD ⊢
  have kp : ∀ b o, H b = some o → L2.upd H p (.lst (ws.map V.str)) b = some o := fun b o e => by rw [upd_ne (ne_of_none e hp)]; exact e
  have hpp : L2.upd H p (.lst (ws.map V.str)) p = some (.lst (ws.map V.str)) := upd_same
  generalize L2.upd H p (.lst (ws.map V.str)) = H1 at kp hpp newD ⊢
  refine lc_out walk_list (fun j H' => ∃ (ts : List Addr) (rows : List Row), H' D = some (.lst (ts.map V.ref)) ∧ Rws H' ts rows ∧ Paired RowOf (ws.take j) rows ∧ (∀ b o, H1 b = some o → H' b = some o))
    ⟨[], [], upd_same, .nil, .nil, fun b o e => by rw [upd_ne (ne_of_none e newD)]; exact e⟩ (fun j H' _ ⟨_, _, _, _, _, s2⟩ => SqL.of (s2 _ _ hpp)) ?_ ?_
  · rintro j v H3 H4 hj ⟨ts, rows, hD, rws, pr, s3⟩ ⟨rfl, hv⟩
    rw [List.length_map] at hj
    obtain ⟨line, hl⟩ : ∃ line, ws[j]? = some line := ⟨_, List.getElem?_eq_getElem hj⟩
    rw [List.getElem?_map, hl] at hv
    have hv := Option.some.inj hv
    subst hv
    have ml := List.mem_of_getElem? hl
    obtain ⟨sl1, sl2⟩ := sub line ml
    have et : ws.take (j + 1) = ws.take j ++ [line] := by rw [List.take_add_one, hl]; rfl
    refine ⟨rfl, ?_⟩
    refine ⟨_, rfl, line, rfl, by omega, fun x hx => ?_, fun r hr t H5 s5 ht => ?_, fun no H5 s5 => ?_⟩
    · obtain ⟨g1, g2⟩ := split_piece hx
      exact ⟨fun c hc => as c (sl1 c (g1 c hc)), by omega⟩
    · have lp := pr.length
      rw [List.length_take] at lp
      refine ⟨ts.map V.ref, s5 _ _ hD, ?_, ts ++ [t], rows ++ [r], ?_, ?_, ?_, fun b o e => ?_⟩
      · rw [List.length_map, rws.len, sizeLine_eq]
        omega
      · rw [List.map_append]
        exact upd_same
      · refine Rws.snoc ?_ (rws.keep fun t' xs e => ?_)
        · rw [upd_ne (fun z => by rw [z, s5 _ _ hD] at ht; cases ht)]
          exact ht
        · rw [upd_ne (fun z => by rw [z, hD] at e; cases e)]
          exact s5 _ _ e
      · rw [et]
        exact paired_snoc hr pr
      · rw [upd_ne (fun z => by rw [z, newD] at e; cases e)]
        exact s5 _ _ (s3 _ _ e)
    · refine q2 (fun rows' d ⟨_, pr', _⟩ => ?_) H5 fun b o e => s5 _ _ (s3 _ _ (kp _ _ e))
      obtain ⟨r, _, hr⟩ := paired_left pr' line ml
      exact no r hr
  rintro H2 ⟨ts, rows, hD, rws, pr, s2⟩
  rw [List.length_map, List.take_length] at pr
  have k2 := fun b o e => s2 _ _ (kp b o e)
  have lp := pr.length
  refine ⟨_, rfl, D, ts, rows, rfl, hD, rws, fun d d60 ch => ?_, fun no => q2 (fun rows' d ⟨d60, pr', ch, _⟩ => no d d60 (by rw [rows_uniq pr pr']; exact ch)) H2 k2⟩
  have ne : rows.Pairwise fun r s => r.n ≠ s.n := (List.pairwise_map.mp (chain_lt ch).1).imp fun {r s} l e => by
    have l : r.n < s.n := l
    omega
  have al : ∀ r ∈ rows, r.n / 2 ^ r.k * 2 ^ r.k = r.n := fun r hr => by
    obtain ⟨x, _, _, _, _, _, _, _, q⟩ := paired_right pr r hr
    exact q
  refine ⟨_, rfl, D, ts, rows, rfl, hD, rws, ne, al, by omega, fun tw H3 s3 => q2 (fun rows' d' ⟨_, pr', _, nt⟩ => nt (by rw [← rows_uniq pr pr']; exact tw)) H3 fun b o e => s3 _ _ (k2 b o e), fun nt H3 s3 => ?_⟩
  refine ⟨_, rfl, _, rfl, D, ts, rows, d, rfl, s3 _ _ hD, rws.keep fun t xs e => s3 _ _ e, ch, al, by omega, d60, fun Y H' yY fresh s' => ?_⟩
  refine q1 rows d ⟨d60, pr, ch, nt⟩ Y H' yY (fun b hb => ?_) fun b o e => s' _ _ (s3 _ _ (k2 b o e))
  refine Classical.byContradiction fun z => ?_
  obtain ⟨o, ho⟩ := Option.ne_none_iff_exists'.mp z
  have := s3 _ _ (k2 b o ho)
  rw [fresh b hb] at this
  cases this
end
theorem _root_.L2.Room.units65 {k : Nat} {A : Around} (r : L2.Room k A) : A.units + 65 < cLine := by
  have := r.un
  omega
theorem nm {i : Nat} {v : V} {σ : St} {H : Hp} {D : St → Hp → Prop} (h : D (σ.set i (some v)) H) : gName i v σ H D := h
theorem split_seq {t : TT} {a b B : TS} {D : Ends} {σ : St} {H : Hp} (C : St → Hp → Prop) (main : (∀ σ' H', C σ' H' → B D σ' H') → tSeq (tIfS t a b) B D σ H) (tail : ∀ σ' H', C σ' H' → B D σ' H') : tSeq (tIfS t a b) B D σ H := main tail
/-! ### law_k14 -/
def sp_law_is_size (_ : PySem.W.Frag) (_ : Ad) : Sp := fun vs H Q _ => ∃ x : Int, vs = [.int x] ∧ ((∃ k : Nat, k ≤ 60 ∧ x = ((2 ^ k : Nat) : Int)) → Q (.bl true) H) ∧ ((¬ ∃ k : Nat, k ≤ 60 ∧ x = ((2 ^ k : Nat) : Int)) → Q (.bl false) H)
theorem str_ext {a b : Str} (h : a.cps.toList = b.cps.toList) : a = b := by
  obtain ⟨x⟩ := a
  obtain ⟨y⟩ := b
  have : x = y := Array.toList_inj.mp h
  rw [this]
theorem char_back {c : Nat} (h : 48 ≤ c ∧ c ≤ 57) : (Char.ofNat c).toNat = c := by
  have : ∀ c : Nat, c < 58 → (Char.ofNat c).toNat = c := by decide +kernel
  exact this c (by omega)
theorem atI_head {c : Nat} {r : List Nat} : atI (c :: r) 0 = some c := by
  unfold atI ixN
  simp
  try omega
theorem num_of {x : Str} (ad : PySem.NumText.AllDigits x.cps.toList) (ne : x.cps.toList ≠ []) (l : x.length ≤ 19) (z : x.length = 1 ∨ ∀ r, x.cps.toList ≠ 48 :: r) : Num x (PySem.NumText.digitsVal x.cps.toList) := by
  refine ⟨str_ext ?_, l⟩
  have el : x.cps.toList.length = x.length := Array.length_toList
  unfold numS
  rw [PySem.W.KIN.signs_num]
  obtain ⟨n, hn⟩ : ∃ n, x.cps.toList.length = n + 1 := ⟨x.cps.toList.length - 1, by have := List.length_pos_iff.mpr ne; omega⟩
  rw [PySem.NumText.toDigits_digitsVal n _ hn ad ?_, List.map_map]
  · refine (List.map_congr_left (g := id) fun c hc => char_back (ad c hc)).trans (List.map_id _) |>.symm
  · rcases z with z | z
    · exact .inl (by omega)
    · match hx : x.cps.toList, ne with
      | c :: r, _ =>
        refine .inr ⟨c, r, rfl, ?_⟩
        have := ad c (by rw [hx]; exact List.mem_cons_self)
        have : c ≠ 48 := fun e => z r (by rw [hx, e])
        omega
theorem num_zero {n : Nat} {r : List Nat} (h : (numS n).cps.toList = 48 :: r) : (numS n).length = 1 := by
  have el : (numS n).cps.toList.length = (numS n).length := Array.length_toList
  have ad := numS_digits n
  have e := PySem.NumText.toDigits_all _ ad
  have en : PySem.NumText.digitsVal (numS n).cps.toList = n := by
    unfold numS
    rw [PySem.W.KIN.signs_num, PySem.W.KIN.val_back]
  rw [en] at e
  have e2 : (numS n).cps.toList = (Nat.toDigits 10 n).map Char.toNat := by unfold numS; exact PySem.W.KIN.signs_num n
  have l1 : (Nat.toDigits 10 n).length = (48 :: r).length := by rw [← h, e2, List.length_map]
  rw [h, List.dropWhile_cons_of_pos (by rfl)] at e
  rw [← el, h]
  have le := (List.dropWhile_sublist (fun x => x == 48) (l := r)).length_le
  rw [e] at l1
  cases hd : r.dropWhile (fun x => x == 48) with
  | nil =>
    rw [hd] at l1
    exact l1.symm
  | cons c q =>
    rw [hd] at l1 le
    rw [List.length_map, List.length_cons, List.length_cons] at l1
    rw [List.length_cons] at le
    omega
def sp_law_number (_ : PySem.W.Frag) (_ : Ad) : Sp := fun vs H Q _ => ∃ x : Str, vs = [.str x] ∧ x.length ≤ 1000000 ∧ (∀ n, Num x n → Q (nI n) H) ∧ ((∀ n, ¬ Num x n) → Q (.int (-1)) H)
section
variable {P : Program} {w : World} {K : PySem.W.Frag} {mg : Str → Option Value} {base : Heap} {a : Ad}
theorem ok_law_is_size (T : Txt K mg a) : FnOk P w K mg base CX0 1 a.f_law_is_size a.d_law_is_size ["_law_size"] (sp_law_is_size K a) := by
  refine T.law_is_size.fn.ok sc_law_is_size (fun vs H Q E h => by first | (obtain ⟨rfl, _⟩ := h; rfl) | (obtain ⟨_, rfl, _⟩ := h; rfl) | (obtain ⟨_, _, rfl, _⟩ := h; rfl) | (obtain ⟨_, _, _, rfl, _⟩ := h; rfl) | (obtain ⟨_, _, _, _, rfl, _⟩ := h; rfl) | (obtain ⟨_, _, _, _, _, rfl, _⟩ := h; rfl) | (obtain ⟨_, _, _, _, _, _, rfl, _⟩ := h; rfl) | (obtain ⟨_, _, _, _, _, _, _, rfl, _⟩ := h; rfl) | (obtain ⟨_, _, _, _, _, _, _, _, rfl, _⟩ := h; rfl) | (obtain ⟨_, _, _, _, _, _, _, _, _, rfl, _⟩ := h; rfl) | (obtain ⟨_, _, _, _, _, _, _, _, _, _, rfl, _⟩ := h; rfl) | (obtain ⟨_, _, _, _, _, _, _, _, _, _, _, rfl, _⟩ := h; rfl)) (fun cdv A outer s H vs Q E hr h => ?_)
  refine ⟨_, pss_cons (ps_if (PW.pt (pw_or (pt_cmpR op_lt (pv 0) pe_int (nomark _)) (pw_or1 (pt_cmpR op_gt (pv 0) (pe_op op_pow pe_int pe_int) (nomark _))))) (pss_one (ps_ret pe_bl)) pss_nil)
      (pss_cons (ps_while PassesOwn.never (pt_cmpR op_eq (pe_op op_mod (pv 0) pe_int) pe_int (nomark _)) (pss_one (ps_set (i := 0) sc_law_is_size.nd rfl (Or.inl rfl) (pe_op op_fdiv (pv 0) pe_int))))
      (pss_one (ps_ret (pe_cmpR op_eq (pv 0) pe_int (nomark _))))), ?_⟩
  obtain ⟨x, rfl, q1, q2⟩ := h
  refine ⟨_, rfl, _, _, rfl, rfl, _, rfl, ?_⟩
  by_cases c1 : x < 1
  · refine iteTof (decide_eq_true c1) (iteT (q2 fun ⟨k, _, e⟩ => ?_))
    have : 0 < 2 ^ k := Nat.pow_pos (by decide)
    omega
  refine iteFof (decide_eq_false c1) ?_
  refine ⟨_, rfl, _, _, rfl, rfl, ⟨by decide, by decide, by decide⟩, _, _, rfl, rfl, _, rfl, ?_⟩
  by_cases c2 : x > 1152921504606846976
  · refine iteTof (decide_eq_true c2) (q2 fun ⟨k, k60, e⟩ => ?_)
    have := pow60 k60
    omega
  refine iteFof (decide_eq_false c2) ?_
  refine while_by (fun σ H' => H' = H ∧ ∃ (y : Int) (j : Nat), σ = [some (.int y)] ∧ 1 ≤ y ∧ x = y * ((2 ^ j : Nat) : Int)) (fun σ H' => match σ with | [some (.int y)] => y.toNat | _ => 0) ⟨rfl, x, 0, rfl, by omega, by rw [Nat.pow_zero]; omega⟩ ?_ ?_
  · rintro σ H' ⟨rfl, y, j, rfl, y1, ex⟩
    refine ⟨_, rfl, _, _, rfl, rfl, by show (0 : Int) < 2; decide, rfl, _, rfl, ?_⟩
    by_cases c3 : y % 2 = 0
    · refine iteTof (by show decide (V.int (y % 2) = V.int 0) = true; rw [c3]; rfl) ?_
      refine ⟨_, rfl, _, _, rfl, rfl, ⟨by decide, by decide⟩, ⟨rfl, y / 2, j + 1, rfl, by omega, ?_⟩, ?_⟩
      · rw [ex, Nat.pow_succ, Int.natCast_mul]
        have : y = y / 2 * 2 := by omega
        conv => lhs; rw [this]
        rw [Int.mul_assoc, Int.mul_comm 2]
        rfl
      · show (y / 2).toNat < y.toNat
        omega
    · refine iteFof (by show decide (V.int (y % 2) = V.int 0) = false; exact decide_eq_false fun z => c3 (V.int.inj z)) ?_
      refine ⟨_, rfl, rfl, ?_⟩
      have pj : 0 < 2 ^ j := Nat.pow_pos (by decide)
      by_cases c4 : y = 1
      · subst c4
        show Q (.bl (decide (V.int 1 = V.int 1))) H'
        rw [decide_eq_true rfl]
        rw [Int.one_mul] at ex
        refine q1 ⟨j, ?_, ex⟩
        refine Nat.le_of_not_lt fun z => ?_
        have : 2 ^ 61 ≤ 2 ^ j := Nat.pow_le_pow_right (by decide) z
        have : (2 : Nat) ^ 61 = 2305843009213693952 := by decide
        omega
      · show Q (.bl (decide (V.int y = V.int 1))) H'
        rw [decide_eq_false (show ¬ V.int y = V.int 1 from fun z => c4 (V.int.inj z))]
        refine q2 fun ⟨k, k60, e⟩ => c4 ?_
        rw [ex] at e
        obtain ⟨m, rfl⟩ : ∃ m : Nat, y = (m : Int) := ⟨y.toNat, by omega⟩
        rw [← Int.natCast_mul] at e
        have e : m * 2 ^ j = 2 ^ k := Int.ofNat.inj e
        rcases Nat.lt_or_ge j k with l | l
        · exfalso
          have e2 : 2 ^ k = 2 ^ (k - j) * 2 ^ j := by rw [← Nat.pow_add]; congr 1; omega
          rw [e2] at e
          have e3 := Nat.eq_of_mul_eq_mul_right pj e
          have e4 : 2 ^ (k - j) = 2 ^ (k - j - 1) * 2 := by rw [← Nat.pow_succ]; congr 1; omega
          omega
        · have e2 : 2 ^ j = 2 ^ (j - k) * 2 ^ k := by rw [← Nat.pow_add]; congr 1; omega
          have pk : 0 < 2 ^ k := Nat.pow_pos (by decide)
          rw [e2, ← Nat.mul_assoc] at e
          have e3 : m * 2 ^ (j - k) = 1 := Nat.eq_of_mul_eq_mul_right pk (by rw [e, Nat.one_mul])
          have := Nat.eq_one_of_mul_eq_one_right e3
          omega
  · rintro σ H' Q1 Q2 hQ ⟨v, hv, i, j, e1, e2, l, h0, k, ek, h⟩
    exact ⟨v, hv, i, j, e1, e2, l, h0, k, ek, hQ _ _ h⟩
theorem ok_law_number (T : Txt K mg a) : FnOk P w K mg base CX0 1 a.f_law_number a.d_law_number ["_law_word"] (sp_law_number K a) := by
  refine T.law_number.fn.ok sc_law_number (fun vs H Q E h => by first | (obtain ⟨rfl, _⟩ := h; rfl) | (obtain ⟨_, rfl, _⟩ := h; rfl) | (obtain ⟨_, _, rfl, _⟩ := h; rfl) | (obtain ⟨_, _, _, rfl, _⟩ := h; rfl) | (obtain ⟨_, _, _, _, rfl, _⟩ := h; rfl) | (obtain ⟨_, _, _, _, _, rfl, _⟩ := h; rfl) | (obtain ⟨_, _, _, _, _, _, rfl, _⟩ := h; rfl) | (obtain ⟨_, _, _, _, _, _, _, rfl, _⟩ := h; rfl) | (obtain ⟨_, _, _, _, _, _, _, _, rfl, _⟩ := h; rfl) | (obtain ⟨_, _, _, _, _, _, _, _, _, rfl, _⟩ := h; rfl) | (obtain ⟨_, _, _, _, _, _, _, _, _, _, rfl, _⟩ := h; rfl) | (obtain ⟨_, _, _, _, _, _, _, _, _, _, _, rfl, _⟩ := h; rfl)) (fun cdv A outer s H vs Q E hr h => ?_)
  refine ⟨_, pss_cons (ps_if (PW.pt (pw_or (pt_cmpR op_eq (pv 0) pe_str (nomark _)) (pw_or (pt_cmpR op_gt (pe_callB call_len_str (by rfl) T.z_len PySem.boot_len (pa_cons (pv 0) pa_nil)) pe_int (nomark _)) (pw_or1 (PW.pt (pw_and (pt_cmpR op_gt (pe_callB call_len_str (by rfl) T.z_len PySem.boot_len (pa_cons (pv 0) pa_nil)) pe_int (nomark _)) (pw_and1 (pt_cmpR op_eq (pe_ix ix_str (pv 0) pe_int (fun _ _ => rfl)) pe_str (nomark _))))))))) (pss_one (ps_ret (pe_un un_neg pe_int))) pss_nil)
      (pss_cons (ps_for PassesOwn.never rfl (pi_str (pv 0)) (pg_name (i := 1) sc_law_number.nd rfl (Or.inl rfl)) (pss_one (ps_if (pt_cmpR op_notIn_sign (pv 1) pe_str (by rfl)) (pss_one (ps_ret (pe_un un_neg pe_int))) pss_nil)))
      (pss_one (ps_ret (pe_callTy call_int_str (by rfl) T.z_int (by decide +kernel) (pa_cons (pv 0) pa_nil))))), ?_⟩
  obtain ⟨x, rfl, lx, q1, q2⟩ := h
  have el : x.cps.toList.length = x.length := Array.length_toList
  have bad : (∀ n, ¬ Num x n) → Q (.int (-1)) H := q2
  have sz : x.length ≤ sizeLine := by rw [sizeLine_eq]; omega
  have tens : ("0123456789" : Str).cps.toList = [48, 49, 50, 51, 52, 53, 54, 55, 56, 57] := by decide +kernel
  refine ⟨_, rfl, rfl, _, rfl, ?_⟩
  by_cases c1 : x = ""
  · refine iteTof (by show decide (V.str x = V.str "") = true; rw [c1]; exact decide_eq_true rfl) (iteT ?_)
    refine ⟨_, rfl, bad fun n ⟨e, _⟩ => numS_ne n ?_⟩
    rw [← e, c1]
    rfl
  refine iteFof (by show decide (V.str x = V.str "") = false; exact decide_eq_false fun z => c1 (V.str.inj z)) ?_
  have ne : x.cps.toList ≠ [] := fun z => c1 (str_ext z)
  refine ⟨_, rfl, _, rfl, sz, _, _, rfl, rfl, _, rfl, ?_⟩
  by_cases c2 : x.length > 19
  · refine iteTof (decide_eq_true (by omega)) (iteT ?_)
    exact ⟨_, rfl, bad fun n ⟨_, l⟩ => by omega⟩
  refine iteFof (decide_eq_false (by omega)) ?_
  have loop : (x.length = 1 ∨ ∀ r, x.cps.toList ≠ 48 :: r) → True := fun _ => trivial
  refine ⟨_, rfl, _, rfl, sz, _, _, rfl, rfl, _, rfl, ?_⟩
  have rest : (x.length = 1 ∨ ∀ r, x.cps.toList ≠ 48 :: r) → (PySem.NumText.AllDigits x.cps.toList → Q (nI (PySem.NumText.digitsVal x.cps.toList)) H) := fun z ad => q1 _ (num_of ad ne (by omega) z)
  by_cases c3 : x.length > 1
  · refine iteTof (decide_eq_true (by omega)) ?_
    obtain ⟨c, r, hx⟩ : ∃ c r, x.cps.toList = c :: r := by
      match hx : x.cps.toList, ne with
      | c :: r, _ => exact ⟨c, r, rfl⟩
    have h0 : x.cps.toList[0]? = some c := by rw [hx]; rfl
    refine ⟨_, rfl, x, 0, c, rfl, rfl, sz, (by rw [hx]; exact atI_head), rfl, _, rfl, ?_⟩
    by_cases c4 : c = 48
    · refine iteTof (by subst c4; exact decide_eq_true rfl) ?_
      refine ⟨_, rfl, bad fun n ⟨e, _⟩ => ?_⟩
      rw [c4, e] at hx
      have := num_zero hx
      rw [← e] at this
      omega
    · refine iteFof (decide_eq_false fun z => c4 ?_) ?_
      · have z := V.str.inj z
        have z : (#[c] : Array Nat) = #[48] := congrArg Str.cps z
        simpa using z
      have zz : ∀ r, x.cps.toList ≠ 48 :: r := fun r z => c4 (by rw [hx] at z; exact (List.cons.inj z).1)
      refine ⟨_, rfl, x, rfl, ?_⟩
      refine for_it walk_str (fun i σ H' => H' = H ∧ (∃ y, σ = [some (.str x), y]) ∧ ∀ j c, j < i → x.cps.toList[j]? = some c → 48 ≤ c ∧ c ≤ 57) ⟨rfl, ⟨_, rfl⟩, fun j c h => by omega⟩ (fun _ _ _ _ _ => trivial) ?_ ?_
      · rintro i v σ H1 H2 hi ⟨rfl, ⟨y, rfl⟩, all⟩ ⟨rfl, c, hc, rfl⟩
        have hc : x.cps.toList[i]? = some c := by rw [Array.getElem?_toList]; exact hc
        refine ⟨_, rfl, c, _, rfl, rfl, _, rfl, ?_⟩
        rw [tens]
        by_cases cd : 48 ≤ c ∧ c ≤ 57
        · refine iteFof (by rw [decide_eq_true (by simp; omega)]; rfl) ?_
          refine ⟨rfl, ⟨_, rfl⟩, fun j c' hj e => ?_⟩
          by_cases ej : j = i
          · subst ej
            rw [hc] at e
            rw [← Option.some.inj e]
            exact cd
          · exact all j c' (by omega) e
        · refine iteTof (by rw [decide_eq_false (by simp; omega)]; rfl) ?_
          refine ⟨_, rfl, bad fun n ⟨e, _⟩ => cd ?_⟩
          have ad := numS_digits n
          rw [← e] at ad
          exact ad c (List.mem_of_getElem? hc)
      · rintro σ H1 ⟨rfl, ⟨y, rfl⟩, all⟩
        have ad : PySem.NumText.AllDigits x.cps.toList := fun c hc => by
          obtain ⟨j, hj⟩ := List.mem_iff_getElem?.mp hc
          have jl := (List.getElem?_eq_some_iff.mp hj).1
          exact all j c (by rw [← Array.length_toList]; exact jl) hj
        exact ⟨_, rfl, x, _, rfl, PySem.intText_digits ad ne (by omega), by omega, rest (.inr zz) ad⟩
  · refine iteFof (decide_eq_false (by omega)) (iteF ?_)
    have one : x.length = 1 := by have := List.length_pos_iff.mpr ne; omega
    refine ⟨_, rfl, x, rfl, ?_⟩
    refine for_it walk_str (fun i σ H' => H' = H ∧ (∃ y, σ = [some (.str x), y]) ∧ ∀ j c, j < i → x.cps.toList[j]? = some c → 48 ≤ c ∧ c ≤ 57) ⟨rfl, ⟨_, rfl⟩, fun j c h => by omega⟩ (fun _ _ _ _ _ => trivial) ?_ ?_
    · rintro i v σ H1 H2 hi ⟨rfl, ⟨y, rfl⟩, all⟩ ⟨rfl, c, hc, rfl⟩
      have hc : x.cps.toList[i]? = some c := by rw [Array.getElem?_toList]; exact hc
      refine ⟨_, rfl, c, _, rfl, rfl, _, rfl, ?_⟩
      rw [tens]
      by_cases cd : 48 ≤ c ∧ c ≤ 57
      · refine iteFof (by rw [decide_eq_true (by simp; omega)]; rfl) ?_
        refine ⟨rfl, ⟨_, rfl⟩, fun j c' hj e => ?_⟩
        by_cases ej : j = i
        · subst ej
          rw [hc] at e
          rw [← Option.some.inj e]
          exact cd
        · exact all j c' (by omega) e
      · refine iteTof (by rw [decide_eq_false (by simp; omega)]; rfl) ?_
        refine ⟨_, rfl, bad fun n ⟨e, _⟩ => cd ?_⟩
        have ad := numS_digits n
        rw [← e] at ad
        exact ad c (List.mem_of_getElem? hc)
    · rintro σ H1 ⟨rfl, ⟨y, rfl⟩, all⟩
      have ad : PySem.NumText.AllDigits x.cps.toList := fun c hc => by
        obtain ⟨j, hj⟩ := List.mem_iff_getElem?.mp hc
        have jl := (List.getElem?_eq_some_iff.mp hj).1
        exact all j c (by rw [← Array.length_toList]; exact jl) hj
      exact ⟨_, rfl, x, _, rfl, PySem.intText_digits ad ne (by omega), by omega, rest (.inl one) ad⟩
end
/-! ### law_k14: the rows that are drawn -/
def PcAt (B : Nat) (H : Hp) (t : Addr) : Prop := ∃ n m : Nat, H t = some (.tup [nI n, nI m]) ∧ 1 ≤ m ∧ n + m ≤ B
theorem PcAt.keep {B : Nat} {H H' : Hp} {t : Addr} (h : PcAt B H t) (k : ∀ b o, H b = some o → H' b = some o) : PcAt B H' t := by
  obtain ⟨n, m, e, l1, l⟩ := h
  exact ⟨n, m, k _ _ e, l1, l⟩
/-- a list of pieces -/
def PcsAt (B N : Nat) (H : Hp) (p : Addr) : Prop := ∃ ts : List Addr, H p = some (.lst (ts.map V.ref)) ∧ (∀ t ∈ ts, PcAt B H t) ∧ 1 ≤ ts.length ∧ ts.length ≤ N
theorem PcsAt.keep {B N : Nat} {H H' : Hp} {p : Addr} (h : PcsAt B N H p) (k : ∀ b o, H b = some o → H' b = some o) : PcsAt B N H' p := by
  obtain ⟨ts, e, a, l1, l2⟩ := h
  exact ⟨ts, k _ _ e, fun t ht => (a t ht).keep k, l1, l2⟩
theorem newK {H : Hp} {p : Addr} {o : HO} (hp : H p = none) : ∀ b u, H b = some u → L2.upd H p o b = some u := fun b u e => by
  rw [upd_ne (ne_of_none e hp)]
  exact e
theorem unK {H H' : Hp} {p : Addr} (k : ∀ b u, H b = some u → H' b = some u) (h : H' p = none) : H p = none := Classical.byContradiction fun z => by
  obtain ⟨o, ho⟩ := Option.ne_none_iff_exists'.mp z
  rw [k _ _ ho] at h
  cases h
theorem cut_mem {xs : List V} {lo hi : Option Int} {v : V} (h : v ∈ cutV xs lo hi) : v ∈ xs := List.mem_of_mem_drop (List.mem_of_mem_take h)
theorem cut_ints {ns : List Int} {lo hi : Option Int} {i : Nat} {v : V} (h : (cutV (ns.map V.int) lo hi)[i]? = some v) : ∃ c : Int, v = .int c := by
  obtain ⟨c, _, e⟩ := List.mem_map.mp (cut_mem (List.mem_of_getElem? h))
  exact ⟨c, e.symm⟩
theorem cut_to {xs : List V} {j : Nat} : cutV xs none (some (j : Int)) = xs.take j := by
  unfold cutV
  rw [HT.sIx_none, HT.sIx_nat, List.drop_zero, Nat.sub_zero, List.take_eq_take_iff]
  omega
theorem cut_from {xs : List V} {j : Nat} : cutV xs (some (j : Int)) none = xs.drop j := by
  unfold cutV
  rw [HT.sIx_none, HT.sIx_nat]
  rcases Nat.le_total j xs.length with h | h
  · rw [Nat.min_eq_left h]
    exact List.take_of_length_le (by rw [List.length_drop]; omega)
  · rw [Nat.min_eq_right h, List.drop_of_length_le h, List.drop_of_length_le (Nat.le_refl _), List.take_nil]
theorem pos_mod (x : Int) {n : Nat} (h : 0 < n) : ∃ j : Nat, x.fmod (n : Int) = (j : Int) ∧ j < n := by
  rw [Int.fmod_eq_emod_of_nonneg _ (by omega)]
  exact emod_nat x h
def IntsB (ns : List Int) : Prop := ∀ x ∈ ns, 1 ≤ x ∧ x ≤ 1152921504606846976
def sp_law_in_a_row (K : PySem.W.Frag) (_ : Ad) : Sp := fun vs H Q _ => ∃ (p : Addr) (c : Int), vs = [.ref p, .int c] ∧ PcsAt (2 ^ 60) 600 H p ∧
  ∀ (H' : Hp) (p' : Addr), (∀ b o, H b = some o → H' b = some o) → H p' = none → PcsAt (2 ^ 70) 601 H' p' → Q (.ref p') H'
def sp_law_halved (K : PySem.W.Frag) (_ : Ad) : Sp := fun vs H Q _ => ∃ (l : Addr) (ns : List Int), vs = [.ref l] ∧ SqL K H l (ns.map V.int) ∧ ns.length ≤ 63 ∧
  ∀ (H' : Hp) (p : Addr), (∀ b o, H b = some o → H' b = some o) → H p = none → PcsAt (2 ^ 60) 64 H' p → Q (.ref p) H'
section
variable {P : Program} {w : World} {K : PySem.W.Frag} {mg : Str → Option Value} {base : Heap} {a : Ad}
theorem ok_law_halved (T : Txt K mg a) : FnOk P w K mg base CX0 2 a.f_law_halved a.d_law_halved ["_law_script"] (sp_law_halved K a) := by
  have G_law_cell_at : FnOk P w K mg base CX0 1 a.f_law_cell_at a.d_law_cell_at ["_law_script", "_law_k"] (sp_law_cell_at K a) := ok_law_cell_at T
  have G_law_doubled : FnOk P w K mg base CX0 1 a.f_law_doubled a.d_law_doubled ["_law_times"] (sp_law_doubled K a) := ok_law_doubled T
  refine T.law_halved.fn.ok sc_law_halved (fun vs H Q E h => by first | (obtain ⟨rfl, _⟩ := h; rfl) | (obtain ⟨_, rfl, _⟩ := h; rfl) | (obtain ⟨_, _, rfl, _⟩ := h; rfl) | (obtain ⟨_, _, _, rfl, _⟩ := h; rfl) | (obtain ⟨_, _, _, _, rfl, _⟩ := h; rfl) | (obtain ⟨_, _, _, _, _, rfl, _⟩ := h; rfl) | (obtain ⟨_, _, _, _, _, _, rfl, _⟩ := h; rfl) | (obtain ⟨_, _, _, _, _, _, _, rfl, _⟩ := h; rfl) | (obtain ⟨_, _, _, _, _, _, _, _, rfl, _⟩ := h; rfl) | (obtain ⟨_, _, _, _, _, _, _, _, _, rfl, _⟩ := h; rfl) | (obtain ⟨_, _, _, _, _, _, _, _, _, _, rfl, _⟩ := h; rfl) | (obtain ⟨_, _, _, _, _, _, _, _, _, _, _, rfl, _⟩ := h; rfl)) (fun cdv A outer s H vs Q E hr h => ?_)
  refine ⟨_, pss_cons (ps_set (i := 1) sc_law_halved.nd rfl (Or.inl rfl) (pe_op op_fdiv (pe_call G_law_cell_at (hr.mono (by decide)) rfl T.law_cell_at.mg T.law_cell_at.fn.kp T.law_cell_at.bd .nil pass0 (pa_cons (pv 0) (pa_cons pe_int pa_nil))) pe_int))
      (pss_cons (ps_set (i := 2) sc_law_halved.nd rfl (Or.inl rfl) (pe_lst (pa_cons (pe_tup (pa_cons pe_int (pa_cons (pe_call G_law_doubled (hr.mono (by decide)) rfl T.law_doubled.mg T.law_doubled.fn.kp T.law_doubled.bd .nil pass0 (pa_cons (pe_op op_mod (pe_op op_fdiv (pv 1) pe_int) pe_int) pa_nil)) pa_nil))) pa_nil)))
      (pss_cons (ps_if (pt_cmpR op_eq (pe_op op_mod (pv 1) pe_int) pe_int (nomark _)) (pss_one (ps_set (i := 2) sc_law_halved.nd rfl (Or.inl rfl) (pe_lst (pa_cons (pe_tup (pa_cons pe_int (pa_cons (pe_call G_law_doubled (hr.mono (by decide)) rfl T.law_doubled.mg T.law_doubled.fn.kp T.law_doubled.bd .nil pass0 (pa_cons (pe_op op_mod (pe_op op_fdiv (pv 1) pe_int) pe_int) pa_nil)) pa_nil))) pa_nil)))) pss_nil)
      (pss_cons (ps_for PassesOwn.never rfl (pi_list (pe_slice sl_list (pv 0) (po_some pe_int) (po_some pe_int))) (pg_name (i := 3) sc_law_halved.nd rfl (Or.inl rfl)) (pss_cons (ps_set (i := 4) sc_law_halved.nd rfl (Or.inl rfl) (pe_op op_modN (pe_op op_fdiv (pv 3) pe_int) (pe_callB call_len_seq (by rfl) T.z_len PySem.boot_len (pa_cons (pv 2) pa_nil))))
      (pss_cons (ps_set (i := 5) sc_law_halved.nd rfl (Or.inl rfl) (pe_op op_fdiv (pe_ix ix_tup (pe_ix ix_list (pv 2) (pv 4) (fun _ _ => rfl)) pe_int (fun _ _ => rfl)) pe_int))
      (pss_one (ps_if (pt_cmpR op_gt (pv 5) pe_int (nomark _)) (pss_cons (ps_set (i := 6) sc_law_halved.nd rfl (Or.inl rfl) (pe_ix ix_tup (pe_ix ix_list (pv 2) (pv 4) (fun _ _ => rfl)) pe_int (fun _ _ => rfl)))
      (pss_one (ps_set (i := 2) sc_law_halved.nd rfl (Or.inl rfl) (pe_op op_cat (pe_op op_cat (pe_slice sl_list (pv 2) po_none (po_some (pv 4))) (pe_lst (pa_cons (pe_tup (pa_cons (pv 6) (pa_cons (pv 5) pa_nil))) (pa_cons (pe_tup (pa_cons (pe_op op_add (pv 6) (pv 5)) (pa_cons (pv 5) pa_nil))) pa_nil)))) (pe_slice sl_list (pv 2) (po_some (pe_op op_add (pv 4) pe_int)) po_none))))) pss_nil)))))
      (pss_one (ps_ret (pv 2)))))), ?_⟩
  obtain ⟨l, ns, rfl, hS, hl, q⟩ := h
  refine ⟨_, rfl, l, ns, 0, rfl, hS, hl, _, _, rfl, rfl, ⟨by decide, by decide⟩, ?_⟩
  obtain ⟨e1, h1, l1⟩ := emod_nat (cell ns 0 / 6 / 3) (show 0 < 7 by decide)
  obtain ⟨e2, h2, l2⟩ := emod_nat (cell ns 0 / 6 / 3) (show 0 < 61 by decide)
  have h1 : cell ns 0 / 6 / 3 % 7 = (e1 : Int) := h1
  have h2 : cell ns 0 / 6 / 3 % 61 = (e2 : Int) := h2
  -- one piece
  have one : ∀ {H1 : Hp} {t p : Addr} {e : Nat}, e ≤ 60 → H1 t = none → L2.upd H1 t (.tup [.int 0, sI e]) p = none → PcsAt (2 ^ 60) 1 (L2.upd (L2.upd H1 t (.tup [.int 0, sI e])) p (.lst [.ref t])) p := fun {H1 t p e} le ht hp => by
    refine ⟨[t], upd_same, fun u hu => ?_, Nat.le_refl _, Nat.le_refl _⟩
    rw [List.mem_singleton.mp hu]
    refine ⟨0, 2 ^ e, ?_, Nat.pow_pos (by decide), by rw [Nat.zero_add]; exact Nat.pow_le_pow_right (by decide) le⟩
    rw [upd_ne (fun z => by rw [← z, upd_same] at hp; cases hp)]
    exact upd_same
  refine ⟨_, rfl, _, _, rfl, rfl, ⟨by decide, by decide⟩, _, _, rfl, rfl, by show (0 : Int) < 7; decide, e1, by show [V.int (cell ns 0 / 6 / 3 % 7)] ++ [] = _; rw [h1]; rfl, by omega, ?_⟩
  refine ⟨by show 2 ≤ sizeLine; decide, fun t1 n1 => ⟨by show 1 ≤ sizeLine; decide, fun p1 m1 => nm ?_⟩⟩
  have P1 := one (e := e1) (by omega) n1 m1
  have k1 : ∀ b o, H b = some o → L2.upd (L2.upd H t1 (.tup [.int 0, sI e1])) p1 (.lst [.ref t1]) b = some o := fun b o e => newK m1 _ _ (newK n1 _ _ e)
  have hp1 : H p1 = none := unK (newK n1) m1
  dsimp only
  refine split_seq (fun σ' H' => ∃ p x3 x4 x5 x6, σ' = [some (.ref l), some (.int (cell ns 0 / 6)), some (.ref p), x3, x4, x5, x6] ∧ H p = none ∧ PcsAt (2 ^ 60) 1 H' p ∧ (∀ b o, H b = some o → H' b = some o)) (fun tail => ?_) ?_
  · refine ⟨_, rfl, _, _, rfl, rfl, by show (0 : Int) < 3; decide, rfl, _, rfl, ite2 (fun _ => ?_) (fun _ => ?_)⟩
    · refine ⟨_, rfl, _, _, rfl, rfl, ⟨by decide, by decide⟩, _, _, rfl, rfl, by show (0 : Int) < 61; decide, e2, by show [V.int (cell ns 0 / 6 / 3 % 61)] ++ [] = _; rw [h2]; rfl, by omega, ?_⟩
      refine ⟨by show 2 ≤ sizeLine; decide, fun t2 n2 => ⟨by show 1 ≤ sizeLine; decide, fun p2 m2 => nm ?_⟩⟩
      refine tail _ _ ⟨p2, none, none, none, none, rfl, unK k1 (unK (newK n2) m2), one (by omega) n2 m2, fun b o e => newK m2 _ _ (newK n2 _ _ (k1 _ _ e))⟩
    · exact tail _ _ ⟨p1, none, none, none, none, rfl, hp1, P1, k1⟩
  rintro σ H2 ⟨p2, y3, y4, y5, y6, rfl, np2, P2, k2⟩
  have hS2 : SqL K H2 l (ns.map V.int) := seq_keep hS fun o eo => k2 _ _ eo
  refine ⟨_, rfl, _, rfl, _, rfl, l, _, rfl, hS2, fun sl nsl => ⟨_, rfl, ⟨_, SqL.of upd_same⟩, ?_⟩⟩
  have k3 : ∀ b o, H b = some o → L2.upd H2 sl (.lst (cutV (ns.map V.int) (some 3) (some 19))) b = some o := fun b o e => newK nsl _ _ (k2 _ _ e)
  have hlen := cutV_length (ns.map V.int) (some 3) (some 19)
  rw [List.length_map] at hlen
  have P3 := P2.keep (newK (o := .lst (cutV (ns.map V.int) (some 3) (some 19))) nsl)
  refine for_list (xs := cutV (ns.map V.int) (some 3) (some 19)) (fun i σ H' => ∃ p x3 x4 x5 x6, σ = [some (.ref l), some (.int (cell ns 0 / 6)), some (.ref p), x3, x4, x5, x6] ∧ H p = none ∧ PcsAt (2 ^ 60) (1 + i) H' p ∧ (∀ b o, H b = some o → H' b = some o) ∧ H' sl = some (.lst (cutV (ns.map V.int) (some 3) (some 19))))
    ⟨p2, _, _, _, _, rfl, np2, P3, k3, upd_same⟩ (fun i σ H' _ ⟨_, _, _, _, _, _, _, _, _, z⟩ => SqL.of z) ?_ ?_
  · rintro i v σ H4 hv ⟨p, x3, x4, x5, x6, rfl, np, ⟨ts, hp, all, lo, hi⟩, k4, hsl⟩
    obtain ⟨c, rfl⟩ := cut_ints hv
    have il : i < (cutV (ns.map V.int) (some 3) (some 19)).length := (List.getElem?_eq_some_iff.mp hv).1
    obtain ⟨j, hj, lj⟩ := pos_mod (c / 2) (show 0 < ts.length by omega)
    obtain ⟨t, ht⟩ : ∃ t, ts[j]? = some t := ⟨_, List.getElem?_eq_getElem lj⟩
    obtain ⟨n, m, hat, m1', le⟩ := all t (List.mem_of_getElem? ht)
    have hm : (ts.map V.ref)[j]? = some (V.ref t) := by rw [List.getElem?_map, ht]; rfl
    refine nm ?_
    refine ⟨_, rfl, _, _, rfl, rfl, ⟨by decide, by decide⟩, _, rfl, p, _, rfl, .inl (SqL.of hp), _, _, rfl, rfl, by show ((ts.map V.ref).length : Int) ≠ 0; rw [List.length_map]; omega, nm ?_⟩
    have ej : (c / 2).fmod ((ts.map V.ref).length : Int) = (j : Int) := by rw [List.length_map]; exact hj
    refine ⟨_, rfl, _, rfl, p, _, _, V.ref t, rfl, rfl, SqL.of hp, at_of ej hm, t, _, _, nI m, rfl, rfl, SqT.of hat, at_of (j := 1) rfl rfl, _, _, rfl, rfl, ⟨by decide, by decide⟩, nm ?_⟩
    have eh : (m : Int) / 2 = ((m / 2 : Nat) : Int) := by omega
    refine ⟨_, rfl, _, _, rfl, rfl, _, rfl, ite2 (fun g => ?_) (fun g => ?_)⟩
    · have half1 : 1 ≤ m / 2 := by
        have g : (0 : Int) < (m : Int) / 2 := of_decide_eq_true g
        omega
      refine ⟨_, rfl, _, rfl, p, _, _, V.ref t, rfl, rfl, SqL.of hp, at_of ej hm, t, _, _, nI n, rfl, rfl, SqT.of hat, at_of (j := 0) rfl rfl, nm ?_⟩
      have c1 : cutV (ts.map V.ref) none (some (j : Int)) = (ts.take j).map V.ref := by rw [cut_to, List.map_take]
      have c2 : cutV (ts.map V.ref) (some ((j : Int) + 1)) none = (ts.drop (j + 1)).map V.ref := by rw [show (j : Int) + 1 = ((j + 1 : Nat) : Int) by omega, cut_from, List.map_drop]
      have m1 : ∀ u ∈ ts.take j, u ∈ ts := fun u h => List.mem_of_mem_take h
      have m2 : ∀ u ∈ ts.drop (j + 1), u ∈ ts := fun u h => List.mem_of_mem_drop h
      have z : (ts.take j).length + 1 + (ts.drop (j + 1)).length = ts.length := by rw [List.length_take, List.length_drop]; omega
      generalize ts.take j = us1 at c1 m1 z
      generalize ts.drop (j + 1) = us2 at c2 m2 z
      have few : ts.length ≤ 64 := by omega
      refine ⟨_, rfl, _, rfl, _, by show V.int ((c / 2).fmod ((ts.map V.ref).length : Int)) = _; rw [ej], p, _, rfl, SqL.of hp, fun s1 ns1 => ?_⟩
      rw [c1]
      have ka := newK (o := HO.lst (us1.map V.ref)) ns1
      have hs1 : L2.upd H4 s1 (.lst (us1.map V.ref)) s1 = _ := upd_same
      generalize L2.upd H4 s1 (.lst (us1.map V.ref)) = H5 at ka hs1 ⊢
      refine ⟨_, rfl, _, rfl, by show 2 ≤ sizeLine; decide, fun ta nta => ?_⟩
      refine ⟨_, rfl, _, rfl, _, _, rfl, rfl, _, rfl, by show 2 ≤ sizeLine; decide, fun tb ntb => ?_⟩
      have kb : ∀ b o, H5 b = some o → L2.upd (L2.upd H5 ta (.tup [nI n, .int ((m : Int) / 2)])) tb (.tup [.int ((n : Int) + (m : Int) / 2), .int ((m : Int) / 2)]) b = some o := fun b o e => newK ntb _ _ (newK nta _ _ e)
      have hta : L2.upd (L2.upd H5 ta (.tup [nI n, .int ((m : Int) / 2)])) tb (.tup [.int ((n : Int) + (m : Int) / 2), .int ((m : Int) / 2)]) ta = _ := newK ntb _ _ upd_same
      have htb : L2.upd (L2.upd H5 ta (.tup [nI n, .int ((m : Int) / 2)])) tb (.tup [.int ((n : Int) + (m : Int) / 2), .int ((m : Int) / 2)]) tb = _ := upd_same
      dsimp only
      rw [eh] at kb hta htb ⊢
      generalize L2.upd (L2.upd H5 ta (.tup [nI n, .int ((m / 2 : Nat) : Int)])) tb (.tup [.int ((n : Int) + ((m / 2 : Nat) : Int)), .int ((m / 2 : Nat) : Int)]) = H6 at kb hta htb ⊢
      refine ⟨by show 2 ≤ sizeLine; decide, fun lb nlb => ?_⟩
      have kc := newK (o := HO.lst [V.ref ta, V.ref tb]) nlb
      have hlb : L2.upd H6 lb (.lst [V.ref ta, V.ref tb]) lb = _ := upd_same
      generalize L2.upd H6 lb (.lst [V.ref ta, V.ref tb]) = H7 at kc hlb ⊢
      refine ⟨s1, lb, _, _, rfl, rfl, kc _ _ (kb _ _ hs1), hlb, by rw [List.length_map, sizeLine_eq]; show us1.length + 2 ≤ _; omega, fun p3 np3 => ?_⟩
      have kd := newK (o := HO.lst (us1.map V.ref ++ [V.ref ta, V.ref tb])) np3
      have hp3 : L2.upd H7 p3 (.lst (us1.map V.ref ++ [V.ref ta, V.ref tb])) p3 = _ := upd_same
      generalize L2.upd H7 p3 (.lst (us1.map V.ref ++ [V.ref ta, V.ref tb])) = H8 at kd hp3 ⊢
      have up : ∀ b o, H4 b = some o → H8 b = some o := fun b o e => kd _ _ (kc _ _ (kb _ _ (ka _ _ e)))
      refine ⟨_, rfl, _, rfl, _, _, rfl, rfl, _, rfl, p, _, rfl, SqL.of (up _ _ hp), fun s2 ns2 => ?_⟩
      have ej2 : (c / 2).fmod ((ts.map V.ref).length : Int) + 1 = (j : Int) + 1 := by rw [ej]
      have c2' : cutV (ts.map V.ref) (some ((c / 2).fmod ((ts.map V.ref).length : Int) + 1)) none = us2.map V.ref := by rw [ej2]; exact c2
      rw [c2']
      have ke := newK (o := HO.lst (us2.map V.ref)) ns2
      have hs2 : L2.upd H8 s2 (.lst (us2.map V.ref)) s2 = _ := upd_same
      generalize L2.upd H8 s2 (.lst (us2.map V.ref)) = H9 at ke hs2 ⊢
      refine ⟨p3, s2, _, _, rfl, rfl, ke _ _ hp3, hs2, by rw [List.length_append, List.length_map, List.length_map, sizeLine_eq]; show us1.length + 2 + us2.length ≤ _; omega, fun p4 np4 => nm ?_⟩
      have kf : ∀ b o, H4 b = some o → L2.upd H9 p4 (.lst (us1.map V.ref ++ [V.ref ta, V.ref tb] ++ us2.map V.ref)) b = some o := fun b o e => newK np4 _ _ (ke _ _ (up _ _ e))
      have kg : ∀ b o, H6 b = some o → L2.upd H9 p4 (.lst (us1.map V.ref ++ [V.ref ta, V.ref tb] ++ us2.map V.ref)) b = some o := fun b o e => newK np4 _ _ (ke _ _ (kd _ _ (kc _ _ e)))
      refine ⟨p4, _, _, _, _, rfl, unK (fun b o e => ke _ _ (up _ _ (k4 _ _ e))) np4, ⟨us1 ++ [ta, tb] ++ us2, ?_, fun u hu => ?_, ?_, ?_⟩, fun b o e => kf _ _ (k4 _ _ e), kf _ _ hsl⟩
      · rw [upd_same, List.map_append, List.map_append]
        rfl
      · rcases List.mem_append.mp hu with hu | hu
        · rcases List.mem_append.mp hu with hu | hu
          · exact (all u (m1 u hu)).keep kf
          · rcases List.mem_cons.mp hu with rfl | hu
            · exact ⟨n, m / 2, kg _ _ hta, half1, by omega⟩
            · rw [List.mem_singleton.mp hu]
              exact ⟨n + m / 2, m / 2, kg _ _ htb, half1, by omega⟩
        · exact (all u (m2 u hu)).keep kf
      · rw [List.length_append, List.length_append]
        show 1 ≤ us1.length + 2 + us2.length
        omega
      · rw [List.length_append, List.length_append]
        show us1.length + 2 + us2.length ≤ _
        omega
    · exact ⟨p, _, _, _, _, rfl, np, ⟨ts, hp, all, lo, by omega⟩, k4, hsl⟩
  · rintro σ H4 ⟨p, x3, x4, x5, x6, rfl, np, ⟨ts, hp, all, lo, hi⟩, k4, hsl⟩
    exact ⟨_, rfl, q H4 p k4 np ⟨ts, hp, all, lo, by omega⟩⟩
theorem ok_law_in_a_row (T : Txt K mg a) : FnOk P w K mg base CX0 2 a.f_law_in_a_row a.d_law_in_a_row ["_law_pieces", "_law_cell"] (sp_law_in_a_row K a) := by
  have G_law_doubled : FnOk P w K mg base CX0 1 a.f_law_doubled a.d_law_doubled ["_law_times"] (sp_law_doubled K a) := ok_law_doubled T
  refine T.law_in_a_row.fn.ok sc_law_in_a_row (fun vs H Q E h => by first | (obtain ⟨rfl, _⟩ := h; rfl) | (obtain ⟨_, rfl, _⟩ := h; rfl) | (obtain ⟨_, _, rfl, _⟩ := h; rfl) | (obtain ⟨_, _, _, rfl, _⟩ := h; rfl) | (obtain ⟨_, _, _, _, rfl, _⟩ := h; rfl) | (obtain ⟨_, _, _, _, _, rfl, _⟩ := h; rfl) | (obtain ⟨_, _, _, _, _, _, rfl, _⟩ := h; rfl) | (obtain ⟨_, _, _, _, _, _, _, rfl, _⟩ := h; rfl) | (obtain ⟨_, _, _, _, _, _, _, _, rfl, _⟩ := h; rfl) | (obtain ⟨_, _, _, _, _, _, _, _, _, rfl, _⟩ := h; rfl) | (obtain ⟨_, _, _, _, _, _, _, _, _, _, rfl, _⟩ := h; rfl) | (obtain ⟨_, _, _, _, _, _, _, _, _, _, _, rfl, _⟩ := h; rfl)) (fun cdv A outer s H vs Q E hr h => ?_)
  refine ⟨_, pss_cons (ps_setLc (i := 2) (own := [("_law_piece", 7)]) (g := gName 7) (te := (tOp (rIxT K) (tVar 7) (tC (.int 1)))) rfl sc_law_in_a_row.nd rfl rfl (sw_true rfl rfl rfl (by decide +kernel)) (pi_list (pv 0)) (blkOk_by (own := [("_law_piece", 7)]) (N := ["_law_pieces", "_law_cell", "_law_sizes", "_law_turn", "_law_found", "_law_behind", "_law_size", "_law_piece"]) (sc := defScope s_law_in_a_row) (by decide +kernel)) (fun _ _ _ _ _ => (pg_name (i := 7) sc_law_in_a_row.nd rfl (Or.inl rfl))) (fun _ _ _ _ _ => pts_nil) (fun _ _ _ _ _ => (pe_ix ix_tup (pv 7) pe_int (fun _ _ => rfl))))
      (pss_cons (ps_set (i := 3) sc_law_in_a_row.nd rfl (Or.inl rfl) (pe_op op_modN (pe_op op_fdiv (pv 1) pe_int) (pe_callB call_len_seq (by rfl) T.z_len PySem.boot_len (pa_cons (pv 2) pa_nil))))
      (pss_cons (ps_set (i := 2) sc_law_in_a_row.nd rfl (Or.inl rfl) (pe_op op_cat (pe_slice sl_list (pv 2) (po_some (pv 3)) po_none) (pe_slice sl_list (pv 2) po_none (po_some (pv 3)))))
      (pss_cons (ps_if (pt_cmpR op_eq (pe_op op_mod (pv 1) pe_int) pe_int (nomark _)) (pss_one (ps_set (i := 2) sc_law_in_a_row.nd rfl (Or.inl rfl) (pe_callBK (cr_sortedRev (b := true)) (by rfl) T.z_sorted (by decide +kernel) (pa_cons (pv 2) pa_nil) (pk_cons pe_bl pk_nil)))) pss_nil)
      (pss_cons (ps_if (pt_cmpR op_eq (pe_op op_mod (pv 1) pe_int) pe_int (nomark _)) (pss_one (ps_set (i := 2) sc_law_in_a_row.nd rfl (Or.inl rfl) (pe_op op_cat (pv 2) (pe_lst (pa_cons (pe_call G_law_doubled (hr.mono (by decide)) rfl T.law_doubled.mg T.law_doubled.fn.kp T.law_doubled.bd .nil pass0 (pa_cons (pe_op op_mod (pe_op op_fdiv (pv 1) pe_int) pe_int) pa_nil)) pa_nil))))) pss_nil)
      (pss_cons (ps_set (i := 4) sc_law_in_a_row.nd rfl (Or.inl rfl) (pe_lst pa_nil))
      (pss_cons (ps_set (i := 5) sc_law_in_a_row.nd rfl (Or.inl rfl) pe_int)
      (pss_cons (ps_for PassesOwn.never rfl (pi_list (pv 2)) (pg_name (i := 6) sc_law_in_a_row.nd rfl (Or.inl rfl)) (pss_cons (ps_expr (pe_bm PySem.F.plainAttrs_list PySem.F.slot_list_append PySem.F.type_list_append mt_append (pv 4) (pa_cons (pe_tup (pa_cons (pv 5) (pa_cons (pv 6) pa_nil))) pa_nil)))
      (pss_one (ps_set (i := 5) sc_law_in_a_row.nd rfl (Or.inl rfl) (pe_op op_add (pv 5) (pv 6))))))
      (pss_one (ps_ret (pv 4)))))))))), ?_⟩
  obtain ⟨p, c, rfl, ⟨ts, hp, all, lo, hi⟩, q⟩ := h
  refine ⟨_, rfl, p, rfl, ⟨_, SqL.of hp⟩, fun D newD => ?_⟩
  refine lc_out walk_list (fun j H' => ∃ ns : List Int, H' D = some (.lst (ns.map V.int)) ∧ ns.length = j ∧ IntsB ns ∧ (∀ b o, H b = some o → H' b = some o))
    ⟨[], upd_same, rfl, (fun x h => by cases h), newK newD⟩ (fun j H' _ ⟨_, _, _, _, k⟩ => SqL.of (k _ _ hp)) ?_ ?_
  · rintro j v H3 H4 hj ⟨ns, hD, ln, bd, k3⟩ ⟨rfl, hv⟩
    rw [List.length_map] at hj
    obtain ⟨t, ht⟩ : ∃ t, ts[j]? = some t := ⟨_, List.getElem?_eq_getElem hj⟩
    rw [List.getElem?_map, ht] at hv
    have hv := Option.some.inj hv
    subst hv
    obtain ⟨n, m, hat, m1', le⟩ := all t (List.mem_of_getElem? ht)
    refine ⟨rfl, _, rfl, t, _, _, nI m, rfl, rfl, SqT.of (k3 _ _ hat), at_of (j := 1) rfl rfl, ns.map V.int, hD, ?_, ns ++ [(m : Int)], ?_, ?_, fun x hx => ?_, fun b o e => ?_⟩
    · rw [List.length_map, sizeLine_eq]
      omega
    · rw [List.map_append]
      exact upd_same
    · rw [List.length_append, ln]
      rfl
    · rcases List.mem_append.mp hx with hx | hx
      · exact bd x hx
      · rw [List.mem_singleton.mp hx]
        omega
    · rw [upd_ne (fun z => by rw [z, newD] at e; cases e)]
      exact k3 _ _ e
  rintro H1 ⟨ns, hD, ln, bd, k1⟩
  rw [List.length_map] at ln
  refine nm ?_
  obtain ⟨j, hj, lj⟩ := pos_mod (c / 3) (show 0 < ns.length by omega)
  have ej : (c / 3).fmod ((ns.map V.int).length : Int) = (j : Int) := by rw [List.length_map]; exact hj
  refine ⟨_, rfl, _, _, rfl, rfl, ⟨by decide, by decide⟩, _, rfl, D, _, rfl, .inl (SqL.of hD), _, _, rfl, rfl, by show ((ns.map V.int).length : Int) ≠ 0; rw [List.length_map]; omega, nm ?_⟩
  refine ⟨_, rfl, _, rfl, _, by show V.int ((c / 3).fmod ((ns.map V.int).length : Int)) = _; rw [ej], D, _, rfl, SqL.of hD, fun s1 ns1 => ?_⟩
  rw [cut_from, ← List.map_drop]
  have ka := newK (o := HO.lst ((ns.drop j).map V.int)) ns1
  have hs1 : L2.upd H1 s1 (.lst ((ns.drop j).map V.int)) s1 = _ := upd_same
  generalize L2.upd H1 s1 (.lst ((ns.drop j).map V.int)) = H2 at ka hs1 ⊢
  refine ⟨_, rfl, _, rfl, _, by show V.int ((c / 3).fmod ((ns.map V.int).length : Int)) = _; rw [ej], D, _, rfl, SqL.of (ka _ _ hD), fun s2 ns2 => ?_⟩
  rw [cut_to, ← List.map_take]
  have kb := newK (o := HO.lst ((ns.take j).map V.int)) ns2
  have hs2 : L2.upd H2 s2 (.lst ((ns.take j).map V.int)) s2 = _ := upd_same
  generalize L2.upd H2 s2 (.lst ((ns.take j).map V.int)) = H3 at kb hs2 ⊢
  have k3 : ∀ b o, H b = some o → H3 b = some o := fun b o e => kb _ _ (ka _ _ (k1 _ _ e))
  have lz : (ns.drop j ++ ns.take j).length = ts.length := by rw [List.length_append, List.length_drop, List.length_take]; omega
  have bz : IntsB (ns.drop j ++ ns.take j) := fun x hx => by
    rcases List.mem_append.mp hx with hx | hx
    · exact bd x (List.mem_of_mem_drop hx)
    · exact bd x (List.mem_of_mem_take hx)
  refine ⟨s1, s2, _, _, rfl, rfl, kb _ _ hs1, hs2, by rw [← List.length_append, ← List.map_append, List.length_map, lz, sizeLine_eq]; omega, fun s3 ns3 => nm ?_⟩
  rw [← List.map_append]
  generalize ns.drop j ++ ns.take j = zs at lz bz
  have kc := newK (o := HO.lst (zs.map V.int)) ns3
  have hs3 : L2.upd H3 s3 (.lst (zs.map V.int)) s3 = _ := upd_same
  generalize L2.upd H3 s3 (.lst (zs.map V.int)) = H4 at kc hs3 ⊢
  dsimp only
  refine split_seq (fun σ' H' => ∃ (p2 : Addr) (ys : List Int) (x3 x4 x5 x6 x7 : Option V), σ' = [some (.ref p), some (.int c), some (.ref p2), x3, x4, x5, x6, x7] ∧ H' p2 = some (.lst (ys.map V.int)) ∧ ys.length = ts.length ∧ IntsB ys ∧ (∀ b o, H b = some o → H' b = some o)) (fun tail => ?_) ?_
  · refine ⟨_, rfl, _, _, rfl, rfl, by show (0 : Int) < 3; decide, rfl, _, rfl, ite2 (fun _ => ?_) (fun _ => ?_)⟩
    · refine ⟨_, rfl, s3, zs, rfl, rfl, SqL.of hs3, fun ys p2 pm _ np2 => nm ?_⟩
      refine tail _ _ ⟨p2, ys, _, _, _, _, _, rfl, upd_same, by rw [pm.length_eq, lz], fun x hx => bz x (pm.mem_iff.mp hx), fun b o e => newK np2 _ _ (kc _ _ (k3 _ _ e))⟩
    · exact tail _ _ ⟨s3, zs, _, _, _, _, _, rfl, hs3, lz, bz, fun b o e => kc _ _ (k3 _ _ e)⟩
  rintro σ5 H5 ⟨p2, ys, x3, x4, x5, x6, x7, rfl, h5, l5, b5, k5⟩
  refine split_seq (fun σ' H' => ∃ (p2 : Addr) (ys : List Int) (x3 x4 x5 x6 x7 : Option V), σ' = [some (.ref p), some (.int c), some (.ref p2), x3, x4, x5, x6, x7] ∧ H' p2 = some (.lst (ys.map V.int)) ∧ 1 ≤ ys.length ∧ ys.length ≤ 601 ∧ IntsB ys ∧ (∀ b o, H b = some o → H' b = some o)) (fun tail => ?_) ?_
  · refine ⟨_, rfl, _, _, rfl, rfl, by show (0 : Int) < 3; decide, rfl, _, rfl, ite2 (fun _ => ?_) (fun _ => ?_)⟩
    · obtain ⟨e1, h1, l1⟩ := emod_nat (c / 3) (show 0 < 7 by decide)
      have h1 : c / 3 % 7 = (e1 : Int) := h1
      refine ⟨_, rfl, _, rfl, _, _, rfl, rfl, ⟨by decide, by decide⟩, _, _, rfl, rfl, by show (0 : Int) < 7; decide, e1, by show [V.int (c / 3 % 7)] ++ [] = _; rw [h1]; rfl, by omega, ?_⟩
      refine ⟨by show 1 ≤ sizeLine; decide, fun lb nlb => ?_⟩
      refine ⟨p2, lb, _, _, rfl, rfl, newK nlb _ _ h5, upd_same, by rw [List.length_map, sizeLine_eq]; show ys.length + 1 ≤ _; omega, fun p3 np3 => nm ?_⟩
      have kd : ∀ b o, H5 b = some o → L2.upd (L2.upd H5 lb (.lst [sI e1])) p3 (.lst (ys.map V.int ++ [sI e1])) b = some o := fun b o e => newK np3 _ _ (newK nlb _ _ e)
      refine tail _ _ ⟨p3, ys ++ [((2 ^ e1 : Nat) : Int)], _, _, _, _, _, rfl, by rw [List.map_append]; exact upd_same, ?_, ?_, fun x hx => ?_, fun b o e => kd _ _ (k5 _ _ e)⟩
      · rw [List.length_append]
        show 1 ≤ ys.length + 1
        omega
      · rw [List.length_append]
        show ys.length + 1 ≤ 601
        omega
      · rcases List.mem_append.mp hx with hx | hx
        · exact b5 x hx
        · rw [List.mem_singleton.mp hx]
          have := pow60 (show e1 ≤ 60 by omega)
          have : 0 < 2 ^ e1 := Nat.pow_pos (by decide)
          exact ⟨by omega, by omega⟩
    · exact tail _ _ ⟨p2, ys, _, _, _, _, _, rfl, h5, by omega, by omega, b5, k5⟩
  clear h5 l5 b5 k5
  rintro σ6 H6 ⟨p2, ys, x3, x4, x5, x6, x7, rfl, h6, lo6, hi6, b6, k6⟩
  refine ⟨by show 0 ≤ sizeLine; omega, fun lf nlf => nm ?_⟩
  refine ⟨_, rfl, p2, rfl, ⟨_, SqL.of (newK nlf _ _ h6)⟩, ?_⟩
  have np2 : p2 ≠ lf := fun z => by rw [z, nlf] at h6; cases h6
  refine for_list (xs := ys.map V.int) (fun i σ H' => ∃ (us : List Addr) (b : Nat) (x3 x6 x7 : Option V), σ = [some (.ref p), some (.int c), some (.ref p2), x3, some (.ref lf), some (nI b), x6, x7] ∧ b ≤ i * 2 ^ 60 ∧ us.length = i ∧ H' lf = some (.lst (us.map V.ref)) ∧ (∀ t ∈ us, PcAt (2 ^ 70) H' t) ∧ (∀ b o, H6 b = some o → H' b = some o))
    ⟨[], 0, _, _, _, rfl, Nat.zero_le _, rfl, upd_same, (fun t h => by cases h), newK nlf⟩ (fun i σ H' _ ⟨_, _, _, _, _, _, _, _, _, _, z⟩ => SqL.of (z _ _ h6)) ?_ ?_
  · rintro i v σ H7 hv ⟨us, b, x3, x6, x7, rfl, lb, lu, h7, all7, k7⟩
    have il := (List.getElem?_eq_some_iff.mp hv).1
    rw [List.length_map] at il
    obtain ⟨x, hx⟩ : ∃ x, ys[i]? = some x := ⟨_, List.getElem?_eq_getElem il⟩
    rw [List.getElem?_map, hx] at hv
    have hv := Option.some.inj hv
    subst hv
    obtain ⟨bx0, bx1⟩ := b6 x (List.mem_of_getElem? hx)
    obtain ⟨m, rfl⟩ : ∃ m : Nat, x = (m : Int) := ⟨x.toNat, by omega⟩
    have big : b + m ≤ (i + 1) * 2 ^ 60 := by rw [Nat.succ_mul]; omega
    have top : (i + 1) * 2 ^ 60 ≤ 2 ^ 70 := Nat.le_trans (Nat.mul_le_mul_right _ (show i + 1 ≤ 1024 by omega)) (by decide)
    refine nm ⟨_, rfl, .inl ⟨rfl, _, SqL.of h7⟩, _, rfl, _, rfl, by show 2 ≤ sizeLine; decide, fun t nt => ?_⟩
    refine ⟨lf, us.map V.ref, V.ref t, rfl, rfl, newK nt _ _ h7, by rw [List.length_map, sizeLine_eq]; omega, ?_⟩
    have ntl : t ≠ lf := fun z => by rw [z, h7] at nt; cases nt
    have grow : ∀ u o, u ≠ lf → H7 u = some o → L2.upd (L2.upd H7 t (.tup [nI b, nI m])) lf (.lst (us.map V.ref ++ [V.ref t])) u = some o := fun u o ne e => by
      rw [upd_ne ne]
      exact newK nt _ _ e
    refine ⟨_, rfl, _, rfl, _, _, rfl, rfl, nm ?_⟩
    refine ⟨us ++ [t], b + m, x3, some (nI m), x7, ?_, big, by rw [List.length_append, lu]; rfl, by rw [upd_same, List.map_append]; rfl, fun u hu => ?_, fun b o e => ?_⟩
    · show [some (V.ref p), some (.int c), some (.ref p2), x3, some (.ref lf), some (V.int ((b : Int) + (m : Int))), some (nI m), x7] = _
      rw [← Int.natCast_add]
      rfl
    · rcases List.mem_append.mp hu with hu | hu
      · obtain ⟨n', m', e, le1, le⟩ := all7 u hu
        exact ⟨n', m', grow _ _ (fun z => by rw [z, h7] at e; cases e) e, le1, le⟩
      · rw [List.mem_singleton.mp hu]
        exact ⟨b, m, by rw [upd_ne ntl]; exact upd_same, by omega, by omega⟩
    · exact grow _ _ (fun z => by rw [z, nlf] at e; cases e) (k7 _ _ e)
  · rintro σ H7 ⟨us, b, x3, x6, x7, rfl, lb, lu, h7, all7, k7⟩
    rw [List.length_map] at lu
    exact ⟨_, rfl, q H7 lf (fun b o e => k7 _ _ (k6 _ _ e)) (unK k6 nlf) ⟨us, h7, all7, by omega, by omega⟩⟩
end
/-! ### law_k14: the lines -/
def Plain (s : Str) : Prop := ∀ c ∈ s.cps.toList, c < 128 ∧ c ≠ 10
def wordS (b : Bool) : Str := if b then "free" else "out"
def lineS (n m : Nat) (f : Bool) : Str := numS n ++ " " ++ numS m ++ " " ++ wordS f
theorem app_cps (a b : Str) : (a ++ b).cps.toList = a.cps.toList ++ b.cps.toList := TL.tl_append a b
theorem Plain.app {a b : Str} (h : Plain a) (g : Plain b) : Plain (a ++ b) := fun c hc => by
  rw [app_cps] at hc
  rcases List.mem_append.mp hc with z | z
  · exact h c z
  · exact g c z
theorem num_plain (n : Nat) : Plain (numS n) := fun c hc => by
  have := numS_digits n c hc
  exact ⟨by omega, by omega⟩
theorem numS_len {n k : Nat} (hk : 0 < k) (h : n < 10 ^ k) : (numS n).length ≤ k := by
  have e := TL.numL_len hk h
  have e2 : (TL.numL n).length = (numS n).length := by
    rw [← TL.tl_num]
    exact Array.length_toList
  omega
/-- a text without a blank -/
def Solid (s : Str) : Prop := 32 ∉ s.cps.toList
theorem num_solid (n : Nat) : Solid (numS n) := fun h => by
  have := numS_digits n 32 h
  omega
theorem word_solid (b : Bool) : Solid (wordS b) := by cases b <;> exact fun h => absurd h (by decide +kernel)
theorem split3 {x y z : Str} (hx : Solid x) (hy : Solid y) (hz : Solid z) : Txt.split (x ++ " " ++ y ++ " " ++ z) " " = [x, y, z] := by
  have e : x ++ " " ++ y ++ " " ++ z = Txt.join " " [x, y, z] := by
    rw [TL.join_eq]
    show x ++ " " ++ y ++ " " ++ z = x ++ " " ++ (y ++ " " ++ z)
    refine str_ext ?_
    rw [app_cps, app_cps, app_cps, app_cps, app_cps, app_cps, app_cps, app_cps]
    simp only [List.append_assoc]
  rw [e]
  refine TL.split_join (s := 32) (S := []) (by decide +kernel) (by decide +kernel) (by simp) fun p hp => ?_
  rcases List.mem_cons.mp hp with rfl | hp
  · exact hx
  · rcases List.mem_cons.mp hp with rfl | hp
    · exact hy
    · rw [List.mem_singleton.mp hp]
      exact hz
/-! ### law_k14: the lines, one spoilt -/
def LineOk (s : Str) : Prop := ∃ (n m : Nat) (f : Bool), s = lineS n m f ∧ 1 ≤ m ∧ n + m ≤ 2 ^ 70
def StrsAt (H : Hp) (p : Addr) (L : List Str) : Prop := H p = some (.lst (L.map V.str))
def sp_law_lines (K : PySem.W.Frag) (_ : Ad) : Sp := fun vs H Q _ => ∃ (l p : Addr) (ns : List Int), vs = [.ref l, .ref p] ∧ SqL K H l (ns.map V.int) ∧ ns.length ≤ 63 ∧ PcsAt (2 ^ 70) 601 H p ∧
  ∀ (H' : Hp) (p' : Addr) (L : List Str), (∀ b o, H b = some o → H' b = some o) → StrsAt H' p' L → (∀ s ∈ L, LineOk s) → 1 ≤ L.length → L.length ≤ 601 → Q (.ref p') H'
theorem log_nat {n : Nat} (h : n ≤ 2 ^ 72) : ((n : Nat) : Int).natAbs.log2 < 1920 := by
  rw [Int.natAbs_natCast]
  by_cases z : n = 0
  · subst z
    decide
  · have : n.log2 < 73 := (Nat.log2_lt z).mpr (Nat.lt_of_le_of_lt h (by decide))
    omega
theorem len_app (a b : Str) : (a ++ b).length = a.length + b.length := PySem.Str.length_append a b
theorem num22 {n : Nat} (h : n ≤ 2 ^ 70) : (numS n).length ≤ 22 := numS_len (by decide) (Nat.lt_of_le_of_lt h (by decide))
theorem word4 (b : Bool) : (wordS b).length ≤ 4 := by cases b <;> decide +kernel
section
variable {P : Program} {w : World} {K : PySem.W.Frag} {mg : Str → Option Value} {base : Heap} {a : Ad}
theorem ok_law_lines (T : Txt K mg a) : FnOk P w K mg base CX0 2 a.f_law_lines a.d_law_lines ["_law_script", "_law_pieces"] (sp_law_lines K a) := by
  have G_law_cell_at : FnOk P w K mg base CX0 1 a.f_law_cell_at a.d_law_cell_at ["_law_script", "_law_k"] (sp_law_cell_at K a) := ok_law_cell_at T
  refine T.law_lines.fn.ok sc_law_lines (fun vs H Q E h => by first | (obtain ⟨rfl, _⟩ := h; rfl) | (obtain ⟨_, rfl, _⟩ := h; rfl) | (obtain ⟨_, _, rfl, _⟩ := h; rfl) | (obtain ⟨_, _, _, rfl, _⟩ := h; rfl) | (obtain ⟨_, _, _, _, rfl, _⟩ := h; rfl) | (obtain ⟨_, _, _, _, _, rfl, _⟩ := h; rfl) | (obtain ⟨_, _, _, _, _, _, rfl, _⟩ := h; rfl) | (obtain ⟨_, _, _, _, _, _, _, rfl, _⟩ := h; rfl) | (obtain ⟨_, _, _, _, _, _, _, _, rfl, _⟩ := h; rfl) | (obtain ⟨_, _, _, _, _, _, _, _, _, rfl, _⟩ := h; rfl) | (obtain ⟨_, _, _, _, _, _, _, _, _, _, rfl, _⟩ := h; rfl) | (obtain ⟨_, _, _, _, _, _, _, _, _, _, _, rfl, _⟩ := h; rfl)) (fun cdv A outer s H vs Q E hr h => ?_)
  refine ⟨_, pss_cons (ps_set (i := 2) sc_law_lines.nd rfl (Or.inl rfl) (pe_lst pa_nil))
      (pss_cons (ps_for PassesOwn.never rfl (pi_range1 rfl T.z_range (pa_cons (pe_callB call_len_seq (by rfl) T.z_len PySem.boot_len (pa_cons (pv 1) pa_nil)) pa_nil)) (pg_name (i := 3) sc_law_lines.nd rfl (Or.inl rfl)) (pss_cons (ps_set (i := 4) sc_law_lines.nd rfl (Or.inl rfl) (pe_ix ix_list (pe_lst (pa_cons pe_str (pa_cons pe_str pa_nil))) (pe_op op_mod (pe_call G_law_cell_at (hr.mono (by decide)) rfl T.law_cell_at.mg T.law_cell_at.fn.kp T.law_cell_at.bd .nil pass0 (pa_cons (pv 0) (pa_cons (pe_op op_add pe_int (pv 3)) pa_nil))) pe_int) (fun _ _ => rfl)))
      (pss_cons (ps_if (PW.pt (pw_and (pt_cmpR op_eq (pe_op op_mod (pe_call G_law_cell_at (hr.mono (by decide)) rfl T.law_cell_at.mg T.law_cell_at.fn.kp T.law_cell_at.bd .nil pass0 (pa_cons (pv 0) (pa_cons pe_int pa_nil))) pe_int) pe_int (nomark _)) (pw_and1 (pt_cmpR op_eq (pe_op op_mod (pv 3) pe_int) pe_int (nomark _))))) (pss_one (ps_set (i := 4) sc_law_lines.nd rfl (Or.inl rfl) pe_str)) pss_nil)
      (pss_one (ps_expr (pe_bm PySem.F.plainAttrs_list PySem.F.slot_list_append PySem.F.type_list_append mt_append (pv 2) (pa_cons (pe_op op_add_str (pe_op op_add_str (pe_op op_add_str (pe_op op_add_str (pe_callTy call_str_int (by rfl) T.z_str (by decide +kernel) (pa_cons (pe_ix ix_tup (pe_ix ix_list (pv 1) (pv 3) (fun _ _ => rfl)) pe_int (fun _ _ => rfl)) pa_nil)) pe_str) (pe_callTy call_str_int (by rfl) T.z_str (by decide +kernel) (pa_cons (pe_ix ix_tup (pe_ix ix_list (pv 1) (pv 3) (fun _ _ => rfl)) pe_int (fun _ _ => rfl)) pa_nil))) pe_str) (pv 4)) pa_nil)))))))
      (pss_one (ps_ret (pv 2)))), ?_⟩
  obtain ⟨l, p, ns, rfl, hS, hl, ⟨ts, hp, all, lo, hi⟩, q⟩ := h
  refine ⟨by show 0 ≤ sizeLine; decide, fun D newD => nm ?_⟩
  have kD := newK (o := HO.lst []) newD
  refine ⟨_, rfl, p, _, rfl, .inl (SqL.of (kD _ _ hp)), (ts.map V.ref).length, rfl, by omega, by rw [List.length_map]; omega, ?_⟩
  rw [List.length_map]
  refine for_range (n := ts.length) (fun i σ H' => ∃ (L : List Str) (x3 x4 : Option V), σ = [some (.ref l), some (.ref p), some (.ref D), x3, x4] ∧ L.length = i ∧ StrsAt H' D L ∧ (∀ s ∈ L, LineOk s) ∧ (∀ b o, H b = some o → H' b = some o))
    ⟨[], none, none, rfl, rfl, upd_same, (fun s h => by cases h), kD⟩ ?_ ?_
  · rintro i σ H4 hi' ⟨L, x3, x4, rfl, lL, hD, all4, k4⟩
    have hS4 : SqL K H4 l (ns.map V.int) := seq_keep hS fun o eo => k4 _ _ eo
    obtain ⟨t, ht⟩ : ∃ t, ts[i]? = some t := ⟨_, List.getElem?_eq_getElem hi'⟩
    have hm : (ts.map V.ref)[i]? = some (V.ref t) := by rw [List.getElem?_map, ht]; rfl
    obtain ⟨n, m, hat, le1, le⟩ := all t (List.mem_of_getElem? ht)
    refine nm ⟨by show 2 ≤ sizeLine; decide, fun w2 nw2 => ?_⟩
    obtain ⟨j, hj, lj⟩ := emod_nat (cell ns (3 + i)) (show 0 < 2 by decide)
    have hj : cell ns (3 + i) % 2 = (j : Int) := hj
    have k5 := newK (o := HO.lst [.str "out", .str "free"]) nw2
    have h5 : L2.upd H4 w2 (.lst [.str "out", .str "free"]) w2 = _ := upd_same
    generalize L2.upd H4 w2 (.lst [.str "out", .str "free"]) = H5 at k5 h5 ⊢
    have hS5 : SqL K H5 l (ns.map V.int) := seq_keep hS4 fun o eo => k5 _ _ eo
    have e3 : (3 : Int) + (0 + (i : Int)) = ((3 + i : Nat) : Int) := by omega
    obtain ⟨f0, hf0⟩ : ∃ f0 : Bool, ([V.str "out", V.str "free"] : List V)[j]? = some (V.str (wordS f0)) := by
      rcases (show j = 0 ∨ j = 1 by omega) with rfl | rfl
      · exact ⟨false, rfl⟩
      · exact ⟨true, rfl⟩
    refine ⟨_, rfl, _, rfl, _, _, rfl, rfl, l, ns, 3 + i, by show [V.ref l, V.int (3 + (0 + (i : Int)))] = _; rw [e3], hS5, hl, _, _, rfl, rfl, by show (0 : Int) < 2; decide, w2, _, _, V.str (wordS f0), rfl, rfl, SqL.of h5, at_of hj hf0, nm ?_⟩
    dsimp only
    refine split_seq (fun σ' H' => ∃ f : Bool, σ' = [some (.ref l), some (.ref p), some (.ref D), some (.int (0 + (i : Int))), some (.str (wordS f))] ∧ H' = H5) (fun tail => ?_) ?_
    · refine ⟨_, rfl, l, ns, 2, rfl, hS5, hl, _, _, rfl, rfl, by show (0 : Int) < 2; decide, rfl, _, rfl, ite2 (fun _ => ?_) (fun _ => iteF ?_)⟩
      · refine ⟨_, rfl, _, _, rfl, rfl, by show (0 : Int) < 2; decide, rfl, _, rfl, ite2 (fun _ => ?_) (fun _ => ?_)⟩
        · exact tail _ _ ⟨false, rfl, rfl⟩
        · exact tail _ _ ⟨f0, rfl, rfl⟩
      · exact tail _ _ ⟨f0, rfl, rfl⟩
    rintro σ' H' ⟨f, rfl, rfl⟩
    have ei : 0 + (i : Int) = (i : Int) := by omega
    have h4 : H' D = some (.lst (L.map V.str)) := k5 _ _ hD
    have n22 := num22 (n := n) (by omega)
    have m22 := num22 (n := m) (by omega)
    have w4 := word4 f
    refine ⟨_, rfl, .inl ⟨rfl, _, SqL.of h4⟩, ?_⟩
    refine ⟨_, rfl, _, rfl, p, _, _, V.ref t, rfl, rfl, SqL.of (k5 _ _ (k4 _ _ hp)), at_of ei hm, t, _, _, nI n, rfl, rfl, SqT.of (k5 _ _ (k4 _ _ hat)), at_of (j := 0) rfl rfl, (n : Int), rfl, log_nat (by omega), ?_⟩
    refine ⟨_, _, rfl, rfl, by rw [sizeLine_eq]; show (numS n).length + 1 ≤ _; omega, ?_⟩
    refine ⟨_, rfl, _, rfl, p, _, _, V.ref t, rfl, rfl, SqL.of (k5 _ _ (k4 _ _ hp)), at_of ei hm, t, _, _, nI m, rfl, rfl, SqT.of (k5 _ _ (k4 _ _ hat)), at_of (j := 1) rfl rfl, (m : Int), rfl, log_nat (by omega), ?_⟩
    refine ⟨_, _, rfl, rfl, by rw [len_app, sizeLine_eq]; show (numS n).length + 1 + (numS m).length ≤ _; omega, ?_⟩
    refine ⟨_, _, rfl, rfl, by rw [len_app, len_app, sizeLine_eq]; show (numS n).length + 1 + (numS m).length + 1 ≤ _; omega, ?_⟩
    refine ⟨_, rfl, _, _, rfl, rfl, by rw [len_app, len_app, len_app, sizeLine_eq]; show (numS n).length + 1 + (numS m).length + 1 + (wordS f).length ≤ _; omega, ?_⟩
    refine ⟨D, _, V.str (lineS n m f), rfl, rfl, h4, by rw [List.length_map, sizeLine_eq]; omega, ?_⟩
    refine ⟨L ++ [lineS n m f], _, _, rfl, by rw [List.length_append, lL]; rfl, ?_, fun s hs => ?_, fun b o e => ?_⟩
    · show L2.upd H' D _ D = _
      rw [upd_same, List.map_append]
      rfl
    · rcases List.mem_append.mp hs with hs | hs
      · exact all4 s hs
      · exact ⟨n, m, f, List.mem_singleton.mp hs, le1, le⟩
    · rw [upd_ne (fun z => by rw [z, newD] at e; cases e)]
      exact k5 _ _ (k4 _ _ e)
  · rintro σ H4 ⟨L, x3, x4, rfl, lL, hD, all4, k4⟩
    exact ⟨_, rfl, q H4 D L k4 hD all4 (by omega) (by omega)⟩
end
/-! ### law_k14: what is due -/
def ShowsL (ws : List Str) (rows : List Row) (d : Nat) : Prop := d ≤ 60 ∧ Paired RowOf ws rows ∧ Chain 0 (rows.map Row.pn) (2 ^ d) ∧ ¬ FreeTw rows
theorem outPn_snoc {rows : List Row} {r : Row} : outPn (rows ++ [r]) = outPn rows ++ (if r.free = true then [] else [r.pn]) := by
  unfold outPn
  rw [List.filter_append, List.map_append]
  congr 1
  cases hf : r.free with
  | true => rw [List.filter_cons_of_neg (by simp [hf]), if_pos rfl]; rfl
  | false => rw [List.filter_cons_of_pos (by simp [hf]), if_neg Bool.false_ne_true]; rfl
theorem freeR_snoc {rows : List Row} {r : Row} : freeR (rows ++ [r]) = freeR rows ++ (if r.free = true then [r] else []) := by
  unfold freeR
  rw [List.filter_append]
  congr 1
  cases hf : r.free with
  | true => rw [List.filter_cons_of_pos (by simp [hf]), if_pos rfl]; rfl
  | false => rw [List.filter_cons_of_neg (by simp [hf]), if_neg Bool.false_ne_true]; rfl
theorem freeTw_more {rows more : List Row} (h : FreeTw rows) : FreeTw (rows ++ more) := by
  obtain ⟨x, hx, y, hy, f1, f2, e1, e2⟩ := h
  exact ⟨x, List.mem_append_left _ hx, y, List.mem_append_left _ hy, f1, f2, e1, e2⟩
theorem sib_place {n k : Nat} (al : n / 2 ^ k * 2 ^ k = n) : sib (sib (n / 2 ^ k) * 2 ^ k / 2 ^ k) * 2 ^ k = n := by
  rw [Nat.mul_div_cancel _ (Nat.pow_pos (by decide)), sib_sib, al]
/-- a row more: a free twin ahead of it -/
theorem freeTw_snoc {rows : List Row} {r : Row} {e : Nat} (ch : Chain 0 (rows.map Row.pn) e) (al : ∀ s ∈ rows, s.n / 2 ^ s.k * 2 ^ s.k = s.n) (en : r.n = e) (ar : r.n / 2 ^ r.k * 2 ^ r.k = r.n) (nt : ¬ FreeTw rows) :
    FreeTw (rows ++ [r]) ↔ r.free = true ∧ r.n % (2 * 2 ^ r.k) ≠ 0 ∧ ∃ s ∈ rows, s.free = true ∧ s.k = r.k ∧ s.n + 2 ^ r.k = r.n := by
  have pk : 0 < 2 ^ r.k := Nat.pow_pos (by decide)
  have below : ∀ s ∈ rows, s.n < r.n := fun s hs => by
    have h := (chain_cover ch (fun q hq => by obtain ⟨x, hx, rfl⟩ := List.mem_map.mp hq; exact al x hx) s.n).mp ⟨s.pn, List.mem_map.mpr ⟨s, hs, rfl⟩, rfl⟩
    omega
  generalize hi : r.n / 2 ^ r.k = i at ar
  have twin : ∀ s ∈ rows, s.k = r.k → s.n = sib i * 2 ^ r.k → r.n % (2 * 2 ^ r.k) ≠ 0 ∧ s.n + 2 ^ r.k = r.n := fun s hs ek es => by
    have lt := below s hs
    unfold sib at es
    by_cases ev : i % 2 = 0
    · rw [if_pos ev, Nat.succ_mul] at es
      omega
    · rw [if_neg ev, Nat.sub_mul, Nat.one_mul] at es
      have i1 : 1 ≤ i := by omega
      have := Nat.mul_le_mul_right (2 ^ r.k) i1
      refine ⟨fun z => ev ?_, by omega⟩
      rw [← ar, Nat.mul_comm 2, Nat.mul_comm i, Nat.mul_mod_mul_left] at z
      rcases Nat.mul_eq_zero.mp z with y | y
      · omega
      · exact y
  constructor
  · rintro ⟨x, hx, y, hy, f1, f2, e1, e2⟩
    rcases List.mem_append.mp hx with mx | mx <;> rcases List.mem_append.mp hy with my | my
    · exact absurd ⟨x, mx, y, my, f1, f2, e1, e2⟩ nt
    · have ey := List.mem_singleton.mp my
      subst ey
      have e3 : x.n = sib i * 2 ^ y.k := by
        rw [← e1] at e2
        rw [← hi, e2, e1, Nat.mul_div_cancel _ (Nat.pow_pos (by decide)), sib_sib, al x mx]
      exact ⟨f2, (twin x mx e1.symm e3).1, x, mx, f1, e1.symm, (twin x mx e1.symm e3).2⟩
    · have ex := List.mem_singleton.mp mx
      subst ex
      rw [hi] at e2
      exact ⟨f1, (twin y my e1 e2).1, y, my, f2, e1, (twin y my e1 e2).2⟩
    · have ex := List.mem_singleton.mp mx
      have ey := List.mem_singleton.mp my
      subst ex
      subst ey
      rw [hi] at e2
      exact absurd (Nat.eq_of_mul_eq_mul_right pk (e2.symm.trans ar.symm)) (sib_ne i)
  · rintro ⟨f, odd, s, hs, fs, ek, es⟩
    refine ⟨r, by simp, s, List.mem_append_left _ hs, f, fs, ek, ?_⟩
    rw [hi]
    unfold sib
    have ev : ¬ i % 2 = 0 := fun z => odd (by
      rw [← ar, Nat.mul_comm 2, Nat.mul_comm i, Nat.mul_mod_mul_left, z, Nat.mul_zero])
    rw [if_neg ev, Nat.sub_mul, Nat.one_mul, ar]
    omega
theorem any_dP {zs : List PI2} {q : PI2} : ((zs.map dP).any fun z => PyData.eqv z (dP q)) = decide (q ∈ zs) := by
  induction zs with
  | nil => simp
  | cons z zs ih =>
    rw [List.map_cons, List.any_cons, ih, dP_eqv]
    by_cases h : z = q
    · subst h
      simp
    · rw [decide_eq_false h, Bool.false_or, decide_eq_decide]
      exact ⟨fun g => List.mem_cons_of_mem _ g, fun g => (List.mem_cons.mp g).resolve_left fun e => h e.symm⟩
theorem paired_take {α β : Type} {F : α → β → Prop} : ∀ {l : List α} {m : List β}, Paired F l m → ∀ i, Paired F (l.take i) (m.take i)
  | _, _, .nil, i => by rw [List.take_nil, List.take_nil]; exact .nil
  | _, _, .cons a t, 0 => .nil
  | _, _, .cons a t, i + 1 => .cons a (paired_take t i)
theorem paired_get {α β : Type} {F : α → β → Prop} : ∀ {l : List α} {m : List β}, Paired F l m → ∀ {i : Nat} {x : α}, l[i]? = some x → ∃ y, m[i]? = some y ∧ F x y
  | _, _, .nil, i, x, h => by cases h
  | _, _, .cons a t, 0, x, h => by
    cases h
    exact ⟨_, rfl, a⟩
  | _, _, .cons a t, i + 1, x, h => paired_get t (i := i) h
/-- what the lines to i tell of any rows that all of them show -/
theorem shows_pre {ws : List Str} {rows rows' : List Row} {d i e : Nat} {line : Str} (sh : ShowsL ws rows' d) (pr : Paired RowOf (ws.take i) rows) (ch : Chain 0 (rows.map Row.pn) e) (hl : ws[i]? = some line) :
    ∃ r, RowOf line r ∧ r.n = e ∧ ∃ more, rows' = rows ++ r :: more := by
  obtain ⟨d60, pr', ch', nt⟩ := sh
  have e1 := rows_uniq pr (paired_take pr' i)
  obtain ⟨r, hr, ro⟩ := paired_get pr' hl
  have il := (List.getElem?_eq_some_iff.mp hr).1
  refine ⟨r, ro, ?_, rows'.drop (i + 1), ?_⟩
  · obtain ⟨c1, _⟩ := chain_take (i := i) (q := r.pn) ch' (by rw [List.getElem?_map, hr]; rfl)
    rw [← List.map_take, ← e1] at c1
    have s1 := chain_sum c1
    have s2 := chain_sum ch
    show r.pn.1 = e
    omega
  · have e2 : r :: rows'.drop (i + 1) = rows'.drop i := by
      rw [List.drop_eq_getElem_cons il]
      congr 1
      exact (Option.some.inj ((List.getElem?_eq_getElem il).symm.trans hr)).symm
    rw [e2, e1, List.take_append_drop]
def sp_law_due (K : PySem.W.Frag) (_ : Ad) : Sp := fun vs H Q _ => ∃ (l : Addr) (ws : List Str), vs = [.ref l] ∧ H l = some (.lst (ws.map V.str)) ∧ (∀ s ∈ ws, s.length ≤ 1000000) ∧ ws.length ≤ 20000 ∧
  (∀ rows d, ShowsL ws rows d → ∀ (H' : Hp) (t lo lf : Addr) (us vs : List Addr), (∀ b o, H b = some o → H' b = some o) → H' t = some (.tup [sI d, .ref lo, .ref lf]) → H' lo = some (.lst (us.map V.ref)) → Tups H' us ((outPn rows).map toI) →
    H' lf = some (.lst (vs.map V.ref)) → Tups H' vs (((freeR rows).map Row.pn).map toI) → Q (.ref t) H') ∧
  ((∀ rows d, ¬ ShowsL ws rows d) → ∀ H' : Hp, (∀ b o, H b = some o → H' b = some o) → Q .non H')
section
variable {P : Program} {w : World} {K : PySem.W.Frag} {mg : Str → Option Value} {base : Heap} {a : Ad}
theorem ok_law_due (T : Txt K mg a) : FnOk P w K mg base CX0 2 a.f_law_due a.d_law_due ["_law_lines_here"] (sp_law_due K a) := by
  have G_law_is_size : FnOk P w K mg base CX0 1 a.f_law_is_size a.d_law_is_size ["_law_size"] (sp_law_is_size K a) := ok_law_is_size T
  have G_law_number : FnOk P w K mg base CX0 1 a.f_law_number a.d_law_number ["_law_word"] (sp_law_number K a) := ok_law_number T
  refine T.law_due.fn.ok sc_law_due (fun vs H Q E h => by first | (obtain ⟨rfl, _⟩ := h; rfl) | (obtain ⟨_, rfl, _⟩ := h; rfl) | (obtain ⟨_, _, rfl, _⟩ := h; rfl) | (obtain ⟨_, _, _, rfl, _⟩ := h; rfl) | (obtain ⟨_, _, _, _, rfl, _⟩ := h; rfl) | (obtain ⟨_, _, _, _, _, rfl, _⟩ := h; rfl) | (obtain ⟨_, _, _, _, _, _, rfl, _⟩ := h; rfl) | (obtain ⟨_, _, _, _, _, _, _, rfl, _⟩ := h; rfl) | (obtain ⟨_, _, _, _, _, _, _, _, rfl, _⟩ := h; rfl) | (obtain ⟨_, _, _, _, _, _, _, _, _, rfl, _⟩ := h; rfl) | (obtain ⟨_, _, _, _, _, _, _, _, _, _, rfl, _⟩ := h; rfl) | (obtain ⟨_, _, _, _, _, _, _, _, _, _, _, rfl, _⟩ := h; rfl)) (fun cdv A outer s H vs Q E hr h => ?_)
  refine ⟨_, pss_cons (ps_set (i := 1) sc_law_due.nd rfl (Or.inl rfl) (pe_lst pa_nil))
      (pss_cons (ps_set (i := 2) sc_law_due.nd rfl (Or.inl rfl) (pe_lst pa_nil))
      (pss_cons (ps_set (i := 3) sc_law_due.nd rfl (Or.inl rfl) pe_int)
      (pss_cons (ps_for PassesOwn.never rfl (pi_list (pv 0)) (pg_name (i := 4) sc_law_due.nd rfl (Or.inl rfl)) (pss_cons (ps_set (i := 5) sc_law_due.nd rfl (Or.inl rfl) (pe_split (pv 4) pe_str))
      (pss_cons (ps_if (PW.pt (pw_or (pt_cmpR op_ne (pe_callB call_len_seq (by rfl) T.z_len PySem.boot_len (pa_cons (pv 5) pa_nil)) pe_int (nomark _)) (pw_or1 (pt_cmpR op_notIn_seq (pe_ix ix_list (pv 5) pe_int (fun _ _ => rfl)) (pe_tup (pa_cons pe_str (pa_cons pe_str pa_nil))) (by rfl))))) (pss_one (ps_ret pe_non)) pss_nil)
      (pss_cons (ps_set (i := 6) sc_law_due.nd rfl (Or.inl rfl) (pe_call G_law_number (hr.mono (by decide)) rfl T.law_number.mg T.law_number.fn.kp T.law_number.bd .nil pass0 (pa_cons (pe_ix ix_list (pv 5) pe_int (fun _ _ => rfl)) pa_nil)))
      (pss_cons (ps_set (i := 7) sc_law_due.nd rfl (Or.inl rfl) (pe_call G_law_number (hr.mono (by decide)) rfl T.law_number.mg T.law_number.fn.kp T.law_number.bd .nil pass0 (pa_cons (pe_ix ix_list (pv 5) pe_int (fun _ _ => rfl)) pa_nil)))
      (pss_cons (ps_if (PW.pt (pw_or (pt_cmpR op_ne (pv 6) (pv 3) (nomark _)) (pw_or (pt_not (pt_val (pe_call G_law_is_size (hr.mono (by decide)) rfl T.law_is_size.mg T.law_is_size.fn.kp T.law_is_size.bd .nil pass0 (pa_cons (pv 7) pa_nil)))) (pw_or1 (pt_cmpR op_ne (pe_op op_modN (pv 6) (pv 7)) pe_int (nomark _)))))) (pss_one (ps_ret pe_non)) pss_nil)
      (pss_cons (ps_set (i := 3) sc_law_due.nd rfl (Or.inl rfl) (pe_op op_add (pv 6) (pv 7)))
      (pss_one (ps_if (pt_cmpR op_eq (pe_ix ix_list (pv 5) pe_int (fun _ _ => rfl)) pe_str (nomark _)) (pss_one (ps_expr (pe_bm PySem.F.plainAttrs_list PySem.F.slot_list_append PySem.F.type_list_append mt_append (pv 1) (pa_cons (pe_tup (pa_cons (pv 6) (pa_cons (pv 7) pa_nil))) pa_nil)))) (pss_one (ps_if (PW.pt (pw_and (pt_cmpR op_ne (pe_op op_modN (pv 6) (pe_op op_mulX pe_int (pv 7))) pe_int (nomark _)) (pw_and1 (pt_cmpR (op_inD hr.units65) (pe_tup (pa_cons (pe_op op_sub (pv 6) (pv 7)) (pa_cons (pv 7) pa_nil))) (pv 2) (by rfl))))) (pss_one (ps_ret pe_non)) (pss_one (ps_expr (pe_bm PySem.F.plainAttrs_list PySem.F.slot_list_append PySem.F.type_list_append mt_append (pv 2) (pa_cons (pe_tup (pa_cons (pv 6) (pa_cons (pv 7) pa_nil))) pa_nil)))))))))))))))
      (pss_cons (ps_if (pt_not (pt_val (pe_call G_law_is_size (hr.mono (by decide)) rfl T.law_is_size.mg T.law_is_size.fn.kp T.law_is_size.bd .nil pass0 (pa_cons (pv 3) pa_nil)))) (pss_one (ps_ret pe_non)) pss_nil)
      (pss_one (ps_ret (pe_tup (pa_cons (pv 3) (pa_cons (pv 1) (pa_cons (pv 2) pa_nil)))))))))), ?_⟩
  obtain ⟨l, ws, rfl, hat, short, few, q1, q2⟩ := h
  refine ⟨by show 0 ≤ sizeLine; decide, fun lo nlo => nm ?_⟩
  refine ⟨by show 0 ≤ sizeLine; decide, fun lf nlf => nm ?_⟩
  refine nm ⟨_, rfl, l, rfl, ⟨_, SqL.of (newK nlf _ _ (newK nlo _ _ hat))⟩, ?_⟩
  have nef : lo ≠ lf := fun z => by rw [← z, upd_same] at nlf; cases nlf
  have k0 : ∀ b o, H b = some o → L2.upd (L2.upd H lo (.lst [])) lf (.lst []) b = some o := fun b o e => newK nlf _ _ (newK nlo _ _ e)
  have hlo : H lf = none := unK (newK nlo) nlf
  refine for_list (xs := ws.map V.str) (fun i σ H' => ∃ (rows : List Row) (e : Nat) (us vs : List Addr) (x4 x5 x6 x7 : Option V), σ = [some (.ref l), some (.ref lo), some (.ref lf), some (nI e), x4, x5, x6, x7] ∧ Paired RowOf (ws.take i) rows ∧ Chain 0 (rows.map Row.pn) e ∧ ¬ FreeTw rows ∧
      H' lo = some (.lst (us.map V.ref)) ∧ Tups H' us ((outPn rows).map toI) ∧ H' lf = some (.lst (vs.map V.ref)) ∧ Tups H' vs (((freeR rows).map Row.pn).map toI) ∧ (∀ b o, H b = some o → H' b = some o))
    ⟨[], 0, [], [], none, none, none, none, rfl, .nil, rfl, (fun ⟨x, hx, _⟩ => nomatch hx), newK nlf _ _ upd_same, .nil, upd_same, .nil, k0⟩ (fun i σ H' _ p => by obtain ⟨_, _, _, _, _, _, _, _, _, _, _, _, _, _, _, _, z⟩ := p; exact SqL.of (z _ _ hat)) ?_ ?_
  · rintro i v σ H4 hv ⟨rows, e, us, vs, x4, x5, x6, x7, rfl, pr, ch, nt, ho, to, hf, tf, k4⟩
    have il := (List.getElem?_eq_some_iff.mp hv).1
    rw [List.length_map] at il
    obtain ⟨line, hl⟩ : ∃ line, ws[i]? = some line := ⟨_, List.getElem?_eq_getElem il⟩
    rw [List.getElem?_map, hl] at hv
    have hv := Option.some.inj hv
    subst hv
    have ml := List.mem_of_getElem? hl
    have pre : ∀ rows' d, ShowsL ws rows' d → ∃ r, RowOf line r ∧ r.n = e ∧ ∃ more, rows' = rows ++ r :: more := fun rows' d sh => shows_pre sh pr ch hl
    have et : ws.take (i + 1) = ws.take i ++ [line] := by rw [List.take_add_one, hl]; rfl
    have al : ∀ s ∈ rows, s.n / 2 ^ s.k * 2 ^ s.k = s.n := fun s hs => by
      obtain ⟨x, _, _, _, _, _, _, _, q⟩ := paired_right pr s hs
      exact q
    have shortL := short line ml
    refine nm ⟨_, rfl, ⟨_, rfl⟩, line, _, rfl, rfl, by decide, by rw [sizeLine_eq]; omega, fun wl nwl => nm ?_⟩
    have k5 := newK (o := HO.lst ((Txt.split line " ").map V.str)) nwl
    have hwl : L2.upd H4 wl (.lst ((Txt.split line " ").map V.str)) wl = some (.lst ((Txt.split line " ").map V.str)) := upd_same
    generalize L2.upd H4 wl (.lst ((Txt.split line " ").map V.str)) = H5 at k5 hwl ⊢
    have k05 : ∀ b o, H b = some o → H5 b = some o := fun b o x => k5 _ _ (k4 _ _ x)
    have bad : (∀ r, RowOf line r → r.n = e → False) → ∀ H' : Hp, (∀ b o, H5 b = some o → H' b = some o) → Q .non H' := fun no H' k => q2 (fun rows' d sh => by
      obtain ⟨r, ro, en, _⟩ := pre rows' d sh
      exact no r ro en) H' fun b o x => k _ _ (k05 _ _ x)
    refine ⟨_, rfl, wl, _, rfl, .inl (SqL.of hwl), rfl, _, rfl, ?_⟩
    have subw := fun (x : Str) (h : x ∈ Txt.split line " ") => (split_piece h).2
    unfold RowOf at bad
    generalize hws : Txt.split line " " = words at hwl bad subw ⊢
    by_cases l3 : words.length = 3
    · obtain ⟨w0, w1, w2, rfl⟩ : ∃ w0 w1 w2, words = [w0, w1, w2] := by
        match words, l3 with
        | [w0, w1, w2], _ => exact ⟨w0, w1, w2, rfl⟩
      refine iteFof rfl ?_
      have badR : ∀ H' : Hp, (∀ b o, H5 b = some o → H' b = some o) → (∀ (r : Row), w2 = r.st → Num w0 r.n → Num w1 (2 ^ r.k) → r.k ≤ 60 → r.n / 2 ^ r.k * 2 ^ r.k = r.n → r.n = e → False) → Q .non H' := fun H' k no => bad (fun r ⟨v0, v1, x, g0, g1, g2, g3⟩ en => by
        injection x with x1 x
        injection x with x2 x
        injection x with x3 x
        subst x1
        subst x2
        exact no r x3 g0 g1 g2 g3 en) H' k
      have a0 := subw w0 (by simp)
      have a1 := subw w1 (by simp)
      refine ⟨_, rfl, wl, _, _, .str w2, rfl, rfl, SqL.of hwl, at_of (j := 2) rfl rfl, by show 2 ≤ sizeLine; decide, fun t nt6 => ?_⟩
      have k6 := newK (o := HO.tup [.str "out", .str "free"]) nt6
      have h6 : L2.upd H5 t (.tup [.str "out", .str "free"]) t = _ := upd_same
      generalize L2.upd H5 t (.tup [.str "out", .str "free"]) = H6 at k6 h6 ⊢
      refine ⟨t, _, rfl, .inr (SqT.of h6), rfl, rfl, _, rfl, ?_⟩
      have hwl6 := k6 _ _ hwl
      by_cases hw2 : w2 = "out" ∨ w2 = "free"
      · obtain ⟨fr, ef⟩ : ∃ fr : Bool, w2 = Row.st ⟨0, 0, fr⟩ := by
          rcases hw2 with h | h
          · exact ⟨false, h⟩
          · exact ⟨true, h⟩
        refine iteFof (by show (!inV (.str w2) [.str "out", .str "free"]) = false; rw [inV_two.mpr hw2]; rfl) ?_
        have k46 : ∀ b o, H4 b = some o → H6 b = some o := fun b o x => k6 _ _ (k5 _ _ x)
        have lrows : rows.length = i := by
          have := pr.length
          rw [List.length_take] at this
          omega
        refine ⟨_, rfl, wl, _, _, .str w0, rfl, rfl, SqL.of hwl6, at_of (j := 0) rfl rfl, w0, rfl, by omega, fun n hn => nm ?_, fun no0 => nm ?_⟩
        · refine ⟨_, rfl, wl, _, _, .str w1, rfl, rfl, SqL.of hwl6, at_of (j := 1) rfl rfl, w1, rfl, by omega, fun m hm => nm ?_, fun no1 => nm ?_⟩
          · dsimp only
            refine ⟨_, rfl, _, rfl, rfl, _, rfl, ?_⟩
            by_cases ee : n = e
            · refine iteFof (by show (!decide (nI n = nI e)) = false; rw [ee, decide_eq_true rfl]; rfl) ?_
              refine ⟨_, rfl, (m : Int), rfl, fun ⟨k, k60, ek⟩ => ⟨true, rfl, iteF ?_⟩, fun z => ⟨false, rfl, iteT (iteT ?_)⟩⟩
              · have ek : m = 2 ^ k := Int.ofNat.inj ek
                subst ek
                have pk : 0 < 2 ^ k := Nat.pow_pos (by decide)
                refine ⟨_, rfl, _, rfl, _, _, rfl, rfl, by show ((2 ^ k : Nat) : Int) ≠ 0; omega, rfl, _, rfl, ?_⟩
                have em : (n : Int).fmod ((2 ^ k : Nat) : Int) = ((n % 2 ^ k : Nat) : Int) := by
                  rw [Int.fmod_eq_emod_of_nonneg _ (by omega)]
                  exact (Int.natCast_emod n (2 ^ k)).symm
                have ea : n / 2 ^ k * 2 ^ k = n ↔ n % 2 ^ k = 0 := by
                  have := Nat.div_add_mod n (2 ^ k)
                  rw [Nat.mul_comm] at this
                  omega
                by_cases c3 : n % 2 ^ k = 0
                · refine iteFof (by show (!decide (V.int ((n : Int).fmod ((2 ^ k : Nat) : Int)) = V.int 0)) = false; rw [em, c3]; rfl) ?_
                  refine ⟨_, rfl, _, rfl, _, _, rfl, rfl, nm ?_⟩
                  have ro : RowOf line ⟨n, k, fr⟩ := ⟨w0, w1, by rw [hws, ef]; rfl, hn, hm, k60, ea.mpr c3⟩
                  have pr1 : Paired RowOf (ws.take (i + 1)) (rows ++ [⟨n, k, fr⟩]) := by
                    rw [et]
                    exact paired_snoc ro pr
                  have ch1 : Chain 0 ((rows ++ [(⟨n, k, fr⟩ : Row)]).map Row.pn) (n + 2 ^ k) := by
                    rw [List.map_append]
                    exact chain_app (q := (n, k)) ch ee
                  have tw := freeTw_snoc (r := (⟨n, k, fr⟩ : Row)) ch al ee (ea.mpr c3) nt
                  have eb : V.int ((n : Int) + ((2 ^ k : Nat) : Int)) = nI (n + 2 ^ k) := by
                    rw [← Int.natCast_add]
                    rfl
                  refine ⟨_, rfl, wl, _, _, .str w2, rfl, rfl, SqL.of hwl6, at_of (j := 2) rfl rfl, rfl, _, rfl, ?_⟩
                  have lu := Tups.len to
                  have lv := Tups.len tf
                  rw [List.length_map] at lu
                  rw [List.length_map, List.length_map] at lv
                  have b1 : (outPn rows).length ≤ rows.length := by
                    unfold outPn
                    rw [List.length_map]
                    exact List.length_filter_le _ _
                  have b2 : (freeR rows).length ≤ rows.length := List.length_filter_le _ _
                  have k06 : ∀ b o, H b = some o → H6 b = some o := fun b o x => k46 _ _ (k4 _ _ x)
                  -- one more in a list
                  have put : ∀ {H7 : Hp} {t lx : Addr} {xs : List Addr}, (∀ b o, H6 b = some o → H7 b = some o) → H7 t = none → H lx = none → H6 lx = some (.lst (xs.map V.ref)) →
                      (∀ b o, b ≠ lx → H6 b = some o → L2.upd (L2.upd H7 t (.tup [nI n, sI k])) lx (.lst (xs.map V.ref ++ [V.ref t])) b = some o) ∧ L2.upd (L2.upd H7 t (.tup [nI n, sI k])) lx (.lst (xs.map V.ref ++ [V.ref t])) t = some (.tup [nI n, sI k]) ∧
                      L2.upd (L2.upd H7 t (.tup [nI n, sI k])) lx (.lst (xs.map V.ref ++ [V.ref t])) lx = some (.lst ((xs ++ [t]).map V.ref)) := fun {H7 t lx xs} k7 nt7 nlx hx => by
                    refine ⟨fun b o ne x => by rw [upd_ne ne]; exact newK nt7 _ _ (k7 _ _ x), ?_, by rw [upd_same, List.map_append]; rfl⟩
                    rw [upd_ne (fun z => by rw [z, k7 _ _ hx] at nt7; cases nt7)]
                    exact upd_same
                  have nio : lo ≠ lf := nef
                  have hol : H lo = none := nlo
                  cases fr with
                  | false =>
                    refine iteTof (by show decide (V.str w2 = V.str "out") = true; rw [ef]; exact decide_eq_true rfl) ?_
                    refine ⟨_, rfl, .inl ⟨rfl, _, SqL.of (k46 _ _ ho)⟩, _, rfl, _, rfl, by show 2 ≤ sizeLine; decide, fun t nt7 => ⟨lo, us.map V.ref, V.ref t, rfl, rfl, newK nt7 _ _ (k46 _ _ ho), by rw [List.length_map, sizeLine_eq]; omega, ?_⟩⟩
                    obtain ⟨g1, g2, g3⟩ := put (fun b o x => x) nt7 hol (k46 _ _ ho)
                    have tk : ∀ t' xs, H4 t' = some (.tup xs) → _ = some (HO.tup xs) := fun t' xs x => g1 t' _ (fun z => by rw [z, ho] at x; cases x) (k46 _ _ x)
                    refine ⟨_, n + 2 ^ k, us ++ [t], vs, some (.str line), some (.ref wl), some (nI n), some (sI k), ?_, pr1, ch1, fun h => Bool.false_ne_true (tw.mp h).1, g3, ?_, g1 _ _ (Ne.symm nio) (k46 _ _ hf), ?_, fun b o x => g1 _ _ (fun z => by rw [z, hol] at x; cases x) (k06 _ _ x)⟩
                    · show [some (V.ref l), some (V.ref lo), some (V.ref lf), some (V.int ((n : Int) + ((2 ^ k : Nat) : Int))), some (V.str line), some (V.ref wl), some (nI n), some (sI k)] = _
                      rw [eb]
                    · rw [outPn_snoc, if_neg Bool.false_ne_true, List.map_append]
                      exact Tups.snoc (q := toI (n, k)) g2 (Tups.keep tk to)
                    · rw [freeR_snoc, if_neg Bool.false_ne_true, List.append_nil]
                      exact Tups.keep tk tf
                  | true =>
                    refine iteFof (by show decide (V.str w2 = V.str "out") = false; rw [ef]; decide) ?_
                    have close : ∀ (H7 : Hp) (t : Addr), (∀ b o, H6 b = some o → H7 b = some o) → H7 t = none → ¬ FreeTw (rows ++ [(⟨n, k, true⟩ : Row)]) →
                        ∃ (rows' : List Row) (e' : Nat) (us' vs' : List Addr) (y4 y5 y6 y7 : Option V), [some (V.ref l), some (V.ref lo), some (V.ref lf), some (V.int ((n : Int) + ((2 ^ k : Nat) : Int))), some (V.str line), some (V.ref wl), some (nI n), some (sI k)] = [some (.ref l), some (.ref lo), some (.ref lf), some (nI e'), y4, y5, y6, y7] ∧
                          Paired RowOf (ws.take (i + 1)) rows' ∧ Chain 0 (rows'.map Row.pn) e' ∧ ¬ FreeTw rows' ∧ L2.upd (L2.upd H7 t (.tup [nI n, sI k])) lf (.lst (vs.map V.ref ++ [V.ref t])) lo = some (.lst (us'.map V.ref)) ∧
                          Tups (L2.upd (L2.upd H7 t (.tup [nI n, sI k])) lf (.lst (vs.map V.ref ++ [V.ref t]))) us' ((outPn rows').map toI) ∧ L2.upd (L2.upd H7 t (.tup [nI n, sI k])) lf (.lst (vs.map V.ref ++ [V.ref t])) lf = some (.lst (vs'.map V.ref)) ∧
                          Tups (L2.upd (L2.upd H7 t (.tup [nI n, sI k])) lf (.lst (vs.map V.ref ++ [V.ref t]))) vs' (((freeR rows').map Row.pn).map toI) ∧
                          (∀ b o, H b = some o → L2.upd (L2.upd H7 t (.tup [nI n, sI k])) lf (.lst (vs.map V.ref ++ [V.ref t])) b = some o) := fun H7 t k7 nt7 nft => by
                      obtain ⟨g1, g2, g3⟩ := put k7 nt7 hlo (k46 _ _ hf)
                      have tk : ∀ t' xs, H4 t' = some (.tup xs) → _ = some (HO.tup xs) := fun t' xs x => g1 t' _ (fun z => by rw [z, hf] at x; cases x) (k46 _ _ x)
                      refine ⟨_, n + 2 ^ k, us, vs ++ [t], _, _, _, _, by rw [eb], pr1, ch1, nft, g1 _ _ nio (k46 _ _ ho), ?_, g3, ?_, fun b o x => g1 _ _ (fun z => by rw [z, hlo] at x; cases x) (k06 _ _ x)⟩
                      · rw [outPn_snoc, if_pos rfl, List.append_nil]
                        exact Tups.keep tk to
                      · rw [freeR_snoc, if_pos rfl, List.map_append, List.map_append]
                        exact Tups.snoc (q := toI (n, k)) g2 (Tups.keep tk tf)
                    have p60 := pow60 k60
                    refine ⟨_, rfl, _, rfl, _, _, rfl, rfl, mulx_ok (a := 3) (b := 64) (by decide) (by rw [Int.natAbs_natCast]; omega) (by decide), _, _, rfl, rfl, by omega, rfl, _, rfl, ?_⟩
                    have e2 : (n : Int).fmod (2 * ((2 ^ k : Nat) : Int)) = ((n % (2 * 2 ^ k) : Nat) : Int) := by
                      rw [Int.fmod_eq_emod_of_nonneg _ (by omega)]
                      exact (Int.natCast_emod n (2 * 2 ^ k)).symm
                    by_cases odd : n % (2 * 2 ^ k) = 0
                    · refine iteFof (by show (!decide (V.int ((n : Int).fmod (2 * ((2 ^ k : Nat) : Int))) = V.int 0)) = false; rw [e2, odd]; rfl) (iteF ?_)
                      refine ⟨_, rfl, .inl ⟨rfl, _, SqL.of (k46 _ _ hf)⟩, _, rfl, _, rfl, by show 2 ≤ sizeLine; decide, fun t nt7 => ⟨lf, vs.map V.ref, V.ref t, rfl, rfl, newK nt7 _ _ (k46 _ _ hf), by rw [List.length_map, sizeLine_eq]; omega, ?_⟩⟩
                      exact close H6 t (fun b o x => x) nt7 fun h => (tw.mp h).2.1 odd
                    · refine iteTof (by show (!decide (V.int ((n : Int).fmod (2 * ((2 ^ k : Nat) : Int))) = V.int 0)) = true; rw [e2, decide_eq_false fun z => odd (by have := V.int.inj z; omega)]; rfl) ?_
                      refine ⟨_, rfl, _, rfl, _, _, rfl, rfl, _, rfl, by show 2 ≤ sizeLine; decide, fun tt ntt => ?_⟩
                      dsimp only
                      have k7 := newK (o := HO.tup [.int ((n : Int) - ((2 ^ k : Nat) : Int)), nI (2 ^ k)]) ntt
                      have h7 : L2.upd H6 tt (.tup [.int ((n : Int) - ((2 ^ k : Nat) : Int)), nI (2 ^ k)]) tt = _ := upd_same
                      have tv : Tups (L2.upd H6 tt (.tup [.int ((n : Int) - ((2 ^ k : Nat) : Int)), nI (2 ^ k)])) vs (((freeR rows).map Row.pn).map toI) := Tups.keep (fun t' xs x => k7 _ _ (k46 _ _ x)) tf
                      generalize L2.upd H6 tt (.tup [.int ((n : Int) - ((2 ^ k : Nat) : Int)), nI (2 ^ k)]) = H7 at k7 h7 tv ⊢
                      refine ⟨_, rfl, dP ((n : Int) - ((2 ^ k : Nat) : Int), ((2 ^ k : Nat) : Int)), _, dp_pair h7, dp_list (k7 _ _ (k46 _ _ hf)) tv, dP_shaped _, dL_shaped _, _, rfl, ?_⟩
                      rw [any_dP]
                      have mem : ((n : Int) - ((2 ^ k : Nat) : Int), ((2 ^ k : Nat) : Int)) ∈ ((freeR rows).map Row.pn).map toI ↔ ∃ s ∈ rows, s.free = true ∧ s.k = k ∧ s.n + 2 ^ k = n := by
                        constructor
                        · intro h
                          obtain ⟨q, hq, x⟩ := List.mem_map.mp h
                          obtain ⟨s, hs, rfl⟩ := List.mem_map.mp hq
                          obtain ⟨s1, s2⟩ := List.mem_filter.mp hs
                          have x1 : (s.n : Int) = (n : Int) - ((2 ^ k : Nat) : Int) := congrArg Prod.fst x
                          have x2 : ((2 ^ s.k : Nat) : Int) = ((2 ^ k : Nat) : Int) := congrArg Prod.snd x
                          exact ⟨s, s1, s2, pow_inj x2, by omega⟩
                        · rintro ⟨s, s1, s2, s3, s4⟩
                          refine List.mem_map.mpr ⟨s.pn, List.mem_map.mpr ⟨s, List.mem_filter.mpr ⟨s1, s2⟩, rfl⟩, ?_⟩
                          refine Prod.ext ?_ ?_
                          · show (s.n : Int) = (n : Int) - ((2 ^ k : Nat) : Int)
                            omega
                          · show ((2 ^ s.k : Nat) : Int) = ((2 ^ k : Nat) : Int)
                            rw [s3]
                      by_cases inn : ((n : Int) - ((2 ^ k : Nat) : Int), ((2 ^ k : Nat) : Int)) ∈ ((freeR rows).map Row.pn).map toI
                      · refine iteTof (decide_eq_true inn) ?_
                        refine q2 (fun rows' d sh => ?_) H7 fun b o x => k7 _ _ (k06 _ _ x)
                        obtain ⟨r, ro', _, more, em'⟩ := pre rows' d sh
                        have := rowOf_uniq ro ro'
                        subst this
                        refine sh.2.2.2 ?_
                        rw [em', show rows ++ (⟨n, k, true⟩ : Row) :: more = (rows ++ [(⟨n, k, true⟩ : Row)]) ++ more by simp]
                        exact freeTw_more (tw.mpr ⟨rfl, odd, mem.mp inn⟩)
                      · refine iteFof (decide_eq_false inn) ?_
                        refine ⟨_, rfl, .inl ⟨rfl, _, SqL.of (k7 _ _ (k46 _ _ hf))⟩, _, rfl, _, rfl, by show 2 ≤ sizeLine; decide, fun t nt7 => ⟨lf, vs.map V.ref, V.ref t, rfl, rfl, newK nt7 _ _ (k7 _ _ (k46 _ _ hf)), by rw [List.length_map, sizeLine_eq]; omega, ?_⟩⟩
                        exact close H7 t k7 nt7 fun h => inn (mem.mpr (tw.mp h).2.2)
                · refine iteTof (by show (!decide (V.int ((n : Int).fmod ((2 ^ k : Nat) : Int)) = V.int 0)) = true; rw [em, decide_eq_false fun z => c3 (by have := V.int.inj z; omega)]; rfl) ?_
                  refine badR H6 k6 fun r _ g0 g1 _ g3 _ => c3 (ea.mp ?_)
                  have en := num_uniq hn g0
                  have ek := num_uniq hm g1
                  rw [← en, ← ek] at g3
                  exact g3
              · exact badR H6 k6 fun r _ _ g1 g2 _ _ => z ⟨r.k, g2, by rw [num_uniq hm g1]⟩
            · refine iteTof (by show (!decide (nI n = nI e)) = true; rw [decide_eq_false (show ¬ nI n = nI e from fun z => ee (Int.ofNat.inj (V.int.inj z)))]; rfl) (iteT ?_)
              exact badR H6 k6 fun r _ g0 _ _ _ en => ee ((num_uniq hn g0).trans en)
          · dsimp only
            refine ⟨_, rfl, _, rfl, rfl, _, rfl, ite2 (fun _ => iteT ?_) (fun _ => ?_)⟩
            · exact badR H6 k6 fun r _ _ g1 _ _ _ => no1 _ g1
            · refine ⟨_, rfl, (-1 : Int), rfl, fun ⟨k, k60, ek⟩ => ?_, fun z => ⟨false, rfl, iteT (iteT ?_)⟩⟩
              · have : 0 < 2 ^ k := Nat.pow_pos (by decide)
                omega
              · exact badR H6 k6 fun r _ _ g1 _ _ _ => no1 _ g1
        · refine ⟨_, rfl, wl, _, _, .str w1, rfl, rfl, SqL.of hwl6, at_of (j := 1) rfl rfl, w1, rfl, by omega, fun m hm => nm ?_, fun no1 => nm ?_⟩
          · dsimp only
            refine ⟨_, rfl, _, rfl, rfl, _, rfl, iteTof (by show (!decide (V.int (-1) = nI e)) = true; rw [decide_eq_false fun z => by have := V.int.inj z; omega]; rfl) (iteT ?_)⟩
            exact badR H6 k6 fun r _ g0 _ _ _ _ => no0 _ g0
          · dsimp only
            refine ⟨_, rfl, _, rfl, rfl, _, rfl, iteTof (by show (!decide (V.int (-1) = nI e)) = true; rw [decide_eq_false fun z => by have := V.int.inj z; omega]; rfl) (iteT ?_)⟩
            exact badR H6 k6 fun r _ g0 _ _ _ _ => no0 _ g0
      · refine iteTof ?_ ?_
        · show (!inV (.str w2) [.str "out", .str "free"]) = true
          rw [show inV (.str w2) [.str "out", .str "free"] = false from Bool.eq_false_iff.mpr fun z => hw2 (inV_two.mp z)]
          rfl
        · refine badR H6 k6 fun r x3 _ _ _ _ _ => hw2 ?_
          rw [x3]
          unfold Row.st
          cases r.free
          · exact .inl rfl
          · exact .inr rfl
    · refine iteTof ?_ (iteT ?_)
      · show (!decide (V.int ((words.map V.str).length : Int) = V.int 3)) = true
        rw [List.length_map, decide_eq_false (fun z => l3 (by have := V.int.inj z; omega))]
        rfl
      · exact bad (fun r ⟨v0, v1, e, _⟩ _ => l3 (by rw [e]; rfl)) H5 fun b o e => e
  · rintro σ H4 ⟨rows, e, us, vs, x4, x5, x6, x7, rfl, pr, ch, nt, ho, to, hf, tf, k4⟩
    rw [List.length_map, List.take_length] at pr
    refine ⟨_, rfl, (e : Int), rfl, fun ⟨d, d60, ed⟩ => ⟨true, rfl, iteF ?_⟩, fun z => ⟨false, rfl, iteT ?_⟩⟩
    · have ed : e = 2 ^ d := Int.ofNat.inj ed
      subst ed
      refine ⟨_, rfl, _, rfl, _, rfl, by show 3 ≤ sizeLine; decide, fun t nt' => ?_⟩
      have k5 := newK (o := HO.tup [sI d, .ref lo, .ref lf]) nt'
      exact q1 rows d ⟨d60, pr, ch, nt⟩ _ t lo lf us vs (fun b o x => k5 _ _ (k4 _ _ x)) upd_same (k5 _ _ ho) (Tups.keep (fun t' xs x => k5 _ _ x) to) (k5 _ _ hf) (Tups.keep (fun t' xs x => k5 _ _ x) tf)
    · refine q2 (fun rows' d sh => z ⟨d, sh.1, ?_⟩) H4 k4
      have ch' := sh.2.2.1
      rw [← rows_uniq pr sh.2.1] at ch'
      have s1 := chain_sum ch
      have s2 := chain_sum ch'
      have : e = 2 ^ d := by omega
      rw [this]
end
/-! ### law_k14: the other lines -/
def Sh (k : Nat) (s : Str) : Prop := s.length ≤ k ∧ Plain s
theorem Sh.up {k m : Nat} {s : Str} (h : Sh k s) (l : k ≤ m) : Sh m s := ⟨Nat.le_trans h.1 l, h.2⟩
theorem shC (s : Str) (h : (decide (s.length ≤ 24) && s.cps.toList.all fun c => decide (c < 128) && decide (c ≠ 10)) = true) : Sh 24 s := by
  rw [Bool.and_eq_true, decide_eq_true_iff, List.all_eq_true] at h
  refine ⟨h.1, fun c hc => ?_⟩
  have := h.2 c hc
  rw [Bool.and_eq_true, decide_eq_true_iff, decide_eq_true_iff] at this
  exact this
theorem shN {n : Nat} (h : n ≤ 2 ^ 72) : Sh 22 (numS n) := ⟨numS_len (by decide) (Nat.lt_of_le_of_lt h (by decide)), num_plain n⟩
theorem shI {n : Nat} (h : n ≤ 2 ^ 72) : Sh 22 (Str.ofString (toString ((n : Nat) : Int))) := shN h
theorem word_plain (b : Bool) : Plain (wordS b) := by cases b <;> exact (shC _ (by decide +kernel)).2
theorem sh_cut {k : Nat} {s : Str} {lo hi : Option Int} (h : Sh k s) : Sh k (cutS s lo hi) := by
  unfold cutS
  have el : s.cps.toList.length = s.length := Array.length_toList
  refine ⟨?_, fun c hc => h.2 c (List.mem_of_mem_drop (List.mem_of_mem_take hc))⟩
  show ((List.take _ (List.drop _ s.cps.toList)).toArray).size ≤ k
  rw [List.size_toArray, List.length_take, List.length_drop]
  have := h.1
  omega
theorem add_sh {x y : Str} {j k : Nat} (hx : Sh j x) (hy : Sh k y) (l : j + k ≤ 1000) : x.length + y.length ≤ sizeLine ∧ Sh (j + k) (x ++ y) := by
  have e := len_app x y
  have h1 := hx.1
  have h2 := hy.1
  exact ⟨by rw [sizeLine_eq]; omega, by omega, hx.2.app hy.2⟩
/-- so many short texts -/
def AllS (k : Nat) (L : List Str) : Prop := (∀ s ∈ L, Sh 200 s) ∧ 1 ≤ L.length ∧ L.length ≤ k
theorem allS_nil : ∀ s ∈ ([] : List Str), Sh 200 s := fun s h => by cases h
theorem allS_cons {x : Str} {L : List Str} (h : Sh 200 x) (g : ∀ s ∈ L, Sh 200 s) : ∀ s ∈ x :: L, Sh 200 s := fun s hs => by
  rcases List.mem_cons.mp hs with rfl | hs
  · exact h
  · exact g s hs
theorem new_next {H : Hp} {M : List Str} {D : St → Hp → Prop} {σ : St} {k : Nat} (hM : ∀ s ∈ M, Sh 200 s) {j : Nat} (few : M.length = j) (j1 : 1 ≤ j ∧ j ≤ 1000)
    (h : ∀ (H' : Hp) (p : Addr), (∀ b o, H b = some o → H' b = some o) → StrsAt H' p M → AllS j M → D (σ.set k (some (.ref p))) H') :
    (M.map V.str).length ≤ sizeLine ∧ ∀ p, H p = none → gName k (.ref p) σ (L2.upd H p (.lst (M.map V.str))) D :=
  ⟨by rw [List.length_map, sizeLine_eq]; omega, fun p hp => h _ p (newK hp) upd_same ⟨hM, by omega, by omega⟩⟩
theorem cat_next {H : Hp} {po : Addr} {L M : List Str} {D : St → Hp → Prop} {σ : St} {k j m : Nat} (few : M.length = m) (j1 : j + m ≤ 1000) (hpo : StrsAt H po L) (hL : AllS j L) (hM : ∀ s ∈ M, Sh 200 s)
    (h : ∀ (H' : Hp) (p : Addr), (∀ b o, H b = some o → H' b = some o) → StrsAt H' p (L ++ M) → AllS (j + m) (L ++ M) → D (σ.set k (some (.ref p))) H') :
    (M.map V.str).length ≤ sizeLine ∧ ∀ lb, H lb = none → rCat (.ref po) (.ref lb) (L2.upd H lb (.lst (M.map V.str))) fun x H1 => gName k x σ H1 D := by
  have l2 := hL.2.2
  refine ⟨by rw [List.length_map, sizeLine_eq]; omega, fun lb nlb => ⟨po, lb, _, _, rfl, rfl, newK nlb _ _ hpo, upd_same, by rw [List.length_map, List.length_map, sizeLine_eq]; omega, fun p np => ?_⟩⟩
  rw [← List.map_append]
  refine h _ p (fun b o e => newK np _ _ (newK nlb _ _ e)) upd_same ⟨fun s hs => ?_, ?_, ?_⟩
  · rcases List.mem_append.mp hs with hs | hs
    · exact hL.1 s hs
    · exact hM s hs
  · rw [List.length_append]
    have := hL.2.1
    omega
  · rw [List.length_append]
    omega
theorem int_any {n : Nat} (h : (numS n).length ≤ 4300) : PySem.intText? (numS n) = some ((n : Nat) : Int) := by
  have e := PySem.intText_digits (numS_digits n) (numS_ne n) h
  unfold numS at e ⊢
  rw [PySem.W.KIN.signs_num, PySem.W.KIN.val_back] at e
  exact e
def sp_law_others (_ : PySem.W.Frag) (_ : Ad) : Sp := fun vs H Q _ => ∃ (n m : Nat) (f : Bool), vs = [.str (lineS n m f)] ∧ 1 ≤ m ∧ n + m ≤ 2 ^ 70 ∧
  ∀ (H' : Hp) (p : Addr) (L : List Str), (∀ b o, H b = some o → H' b = some o) → StrsAt H' p L → (∀ s ∈ L, Sh 200 s) → 1 ≤ L.length → L.length ≤ 100 → Q (.ref p) H'
section
variable {P : Program} {w : World} {K : PySem.W.Frag} {mg : Str → Option Value} {base : Heap} {a : Ad}
set_option maxHeartbeats 8000000 in
theorem ok_law_others (T : Txt K mg a) : FnOk P w K mg base CX0 1 a.f_law_others a.d_law_others ["_law_line"] (sp_law_others K a) := by
  refine T.law_others.fn.ok sc_law_others (fun vs H Q E h => by first | (obtain ⟨rfl, _⟩ := h; rfl) | (obtain ⟨_, rfl, _⟩ := h; rfl) | (obtain ⟨_, _, rfl, _⟩ := h; rfl) | (obtain ⟨_, _, _, rfl, _⟩ := h; rfl) | (obtain ⟨_, _, _, _, rfl, _⟩ := h; rfl) | (obtain ⟨_, _, _, _, _, rfl, _⟩ := h; rfl) | (obtain ⟨_, _, _, _, _, _, rfl, _⟩ := h; rfl) | (obtain ⟨_, _, _, _, _, _, _, rfl, _⟩ := h; rfl) | (obtain ⟨_, _, _, _, _, _, _, _, rfl, _⟩ := h; rfl) | (obtain ⟨_, _, _, _, _, _, _, _, _, rfl, _⟩ := h; rfl) | (obtain ⟨_, _, _, _, _, _, _, _, _, _, rfl, _⟩ := h; rfl) | (obtain ⟨_, _, _, _, _, _, _, _, _, _, _, rfl, _⟩ := h; rfl)) (fun cdv A outer s H vs Q E hr h => ?_)
  refine ⟨_, pss_cons (ps_set (i := 1) sc_law_others.nd rfl (Or.inl rfl) (pe_split (pv 0) pe_str))
      (pss_cons (ps_set (i := 2) sc_law_others.nd rfl (Or.inl rfl) (pe_callTy call_int_str (by rfl) T.z_int (by decide +kernel) (pa_cons (pe_ix ix_list (pv 1) pe_int (fun _ _ => rfl)) pa_nil)))
      (pss_cons (ps_set (i := 3) sc_law_others.nd rfl (Or.inl rfl) (pe_callTy call_int_str (by rfl) T.z_int (by decide +kernel) (pa_cons (pe_ix ix_list (pv 1) pe_int (fun _ _ => rfl)) pa_nil)))
      (pss_cons (ps_set (i := 4) sc_law_others.nd rfl (Or.inl rfl) (pe_lst (pa_cons (pe_op op_add_str pe_str (pv 0)) (pa_cons (pe_op op_add_str pe_str (pv 0)) (pa_cons (pe_op op_add_str (pv 0) pe_str) (pa_cons (pe_op op_add_str pe_str (pv 0)) pa_nil))))))
      (pss_cons (ps_set (i := 4) sc_law_others.nd rfl (Or.inl rfl) (pe_op op_cat (pv 4) (pe_lst (pa_cons (pe_op op_add_str (pe_op op_add_str (pe_op op_add_str (pe_op op_add_str (pe_ix ix_list (pv 1) pe_int (fun _ _ => rfl)) pe_str) (pe_ix ix_list (pv 1) pe_int (fun _ _ => rfl))) pe_str) (pe_ix ix_list (pv 1) pe_int (fun _ _ => rfl))) (pa_cons (pe_op op_add_str (pe_op op_add_str (pe_ix ix_list (pv 1) pe_int (fun _ _ => rfl)) pe_str) (pe_ix ix_list (pv 1) pe_int (fun _ _ => rfl))) (pa_cons pe_str (pa_cons pe_str pa_nil)))))))
      (pss_cons (ps_set (i := 4) sc_law_others.nd rfl (Or.inl rfl) (pe_op op_cat (pv 4) (pe_lst (pa_cons (pe_op op_add_str (pe_op op_add_str (pe_op op_add_str (pe_op op_add_str (pe_ix ix_list (pv 1) pe_int (fun _ _ => rfl)) pe_str) (pe_ix ix_list (pv 1) pe_int (fun _ _ => rfl))) pe_str) (pe_ix ix_list (pv 1) pe_int (fun _ _ => rfl))) (pa_cons (pe_op op_add_str (pe_op op_add_str (pe_op op_add_str (pe_ix ix_list (pv 1) pe_int (fun _ _ => rfl)) pe_str) (pe_ix ix_list (pv 1) pe_int (fun _ _ => rfl))) pe_str) pa_nil)))))
      (pss_cons (ps_set (i := 4) sc_law_others.nd rfl (Or.inl rfl) (pe_op op_cat (pv 4) (pe_lst (pa_cons (pe_op op_add_str (pe_op op_add_str (pe_op op_add_str (pe_op op_add_str (pe_callTy call_str_int (by rfl) T.z_str (by decide +kernel) (pa_cons (pe_op op_add (pv 2) pe_int) pa_nil)) pe_str) (pe_ix ix_list (pv 1) pe_int (fun _ _ => rfl))) pe_str) (pe_ix ix_list (pv 1) pe_int (fun _ _ => rfl))) (pa_cons (pe_op op_add_str (pe_op op_add_str (pe_op op_add_str (pe_ix ix_list (pv 1) pe_int (fun _ _ => rfl)) pe_str) (pe_callTy call_str_int (by rfl) T.z_str (by decide +kernel) (pa_cons (pe_op op_sub (pv 3) pe_int) pa_nil))) pe_str) pa_nil)))))
      (pss_cons (ps_set (i := 4) sc_law_others.nd rfl (Or.inl rfl) (pe_op op_cat (pv 4) (pe_lst (pa_cons (pe_op op_add_str (pe_op op_add_str (pe_op op_add_str (pe_ix ix_list (pv 1) pe_int (fun _ _ => rfl)) pe_str) (pe_callTy call_str_int (by rfl) T.z_str (by decide +kernel) (pa_cons (pe_op op_add (pv 3) pe_int) pa_nil))) pe_str) (pa_cons (pe_op op_add_str (pe_op op_add_str (pe_op op_add_str (pe_op op_add_str (pe_ix ix_list (pv 1) pe_int (fun _ _ => rfl)) pe_str) (pe_callTy call_str_int (by rfl) T.z_str (by decide +kernel) (pa_cons (pe_op op_mulX (pv 3) pe_int) pa_nil))) pe_str) (pe_ix ix_list (pv 1) pe_int (fun _ _ => rfl))) pa_nil)))))
      (pss_cons (ps_set (i := 4) sc_law_others.nd rfl (Or.inl rfl) (pe_op op_cat (pv 4) (pe_lst (pa_cons (pe_op op_add_str (pe_op op_add_str (pe_op op_add_str (pe_ix ix_list (pv 1) pe_int (fun _ _ => rfl)) pe_str) (pe_ix ix_list (pv 1) pe_int (fun _ _ => rfl))) pe_str) (pa_cons (pe_op op_add_str (pe_op op_add_str (pe_op op_add_str (pe_ix ix_list (pv 1) pe_int (fun _ _ => rfl)) pe_str) (pe_ix ix_list (pv 1) pe_int (fun _ _ => rfl))) pe_str) pa_nil)))))
      (pss_cons (ps_set (i := 4) sc_law_others.nd rfl (Or.inl rfl) (pe_op op_cat (pv 4) (pe_lst (pa_cons (pe_op op_add_str (pe_op op_add_str pe_str (pe_ix ix_list (pv 1) pe_int (fun _ _ => rfl))) pe_str) (pa_cons (pe_op op_add_str (pe_op op_add_str (pe_op op_add_str (pe_ix ix_list (pv 1) pe_int (fun _ _ => rfl)) pe_str) (pe_ix ix_list (pv 1) pe_int (fun _ _ => rfl))) pe_str) (pa_cons (pe_op op_add_str (pe_ix ix_list (pv 1) pe_int (fun _ _ => rfl)) pe_str) pa_nil))))))
      (pss_cons (ps_set (i := 4) sc_law_others.nd rfl (Or.inl rfl) (pe_op op_cat (pv 4) (pe_lst (pa_cons (pe_op op_add_str (pe_op op_add_str (pe_op op_add_str (pe_ix ix_list (pv 1) pe_int (fun _ _ => rfl)) pe_str) (pe_ix ix_list (pv 1) pe_int (fun _ _ => rfl))) pe_str) (pa_cons (pe_op op_add_str (pe_op op_add_str (pe_op op_add_str (pe_ix ix_list (pv 1) pe_int (fun _ _ => rfl)) pe_str) (pe_ix ix_list (pv 1) pe_int (fun _ _ => rfl))) pe_str) pa_nil)))))
      (pss_cons (ps_set (i := 4) sc_law_others.nd rfl (Or.inl rfl) (pe_op op_cat (pv 4) (pe_lst (pa_cons (pe_op op_add_str (pv 0) pe_str) (pa_cons (pe_op op_add_str (pv 0) pe_str) (pa_cons (pe_op op_add_str (pv 0) pe_str) (pa_cons (pe_slice sl_str (pv 0) po_none (po_some (pe_un un_neg pe_int))) pa_nil)))))))
      (pss_cons (ps_set (i := 4) sc_law_others.nd rfl (Or.inl rfl) (pe_op op_cat (pv 4) (pe_lst (pa_cons (pe_op op_add_str (pv 0) pe_str) (pa_cons (pe_op op_add_str (pe_op op_add_str (pe_op op_add_str (pe_ix ix_list (pv 1) pe_int (fun _ _ => rfl)) pe_str) (pe_ix ix_list (pv 1) pe_int (fun _ _ => rfl))) pe_str) (pa_cons (pe_op op_add_str (pe_op op_add_str (pe_op op_add_str (pe_ix ix_list (pv 1) pe_int (fun _ _ => rfl)) pe_str) (pe_ix ix_list (pv 1) pe_int (fun _ _ => rfl))) pe_str) pa_nil))))))
      (pss_cons (ps_set (i := 4) sc_law_others.nd rfl (Or.inl rfl) (pe_op op_cat (pv 4) (pe_lst (pa_cons (pe_op op_add_str (pe_op op_add_str (pe_op op_add_str (pe_ix ix_list (pv 1) pe_int (fun _ _ => rfl)) pe_str) (pe_ix ix_list (pv 1) pe_int (fun _ _ => rfl))) pe_str) (pa_cons (pe_op op_add_str (pe_op op_add_str (pe_op op_add_str (pe_ix ix_list (pv 1) pe_int (fun _ _ => rfl)) pe_str) (pe_ix ix_list (pv 1) pe_int (fun _ _ => rfl))) pe_str) pa_nil)))))
      (pss_one (ps_ret (pv 4)))))))))))))))), ?_⟩
  obtain ⟨n, m, f, rfl, le1, le, q⟩ := h
  have hline : Sh 52 (lineS n m f) := by
    have n22 := shN (n := n) (by omega)
    have m22 := shN (n := m) (by omega)
    have b1 : Sh 1 " " := ⟨by decide +kernel, (shC " " (by decide +kernel)).2⟩
    have wl := word4 f
    refine ⟨?_, (((n22.2.app b1.2).app m22.2).app b1.2).app (word_plain f)⟩
    unfold lineS
    rw [len_app, len_app, len_app, len_app]
    have := n22.1
    have := m22.1
    have := b1.1
    omega
  have hs : Txt.split (lineS n m f) " " = [numS n, numS m, wordS f] := split3 (num_solid n) (num_solid m) (word_solid f)
  refine ⟨_, rfl, ⟨_, rfl⟩, lineS n m f, _, rfl, rfl, by decide, by rw [sizeLine_eq]; have := hline.1; omega, fun wl nwl => nm ?_⟩
  rw [hs]
  have k1 := newK (o := HO.lst ([numS n, numS m, wordS f].map V.str)) nwl
  have hw : L2.upd H wl (.lst ([numS n, numS m, wordS f].map V.str)) wl = some (.lst ([numS n, numS m, wordS f].map V.str)) := upd_same
  generalize L2.upd H wl (.lst ([numS n, numS m, wordS f].map V.str)) = H1 at k1 hw ⊢
  have hw0 : Sh 22 (numS n) := shN (by omega)
  have hw1 : Sh 22 (numS m) := shN (by omega)
  have hw2 : Sh 22 (wordS f) := ⟨Nat.le_trans (word4 f) (by decide), word_plain f⟩
  have l0 := numS_len (n := n) (k := 19 + 3) (by decide) (Nat.lt_of_le_of_lt (show n ≤ 2 ^ 70 by omega) (by decide))
  have l1 := numS_len (n := m) (k := 19 + 3) (by decide) (Nat.lt_of_le_of_lt (show m ≤ 2 ^ 70 by omega) (by decide))
  have i0 : PySem.intText? (numS n) = some (n : Int) := int_any (by omega)
  have i1 : PySem.intText? (numS m) = some (m : Int) := int_any (by omega)
  have kw : ∀ b o, H1 b = some o → H1 b = some o := fun b o e => e
  refine ⟨_, rfl, wl, _, _, V.str (numS n), rfl, rfl, SqL.of hw, at_of (j := 0) rfl rfl, numS n, _, rfl, i0, by omega, nm ?_⟩
  refine ⟨_, rfl, wl, _, _, V.str (numS m), rfl, rfl, SqL.of hw, at_of (j := 1) rfl rfl, numS m, _, rfl, i1, by omega, nm ?_⟩
  refine ⟨_, rfl, ?_⟩
  have h2 := add_sh (shC "0" (by decide +kernel)) hline (by decide)
  refine ⟨_, _, rfl, rfl, h2.1, ?_⟩
  replace h2 := h2.2
  generalize ("0" : Str) ++ lineS n m f = z1 at h2 ⊢
  refine ⟨_, rfl, ?_⟩
  have h4 := add_sh (shC " " (by decide +kernel)) hline (by decide)
  refine ⟨_, _, rfl, rfl, h4.1, ?_⟩
  replace h4 := h4.2
  generalize (" " : Str) ++ lineS n m f = z3 at h4 ⊢
  refine ⟨_, rfl, ?_⟩
  have h6 := add_sh hline (shC " " (by decide +kernel)) (by decide)
  refine ⟨_, _, rfl, rfl, h6.1, ?_⟩
  replace h6 := h6.2
  generalize lineS n m f ++ (" " : Str) = z5 at h6 ⊢
  refine ⟨_, rfl, ?_⟩
  have h8 := add_sh (shC "+" (by decide +kernel)) hline (by decide)
  refine ⟨_, _, rfl, rfl, h8.1, ?_⟩
  replace h8 := h8.2
  generalize ("+" : Str) ++ lineS n m f = z7 at h8 ⊢
  refine new_next (M := [_, _, _, _]) ?_ (j := 4) rfl (by decide) (fun H2 p2 k2 a2 b2 => ?_)
  · exact (allS_cons (Sh.up h2 (by decide)) (allS_cons (Sh.up h4 (by decide)) (allS_cons (Sh.up h6 (by decide)) (allS_cons (Sh.up h8 (by decide)) allS_nil))))
  have kw : ∀ b o, H1 b = some o → H2 b = some o := fun b o e => k2 _ _ (kw b o e)
  refine ⟨_, rfl, ?_⟩
  refine ⟨_, rfl, wl, _, _, V.str (numS n), rfl, rfl, SqL.of (kw _ _ hw), at_of (j := 0) rfl rfl, ?_⟩
  have h10 := add_sh hw0 (shC "  " (by decide +kernel)) (by decide)
  refine ⟨_, _, rfl, rfl, h10.1, ?_⟩
  replace h10 := h10.2
  generalize numS n ++ ("  " : Str) = z9 at h10 ⊢
  refine ⟨_, rfl, wl, _, _, V.str (numS m), rfl, rfl, SqL.of (kw _ _ hw), at_of (j := 1) rfl rfl, ?_⟩
  have h12 := add_sh h10 hw1 (by decide)
  refine ⟨_, _, rfl, rfl, h12.1, ?_⟩
  replace h12 := h12.2
  generalize z9 ++ numS m = z11 at h12 ⊢
  have h14 := add_sh h12 (shC " " (by decide +kernel)) (by decide)
  refine ⟨_, _, rfl, rfl, h14.1, ?_⟩
  replace h14 := h14.2
  generalize z11 ++ (" " : Str) = z13 at h14 ⊢
  refine ⟨_, rfl, wl, _, _, V.str (wordS f), rfl, rfl, SqL.of (kw _ _ hw), at_of (j := 2) rfl rfl, ?_⟩
  have h16 := add_sh h14 hw2 (by decide)
  refine ⟨_, _, rfl, rfl, h16.1, ?_⟩
  replace h16 := h16.2
  generalize z13 ++ wordS f = z15 at h16 ⊢
  refine ⟨_, rfl, wl, _, _, V.str (numS n), rfl, rfl, SqL.of (kw _ _ hw), at_of (j := 0) rfl rfl, ?_⟩
  have h18 := add_sh hw0 (shC " " (by decide +kernel)) (by decide)
  refine ⟨_, _, rfl, rfl, h18.1, ?_⟩
  replace h18 := h18.2
  generalize numS n ++ (" " : Str) = z17 at h18 ⊢
  refine ⟨_, rfl, wl, _, _, V.str (numS m), rfl, rfl, SqL.of (kw _ _ hw), at_of (j := 1) rfl rfl, ?_⟩
  have h20 := add_sh h18 hw1 (by decide)
  refine ⟨_, _, rfl, rfl, h20.1, ?_⟩
  replace h20 := h20.2
  generalize z17 ++ numS m = z19 at h20 ⊢
  refine cat_next (M := [_, _, _, _]) (m := 4) rfl (by decide) a2 b2 ?_ (fun H3 p3 k3 a3 b3 => ?_)
  · exact (allS_cons (Sh.up h16 (by decide)) (allS_cons (Sh.up h20 (by decide)) (allS_cons (Sh.up (shC "" (by decide +kernel)) (by decide)) (allS_cons (Sh.up (shC "out" (by decide +kernel)) (by decide)) allS_nil))))
  have kw : ∀ b o, H1 b = some o → H3 b = some o := fun b o e => k3 _ _ (kw b o e)
  refine ⟨_, rfl, ?_⟩
  refine ⟨_, rfl, wl, _, _, V.str (numS n), rfl, rfl, SqL.of (kw _ _ hw), at_of (j := 0) rfl rfl, ?_⟩
  have h22 := add_sh hw0 (shC " 0" (by decide +kernel)) (by decide)
  refine ⟨_, _, rfl, rfl, h22.1, ?_⟩
  replace h22 := h22.2
  generalize numS n ++ (" 0" : Str) = z21 at h22 ⊢
  refine ⟨_, rfl, wl, _, _, V.str (numS m), rfl, rfl, SqL.of (kw _ _ hw), at_of (j := 1) rfl rfl, ?_⟩
  have h24 := add_sh h22 hw1 (by decide)
  refine ⟨_, _, rfl, rfl, h24.1, ?_⟩
  replace h24 := h24.2
  generalize z21 ++ numS m = z23 at h24 ⊢
  have h26 := add_sh h24 (shC " " (by decide +kernel)) (by decide)
  refine ⟨_, _, rfl, rfl, h26.1, ?_⟩
  replace h26 := h26.2
  generalize z23 ++ (" " : Str) = z25 at h26 ⊢
  refine ⟨_, rfl, wl, _, _, V.str (wordS f), rfl, rfl, SqL.of (kw _ _ hw), at_of (j := 2) rfl rfl, ?_⟩
  have h28 := add_sh h26 hw2 (by decide)
  refine ⟨_, _, rfl, rfl, h28.1, ?_⟩
  replace h28 := h28.2
  generalize z25 ++ wordS f = z27 at h28 ⊢
  refine ⟨_, rfl, wl, _, _, V.str (numS n), rfl, rfl, SqL.of (kw _ _ hw), at_of (j := 0) rfl rfl, ?_⟩
  have h30 := add_sh hw0 (shC " " (by decide +kernel)) (by decide)
  refine ⟨_, _, rfl, rfl, h30.1, ?_⟩
  replace h30 := h30.2
  generalize numS n ++ (" " : Str) = z29 at h30 ⊢
  refine ⟨_, rfl, wl, _, _, V.str (numS m), rfl, rfl, SqL.of (kw _ _ hw), at_of (j := 1) rfl rfl, ?_⟩
  have h32 := add_sh h30 hw1 (by decide)
  refine ⟨_, _, rfl, rfl, h32.1, ?_⟩
  replace h32 := h32.2
  generalize z29 ++ numS m = z31 at h32 ⊢
  have h34 := add_sh h32 (shC " Free" (by decide +kernel)) (by decide)
  refine ⟨_, _, rfl, rfl, h34.1, ?_⟩
  replace h34 := h34.2
  generalize z31 ++ (" Free" : Str) = z33 at h34 ⊢
  refine cat_next (M := [_, _]) (m := 2) rfl (by decide) a3 b3 ?_ (fun H4 p4 k4 a4 b4 => ?_)
  · exact (allS_cons (Sh.up h28 (by decide)) (allS_cons (Sh.up h34 (by decide)) allS_nil))
  have kw : ∀ b o, H1 b = some o → H4 b = some o := fun b o e => k4 _ _ (kw b o e)
  refine ⟨_, rfl, ?_⟩
  refine ⟨_, rfl, _, _, rfl, rfl, ((n + 1 : Nat) : Int), by show [V.int ((n : Int) + 1)] = _; rw [show (n : Int) + 1 = ((n + 1 : Nat) : Int) by omega], log_nat (by omega), ?_⟩
  have h36 := add_sh (shI (n := n + 1) (by omega)) (shC " " (by decide +kernel)) (by decide)
  refine ⟨_, _, rfl, rfl, h36.1, ?_⟩
  replace h36 := h36.2
  generalize Str.ofString (toString ((n + 1 : Nat) : Int)) ++ (" " : Str) = z35 at h36 ⊢
  refine ⟨_, rfl, wl, _, _, V.str (numS m), rfl, rfl, SqL.of (kw _ _ hw), at_of (j := 1) rfl rfl, ?_⟩
  have h38 := add_sh h36 hw1 (by decide)
  refine ⟨_, _, rfl, rfl, h38.1, ?_⟩
  replace h38 := h38.2
  generalize z35 ++ numS m = z37 at h38 ⊢
  have h40 := add_sh h38 (shC " " (by decide +kernel)) (by decide)
  refine ⟨_, _, rfl, rfl, h40.1, ?_⟩
  replace h40 := h40.2
  generalize z37 ++ (" " : Str) = z39 at h40 ⊢
  refine ⟨_, rfl, wl, _, _, V.str (wordS f), rfl, rfl, SqL.of (kw _ _ hw), at_of (j := 2) rfl rfl, ?_⟩
  have h42 := add_sh h40 hw2 (by decide)
  refine ⟨_, _, rfl, rfl, h42.1, ?_⟩
  replace h42 := h42.2
  generalize z39 ++ wordS f = z41 at h42 ⊢
  refine ⟨_, rfl, wl, _, _, V.str (numS n), rfl, rfl, SqL.of (kw _ _ hw), at_of (j := 0) rfl rfl, ?_⟩
  have h44 := add_sh hw0 (shC " " (by decide +kernel)) (by decide)
  refine ⟨_, _, rfl, rfl, h44.1, ?_⟩
  replace h44 := h44.2
  generalize numS n ++ (" " : Str) = z43 at h44 ⊢
  refine ⟨_, rfl, _, _, rfl, rfl, ((m - 1 : Nat) : Int), by show [V.int ((m : Int) - 1)] = _; rw [show (m : Int) - 1 = ((m - 1 : Nat) : Int) by omega], log_nat (by omega), ?_⟩
  have h46 := add_sh h44 (shI (n := m - 1) (by omega)) (by decide)
  refine ⟨_, _, rfl, rfl, h46.1, ?_⟩
  replace h46 := h46.2
  generalize z43 ++ Str.ofString (toString ((m - 1 : Nat) : Int)) = z45 at h46 ⊢
  have h48 := add_sh h46 (shC " free" (by decide +kernel)) (by decide)
  refine ⟨_, _, rfl, rfl, h48.1, ?_⟩
  replace h48 := h48.2
  generalize z45 ++ (" free" : Str) = z47 at h48 ⊢
  refine cat_next (M := [_, _]) (m := 2) rfl (by decide) a4 b4 ?_ (fun H5 p5 k5 a5 b5 => ?_)
  · exact (allS_cons (Sh.up h42 (by decide)) (allS_cons (Sh.up h48 (by decide)) allS_nil))
  have kw : ∀ b o, H1 b = some o → H5 b = some o := fun b o e => k5 _ _ (kw b o e)
  refine ⟨_, rfl, ?_⟩
  refine ⟨_, rfl, wl, _, _, V.str (numS n), rfl, rfl, SqL.of (kw _ _ hw), at_of (j := 0) rfl rfl, ?_⟩
  have h50 := add_sh hw0 (shC " " (by decide +kernel)) (by decide)
  refine ⟨_, _, rfl, rfl, h50.1, ?_⟩
  replace h50 := h50.2
  generalize numS n ++ (" " : Str) = z49 at h50 ⊢
  refine ⟨_, rfl, _, _, rfl, rfl, ((m + 1 : Nat) : Int), by show [V.int ((m : Int) + 1)] = _; rw [show (m : Int) + 1 = ((m + 1 : Nat) : Int) by omega], log_nat (by omega), ?_⟩
  have h52 := add_sh h50 (shI (n := m + 1) (by omega)) (by decide)
  refine ⟨_, _, rfl, rfl, h52.1, ?_⟩
  replace h52 := h52.2
  generalize z49 ++ Str.ofString (toString ((m + 1 : Nat) : Int)) = z51 at h52 ⊢
  have h54 := add_sh h52 (shC " out" (by decide +kernel)) (by decide)
  refine ⟨_, _, rfl, rfl, h54.1, ?_⟩
  replace h54 := h54.2
  generalize z51 ++ (" out" : Str) = z53 at h54 ⊢
  refine ⟨_, rfl, wl, _, _, V.str (numS n), rfl, rfl, SqL.of (kw _ _ hw), at_of (j := 0) rfl rfl, ?_⟩
  have h56 := add_sh hw0 (shC " " (by decide +kernel)) (by decide)
  refine ⟨_, _, rfl, rfl, h56.1, ?_⟩
  replace h56 := h56.2
  generalize numS n ++ (" " : Str) = z55 at h56 ⊢
  refine ⟨_, rfl, _, _, rfl, rfl, mulx_ok (a := 72) (b := 3) (by rw [Int.natAbs_natCast]; exact Nat.lt_of_le_of_lt (show m ≤ 2 ^ 70 by omega) (by decide)) (by decide) (by decide), ((m * 2 : Nat) : Int), by show [V.int ((m : Int) * 2)] = _; rw [show (m : Int) * 2 = ((m * 2 : Nat) : Int) by omega], log_nat (by omega), ?_⟩
  have h58 := add_sh h56 (shI (n := m * 2) (by omega)) (by decide)
  refine ⟨_, _, rfl, rfl, h58.1, ?_⟩
  replace h58 := h58.2
  generalize z55 ++ Str.ofString (toString ((m * 2 : Nat) : Int)) = z57 at h58 ⊢
  have h60 := add_sh h58 (shC " " (by decide +kernel)) (by decide)
  refine ⟨_, _, rfl, rfl, h60.1, ?_⟩
  replace h60 := h60.2
  generalize z57 ++ (" " : Str) = z59 at h60 ⊢
  refine ⟨_, rfl, wl, _, _, V.str (wordS f), rfl, rfl, SqL.of (kw _ _ hw), at_of (j := 2) rfl rfl, ?_⟩
  have h62 := add_sh h60 hw2 (by decide)
  refine ⟨_, _, rfl, rfl, h62.1, ?_⟩
  replace h62 := h62.2
  generalize z59 ++ wordS f = z61 at h62 ⊢
  refine cat_next (M := [_, _]) (m := 2) rfl (by decide) a5 b5 ?_ (fun H6 p6 k6 a6 b6 => ?_)
  · exact (allS_cons (Sh.up h54 (by decide)) (allS_cons (Sh.up h62 (by decide)) allS_nil))
  have kw : ∀ b o, H1 b = some o → H6 b = some o := fun b o e => k6 _ _ (kw b o e)
  refine ⟨_, rfl, ?_⟩
  refine ⟨_, rfl, wl, _, _, V.str (numS n), rfl, rfl, SqL.of (kw _ _ hw), at_of (j := 0) rfl rfl, ?_⟩
  have h64 := add_sh hw0 (shC " " (by decide +kernel)) (by decide)
  refine ⟨_, _, rfl, rfl, h64.1, ?_⟩
  replace h64 := h64.2
  generalize numS n ++ (" " : Str) = z63 at h64 ⊢
  refine ⟨_, rfl, wl, _, _, V.str (numS m), rfl, rfl, SqL.of (kw _ _ hw), at_of (j := 1) rfl rfl, ?_⟩
  have h66 := add_sh h64 hw1 (by decide)
  refine ⟨_, _, rfl, rfl, h66.1, ?_⟩
  replace h66 := h66.2
  generalize z63 ++ numS m = z65 at h66 ⊢
  have h68 := add_sh h66 (shC " gone" (by decide +kernel)) (by decide)
  refine ⟨_, _, rfl, rfl, h68.1, ?_⟩
  replace h68 := h68.2
  generalize z65 ++ (" gone" : Str) = z67 at h68 ⊢
  refine ⟨_, rfl, wl, _, _, V.str (numS n), rfl, rfl, SqL.of (kw _ _ hw), at_of (j := 0) rfl rfl, ?_⟩
  have h70 := add_sh hw0 (shC " -" (by decide +kernel)) (by decide)
  refine ⟨_, _, rfl, rfl, h70.1, ?_⟩
  replace h70 := h70.2
  generalize numS n ++ (" -" : Str) = z69 at h70 ⊢
  refine ⟨_, rfl, wl, _, _, V.str (numS m), rfl, rfl, SqL.of (kw _ _ hw), at_of (j := 1) rfl rfl, ?_⟩
  have h72 := add_sh h70 hw1 (by decide)
  refine ⟨_, _, rfl, rfl, h72.1, ?_⟩
  replace h72 := h72.2
  generalize z69 ++ numS m = z71 at h72 ⊢
  have h74 := add_sh h72 (shC " out" (by decide +kernel)) (by decide)
  refine ⟨_, _, rfl, rfl, h74.1, ?_⟩
  replace h74 := h74.2
  generalize z71 ++ (" out" : Str) = z73 at h74 ⊢
  refine cat_next (M := [_, _]) (m := 2) rfl (by decide) a6 b6 ?_ (fun H7 p7 k7 a7 b7 => ?_)
  · exact (allS_cons (Sh.up h68 (by decide)) (allS_cons (Sh.up h74 (by decide)) allS_nil))
  have kw : ∀ b o, H1 b = some o → H7 b = some o := fun b o e => k7 _ _ (kw b o e)
  refine ⟨_, rfl, ?_⟩
  refine ⟨_, rfl, wl, _, _, V.str (numS m), rfl, rfl, SqL.of (kw _ _ hw), at_of (j := 1) rfl rfl, ?_⟩
  have h76 := add_sh (shC "1 " (by decide +kernel)) hw1 (by decide)
  refine ⟨_, _, rfl, rfl, h76.1, ?_⟩
  replace h76 := h76.2
  generalize ("1 " : Str) ++ numS m = z75 at h76 ⊢
  have h78 := add_sh h76 (shC " out" (by decide +kernel)) (by decide)
  refine ⟨_, _, rfl, rfl, h78.1, ?_⟩
  replace h78 := h78.2
  generalize z75 ++ (" out" : Str) = z77 at h78 ⊢
  refine ⟨_, rfl, wl, _, _, V.str (numS n), rfl, rfl, SqL.of (kw _ _ hw), at_of (j := 0) rfl rfl, ?_⟩
  have h80 := add_sh hw0 (shC "\t" (by decide +kernel)) (by decide)
  refine ⟨_, _, rfl, rfl, h80.1, ?_⟩
  replace h80 := h80.2
  generalize numS n ++ ("\t" : Str) = z79 at h80 ⊢
  refine ⟨_, rfl, wl, _, _, V.str (numS m), rfl, rfl, SqL.of (kw _ _ hw), at_of (j := 1) rfl rfl, ?_⟩
  have h82 := add_sh h80 hw1 (by decide)
  refine ⟨_, _, rfl, rfl, h82.1, ?_⟩
  replace h82 := h82.2
  generalize z79 ++ numS m = z81 at h82 ⊢
  have h84 := add_sh h82 (shC " out" (by decide +kernel)) (by decide)
  refine ⟨_, _, rfl, rfl, h84.1, ?_⟩
  replace h84 := h84.2
  generalize z81 ++ (" out" : Str) = z83 at h84 ⊢
  refine ⟨_, rfl, wl, _, _, V.str (numS n), rfl, rfl, SqL.of (kw _ _ hw), at_of (j := 0) rfl rfl, ?_⟩
  have h86 := add_sh hw0 (shC " 1_6 out" (by decide +kernel)) (by decide)
  refine ⟨_, _, rfl, rfl, h86.1, ?_⟩
  replace h86 := h86.2
  generalize numS n ++ (" 1_6 out" : Str) = z85 at h86 ⊢
  refine cat_next (M := [_, _, _]) (m := 3) rfl (by decide) a7 b7 ?_ (fun H8 p8 k8 a8 b8 => ?_)
  · exact (allS_cons (Sh.up h78 (by decide)) (allS_cons (Sh.up h84 (by decide)) (allS_cons (Sh.up h86 (by decide)) allS_nil)))
  have kw : ∀ b o, H1 b = some o → H8 b = some o := fun b o e => k8 _ _ (kw b o e)
  refine ⟨_, rfl, ?_⟩
  refine ⟨_, rfl, wl, _, _, V.str (numS n), rfl, rfl, SqL.of (kw _ _ hw), at_of (j := 0) rfl rfl, ?_⟩
  have h88 := add_sh hw0 (shC " " (by decide +kernel)) (by decide)
  refine ⟨_, _, rfl, rfl, h88.1, ?_⟩
  replace h88 := h88.2
  generalize numS n ++ (" " : Str) = z87 at h88 ⊢
  refine ⟨_, rfl, wl, _, _, V.str (numS m), rfl, rfl, SqL.of (kw _ _ hw), at_of (j := 1) rfl rfl, ?_⟩
  have h90 := add_sh h88 hw1 (by decide)
  refine ⟨_, _, rfl, rfl, h90.1, ?_⟩
  replace h90 := h90.2
  generalize z87 ++ numS m = z89 at h90 ⊢
  have h92 := add_sh h90 (shC " OUT" (by decide +kernel)) (by decide)
  refine ⟨_, _, rfl, rfl, h92.1, ?_⟩
  replace h92 := h92.2
  generalize z89 ++ (" OUT" : Str) = z91 at h92 ⊢
  refine ⟨_, rfl, wl, _, _, V.str (numS n), rfl, rfl, SqL.of (kw _ _ hw), at_of (j := 0) rfl rfl, ?_⟩
  have h94 := add_sh hw0 (shC " " (by decide +kernel)) (by decide)
  refine ⟨_, _, rfl, rfl, h94.1, ?_⟩
  replace h94 := h94.2
  generalize numS n ++ (" " : Str) = z93 at h94 ⊢
  refine ⟨_, rfl, wl, _, _, V.str (numS m), rfl, rfl, SqL.of (kw _ _ hw), at_of (j := 1) rfl rfl, ?_⟩
  have h96 := add_sh h94 hw1 (by decide)
  refine ⟨_, _, rfl, rfl, h96.1, ?_⟩
  replace h96 := h96.2
  generalize z93 ++ numS m = z95 at h96 ⊢
  have h98 := add_sh h96 (shC " FREE" (by decide +kernel)) (by decide)
  refine ⟨_, _, rfl, rfl, h98.1, ?_⟩
  replace h98 := h98.2
  generalize z95 ++ (" FREE" : Str) = z97 at h98 ⊢
  refine cat_next (M := [_, _]) (m := 2) rfl (by decide) a8 b8 ?_ (fun H9 p9 k9 a9 b9 => ?_)
  · exact (allS_cons (Sh.up h92 (by decide)) (allS_cons (Sh.up h98 (by decide)) allS_nil))
  have kw : ∀ b o, H1 b = some o → H9 b = some o := fun b o e => k9 _ _ (kw b o e)
  refine ⟨_, rfl, ?_⟩
  refine ⟨_, rfl, ?_⟩
  have h100 := add_sh hline (shC " out" (by decide +kernel)) (by decide)
  refine ⟨_, _, rfl, rfl, h100.1, ?_⟩
  replace h100 := h100.2
  generalize lineS n m f ++ (" out" : Str) = z99 at h100 ⊢
  refine ⟨_, rfl, ?_⟩
  have h102 := add_sh hline (shC " 1" (by decide +kernel)) (by decide)
  refine ⟨_, _, rfl, rfl, h102.1, ?_⟩
  replace h102 := h102.2
  generalize lineS n m f ++ (" 1" : Str) = z101 at h102 ⊢
  refine ⟨_, rfl, ?_⟩
  have h104 := add_sh hline (shC "s" (by decide +kernel)) (by decide)
  refine ⟨_, _, rfl, rfl, h104.1, ?_⟩
  replace h104 := h104.2
  generalize lineS n m f ++ ("s" : Str) = z103 at h104 ⊢
  refine ⟨_, rfl, _, rfl, _, rfl, _, rfl, by rw [sizeLine_eq]; have := hline.1; omega, ?_⟩
  refine cat_next (M := [_, _, _, _]) (m := 4) rfl (by decide) a9 b9 ?_ (fun H10 p10 k10 a10 b10 => ?_)
  · exact (allS_cons (Sh.up h100 (by decide)) (allS_cons (Sh.up h102 (by decide)) (allS_cons (Sh.up h104 (by decide)) (allS_cons (Sh.up (sh_cut hline) (by decide)) allS_nil))))
  have kw : ∀ b o, H1 b = some o → H10 b = some o := fun b o e => k10 _ _ (kw b o e)
  refine ⟨_, rfl, ?_⟩
  refine ⟨_, rfl, ?_⟩
  have h106 := add_sh hline (shC "\t" (by decide +kernel)) (by decide)
  refine ⟨_, _, rfl, rfl, h106.1, ?_⟩
  replace h106 := h106.2
  generalize lineS n m f ++ ("\t" : Str) = z105 at h106 ⊢
  refine ⟨_, rfl, wl, _, _, V.str (numS n), rfl, rfl, SqL.of (kw _ _ hw), at_of (j := 0) rfl rfl, ?_⟩
  have h108 := add_sh hw0 (shC " " (by decide +kernel)) (by decide)
  refine ⟨_, _, rfl, rfl, h108.1, ?_⟩
  replace h108 := h108.2
  generalize numS n ++ (" " : Str) = z107 at h108 ⊢
  refine ⟨_, rfl, wl, _, _, V.str (numS m), rfl, rfl, SqL.of (kw _ _ hw), at_of (j := 1) rfl rfl, ?_⟩
  have h110 := add_sh h108 hw1 (by decide)
  refine ⟨_, _, rfl, rfl, h110.1, ?_⟩
  replace h110 := h110.2
  generalize z107 ++ numS m = z109 at h110 ⊢
  have h112 := add_sh h110 (shC " \tfree" (by decide +kernel)) (by decide)
  refine ⟨_, _, rfl, rfl, h112.1, ?_⟩
  replace h112 := h112.2
  generalize z109 ++ (" \tfree" : Str) = z111 at h112 ⊢
  refine ⟨_, rfl, wl, _, _, V.str (numS n), rfl, rfl, SqL.of (kw _ _ hw), at_of (j := 0) rfl rfl, ?_⟩
  have h114 := add_sh hw0 (shC " " (by decide +kernel)) (by decide)
  refine ⟨_, _, rfl, rfl, h114.1, ?_⟩
  replace h114 := h114.2
  generalize numS n ++ (" " : Str) = z113 at h114 ⊢
  refine ⟨_, rfl, wl, _, _, V.str (numS m), rfl, rfl, SqL.of (kw _ _ hw), at_of (j := 1) rfl rfl, ?_⟩
  have h116 := add_sh h114 hw1 (by decide)
  refine ⟨_, _, rfl, rfl, h116.1, ?_⟩
  replace h116 := h116.2
  generalize z113 ++ numS m = z115 at h116 ⊢
  have h118 := add_sh h116 (shC " o" (by decide +kernel)) (by decide)
  refine ⟨_, _, rfl, rfl, h118.1, ?_⟩
  replace h118 := h118.2
  generalize z115 ++ (" o" : Str) = z117 at h118 ⊢
  refine cat_next (M := [_, _, _]) (m := 3) rfl (by decide) a10 b10 ?_ (fun H11 p11 k11 a11 b11 => ?_)
  · exact (allS_cons (Sh.up h106 (by decide)) (allS_cons (Sh.up h112 (by decide)) (allS_cons (Sh.up h118 (by decide)) allS_nil)))
  have kw : ∀ b o, H1 b = some o → H11 b = some o := fun b o e => k11 _ _ (kw b o e)
  refine ⟨_, rfl, ?_⟩
  refine ⟨_, rfl, wl, _, _, V.str (numS n), rfl, rfl, SqL.of (kw _ _ hw), at_of (j := 0) rfl rfl, ?_⟩
  have h120 := add_sh hw0 (shC " " (by decide +kernel)) (by decide)
  refine ⟨_, _, rfl, rfl, h120.1, ?_⟩
  replace h120 := h120.2
  generalize numS n ++ (" " : Str) = z119 at h120 ⊢
  refine ⟨_, rfl, wl, _, _, V.str (numS m), rfl, rfl, SqL.of (kw _ _ hw), at_of (j := 1) rfl rfl, ?_⟩
  have h122 := add_sh h120 hw1 (by decide)
  refine ⟨_, _, rfl, rfl, h122.1, ?_⟩
  replace h122 := h122.2
  generalize z119 ++ numS m = z121 at h122 ⊢
  have h124 := add_sh h122 (shC "0000000000000000000 out" (by decide +kernel)) (by decide)
  refine ⟨_, _, rfl, rfl, h124.1, ?_⟩
  replace h124 := h124.2
  generalize z121 ++ ("0000000000000000000 out" : Str) = z123 at h124 ⊢
  refine ⟨_, rfl, wl, _, _, V.str (numS n), rfl, rfl, SqL.of (kw _ _ hw), at_of (j := 0) rfl rfl, ?_⟩
  have h126 := add_sh hw0 (shC "," (by decide +kernel)) (by decide)
  refine ⟨_, _, rfl, rfl, h126.1, ?_⟩
  replace h126 := h126.2
  generalize numS n ++ ("," : Str) = z125 at h126 ⊢
  refine ⟨_, rfl, wl, _, _, V.str (numS m), rfl, rfl, SqL.of (kw _ _ hw), at_of (j := 1) rfl rfl, ?_⟩
  have h128 := add_sh h126 hw1 (by decide)
  refine ⟨_, _, rfl, rfl, h128.1, ?_⟩
  replace h128 := h128.2
  generalize z125 ++ numS m = z127 at h128 ⊢
  have h130 := add_sh h128 (shC " out" (by decide +kernel)) (by decide)
  refine ⟨_, _, rfl, rfl, h130.1, ?_⟩
  replace h130 := h130.2
  generalize z127 ++ (" out" : Str) = z129 at h130 ⊢
  refine cat_next (M := [_, _]) (m := 2) rfl (by decide) a11 b11 ?_ (fun H12 p12 k12 a12 b12 => ?_)
  · exact (allS_cons (Sh.up h124 (by decide)) (allS_cons (Sh.up h130 (by decide)) allS_nil))
  have kw : ∀ b o, H1 b = some o → H12 b = some o := fun b o e => k12 _ _ (kw b o e)
  exact ⟨_, rfl, q H12 p12 _ (fun b o e => kw _ _ (k1 _ _ e)) a12 b12.1 b12.2.1 (Nat.le_trans b12.2.2 (by decide))⟩
end
/-! ### law_k14: a line spoilt -/
theorem line_sh {s : Str} (h : LineOk s) : Sh 200 s := by
  obtain ⟨n, m, f, rfl, le1, le⟩ := h
  have n22 := shN (n := n) (by omega)
  have m22 := shN (n := m) (by omega)
  have b1 : Sh 24 " " := shC " " (by decide +kernel)
  have wl := word4 f
  refine ⟨?_, (((n22.2.app b1.2).app m22.2).app b1.2).app (word_plain f)⟩
  unfold lineS
  rw [len_app, len_app, len_app, len_app]
  have := n22.1
  have := m22.1
  have := b1.1
  omega
def sp_law_spoilt (_ : PySem.W.Frag) (_ : Ad) : Sp := fun vs H Q _ => ∃ (p : Addr) (c : Int) (L : List Str), vs = [.ref p, .int c] ∧ StrsAt H p L ∧ (∀ s ∈ L, LineOk s) ∧ 1 ≤ L.length ∧ L.length ≤ 601 ∧
  ∀ (H' : Hp) (p' : Addr) (L' : List Str), (∀ b o, H b = some o → H' b = some o) → StrsAt H' p' L' → (∀ s ∈ L', Sh 200 s) → L'.length ≤ 1300 → Q (.ref p') H'
theorem sl_to {L : List Str} {j : Nat} : cutV (L.map V.str) none (some (j : Int)) = (L.take j).map V.str := by rw [cut_to, List.map_take]
theorem sl_from {L : List Str} {j : Nat} : cutV (L.map V.str) (some (j : Int)) none = (L.drop j).map V.str := by rw [cut_from, List.map_drop]
section
variable {P : Program} {w : World} {K : PySem.W.Frag} {mg : Str → Option Value} {base : Heap} {a : Ad}
theorem ok_law_spoilt (T : Txt K mg a) : FnOk P w K mg base CX0 2 a.f_law_spoilt a.d_law_spoilt ["_law_lines_here", "_law_cell"] (sp_law_spoilt K a) := by
  have G_law_others : FnOk P w K mg base CX0 1 a.f_law_others a.d_law_others ["_law_line"] (sp_law_others K a) := ok_law_others T
  refine T.law_spoilt.fn.ok sc_law_spoilt (fun vs H Q E h => by first | (obtain ⟨rfl, _⟩ := h; rfl) | (obtain ⟨_, rfl, _⟩ := h; rfl) | (obtain ⟨_, _, rfl, _⟩ := h; rfl) | (obtain ⟨_, _, _, rfl, _⟩ := h; rfl) | (obtain ⟨_, _, _, _, rfl, _⟩ := h; rfl) | (obtain ⟨_, _, _, _, _, rfl, _⟩ := h; rfl) | (obtain ⟨_, _, _, _, _, _, rfl, _⟩ := h; rfl) | (obtain ⟨_, _, _, _, _, _, _, rfl, _⟩ := h; rfl) | (obtain ⟨_, _, _, _, _, _, _, _, rfl, _⟩ := h; rfl) | (obtain ⟨_, _, _, _, _, _, _, _, _, rfl, _⟩ := h; rfl) | (obtain ⟨_, _, _, _, _, _, _, _, _, _, rfl, _⟩ := h; rfl) | (obtain ⟨_, _, _, _, _, _, _, _, _, _, _, rfl, _⟩ := h; rfl)) (fun cdv A outer s H vs Q E hr h => ?_)
  refine ⟨_, pss_cons (ps_set (i := 2) sc_law_spoilt.nd rfl (Or.inl rfl) (pe_op op_modN (pv 1) (pe_callB call_len_seq (by rfl) T.z_len PySem.boot_len (pa_cons (pv 0) pa_nil))))
      (pss_cons (ps_set (i := 3) sc_law_spoilt.nd rfl (Or.inl rfl) (pe_op op_fdivW (pv 1) (pe_callB call_len_seq (by rfl) T.z_len PySem.boot_len (pa_cons (pv 0) pa_nil))))
      (pss_cons (ps_set (i := 4) sc_law_spoilt.nd rfl (Or.inl rfl) (pe_op op_mod (pv 3) pe_int))
      (pss_cons (ps_if (pt_cmpR op_lt (pv 4) pe_int (nomark _)) (pss_one (ps_ret (pe_op op_cat (pe_slice sl_list (pv 0) po_none (po_some (pv 2))) (pe_slice sl_list (pv 0) (po_some (pe_op op_add (pv 2) pe_int)) po_none)))) pss_nil)
      (pss_cons (ps_if (pt_cmpR op_lt (pv 4) pe_int (nomark _)) (pss_cons (ps_set (i := 5) sc_law_spoilt.nd rfl (Or.inl rfl) (pe_call G_law_others (hr.mono (by decide)) rfl T.law_others.mg T.law_others.fn.kp T.law_others.bd .nil pass0 (pa_cons (pe_ix ix_list (pv 0) (pv 2) (fun _ _ => rfl)) pa_nil)))
      (pss_cons (ps_set (i := 6) sc_law_spoilt.nd rfl (Or.inl rfl) (pe_ix ix_list (pv 5) (pe_op op_modN (pe_op op_fdiv (pv 3) pe_int) (pe_callB call_len_seq (by rfl) T.z_len PySem.boot_len (pa_cons (pv 5) pa_nil))) (fun _ _ => rfl)))
      (pss_one (ps_ret (pe_op op_cat (pe_op op_cat (pe_slice sl_list (pv 0) po_none (po_some (pv 2))) (pe_lst (pa_cons (pv 6) pa_nil))) (pe_slice sl_list (pv 0) (po_some (pe_op op_add (pv 2) pe_int)) po_none)))))) pss_nil)
      (pss_cons (ps_if (pt_cmpR op_eq (pv 4) pe_int (nomark _)) (pss_one (ps_ret (pe_op op_cat (pe_op op_cat (pe_slice sl_list (pv 0) po_none (po_some (pv 2))) (pe_lst (pa_cons (pe_ix ix_list (pv 0) (pv 2) (fun _ _ => rfl)) pa_nil))) (pe_slice sl_list (pv 0) (po_some (pv 2)) po_none)))) pss_nil)
      (pss_cons (ps_if (pt_cmpR op_eq (pv 4) pe_int (nomark _)) (pss_cons (ps_if (pt_cmpR op_eq (pe_op op_mod (pe_op op_fdiv (pv 3) pe_int) pe_int) pe_int (nomark _)) (pss_one (ps_ret (pe_op op_cat (pe_slice sl_list (pv 0) (po_some (pv 2)) po_none) (pe_slice sl_list (pv 0) po_none (po_some (pv 2)))))) pss_nil)
      (pss_one (ps_ret (pe_op op_cat (pe_slice sl_list (pv 0) po_none (po_some (pv 2))) (pe_listRev rfl (by rfl) T.z_list (by rfl) T.z_reversed (pe_slice sl_list (pv 0) (po_some (pv 2)) po_none)))))) pss_nil)
      (pss_one (ps_ret (pe_ix ix_list (pe_lst (pa_cons (pe_op op_cat (pe_lst (pa_cons pe_str pa_nil)) (pv 0)) (pa_cons (pe_op op_cat (pv 0) (pe_lst (pa_cons pe_str pa_nil))) pa_nil))) (pe_op op_mod (pe_op op_fdiv (pv 3) pe_int) pe_int) (fun _ _ => rfl)))))))))), ?_⟩
  obtain ⟨p, c, L, rfl, hp, okL, lo, hi, q⟩ := h
  have hp : H p = some (.lst (L.map V.str)) := hp
  obtain ⟨j, hj, lj⟩ := pos_mod c (show 0 < L.length by omega)
  have el : ((L.map V.str).length : Int) = (L.length : Int) := by rw [List.length_map]
  have ej : c.fmod ((L.map V.str).length : Int) = (j : Int) := by rw [el]; exact hj
  refine ⟨_, rfl, _, rfl, p, _, rfl, .inl (SqL.of hp), _, _, rfl, rfl, by rw [el]; omega, nm ?_⟩
  refine ⟨_, rfl, _, rfl, p, _, rfl, .inl (SqL.of hp), _, _, rfl, rfl, wide_div (b := 16) (by rw [el]; omega) (by rw [el, Int.natAbs_natCast]; omega) (by decide) (by decide), nm ?_⟩
  refine ⟨_, rfl, _, _, rfl, rfl, by show (0 : Int) < 8; decide, nm ?_⟩
  dsimp only
  rw [ej, el]
  generalize c / (L.length : Int) = rest
  have e1 : (j : Int) + 1 = ((j + 1 : Nat) : Int) := by omega
  have shT : ∀ s ∈ L.take j, Sh 200 s := fun s h => line_sh (okL s (List.mem_of_mem_take h))
  have shD : ∀ i, ∀ s ∈ L.drop i, Sh 200 s := fun i s h => line_sh (okL s (List.mem_of_mem_drop h))
  have shA : ∀ {A B : List Str}, (∀ s ∈ A, Sh 200 s) → (∀ s ∈ B, Sh 200 s) → ∀ s ∈ A ++ B, Sh 200 s := fun {A B} hA hB s h => by
    rcases List.mem_append.mp h with h | h
    · exact hA s h
    · exact hB s h
  have lT : (L.take j).length ≤ 601 := by rw [List.length_take]; omega
  have lD : ∀ i, (L.drop i).length ≤ 601 := fun i => by rw [List.length_drop]; omega
  -- lists behind one another
  have out2 : ∀ {H0 : Hp} {x y : Addr} {A B : List Str}, (∀ b o, H b = some o → H0 b = some o) → H0 x = some (.lst (A.map V.str)) → H0 y = some (.lst (B.map V.str)) → (∀ s ∈ A, Sh 200 s) → (∀ s ∈ B, Sh 200 s) → A.length ≤ 650 → B.length ≤ 650 → rCat (.ref x) (.ref y) H0 Q := fun {H0 x y A B} k hx hy sA sB lA lB =>
    ⟨x, y, _, _, rfl, rfl, hx, hy, by rw [List.length_map, List.length_map, sizeLine_eq]; omega, fun z nz => q _ z (A ++ B) (fun b o e => newK nz _ _ (k _ _ e)) (by show L2.upd H0 z _ z = _; rw [upd_same, List.map_append]) (shA sA sB) (by rw [List.length_append]; omega)⟩
  obtain ⟨line, hline⟩ : ∃ line, L[j]? = some line := ⟨_, List.getElem?_eq_getElem lj⟩
  have hm : (L.map V.str)[j]? = some (V.str line) := by rw [List.getElem?_map, hline]; rfl
  -- the part ahead of the place
  have m1 := List.mem_of_getElem? hline
  refine ⟨_, rfl, _, _, rfl, rfl, _, rfl, ite2 (fun _ => ?_) (fun _ => ?_)⟩
  · refine ⟨_, rfl, _, rfl, _, rfl, p, _, rfl, SqL.of hp, fun s1 ns1 => ?_⟩
    rw [sl_to]
    have k1 := newK (o := HO.lst ((L.take j).map V.str)) ns1
    have h1 : L2.upd H s1 (.lst ((L.take j).map V.str)) s1 = _ := upd_same
    generalize L2.upd H s1 (.lst ((L.take j).map V.str)) = H1 at k1 h1 ⊢
    refine ⟨_, rfl, _, rfl, _, _, rfl, rfl, _, rfl, p, _, rfl, SqL.of (k1 _ _ hp), fun s2 ns2 => ?_⟩
    rw [e1, sl_from]
    exact out2 (fun b o e => newK ns2 _ _ (k1 _ _ e)) (newK ns2 _ _ h1) upd_same shT (shD _) (by omega) (by have := lD (j + 1); omega)
  refine ⟨_, rfl, _, _, rfl, rfl, _, rfl, ite2 (fun _ => ?_) (fun _ => ?_)⟩
  · obtain ⟨n, m, f, rfl, le1, le⟩ := okL line m1
    refine ⟨_, rfl, _, rfl, p, _, _, V.str (lineS n m f), rfl, rfl, SqL.of hp, at_of rfl hm, n, m, f, rfl, le1, le, fun H1 po M k1 hM shM lM hiM => nm ?_⟩
    have hM : H1 po = some (.lst (M.map V.str)) := hM
    obtain ⟨i, hi', li⟩ := pos_mod (rest / 8) (show 0 < M.length by omega)
    have ei : (rest / 8).fmod ((M.map V.str).length : Int) = (i : Int) := by rw [List.length_map]; exact hi'
    obtain ⟨z, hz⟩ : ∃ z, M[i]? = some z := ⟨_, List.getElem?_eq_getElem li⟩
    have hz' : (M.map V.str)[i]? = some (V.str z) := by rw [List.getElem?_map, hz]; rfl
    refine ⟨_, rfl, _, rfl, _, _, rfl, rfl, ⟨by decide, by decide⟩, _, rfl, po, _, rfl, .inl (SqL.of hM), _, _, rfl, rfl, by show ((M.map V.str).length : Int) ≠ 0; rw [List.length_map]; omega, po, _, _, V.str z, rfl, rfl, SqL.of hM, at_of ei hz', nm ?_⟩
    refine ⟨_, rfl, _, rfl, _, rfl, p, _, rfl, SqL.of (k1 _ _ hp), fun s1 ns1 => ?_⟩
    rw [sl_to]
    have k2 := newK (o := HO.lst ((L.take j).map V.str)) ns1
    have h2 : L2.upd H1 s1 (.lst ((L.take j).map V.str)) s1 = _ := upd_same
    generalize L2.upd H1 s1 (.lst ((L.take j).map V.str)) = H2 at k2 h2 ⊢
    refine ⟨_, rfl, by show 1 ≤ sizeLine; decide, fun s2 ns2 => ?_⟩
    refine ⟨s1, s2, (L.take j).map V.str, [V.str z], rfl, rfl, newK ns2 _ _ h2, upd_same, by rw [List.length_map, sizeLine_eq]; show (L.take j).length + 1 ≤ _; omega, fun s3 ns3 => ?_⟩
    have k3 : ∀ b o, H b = some o → L2.upd (L2.upd H2 s2 (.lst [V.str z])) s3 (.lst ((L.take j).map V.str ++ [V.str z])) b = some o := fun b o e => newK ns3 _ _ (newK ns2 _ _ (k2 _ _ (k1 _ _ e)))
    have h3 : L2.upd (L2.upd H2 s2 (.lst [V.str z])) s3 (.lst ((L.take j).map V.str ++ [V.str z])) s3 = some (.lst ((L.take j ++ [z]).map V.str)) := by rw [upd_same, List.map_append]; rfl
    generalize L2.upd (L2.upd H2 s2 (.lst [V.str z])) s3 (.lst ((L.take j).map V.str ++ [V.str z])) = H3 at k3 h3 ⊢
    refine ⟨_, rfl, _, rfl, _, _, rfl, rfl, _, rfl, p, _, rfl, SqL.of (k3 _ _ hp), fun s4 ns4 => ?_⟩
    rw [e1, sl_from]
    have shz : ∀ s ∈ [z], Sh 200 s := fun s h => by rw [List.mem_singleton.mp h]; exact shM z (List.mem_of_getElem? hz)
    exact out2 (fun b o e => newK ns4 _ _ (k3 _ _ e)) (newK ns4 _ _ h3) upd_same (shA shT shz) (shD _) (by rw [List.length_append]; show (L.take j).length + 1 ≤ _; omega) (by have := lD (j + 1); omega)
  refine ⟨_, rfl, rfl, _, rfl, ite2 (fun _ => ?_) (fun _ => ?_)⟩
  · refine ⟨_, rfl, _, rfl, _, rfl, p, _, rfl, SqL.of hp, fun s1 ns1 => ?_⟩
    rw [sl_to]
    have k2 := newK (o := HO.lst ((L.take j).map V.str)) ns1
    have h2 : L2.upd H s1 (.lst ((L.take j).map V.str)) s1 = _ := upd_same
    generalize L2.upd H s1 (.lst ((L.take j).map V.str)) = H2 at k2 h2 ⊢
    refine ⟨_, rfl, _, rfl, p, _, _, V.str line, rfl, rfl, SqL.of (k2 _ _ hp), at_of rfl hm, by show 1 ≤ sizeLine; decide, fun s2 ns2 => ?_⟩
    refine ⟨s1, s2, (L.take j).map V.str, [V.str line], rfl, rfl, newK ns2 _ _ h2, upd_same, by rw [List.length_map, sizeLine_eq]; show (L.take j).length + 1 ≤ _; omega, fun s3 ns3 => ?_⟩
    have k3 : ∀ b o, H b = some o → L2.upd (L2.upd H2 s2 (.lst [V.str line])) s3 (.lst ((L.take j).map V.str ++ [V.str line])) b = some o := fun b o e => newK ns3 _ _ (newK ns2 _ _ (k2 _ _ e))
    have h3 : L2.upd (L2.upd H2 s2 (.lst [V.str line])) s3 (.lst ((L.take j).map V.str ++ [V.str line])) s3 = some (.lst ((L.take j ++ [line]).map V.str)) := by rw [upd_same, List.map_append]; rfl
    generalize L2.upd (L2.upd H2 s2 (.lst [V.str line])) s3 (.lst ((L.take j).map V.str ++ [V.str line])) = H3 at k3 h3 ⊢
    refine ⟨_, rfl, _, rfl, _, rfl, p, _, rfl, SqL.of (k3 _ _ hp), fun s4 ns4 => ?_⟩
    rw [sl_from]
    have shz : ∀ s ∈ [line], Sh 200 s := fun s h => by rw [List.mem_singleton.mp h]; exact line_sh (okL line m1)
    exact out2 (fun b o e => newK ns4 _ _ (k3 _ _ e)) (newK ns4 _ _ h3) upd_same (shA shT shz) (shD _) (by rw [List.length_append]; show (L.take j).length + 1 ≤ _; omega) (by have := lD j; omega)
  refine ⟨_, rfl, rfl, _, rfl, ite2 (fun _ => ?_) (fun _ => ?_)⟩
  · refine ⟨_, rfl, _, _, rfl, rfl, ⟨by decide, by decide⟩, _, _, rfl, rfl, by show (0 : Int) < 2; decide, rfl, _, rfl, ite2 (fun _ => ?_) (fun _ => ?_)⟩
    · refine ⟨_, rfl, _, rfl, _, rfl, p, _, rfl, SqL.of hp, fun s1 ns1 => ?_⟩
      rw [sl_from]
      have k2 := newK (o := HO.lst ((L.drop j).map V.str)) ns1
      have h2 : L2.upd H s1 (.lst ((L.drop j).map V.str)) s1 = _ := upd_same
      generalize L2.upd H s1 (.lst ((L.drop j).map V.str)) = H2 at k2 h2 ⊢
      refine ⟨_, rfl, _, rfl, _, rfl, p, _, rfl, SqL.of (k2 _ _ hp), fun s2 ns2 => ?_⟩
      rw [sl_to]
      exact out2 (fun b o e => newK ns2 _ _ (k2 _ _ e)) (newK ns2 _ _ h2) upd_same (shD _) shT (by have := lD j; omega) (by omega)
    · refine ⟨_, rfl, _, rfl, _, rfl, p, _, rfl, SqL.of hp, fun s1 ns1 => ?_⟩
      rw [sl_to]
      have k2 := newK (o := HO.lst ((L.take j).map V.str)) ns1
      have h2 : L2.upd H s1 (.lst ((L.take j).map V.str)) s1 = _ := upd_same
      generalize L2.upd H s1 (.lst ((L.take j).map V.str)) = H2 at k2 h2 ⊢
      refine ⟨_, rfl, _, rfl, _, rfl, p, _, rfl, SqL.of (k2 _ _ hp), fun s2 ns2 => ⟨s2, _, rfl, SqL.of upd_same, fun s3 ns3 => ?_⟩⟩
      rw [sl_from] at ns3 ⊢
      rw [← List.map_reverse]
      exact out2 (fun b o e => newK ns3 _ _ (newK ns2 _ _ (k2 _ _ e))) (newK ns3 _ _ (newK ns2 _ _ h2)) upd_same shT (fun s h => shD j s (List.mem_reverse.mp h)) (by omega) (by rw [List.length_reverse]; have := lD j; omega)
  obtain ⟨i, hi', li⟩ := emod_nat (rest / 8) (show 0 < 2 by decide)
  have hi' : rest / 8 % 2 = (i : Int) := hi'
  have shE : ∀ s ∈ [("" : Str)], Sh 200 s := fun s h => by rw [List.mem_singleton.mp h]; exact (shC "" (by decide +kernel)).up (by decide)
  have shL : ∀ s ∈ L, Sh 200 s := fun s h => line_sh (okL s h)
  refine ⟨by show 1 ≤ sizeLine; decide, fun s1 ns1 => ⟨_, rfl, s1, p, [V.str ""], _, rfl, rfl, upd_same, newK ns1 _ _ hp, by rw [List.length_map, sizeLine_eq]; show 1 + L.length ≤ _; omega, fun s2 ns2 => ?_⟩⟩
  have k2 : ∀ b o, H b = some o → L2.upd (L2.upd H s1 (.lst [V.str ""])) s2 (.lst ([V.str ""] ++ L.map V.str)) b = some o := fun b o e => newK ns2 _ _ (newK ns1 _ _ e)
  have h2 : L2.upd (L2.upd H s1 (.lst [V.str ""])) s2 (.lst ([V.str ""] ++ L.map V.str)) s2 = some (.lst (([("" : Str)] ++ L).map V.str)) := upd_same
  generalize L2.upd (L2.upd H s1 (.lst [V.str ""])) s2 (.lst ([V.str ""] ++ L.map V.str)) = H2 at k2 h2 ⊢
  refine ⟨_, rfl, by show 1 ≤ sizeLine; decide, fun s3 ns3 => ⟨p, s3, _, [V.str ""], rfl, rfl, newK ns3 _ _ (k2 _ _ hp), upd_same, by rw [List.length_map, sizeLine_eq]; show L.length + 1 ≤ _; omega, fun s4 ns4 => ?_⟩⟩
  have k4 : ∀ b o, H2 b = some o → L2.upd (L2.upd H2 s3 (.lst [V.str ""])) s4 (.lst (L.map V.str ++ [V.str ""])) b = some o := fun b o e => newK ns4 _ _ (newK ns3 _ _ e)
  have h4 : L2.upd (L2.upd H2 s3 (.lst [V.str ""])) s4 (.lst (L.map V.str ++ [V.str ""])) s4 = some (.lst ((L ++ [("" : Str)]).map V.str)) := by rw [upd_same, List.map_append]; rfl
  generalize L2.upd (L2.upd H2 s3 (.lst [V.str ""])) s4 (.lst (L.map V.str ++ [V.str ""])) = H4 at k4 h4 ⊢
  refine ⟨by show 2 ≤ sizeLine; decide, fun s5 ns5 => ?_⟩
  have k5 : ∀ b o, H b = some o → L2.upd H4 s5 (.lst [.ref s2, .ref s4]) b = some o := fun b o e => newK ns5 _ _ (k4 _ _ (k2 _ _ e))
  rcases (show i = 0 ∨ i = 1 by omega) with rfl | rfl
  · refine ⟨_, rfl, _, _, rfl, rfl, ⟨by decide, by decide⟩, _, _, rfl, rfl, by show (0 : Int) < 2; decide, s5, _, _, V.ref s2, rfl, rfl, SqL.of upd_same, at_of hi' rfl, ?_⟩
    exact q _ s2 ([("" : Str)] ++ L) k5 (newK ns5 _ _ (k4 _ _ h2)) (shA shE shL) (by rw [List.length_append]; show 1 + L.length ≤ _; omega)
  · refine ⟨_, rfl, _, _, rfl, rfl, ⟨by decide, by decide⟩, _, _, rfl, rfl, by show (0 : Int) < 2; decide, s5, _, _, V.ref s4, rfl, rfl, SqL.of upd_same, at_of hi' rfl, ?_⟩
    exact q _ s4 (L ++ [("" : Str)]) k5 (newK ns5 _ _ h4) (shA shL shE) (by rw [List.length_append]; show L.length + 1 ≤ _; omega)
end
/-! ### law_k14: refused, the law -/
def sp_law_refused (_ : PySem.W.Frag) (_ : Ad) : Sp := fun vs H Q _ => ∃ s : Str, vs = [.str s] ∧ Ascii s ∧ s.length ≤ 1000000 ∧ (Txt.split s "\n").length ≤ 20000 ∧ (∀ rows d, ¬ Shows s rows d) ∧
  ∀ H' : Hp, (∀ b o, H b = some o → H' b = some o) → Q (.bl true) H'
def sp_law_refused_by_any (K : PySem.W.Frag) (a : Ad) : Sp := sp_law_refused K a
section
variable {P : Program} {w : World} {K : PySem.W.Frag} {mg : Str → Option Value} {base : Heap} {a : Ad}
theorem ok_law_refused (T : Txt K mg a) : FnOk P w K mg base CX0 7 a.f_law_refused a.d_law_refused ["_law_text"] (sp_law_refused K a) := by
  have G_read : FnOk P w K mg base (L2.CX P w) 6 a.f_read a.d_read ["text"] (sp_read K a) := ok_read T
  refine T.law_refused.fn.ok sc_law_refused (fun vs H Q E h => by first | (obtain ⟨rfl, _⟩ := h; rfl) | (obtain ⟨_, rfl, _⟩ := h; rfl) | (obtain ⟨_, _, rfl, _⟩ := h; rfl) | (obtain ⟨_, _, _, rfl, _⟩ := h; rfl) | (obtain ⟨_, _, _, _, rfl, _⟩ := h; rfl) | (obtain ⟨_, _, _, _, _, rfl, _⟩ := h; rfl) | (obtain ⟨_, _, _, _, _, _, rfl, _⟩ := h; rfl) | (obtain ⟨_, _, _, _, _, _, _, rfl, _⟩ := h; rfl) | (obtain ⟨_, _, _, _, _, _, _, _, rfl, _⟩ := h; rfl) | (obtain ⟨_, _, _, _, _, _, _, _, _, rfl, _⟩ := h; rfl) | (obtain ⟨_, _, _, _, _, _, _, _, _, _, rfl, _⟩ := h; rfl) | (obtain ⟨_, _, _, _, _, _, _, _, _, _, _, rfl, _⟩ := h; rfl)) (fun cdv A outer s H vs Q E hr h => ?_)
  refine ⟨_, pss_cons (ps_try_only (tb := fun W => (tDrop (tCallS (sp_read K a) (WE W) (tCons (tVar 0) tNil)))) (ts := fun _ _ _ => (tRet (tC (.bl true)))) (Wout := fun _ _ _ _ => False) rfl rfl ⟨rfl, by decide, Or.inl T.e_NoNote.g⟩ takes0 (fun W pn xe tk _ => (pss_one (ps_expr (pe_callS G_read (hr.mono (by decide)) rfl T.read.mg T.read.fn.kp T.read.bd (fun σ => passAt tk σ) (by exact (pa_cons (pv 0) pa_nil)))))) (fun _ _ _ _ _ _ _ => (pss_one (ps_ret pe_bl))))
      (pss_one (ps_ret pe_bl)), ?_⟩
  obtain ⟨s, rfl, as, ls, few, no, q⟩ := h
  refine ⟨_, rfl, s, rfl, as, ls, few, fun rows d sh => absurd sh (no rows d), fun _ H' s' => ?_⟩
  exact ⟨true, T.x_NoNote_NoNote, fun _ a0 _ => q H' s', fun z => Bool.noConfusion z⟩
theorem ok_law_refused_by_any (T : Txt K mg a) : FnOk P w K mg base CX0 7 a.f_law_refused_by_any a.d_law_refused_by_any ["_law_text"] (sp_law_refused_by_any K a) := by
  have G_read : FnOk P w K mg base (L2.CX P w) 6 a.f_read a.d_read ["text"] (sp_read K a) := ok_read T
  refine T.law_refused_by_any.fn.ok sc_law_refused_by_any (fun vs H Q E h => by first | (obtain ⟨rfl, _⟩ := h; rfl) | (obtain ⟨_, rfl, _⟩ := h; rfl) | (obtain ⟨_, _, rfl, _⟩ := h; rfl) | (obtain ⟨_, _, _, rfl, _⟩ := h; rfl) | (obtain ⟨_, _, _, _, rfl, _⟩ := h; rfl) | (obtain ⟨_, _, _, _, _, rfl, _⟩ := h; rfl) | (obtain ⟨_, _, _, _, _, _, rfl, _⟩ := h; rfl) | (obtain ⟨_, _, _, _, _, _, _, rfl, _⟩ := h; rfl) | (obtain ⟨_, _, _, _, _, _, _, _, rfl, _⟩ := h; rfl) | (obtain ⟨_, _, _, _, _, _, _, _, _, rfl, _⟩ := h; rfl) | (obtain ⟨_, _, _, _, _, _, _, _, _, _, rfl, _⟩ := h; rfl) | (obtain ⟨_, _, _, _, _, _, _, _, _, _, _, rfl, _⟩ := h; rfl)) (fun cdv A outer s H vs Q E hr h => ?_)
  refine ⟨_, pss_cons (ps_try_as (i := 1) (tb := fun W => (tDrop (tCallS (sp_read K a) (WE W) (tCons (tVar 0) tNil)))) (ts := fun a0 cls d => (tRet (tAndV (tCB (rIsX K a0 cls d) (tCons (tVar 1) (tCons (tC (.ty "ValueError")) tNil))) (tNotV (tCB (rIsXT K a0 cls d) (tCons (tVar 1) (tCons (tTup (tCons (tC (.ref a.c_NoRoom)) (tCons (tC (.ref a.c_NotOut)) (tCons (tC (.ref a.c_NoWish)) (tCons (tC (.ref a.c_NoYard)) tNil))))) tNil))))))) (Wout := fun _ _ _ _ => False) rfl rfl sc_law_refused_by_any.nd rfl rfl ⟨rfl, by decide, Or.inl T.e_YardError.g⟩ takes0 (fun W pn xe tk _ => (pss_one (ps_expr (pe_callS G_read (hr.mono (by decide)) rfl T.read.mg T.read.fn.kp T.read.bd (fun σ => passAt tk σ) (by exact (pa_cons (pv 0) pa_nil)))))) (fun a0 oe cls d pn hz hf => (pss_one (ps_ret (pe_and (pe_callB (call_isX hz hf) (by rfl) T.z_isinstance PyProof.Rows.boot_isinstance (pa_cons (pv 1) (pa_cons (pe_bltn (v := .ty "ValueError") (by rfl) T.z_ValueError (by decide +kernel) rfl) pa_nil))) (pe_one (pe_not (pe_callB (call_isXT hz hf) (by rfl) T.z_isinstance PyProof.Rows.boot_isinstance (pa_cons (pv 1) (pa_cons (pe_tup (pa_cons (pe_glob rfl T.e_NoRoom.g rfl) (pa_cons (pe_glob rfl T.e_NotOut.g rfl) (pa_cons (pe_glob rfl T.e_NoWish.g rfl) (pa_cons (pe_glob rfl T.e_NoYard.g rfl) pa_nil))))) pa_nil))))))))))
      (pss_one (ps_ret pe_bl)), ?_⟩
  obtain ⟨s, rfl, as, ls, few, no, q⟩ := h
  refine ⟨_, rfl, s, rfl, as, ls, few, fun rows d sh => absurd sh (no rows d), fun _ H' s' => ?_⟩
  refine ⟨true, T.x_NoNote_YardError, fun _ a0 _ => ?_, fun z => Bool.noConfusion z⟩
  refine ⟨_, rfl, _, rfl, rfl, T.e_NoNote.is, _, _, true, rfl, fun u hu => hu, T.e_NoNote.ve, true, rfl, iteT ?_⟩
  refine ⟨_, rfl, by show 4 ≤ sizeLine; decide, fun t ht => ?_⟩
  refine ⟨_, t, _, _, false, rfl, rfl, T.e_NoNote.is, rfl, upd_same, .cons (.own _) (.cons (.own _) (.cons (.own _) (.cons (.own _) .nil))), ?_, false, rfl, q _ fun b o e => newK ht _ _ (s' _ _ e)⟩
  exact kitAny_cons T.k_NoNote_NoRoom (fun _ => kitAny_cons T.k_NoNote_NotOut (fun _ => kitAny_cons T.k_NoNote_NoWish (fun _ => kitAny_cons T.k_NoNote_NoYard (fun _ => rfl) (fun z => nomatch z)) (fun z => nomatch z)) (fun z => nomatch z)) (fun z => nomatch z)
end
theorem rg40 {n : Nat} (h : n ≤ 20000) : RgC 0 (n : Int) 40 (Builtin.Range.rangeSize 0 (n : Int) 40).toNat := by
  have e := PyProof.Rows.rangeSize_pos (len := (n : Int)) (c := 40) (by decide) (by omega)
  refine ⟨by decide, by decide, ?_, by rw [e]; omega⟩
  unfold Builtin.Range.small Builtin.Range.rangeFitsLong
  rw [e]
  simp only [Bool.and_eq_true, decide_eq_true_iff, Bool.or_eq_true]
  refine ⟨⟨⟨⟨⟨by decide, by decide⟩, by omega, by omega⟩, ⟨by decide, by decide⟩⟩, by omega, by omega⟩, .inr ?_⟩
  rw [if_pos (by decide), Bool.and_eq_true, decide_eq_true_iff, decide_eq_true_iff]
  omega
theorem cell_blk {n k c : Nat} (al : n / 2 ^ k * 2 ^ k = n) (h1 : n ≤ c) (h2 : c < n + 2 ^ k) : c / 2 ^ k = n / 2 ^ k := by
  generalize n / 2 ^ k = i at al
  refine Nat.div_eq_of_lt_le (by omega) ?_
  rw [Nat.succ_mul]
  omega
theorem joinL_chars {S : List Nat} {c : Nat} : ∀ {L : List (List Nat)}, c ∈ TL.joinL S L → c ∈ S ∨ ∃ p ∈ L, c ∈ p
  | [p], h => .inr ⟨p, List.mem_singleton.mpr rfl, h⟩
  | p :: q :: r, h => by
    have h : c ∈ p ++ (S ++ TL.joinL S (q :: r)) := h
    rcases List.mem_append.mp h with h | h
    · exact .inr ⟨p, List.mem_cons_self, h⟩
    · rcases List.mem_append.mp h with h | h
      · exact .inl h
      · rcases joinL_chars h with z | ⟨x, hx, hc⟩
        · exact .inl z
        · exact .inr ⟨x, List.mem_cons_of_mem _ hx, hc⟩
theorem sum_le200 {L : List Str} (h : ∀ s ∈ L, Sh 200 s) : (L.map (·.length)).sum ≤ L.length * 200 := by
  induction L with
  | nil => exact Nat.zero_le _
  | cons x L ih =>
    rw [List.map_cons, List.sum_cons, List.length_cons, Nat.succ_mul]
    have := (h x List.mem_cons_self).1
    have := ih fun s hs => h s (List.mem_cons_of_mem _ hs)
    omega
theorem text_facts {L : List Str} (h : ∀ s ∈ L, Sh 200 s) (l : L.length ≤ 1300) : Ascii (Txt.join "\n" L) ∧ (Txt.join "\n" L).length ≤ 300000 ∧ (Txt.split (Txt.join "\n" L) "\n").length ≤ 1301 := by
  refine ⟨fun c hc => ?_, ?_, ?_⟩
  · rw [TL.join_eq] at hc
    have e : (Str.join "\n" L).cps.toList = TL.joinL (TL.tl "\n") (L.map TL.tl) := TL.tl_join _ _
    rw [e] at hc
    rcases joinL_chars hc with z | ⟨p, hp, hc⟩
    · have : ∀ c ∈ TL.tl "\n", c < 128 := by decide +kernel
      exact this c z
    · obtain ⟨s, hs, rfl⟩ := List.mem_map.mp hp
      exact ((h s hs).2 c hc).1
  · have e := PySem.StrLaws.join_length_le "\n" L
    rw [TL.join_eq]
    have := sum_le200 h
    have : ("\n" : Str).length = 1 := by decide +kernel
    rw [this] at e
    omega
  · by_cases ne : L = []
    · subst ne
      decide +kernel
    · rw [TL.split_join (s := 10) (S := []) (by decide +kernel) (by decide +kernel) ne fun p hp hc => ((h p hp).2 10 hc).2 rfl]
      omega
theorem PcsAt.weak {B N C M : Nat} {H : Hp} {p : Addr} (h : PcsAt B N H p) (b : B ≤ C) (n : N ≤ M) : PcsAt C M H p := by
  obtain ⟨ts, e, al, l1, l2⟩ := h
  exact ⟨ts, e, fun t ht => by
    obtain ⟨n, m, e, l1, l⟩ := al t ht
    exact ⟨n, m, e, l1, by omega⟩, l1, by omega⟩
section
variable {P : Program} {w : World} {K : PySem.W.Frag} {mg : Str → Option Value} {base : Heap} {a : Ad}
theorem ok_law (T : Txt K mg a) : FnOk P w K mg base CX0 8 a.f_law a.d_law ["_law_script"] (sp_law K a) := by
  have G_Yard_free : FnOk P w K mg base CX0 2 a.f_Yard_free a.d_Yard_free ["self"] (sp_Yard_free K a) := ok_Yard_free T
  have G_Yard_out : FnOk P w K mg base CX0 1 a.f_Yard_out a.d_Yard_out ["self"] (sp_Yard_out K a) := ok_Yard_out T
  have G_Yard_owner : FnOk P w K mg base CX0 1 a.f_Yard_owner a.d_Yard_owner ["self", "cell"] (sp_Yard_owner K a) := ok_Yard_owner T
  have G_law_cell_at : FnOk P w K mg base CX0 1 a.f_law_cell_at a.d_law_cell_at ["_law_script", "_law_k"] (sp_law_cell_at K a) := ok_law_cell_at T
  have G_law_doubled : FnOk P w K mg base CX0 1 a.f_law_doubled a.d_law_doubled ["_law_times"] (sp_law_doubled K a) := ok_law_doubled T
  have G_law_due : FnOk P w K mg base CX0 2 a.f_law_due a.d_law_due ["_law_lines_here"] (sp_law_due K a) := ok_law_due T
  have G_law_halved : FnOk P w K mg base CX0 2 a.f_law_halved a.d_law_halved ["_law_script"] (sp_law_halved K a) := ok_law_halved T
  have G_law_in_a_row : FnOk P w K mg base CX0 2 a.f_law_in_a_row a.d_law_in_a_row ["_law_pieces", "_law_cell"] (sp_law_in_a_row K a) := ok_law_in_a_row T
  have G_law_lines : FnOk P w K mg base CX0 2 a.f_law_lines a.d_law_lines ["_law_script", "_law_pieces"] (sp_law_lines K a) := ok_law_lines T
  have G_law_refused : FnOk P w K mg base CX0 7 a.f_law_refused a.d_law_refused ["_law_text"] (sp_law_refused K a) := ok_law_refused T
  have G_law_refused_by_any : FnOk P w K mg base CX0 7 a.f_law_refused_by_any a.d_law_refused_by_any ["_law_text"] (sp_law_refused_by_any K a) := ok_law_refused_by_any T
  have G_law_spoilt : FnOk P w K mg base CX0 2 a.f_law_spoilt a.d_law_spoilt ["_law_lines_here", "_law_cell"] (sp_law_spoilt K a) := ok_law_spoilt T
  have G_law_whole : FnOk P w K mg base CX0 1 a.f_law_whole a.d_law_whole ["_law_found"] (sp_law_whole K a) := ok_law_whole T
  have G_read : FnOk P w K mg base (L2.CX P w) 6 a.f_read a.d_read ["text"] (sp_read K a) := ok_read T
  refine T.law.fn.ok sc_law (fun vs H Q E h => by first | (obtain ⟨rfl, _⟩ := h; rfl) | (obtain ⟨_, rfl, _⟩ := h; rfl) | (obtain ⟨_, _, rfl, _⟩ := h; rfl) | (obtain ⟨_, _, _, rfl, _⟩ := h; rfl) | (obtain ⟨_, _, _, _, rfl, _⟩ := h; rfl) | (obtain ⟨_, _, _, _, _, rfl, _⟩ := h; rfl) | (obtain ⟨_, _, _, _, _, _, rfl, _⟩ := h; rfl) | (obtain ⟨_, _, _, _, _, _, _, rfl, _⟩ := h; rfl) | (obtain ⟨_, _, _, _, _, _, _, _, rfl, _⟩ := h; rfl) | (obtain ⟨_, _, _, _, _, _, _, _, _, rfl, _⟩ := h; rfl) | (obtain ⟨_, _, _, _, _, _, _, _, _, _, rfl, _⟩ := h; rfl) | (obtain ⟨_, _, _, _, _, _, _, _, _, _, _, rfl, _⟩ := h; rfl)) (fun cdv A outer s H vs Q E hr h => ?_)
  refine ⟨_, pss_cons (ps_set (i := 1) sc_law.nd rfl (Or.inl rfl) (pe_call G_law_halved (hr.mono (by decide)) rfl T.law_halved.mg T.law_halved.fn.kp T.law_halved.bd .nil pass0 (pa_cons (pv 0) pa_nil)))
      (pss_cons (ps_if (pt_cmpR op_eq (pe_op op_mod (pe_op op_fdiv (pe_call G_law_cell_at (hr.mono (by decide)) rfl T.law_cell_at.mg T.law_cell_at.fn.kp T.law_cell_at.bd .nil pass0 (pa_cons (pv 0) (pa_cons pe_int pa_nil))) pe_int) pe_int) pe_int (nomark _)) (pss_one (ps_setLc (i := 1) (own := [("_law_k", 2)]) (g := gName 2) rfl sc_law.nd rfl rfl (sw_true rfl rfl rfl (by decide +kernel)) (pi_range1 rfl T.z_range (pa_cons (pe_call G_law_doubled (hr.mono (by decide)) rfl T.law_doubled.mg T.law_doubled.fn.kp T.law_doubled.bd .nil pass0 (pa_cons (pe_op op_mod (pe_op op_fdiv (pe_call G_law_cell_at (hr.mono (by decide)) rfl T.law_cell_at.mg T.law_cell_at.fn.kp T.law_cell_at.bd .nil pass0 (pa_cons (pv 0) (pa_cons pe_int pa_nil))) pe_int) pe_int) pa_nil)) pa_nil)) (blkOk_by (own := [("_law_k", 2)]) (N := ["_law_script", "_law_pieces", "_law_k", "_law_lines_here", "_law_text", "_law_due_here", "_law_yard", "_law_piece"]) (sc := defScope s_law) (by decide +kernel)) (fun _ _ _ _ _ => (pg_name (i := 2) sc_law.nd rfl (Or.inl rfl))) (fun _ _ _ _ _ => pts_nil) (fun _ _ _ _ _ => (pe_tup (pa_cons (pv 2) (pa_cons pe_int pa_nil)))))) pss_nil)
      (pss_cons (ps_if (pt_cmpR op_eq (pe_op op_mod (pe_call G_law_cell_at (hr.mono (by decide)) rfl T.law_cell_at.mg T.law_cell_at.fn.kp T.law_cell_at.bd .nil pass0 (pa_cons (pv 0) (pa_cons pe_int pa_nil))) pe_int) pe_int (nomark _)) (pss_one (ps_set (i := 1) sc_law.nd rfl (Or.inl rfl) (pe_call G_law_in_a_row (hr.mono (by decide)) rfl T.law_in_a_row.mg T.law_in_a_row.fn.kp T.law_in_a_row.bd .nil pass0 (pa_cons (pv 1) (pa_cons (pe_call G_law_cell_at (hr.mono (by decide)) rfl T.law_cell_at.mg T.law_cell_at.fn.kp T.law_cell_at.bd .nil pass0 (pa_cons (pv 0) (pa_cons pe_int pa_nil))) pa_nil))))) pss_nil)
      (pss_cons (ps_set (i := 3) sc_law.nd rfl (Or.inl rfl) (pe_call G_law_lines (hr.mono (by decide)) rfl T.law_lines.mg T.law_lines.fn.kp T.law_lines.bd .nil pass0 (pa_cons (pv 0) (pa_cons (pv 1) pa_nil))))
      (pss_cons (ps_if (pt_cmpR op_eq (pe_op op_mod (pe_call G_law_cell_at (hr.mono (by decide)) rfl T.law_cell_at.mg T.law_cell_at.fn.kp T.law_cell_at.bd .nil pass0 (pa_cons (pv 0) (pa_cons pe_int pa_nil))) pe_int) pe_int (nomark _)) (pss_one (ps_set (i := 3) sc_law.nd rfl (Or.inl rfl) (pe_call G_law_spoilt (hr.mono (by decide)) rfl T.law_spoilt.mg T.law_spoilt.fn.kp T.law_spoilt.bd .nil pass0 (pa_cons (pv 3) (pa_cons (pe_op op_fdiv (pe_call G_law_cell_at (hr.mono (by decide)) rfl T.law_cell_at.mg T.law_cell_at.fn.kp T.law_cell_at.bd .nil pass0 (pa_cons (pv 0) (pa_cons pe_int pa_nil))) pe_int) pa_nil))))) pss_nil)
      (pss_cons (ps_set (i := 4) sc_law.nd rfl (Or.inl rfl) (pe_join pe_str (pv 3)))
      (pss_cons (ps_set (i := 5) sc_law.nd rfl (Or.inl rfl) (pe_call G_law_due (hr.mono (by decide)) rfl T.law_due.mg T.law_due.fn.kp T.law_due.bd .nil pass0 (pa_cons (pe_split (pv 4) pe_str) pa_nil)))
      (pss_cons (ps_if (pt_cmpR op_isN (pv 5) pe_non (nomark _)) (pss_one (ps_ret (pe_and (pe_call G_law_refused (hr.mono (by decide)) rfl T.law_refused.mg T.law_refused.fn.kp T.law_refused.bd .nil pass0 (pa_cons (pv 4) pa_nil)) (pe_one (pe_call G_law_refused_by_any (hr.mono (by decide)) rfl T.law_refused_by_any.mg T.law_refused_by_any.fn.kp T.law_refused_by_any.bd .nil pass0 (pa_cons (pv 4) pa_nil)))))) pss_nil)
      (pss_cons (ps_set (i := 6) sc_law.nd rfl (Or.inl rfl) (pe_call G_read (hr.mono (by decide)) rfl T.read.mg T.read.fn.kp T.read.bd .nil passL (pa_cons (pv 4) pa_nil)))
      (pss_cons (ps_if (PW.pt (pw_or (pt_not (pt_val (pe_call G_law_whole (hr.mono (by decide)) rfl T.law_whole.mg T.law_whole.fn.kp T.law_whole.bd .nil pass0 (pa_cons (pe_fld (pv 6) rfl) pa_nil)))) (pw_or1 (pt_cmpR op_ne (pe_fld (pv 6) rfl) (pe_ix ix_tup (pv 5) pe_int (fun _ _ => rfl)) (nomark _))))) (pss_one (ps_ret pe_bl)) pss_nil)
      (pss_cons (ps_for PassesOwn.never rfl (pi_range3 rfl T.z_range (pa_cons pe_int (pa_cons (pe_callB call_len_seq (by rfl) T.z_len PySem.boot_len (pa_cons (pe_ix ix_tup (pv 5) pe_int (fun _ _ => rfl)) pa_nil)) (pa_cons pe_int pa_nil)))) (pg_name (i := 2) sc_law.nd rfl (Or.inl rfl)) (pss_cons (ps_set (i := 7) sc_law.nd rfl (Or.inl rfl) (pe_ix ix_list (pe_ix ix_tup (pv 5) pe_int (fun _ _ => rfl)) (pe_op op_sub (pe_op op_sub (pe_callB call_len_seq (by rfl) T.z_len PySem.boot_len (pa_cons (pe_ix ix_tup (pv 5) pe_int (fun _ _ => rfl)) pa_nil)) pe_int) (pv 2)) (fun _ _ => rfl)))
      (pss_one (ps_if (pt_cmpR op_ne (pe_meth (pv 6) T.cl_Yard T.m_Yard_owner G_Yard_owner (hr.mono (by decide)) T.b_Yard_owner .nil pass0 (pa_cons (pe_op op_sub (pe_op op_add (pe_ix ix_tup (pv 7) pe_int (fun _ _ => rfl)) (pe_ix ix_tup (pv 7) pe_int (fun _ _ => rfl))) pe_int) pa_nil)) (pe_ix ix_tup (pv 7) pe_int (fun _ _ => rfl)) (nomark _)) (pss_one (ps_ret pe_bl)) pss_nil))))
      (pss_one (ps_ret (pe_and (pe_cmpR (op_eqD hr.units) (pe_meth0 (pv 6) T.cl_Yard T.m_Yard_out G_Yard_out (hr.mono (by decide)) T.b_Yard_out .nil pass0) (pe_ix ix_tup (pv 5) pe_int (fun _ _ => rfl)) (nomark _)) (pe_one (pe_cmpR (op_eqD hr.units) (pe_meth0 (pv 6) T.cl_Yard T.m_Yard_free G_Yard_free (hr.mono (by decide)) T.b_Yard_free .nil pass0) (pe_ix ix_tup (pv 5) pe_int (fun _ _ => rfl)) (nomark _)))))))))))))))), ?_⟩
  obtain ⟨l, ns, rfl, hS, hl, q⟩ := h
  have hSk : ∀ H' : Hp, (∀ b o, H b = some o → H' b = some o) → SqL K H' l (ns.map V.int) := fun H' k => seq_keep hS fun o eo => k _ _ eo
  refine ⟨_, rfl, l, ns, rfl, hS, hl, fun H1 p k1 np P1 => nm ?_⟩
  dsimp only
  refine split_seq (fun σ' H' => ∃ (p2 : Addr) (x2 : Option V), σ' = [some (.ref l), some (.ref p2), x2, none, none, none, none, none] ∧ PcsAt (2 ^ 60) 600 H' p2 ∧ (∀ b o, H b = some o → H' b = some o)) (fun tail => ?_) ?_
  · refine ⟨_, rfl, l, ns, 2, rfl, hSk _ k1, hl, _, _, rfl, rfl, ⟨by decide, by decide⟩, _, _, rfl, rfl, by show (0 : Int) < 8; decide, rfl, _, rfl, ite2 (fun _ => ?_) (fun _ => ?_)⟩
    · obtain ⟨e1, h1, l1⟩ := emod_nat (cell ns 2 / 16) (show 0 < 10 by decide)
      have h1 : cell ns 2 / 16 % 10 = (e1 : Int) := h1
      have pe : 0 < 2 ^ e1 := Nat.pow_pos (by decide)
      have pl : 2 ^ e1 ≤ 2 ^ 9 := Nat.pow_le_pow_right (by decide) (by omega)
      refine ⟨_, rfl, l, ns, 2, rfl, hSk _ k1, hl, _, _, rfl, rfl, ⟨by decide, by decide⟩, _, _, rfl, rfl, by show (0 : Int) < 10; decide, e1, by show [V.int (cell ns 2 / 16 % 10)] ++ [] = _; rw [h1]; rfl, by omega, ((2 ^ e1 : Nat) : Int), rfl, by omega, by omega, fun D newD => ?_⟩
      refine lc_out walk_range (fun i H' => ∃ us : List Addr, H' D = some (.lst (us.map V.ref)) ∧ us.length = i ∧ (∀ t ∈ us, PcAt (2 ^ 60) H' t) ∧ (∀ b o, H1 b = some o → H' b = some o))
        ⟨[], upd_same, rfl, (fun t h => by cases h), newK newD⟩ (fun _ _ _ _ => trivial) ?_ ?_
      · rintro i v H3 H4 hi' ⟨us, hD, lu, all, k3⟩ ⟨rfl, rfl⟩
        have hi' : i < 2 ^ e1 := by
          rw [Int.toNat_natCast] at hi'
          exact hi'
        refine ⟨rfl, ⟨_, rfl, by show 2 ≤ sizeLine; decide, fun t nt => ?_⟩⟩
        have h3 : L2.upd H4 t (.tup [.int (0 + (i : Int)), .int 1]) D = _ := newK nt _ _ hD
        have grow : ∀ u o, u ≠ D → H4 u = some o → L2.upd (L2.upd H4 t (.tup [.int (0 + (i : Int)), .int 1])) D (.lst (us.map V.ref ++ [V.ref t])) u = some o := fun u o ne e => by
          rw [upd_ne ne]
          exact newK nt _ _ e
        refine ⟨us.map V.ref, h3, by rw [List.length_map, sizeLine_eq]; omega, us ++ [t], ?_, by rw [List.length_append, lu]; rfl, fun u hu => ?_, fun b o e => grow _ _ (fun z => by rw [z, newD] at e; cases e) (k3 _ _ e)⟩
        · rw [List.map_append]
          exact upd_same
        · rcases List.mem_append.mp hu with hu | hu
          · obtain ⟨n, m, e, le1, le⟩ := all u hu
            exact ⟨n, m, grow _ _ (fun z => by rw [z, hD] at e; cases e) e, le1, le⟩
          · rw [List.mem_singleton.mp hu]
            refine ⟨i, 1, ?_, Nat.le_refl _, Nat.le_trans (show i + 1 ≤ 2 ^ 9 by omega) (by decide)⟩
            rw [upd_ne (fun z => by rw [z, hD] at nt; cases nt), upd_same]
            show some (HO.tup [V.int (0 + (i : Int)), V.int 1]) = some (HO.tup [V.int (i : Int), V.int 1])
            rw [show 0 + (i : Int) = (i : Int) by omega]
      · rintro H3 ⟨us, hD, lu, all, k3⟩
        rw [Int.toNat_natCast] at lu
        exact tail _ _ ⟨D, _, rfl, ⟨us, hD, all, by omega, by omega⟩, fun b o e => k3 _ _ (k1 _ _ e)⟩
    · exact tail _ _ ⟨p, _, rfl, P1.weak (Nat.le_refl _) (by decide), k1⟩
  clear P1 k1 np
  rintro σ2 H2 ⟨p2, x2, rfl, P2, k2⟩
  refine split_seq (fun σ' H' => ∃ (p3 : Addr), σ' = [some (.ref l), some (.ref p3), x2, none, none, none, none, none] ∧ PcsAt (2 ^ 70) 601 H' p3 ∧ (∀ b o, H b = some o → H' b = some o)) (fun tail => ?_) ?_
  · refine ⟨_, rfl, l, ns, 0, rfl, hSk _ k2, hl, _, _, rfl, rfl, by show (0 : Int) < 2; decide, rfl, _, rfl, ite2 (fun _ => ?_) (fun _ => ?_)⟩
    · refine ⟨_, rfl, _, rfl, l, ns, 19, rfl, hSk _ k2, hl, p2, _, rfl, P2, fun H3 p3 k3 np3 P3 => nm ?_⟩
      exact tail _ _ ⟨p3, rfl, P3, fun b o e => k3 _ _ (k2 _ _ e)⟩
    · exact tail _ _ ⟨p2, rfl, P2.weak (by decide) (by decide), k2⟩
  clear P2 k2
  rintro σ3 H3 ⟨p3, rfl, P3, k3⟩
  refine ⟨_, rfl, _, rfl, l, p3, ns, rfl, hSk _ k3, hl, P3, fun H4 p4 L0 k4 h4 ok4 lo4 hi4 => nm ?_⟩
  dsimp only
  have k4 : ∀ b o, H b = some o → H4 b = some o := fun b o e => k4 _ _ (k3 _ _ e)
  refine split_seq (fun σ' H' => ∃ (p5 : Addr) (L : List Str), σ' = [some (.ref l), some (.ref p3), x2, some (.ref p5), none, none, none, none] ∧ StrsAt H' p5 L ∧ (∀ s ∈ L, Sh 200 s) ∧ L.length ≤ 1300 ∧ (∀ b o, H b = some o → H' b = some o)) (fun tail => ?_) ?_
  · refine ⟨_, rfl, l, ns, 1, rfl, hSk _ k4, hl, _, _, rfl, rfl, by show (0 : Int) < 2; decide, rfl, _, rfl, ite2 (fun _ => ?_) (fun _ => ?_)⟩
    · refine ⟨_, rfl, _, rfl, l, ns, 1, rfl, hSk _ k4, hl, _, _, rfl, rfl, ⟨by decide, by decide⟩, p4, _, L0, rfl, h4, ok4, lo4, hi4, fun H5 p5 L k5 h5 sh5 l5 => nm ?_⟩
      exact tail _ _ ⟨p5, L, rfl, h5, sh5, l5, fun b o e => k5 _ _ (k4 _ _ e)⟩
    · exact tail _ _ ⟨p4, L0, rfl, h4, fun s h => line_sh (ok4 s h), by omega, k4⟩
  clear h4 ok4 lo4 hi4 k4 P3 k3
  rintro σ5 H5 ⟨p5, L, rfl, h5, sh5, l5, k5⟩
  obtain ⟨asc, len, few⟩ := text_facts sh5 l5
  have h5 : H5 p5 = some (.lst (L.map V.str)) := h5
  have one : ("\n" : Str).length = 1 := by decide +kernel
  refine ⟨⟨_, rfl⟩, _, rfl, _, p5, L, rfl, rfl, .inl (SqL.of h5), by have := sum_le200 sh5; rw [one]; omega, nm ?_⟩
  generalize Txt.join "\n" L = text at asc len few ⊢
  refine ⟨_, rfl, ⟨_, rfl⟩, text, _, rfl, rfl, by decide, by rw [sizeLine_eq]; omega, fun wl nwl => ⟨wl, Txt.split text "\n", rfl, upd_same, fun s h => Nat.le_trans (split_piece h).2 (by omega), by omega, fun rows d sh H6 t lo lf us vs k6 h6 ho to hf tf => nm ?_, fun no H6 k6 => nm ?_⟩⟩
  · refine ⟨_, rfl, rfl, _, rfl, iteFof (decide_eq_false (by intro z; cases z)) ?_⟩
    have k7 : ∀ b o, H b = some o → H6 b = some o := fun b o e => k6 _ _ (newK nwl _ _ (k5 _ _ e))
    refine ⟨_, rfl, text, rfl, asc, by omega, by omega, fun rows' d' sh' Y H7 y7 fresh7 s7 => nm ?_, fun no => absurd sh (no rows d)⟩
    have er := rows_uniq sh'.2.1 sh.2.1
    subst er
    have ed : d' = d := by
      have c1 := chain_sum sh.2.2.1
      have c2 := chain_sum sh'.2.2.1
      exact (Nat.pow_right_inj (show 1 < 2 by decide)).mp (by omega)
    subst ed
    refine ⟨_, rfl, Y.y, a.c_Yard, Y.dy, _, _, rfl, y7.yo, T.cl_Yard, T.n_Yard_cells, yFs_cells Y d', _, rfl, _, rfl, iteF ?_⟩
    have h7 := s7 _ _ h6
    have ho7 := s7 _ _ ho
    have to7 : Tups H7 us ((outPn rows').map toI) := to.keep fun t xs e => s7 _ _ e
    refine ⟨_, rfl, Y.y, a.c_Yard, Y.dy, _, _, rfl, y7.yo, T.cl_Yard, T.n_Yard_cells, yFs_cells Y d', _, rfl, t, _, _, sI d', rfl, rfl, SqT.of h7, at_of (j := 0) rfl rfl, rfl, _, rfl, iteFof (by rw [decide_eq_true rfl]; rfl) ?_⟩
    have lu := to7.len
    rw [List.length_map] at lu
    have lp := sh.2.1.length
    have lo' : (outPn rows').length ≤ rows'.length := by
      unfold outPn
      rw [List.length_map]
      exact List.length_filter_le _ _
    refine ⟨_, rfl, t, _, _, .ref lo, rfl, rfl, SqT.of h7, at_of (j := 1) rfl rfl, lo, _, rfl, .inl (SqL.of ho7), 0, _, 40, _, rfl, rg40 (by rw [List.length_map]; omega), ?_⟩
    rw [List.length_map]
    refine for_rangeC (fun i σ H' => ∃ x2 x7 : Option V, σ = [some (.ref l), some (.ref p3), x2, some (.ref p5), some (.str text), some (.ref t), some (.ref Y.y), x7] ∧ H' = H7) ⟨_, _, rfl, rfl⟩ ?_ ?_
    · rintro i σ H' hi ⟨y2, x7, rfl, rfl⟩
      have ins := (PyProof.Rows.start_inside (len := (us.length : Int)) (c := 40) (v := (i : Int)) (by decide) (by omega) (by omega) (by
        have e := PyProof.Rows.rangeSize_pos (len := (us.length : Int)) (c := 40) (by decide) (by omega)
        rw [e] at hi ⊢
        omega)).2
      have jl : us.length - 1 - i * 40 < us.length := by omega
      obtain ⟨t', ht'⟩ : ∃ t', us[us.length - 1 - i * 40]? = some t' := ⟨_, List.getElem?_eq_getElem jl⟩
      obtain ⟨pq, hpq⟩ : ∃ pq, (outPn rows')[us.length - 1 - i * 40]? = some pq := ⟨_, List.getElem?_eq_getElem (by omega)⟩
      obtain ⟨n, k⟩ := pq
      obtain ⟨t2, ht2, hat2⟩ := to7.get (i := us.length - 1 - i * 40) (q := toI (n, k)) (by rw [List.getElem?_map, hpq]; rfl)
      rw [ht'] at ht2
      have e2 := Option.some.inj ht2
      subst e2
      have mq := List.mem_of_getElem? hpq
      have gq := y7.good.each _ mq
      have pk : 0 < 2 ^ k := Nat.pow_pos (by decide)
      refine nm ⟨_, rfl, t, _, _, .ref lo, rfl, rfl, SqT.of h7, at_of (j := 1) rfl rfl, _, rfl, t, _, _, .ref lo, rfl, rfl, SqT.of h7, at_of (j := 1) rfl rfl, lo, _, rfl, .inl (SqL.of ho7), _, _, rfl, rfl, _, rfl, _, _, rfl, rfl, lo, _, _, V.ref t', rfl, rfl, SqL.of ho7, at_of (j := us.length - 1 - i * 40) ?_ (by rw [List.getElem?_map, ht']; rfl), nm ?_⟩
      · show ((us.map V.ref).length : Int) - 1 - (0 + (i : Int) * 40) = _
        rw [List.length_map]
        omega
      refine ⟨_, rfl, Y.y, Y.dy, _, rfl, y7.yo, yFs_no Y d' (by decide +kernel) (by decide +kernel) (by decide +kernel), _, rfl, t', _, _, nI n, rfl, rfl, SqT.of hat2, at_of (j := 0) rfl rfl, _, rfl, t', _, _, sI k, rfl, rfl, SqT.of hat2, at_of (j := 1) rfl rfl, _, _, rfl, rfl, _, _, rfl, rfl, Y, d', _, (n : Int) + ((2 ^ k : Nat) : Int) - 1, rfl, y7, fun no => absurd ⟨by show (n : Int) ≤ _; omega, by show (n : Int) + ((2 ^ k : Nat) : Int) - 1 < (n : Int) + ((2 ^ k : Nat) : Int); omega⟩ (no (n, k) mq), fun q hq l1 l2 => ?_⟩
      have gq2 := y7.good.each _ hq
      have eq : q = (n, k) := by
        refine y7.good.one (c := n + 2 ^ k - 1) hq mq (cell_blk gq2.2.1 (by omega) (by omega)) (cell_blk gq.2.1 (by show n ≤ _; omega) (by show _ < n + 2 ^ k; omega))
      subst eq
      refine ⟨_, rfl, t', _, _, nI n, rfl, rfl, SqT.of hat2, at_of (j := 0) rfl rfl, rfl, _, rfl, iteFof (by show (!decide (nI n = nI n)) = false; rw [decide_eq_true rfl]; rfl) ?_⟩
      exact ⟨_, _, rfl, rfl⟩
    · rintro σ H' ⟨y2, x7, rfl, rfl⟩
      have gr := y7.good
      have go : Good d' (rows'.map Row.pn) := good_rows sh.2.2.1 (fun q hq => by
        obtain ⟨r, hr, rfl⟩ := List.mem_map.mp hq
        obtain ⟨x, _, _, _, _, _, _, _, z⟩ := paired_right sh.2.1 r hr
        exact z) (Nat.le_refl _)
      have oz := outZ_rows (rows := rows') sh.2.2.1
      have fz := frees_rows go gr sh.2.2.1 sh.2.2.2
      refine ⟨_, rfl, Y.y, Y.dy, _, rfl, y7.yo, yFs_no Y d' (by decide +kernel) (by decide +kernel) (by decide +kernel), Y, d', _, rfl, y7, fun lq us8 H8 s8 n8 at8 tu8 => ?_⟩
      have h8 := s8 _ _ h7
      refine ⟨_, rfl, t, _, _, .ref lo, rfl, rfl, SqT.of h8, at_of (j := 1) rfl rfl, _, _, dp_list at8 tu8, dp_list (s8 _ _ ho7) (to7.keep fun t xs e => s8 _ _ e), dL_shaped _, dL_shaped _, _, rfl, ?_⟩
      refine iteTof (by rw [dL_eqv, oz]; exact decide_eq_true rfl) ?_
      have y8 := y7.keep s8
      refine ⟨_, rfl, Y.y, Y.dy, _, rfl, y8.yo, yFs_no Y d' (by decide +kernel) (by decide +kernel) (by decide +kernel), Y, d', _, rfl, y8, fun lz us9 H9 s9 n9 at9 tu9 => ?_⟩
      refine ⟨_, rfl, t, _, _, .ref lf, rfl, rfl, SqT.of (s9 _ _ h8), at_of (j := 2) rfl rfl, _, _, dp_list at9 tu9, dp_list (s9 _ _ (s8 _ _ (s7 _ _ hf))) (tf.keep fun t xs e => s9 _ _ (s8 _ _ (s7 _ _ e))), dL_shaped _, dL_shaped _, ?_⟩
      rw [dL_eqv, fz, decide_eq_true rfl]
      exact q H9
  · refine ⟨_, rfl, rfl, _, rfl, iteT ?_⟩
    exact ⟨_, rfl, text, rfl, asc, by omega, by omega, no, fun H7 k7 => ⟨true, rfl, iteT ⟨_, rfl, text, rfl, asc, by omega, by omega, no, fun H8 k8 => q H8⟩⟩⟩
end
theorem all_mk {P : Program} {w : World} {K : PySem.W.Frag} {h : Heap} {mg : Str → Option Value} {fa : Addr} (X : K.In h) (G : h.Ns mainGlobals mg) (hfa : mg "law" = some (.ref fa))
    {c_YardError : Addr}
    {c_NoYard : Addr}
    {c_NoWish : Addr}
    {c_NoRoom : Addr}
    {c_NotOut : Addr}
    {c_NoNote : Addr}
    {c_Pool : Addr}
    {c_Yard : Addr}
    {f_wall : Addr} {od_wall an_wall : Option Addr} {sl_wall : Array (Option Value)} {oc_wall kV_wall dc_wall pm_wall cd_wall ct_wall : Value}
    {f_is_size : Addr} {od_is_size an_is_size : Option Addr} {sl_is_size : Array (Option Value)} {oc_is_size kV_is_size dc_is_size pm_is_size cd_is_size ct_is_size : Value}
    {f_size_for : Addr} {od_size_for an_size_for : Option Addr} {sl_size_for : Array (Option Value)} {oc_size_for kV_size_for dc_size_for pm_size_for cd_size_for ct_size_for : Value}
    {f_twin_of : Addr} {od_twin_of an_twin_of : Option Addr} {sl_twin_of : Array (Option Value)} {oc_twin_of kV_twin_of dc_twin_of pm_twin_of cd_twin_of ct_twin_of : Value}
    {f_rank : Addr} {od_rank an_rank : Option Addr} {sl_rank : Array (Option Value)} {oc_rank kV_rank dc_rank pm_rank cd_rank ct_rank : Value}
    {f_Pool_init : Addr} {od_Pool_init an_Pool_init : Option Addr} {sl_Pool_init : Array (Option Value)} {oc_Pool_init kV_Pool_init dc_Pool_init pm_Pool_init cd_Pool_init ct_Pool_init : Value}
    {f_Pool_put : Addr} {od_Pool_put an_Pool_put : Option Addr} {sl_Pool_put : Array (Option Value)} {oc_Pool_put kV_Pool_put dc_Pool_put pm_Pool_put cd_Pool_put ct_Pool_put : Value}
    {f_Pool_drop : Addr} {od_Pool_drop an_Pool_drop : Option Addr} {sl_Pool_drop : Array (Option Value)} {oc_Pool_drop kV_Pool_drop dc_Pool_drop pm_Pool_drop cd_Pool_drop ct_Pool_drop : Value}
    {f_Pool_has : Addr} {od_Pool_has an_Pool_has : Option Addr} {sl_Pool_has : Array (Option Value)} {oc_Pool_has kV_Pool_has dc_Pool_has pm_Pool_has cd_Pool_has ct_Pool_has : Value}
    {f_Pool_best : Addr} {od_Pool_best an_Pool_best : Option Addr} {sl_Pool_best : Array (Option Value)} {oc_Pool_best kV_Pool_best dc_Pool_best pm_Pool_best cd_Pool_best ct_Pool_best : Value}
    {f_Pool_pieces : Addr} {od_Pool_pieces an_Pool_pieces : Option Addr} {sl_Pool_pieces : Array (Option Value)} {oc_Pool_pieces kV_Pool_pieces dc_Pool_pieces pm_Pool_pieces cd_Pool_pieces ct_Pool_pieces : Value}
    {f_upper_halves : Addr} {od_upper_halves an_upper_halves : Option Addr} {sl_upper_halves : Array (Option Value)} {oc_upper_halves kV_upper_halves dc_upper_halves pm_upper_halves cd_upper_halves ct_upper_halves : Value}
    {f_Yard_init : Addr} {od_Yard_init an_Yard_init : Option Addr} {sl_Yard_init : Array (Option Value)} {oc_Yard_init kV_Yard_init dc_Yard_init pm_Yard_init cd_Yard_init ct_Yard_init : Value}
    {f_Yard_give : Addr} {od_Yard_give an_Yard_give : Option Addr} {sl_Yard_give : Array (Option Value)} {oc_Yard_give kV_Yard_give dc_Yard_give pm_Yard_give cd_Yard_give ct_Yard_give : Value}
    {f_Yard_take_back : Addr} {od_Yard_take_back an_Yard_take_back : Option Addr} {sl_Yard_take_back : Array (Option Value)} {oc_Yard_take_back kV_Yard_take_back dc_Yard_take_back pm_Yard_take_back cd_Yard_take_back ct_Yard_take_back : Value}
    {f_Yard_resize : Addr} {od_Yard_resize an_Yard_resize : Option Addr} {sl_Yard_resize : Array (Option Value)} {oc_Yard_resize kV_Yard_resize dc_Yard_resize pm_Yard_resize cd_Yard_resize ct_Yard_resize : Value}
    {f_Yard_free : Addr} {od_Yard_free an_Yard_free : Option Addr} {sl_Yard_free : Array (Option Value)} {oc_Yard_free kV_Yard_free dc_Yard_free pm_Yard_free cd_Yard_free ct_Yard_free : Value}
    {f_Yard_out : Addr} {od_Yard_out an_Yard_out : Option Addr} {sl_Yard_out : Array (Option Value)} {oc_Yard_out kV_Yard_out dc_Yard_out pm_Yard_out cd_Yard_out ct_Yard_out : Value}
    {f_Yard_owner : Addr} {od_Yard_owner an_Yard_owner : Option Addr} {sl_Yard_owner : Array (Option Value)} {oc_Yard_owner kV_Yard_owner dc_Yard_owner pm_Yard_owner cd_Yard_owner ct_Yard_owner : Value}
    {f_Yard_fitting : Addr} {od_Yard_fitting an_Yard_fitting : Option Addr} {sl_Yard_fitting : Array (Option Value)} {oc_Yard_fitting kV_Yard_fitting dc_Yard_fitting pm_Yard_fitting cd_Yard_fitting ct_Yard_fitting : Value}
    {f_Yard_size_of : Addr} {od_Yard_size_of an_Yard_size_of : Option Addr} {sl_Yard_size_of : Array (Option Value)} {oc_Yard_size_of kV_Yard_size_of dc_Yard_size_of pm_Yard_size_of cd_Yard_size_of ct_Yard_size_of : Value}
    {f_Yard_cut : Addr} {od_Yard_cut an_Yard_cut : Option Addr} {sl_Yard_cut : Array (Option Value)} {oc_Yard_cut kV_Yard_cut dc_Yard_cut pm_Yard_cut cd_Yard_cut ct_Yard_cut : Value}
    {f_Yard_grow : Addr} {od_Yard_grow an_Yard_grow : Option Addr} {sl_Yard_grow : Array (Option Value)} {oc_Yard_grow kV_Yard_grow dc_Yard_grow pm_Yard_grow cd_Yard_grow ct_Yard_grow : Value}
    {f_Yard_join : Addr} {od_Yard_join an_Yard_join : Option Addr} {sl_Yard_join : Array (Option Value)} {oc_Yard_join kV_Yard_join dc_Yard_join pm_Yard_join cd_Yard_join ct_Yard_join : Value}
    {f_read : Addr} {od_read an_read : Option Addr} {sl_read : Array (Option Value)} {oc_read kV_read dc_read pm_read cd_read ct_read : Value}
    {f_read_row : Addr} {od_read_row an_read_row : Option Addr} {sl_read_row : Array (Option Value)} {oc_read_row kV_read_row dc_read_row pm_read_row cd_read_row ct_read_row : Value}
    {f_read_number : Addr} {od_read_number an_read_number : Option Addr} {sl_read_number : Array (Option Value)} {oc_read_number kV_read_number dc_read_number pm_read_number cd_read_number ct_read_number : Value}
    {f_count_cells : Addr} {od_count_cells an_count_cells : Option Addr} {sl_count_cells : Array (Option Value)} {oc_count_cells kV_count_cells dc_count_cells pm_count_cells cd_count_cells ct_count_cells : Value}
    {f_refuse_free_twins : Addr} {od_refuse_free_twins an_refuse_free_twins : Option Addr} {sl_refuse_free_twins : Array (Option Value)} {oc_refuse_free_twins kV_refuse_free_twins dc_refuse_free_twins pm_refuse_free_twins cd_refuse_free_twins ct_refuse_free_twins : Value}
    {f_yard_of : Addr} {od_yard_of an_yard_of : Option Addr} {sl_yard_of : Array (Option Value)} {oc_yard_of kV_yard_of dc_yard_of pm_yard_of cd_yard_of ct_yard_of : Value}
    {f_law_whole : Addr} {od_law_whole an_law_whole : Option Addr} {sl_law_whole : Array (Option Value)} {oc_law_whole kV_law_whole dc_law_whole pm_law_whole cd_law_whole ct_law_whole : Value}
    {f_law_cell_at : Addr} {od_law_cell_at an_law_cell_at : Option Addr} {sl_law_cell_at : Array (Option Value)} {oc_law_cell_at kV_law_cell_at dc_law_cell_at pm_law_cell_at cd_law_cell_at ct_law_cell_at : Value}
    {f_law_doubled : Addr} {od_law_doubled an_law_doubled : Option Addr} {sl_law_doubled : Array (Option Value)} {oc_law_doubled kV_law_doubled dc_law_doubled pm_law_doubled cd_law_doubled ct_law_doubled : Value}
    {f_law_halved : Addr} {od_law_halved an_law_halved : Option Addr} {sl_law_halved : Array (Option Value)} {oc_law_halved kV_law_halved dc_law_halved pm_law_halved cd_law_halved ct_law_halved : Value}
    {f_law_in_a_row : Addr} {od_law_in_a_row an_law_in_a_row : Option Addr} {sl_law_in_a_row : Array (Option Value)} {oc_law_in_a_row kV_law_in_a_row dc_law_in_a_row pm_law_in_a_row cd_law_in_a_row ct_law_in_a_row : Value}
    {f_law_lines : Addr} {od_law_lines an_law_lines : Option Addr} {sl_law_lines : Array (Option Value)} {oc_law_lines kV_law_lines dc_law_lines pm_law_lines cd_law_lines ct_law_lines : Value}
    {f_law_others : Addr} {od_law_others an_law_others : Option Addr} {sl_law_others : Array (Option Value)} {oc_law_others kV_law_others dc_law_others pm_law_others cd_law_others ct_law_others : Value}
    {f_law_spoilt : Addr} {od_law_spoilt an_law_spoilt : Option Addr} {sl_law_spoilt : Array (Option Value)} {oc_law_spoilt kV_law_spoilt dc_law_spoilt pm_law_spoilt cd_law_spoilt ct_law_spoilt : Value}
    {f_law_number : Addr} {od_law_number an_law_number : Option Addr} {sl_law_number : Array (Option Value)} {oc_law_number kV_law_number dc_law_number pm_law_number cd_law_number ct_law_number : Value}
    {f_law_is_size : Addr} {od_law_is_size an_law_is_size : Option Addr} {sl_law_is_size : Array (Option Value)} {oc_law_is_size kV_law_is_size dc_law_is_size pm_law_is_size cd_law_is_size ct_law_is_size : Value}
    {f_law_due : Addr} {od_law_due an_law_due : Option Addr} {sl_law_due : Array (Option Value)} {oc_law_due kV_law_due dc_law_due pm_law_due cd_law_due ct_law_due : Value}
    {f_law_refused : Addr} {od_law_refused an_law_refused : Option Addr} {sl_law_refused : Array (Option Value)} {oc_law_refused kV_law_refused dc_law_refused pm_law_refused cd_law_refused ct_law_refused : Value}
    {f_law_refused_by_any : Addr} {od_law_refused_by_any an_law_refused_by_any : Option Addr} {sl_law_refused_by_any : Array (Option Value)} {oc_law_refused_by_any kV_law_refused_by_any dc_law_refused_by_any pm_law_refused_by_any cd_law_refused_by_any ct_law_refused_by_any : Value}
    {f_law : Addr} {od_law an_law : Option Addr} {sl_law : Array (Option Value)} {oc_law kV_law dc_law pm_law cd_law ct_law : Value}
    {t_MOST : Nat}
    {t_OUT : Nat}
    {t_FREE : Nat}
    (g_YardError : PySem.W.nsIn K mainGlobals "YardError" = some (some (.ref c_YardError)))
    (g_NoYard : PySem.W.nsIn K mainGlobals "NoYard" = some (some (.ref c_NoYard)))
    (g_NoWish : PySem.W.nsIn K mainGlobals "NoWish" = some (some (.ref c_NoWish)))
    (g_NoRoom : PySem.W.nsIn K mainGlobals "NoRoom" = some (some (.ref c_NoRoom)))
    (g_NotOut : PySem.W.nsIn K mainGlobals "NotOut" = some (some (.ref c_NotOut)))
    (g_NoNote : PySem.W.nsIn K mainGlobals "NoNote" = some (some (.ref c_NoNote)))
    (g_Pool : PySem.W.nsIn K mainGlobals "Pool" = some (some (.ref c_Pool)))
    (g_Yard : PySem.W.nsIn K mainGlobals "Yard" = some (some (.ref c_Yard)))
    (a_wall : PySem.W.nsIn K mainGlobals "_wall" = some (some (.ref f_wall)))
    (l_wall : K.lookup f_wall = some ⟨oc_wall, od_wall, .func (PySem.W.fnOf "_wall" "_wall" (defArgs s_wall) (defBody s_wall) (defScope s_wall) .none kV_wall dc_wall pm_wall an_wall cd_wall ct_wall), sl_wall⟩)
    (c_wall : PySem.W.codeIn K cd_wall "_wall" = true)
    (k_wall : PySem.W.keepIn K (.ref f_wall) = true)
    (a_is_size : PySem.W.nsIn K mainGlobals "is_size" = some (some (.ref f_is_size)))
    (l_is_size : K.lookup f_is_size = some ⟨oc_is_size, od_is_size, .func (PySem.W.fnOf "is_size" "is_size" (defArgs s_is_size) (defBody s_is_size) (defScope s_is_size) .none kV_is_size dc_is_size pm_is_size an_is_size cd_is_size ct_is_size), sl_is_size⟩)
    (c_is_size : PySem.W.codeIn K cd_is_size "is_size" = true)
    (k_is_size : PySem.W.keepIn K (.ref f_is_size) = true)
    (a_size_for : PySem.W.nsIn K mainGlobals "size_for" = some (some (.ref f_size_for)))
    (l_size_for : K.lookup f_size_for = some ⟨oc_size_for, od_size_for, .func (PySem.W.fnOf "size_for" "size_for" (defArgs s_size_for) (defBody s_size_for) (defScope s_size_for) .none kV_size_for dc_size_for pm_size_for an_size_for cd_size_for ct_size_for), sl_size_for⟩)
    (c_size_for : PySem.W.codeIn K cd_size_for "size_for" = true)
    (k_size_for : PySem.W.keepIn K (.ref f_size_for) = true)
    (a_twin_of : PySem.W.nsIn K mainGlobals "twin_of" = some (some (.ref f_twin_of)))
    (l_twin_of : K.lookup f_twin_of = some ⟨oc_twin_of, od_twin_of, .func (PySem.W.fnOf "twin_of" "twin_of" (defArgs s_twin_of) (defBody s_twin_of) (defScope s_twin_of) .none kV_twin_of dc_twin_of pm_twin_of an_twin_of cd_twin_of ct_twin_of), sl_twin_of⟩)
    (c_twin_of : PySem.W.codeIn K cd_twin_of "twin_of" = true)
    (k_twin_of : PySem.W.keepIn K (.ref f_twin_of) = true)
    (a_rank : PySem.W.nsIn K mainGlobals "rank" = some (some (.ref f_rank)))
    (l_rank : K.lookup f_rank = some ⟨oc_rank, od_rank, .func (PySem.W.fnOf "rank" "rank" (defArgs s_rank) (defBody s_rank) (defScope s_rank) .none kV_rank dc_rank pm_rank an_rank cd_rank ct_rank), sl_rank⟩)
    (c_rank : PySem.W.codeIn K cd_rank "rank" = true)
    (k_rank : PySem.W.keepIn K (.ref f_rank) = true)
    (a_Pool_init : PySem.W.findIn K (.ref c_Pool) "__init__" = some (some (.ref f_Pool_init)))
    (i_Pool_init : PySem.W.isFn K (.ref f_Pool_init) = true)
    (l_Pool_init : K.lookup f_Pool_init = some ⟨oc_Pool_init, od_Pool_init, .func (PySem.W.fnOf "__init__" "Pool.__init__" (defArgs s_Pool_init) (defBody s_Pool_init) (defScope s_Pool_init) .none kV_Pool_init dc_Pool_init pm_Pool_init an_Pool_init cd_Pool_init ct_Pool_init), sl_Pool_init⟩)
    (c_Pool_init : PySem.W.codeIn K cd_Pool_init "Pool.__init__" = true)
    (k_Pool_init : PySem.W.keepIn K (.ref f_Pool_init) = true)
    (a_Pool_put : PySem.W.findIn K (.ref c_Pool) "put" = some (some (.ref f_Pool_put)))
    (i_Pool_put : PySem.W.isFn K (.ref f_Pool_put) = true)
    (l_Pool_put : K.lookup f_Pool_put = some ⟨oc_Pool_put, od_Pool_put, .func (PySem.W.fnOf "put" "Pool.put" (defArgs s_Pool_put) (defBody s_Pool_put) (defScope s_Pool_put) .none kV_Pool_put dc_Pool_put pm_Pool_put an_Pool_put cd_Pool_put ct_Pool_put), sl_Pool_put⟩)
    (c_Pool_put : PySem.W.codeIn K cd_Pool_put "Pool.put" = true)
    (k_Pool_put : PySem.W.keepIn K (.ref f_Pool_put) = true)
    (a_Pool_drop : PySem.W.findIn K (.ref c_Pool) "drop" = some (some (.ref f_Pool_drop)))
    (i_Pool_drop : PySem.W.isFn K (.ref f_Pool_drop) = true)
    (l_Pool_drop : K.lookup f_Pool_drop = some ⟨oc_Pool_drop, od_Pool_drop, .func (PySem.W.fnOf "drop" "Pool.drop" (defArgs s_Pool_drop) (defBody s_Pool_drop) (defScope s_Pool_drop) .none kV_Pool_drop dc_Pool_drop pm_Pool_drop an_Pool_drop cd_Pool_drop ct_Pool_drop), sl_Pool_drop⟩)
    (c_Pool_drop : PySem.W.codeIn K cd_Pool_drop "Pool.drop" = true)
    (k_Pool_drop : PySem.W.keepIn K (.ref f_Pool_drop) = true)
    (a_Pool_has : PySem.W.findIn K (.ref c_Pool) "has" = some (some (.ref f_Pool_has)))
    (i_Pool_has : PySem.W.isFn K (.ref f_Pool_has) = true)
    (l_Pool_has : K.lookup f_Pool_has = some ⟨oc_Pool_has, od_Pool_has, .func (PySem.W.fnOf "has" "Pool.has" (defArgs s_Pool_has) (defBody s_Pool_has) (defScope s_Pool_has) .none kV_Pool_has dc_Pool_has pm_Pool_has an_Pool_has cd_Pool_has ct_Pool_has), sl_Pool_has⟩)
    (c_Pool_has : PySem.W.codeIn K cd_Pool_has "Pool.has" = true)
    (k_Pool_has : PySem.W.keepIn K (.ref f_Pool_has) = true)
    (a_Pool_best : PySem.W.findIn K (.ref c_Pool) "best" = some (some (.ref f_Pool_best)))
    (i_Pool_best : PySem.W.isFn K (.ref f_Pool_best) = true)
    (l_Pool_best : K.lookup f_Pool_best = some ⟨oc_Pool_best, od_Pool_best, .func (PySem.W.fnOf "best" "Pool.best" (defArgs s_Pool_best) (defBody s_Pool_best) (defScope s_Pool_best) .none kV_Pool_best dc_Pool_best pm_Pool_best an_Pool_best cd_Pool_best ct_Pool_best), sl_Pool_best⟩)
    (c_Pool_best : PySem.W.codeIn K cd_Pool_best "Pool.best" = true)
    (k_Pool_best : PySem.W.keepIn K (.ref f_Pool_best) = true)
    (a_Pool_pieces : PySem.W.findIn K (.ref c_Pool) "pieces" = some (some (.ref f_Pool_pieces)))
    (i_Pool_pieces : PySem.W.isFn K (.ref f_Pool_pieces) = true)
    (l_Pool_pieces : K.lookup f_Pool_pieces = some ⟨oc_Pool_pieces, od_Pool_pieces, .func (PySem.W.fnOf "pieces" "Pool.pieces" (defArgs s_Pool_pieces) (defBody s_Pool_pieces) (defScope s_Pool_pieces) .none kV_Pool_pieces dc_Pool_pieces pm_Pool_pieces an_Pool_pieces cd_Pool_pieces ct_Pool_pieces), sl_Pool_pieces⟩)
    (c_Pool_pieces : PySem.W.codeIn K cd_Pool_pieces "Pool.pieces" = true)
    (k_Pool_pieces : PySem.W.keepIn K (.ref f_Pool_pieces) = true)
    (a_upper_halves : PySem.W.nsIn K mainGlobals "upper_halves" = some (some (.ref f_upper_halves)))
    (l_upper_halves : K.lookup f_upper_halves = some ⟨oc_upper_halves, od_upper_halves, .func (PySem.W.fnOf "upper_halves" "upper_halves" (defArgs s_upper_halves) (defBody s_upper_halves) (defScope s_upper_halves) .none kV_upper_halves dc_upper_halves pm_upper_halves an_upper_halves cd_upper_halves ct_upper_halves), sl_upper_halves⟩)
    (c_upper_halves : PySem.W.codeIn K cd_upper_halves "upper_halves" = true)
    (k_upper_halves : PySem.W.keepIn K (.ref f_upper_halves) = true)
    (a_Yard_init : PySem.W.findIn K (.ref c_Yard) "__init__" = some (some (.ref f_Yard_init)))
    (i_Yard_init : PySem.W.isFn K (.ref f_Yard_init) = true)
    (l_Yard_init : K.lookup f_Yard_init = some ⟨oc_Yard_init, od_Yard_init, .func (PySem.W.fnOf "__init__" "Yard.__init__" (defArgs s_Yard_init) (defBody s_Yard_init) (defScope s_Yard_init) .none kV_Yard_init dc_Yard_init pm_Yard_init an_Yard_init cd_Yard_init ct_Yard_init), sl_Yard_init⟩)
    (c_Yard_init : PySem.W.codeIn K cd_Yard_init "Yard.__init__" = true)
    (k_Yard_init : PySem.W.keepIn K (.ref f_Yard_init) = true)
    (a_Yard_give : PySem.W.findIn K (.ref c_Yard) "give" = some (some (.ref f_Yard_give)))
    (i_Yard_give : PySem.W.isFn K (.ref f_Yard_give) = true)
    (l_Yard_give : K.lookup f_Yard_give = some ⟨oc_Yard_give, od_Yard_give, .func (PySem.W.fnOf "give" "Yard.give" (defArgs s_Yard_give) (defBody s_Yard_give) (defScope s_Yard_give) .none kV_Yard_give dc_Yard_give pm_Yard_give an_Yard_give cd_Yard_give ct_Yard_give), sl_Yard_give⟩)
    (c_Yard_give : PySem.W.codeIn K cd_Yard_give "Yard.give" = true)
    (k_Yard_give : PySem.W.keepIn K (.ref f_Yard_give) = true)
    (a_Yard_take_back : PySem.W.findIn K (.ref c_Yard) "take_back" = some (some (.ref f_Yard_take_back)))
    (i_Yard_take_back : PySem.W.isFn K (.ref f_Yard_take_back) = true)
    (l_Yard_take_back : K.lookup f_Yard_take_back = some ⟨oc_Yard_take_back, od_Yard_take_back, .func (PySem.W.fnOf "take_back" "Yard.take_back" (defArgs s_Yard_take_back) (defBody s_Yard_take_back) (defScope s_Yard_take_back) .none kV_Yard_take_back dc_Yard_take_back pm_Yard_take_back an_Yard_take_back cd_Yard_take_back ct_Yard_take_back), sl_Yard_take_back⟩)
    (c_Yard_take_back : PySem.W.codeIn K cd_Yard_take_back "Yard.take_back" = true)
    (k_Yard_take_back : PySem.W.keepIn K (.ref f_Yard_take_back) = true)
    (a_Yard_resize : PySem.W.findIn K (.ref c_Yard) "resize" = some (some (.ref f_Yard_resize)))
    (i_Yard_resize : PySem.W.isFn K (.ref f_Yard_resize) = true)
    (l_Yard_resize : K.lookup f_Yard_resize = some ⟨oc_Yard_resize, od_Yard_resize, .func (PySem.W.fnOf "resize" "Yard.resize" (defArgs s_Yard_resize) (defBody s_Yard_resize) (defScope s_Yard_resize) .none kV_Yard_resize dc_Yard_resize pm_Yard_resize an_Yard_resize cd_Yard_resize ct_Yard_resize), sl_Yard_resize⟩)
    (c_Yard_resize : PySem.W.codeIn K cd_Yard_resize "Yard.resize" = true)
    (k_Yard_resize : PySem.W.keepIn K (.ref f_Yard_resize) = true)
    (a_Yard_free : PySem.W.findIn K (.ref c_Yard) "free" = some (some (.ref f_Yard_free)))
    (i_Yard_free : PySem.W.isFn K (.ref f_Yard_free) = true)
    (l_Yard_free : K.lookup f_Yard_free = some ⟨oc_Yard_free, od_Yard_free, .func (PySem.W.fnOf "free" "Yard.free" (defArgs s_Yard_free) (defBody s_Yard_free) (defScope s_Yard_free) .none kV_Yard_free dc_Yard_free pm_Yard_free an_Yard_free cd_Yard_free ct_Yard_free), sl_Yard_free⟩)
    (c_Yard_free : PySem.W.codeIn K cd_Yard_free "Yard.free" = true)
    (k_Yard_free : PySem.W.keepIn K (.ref f_Yard_free) = true)
    (a_Yard_out : PySem.W.findIn K (.ref c_Yard) "out" = some (some (.ref f_Yard_out)))
    (i_Yard_out : PySem.W.isFn K (.ref f_Yard_out) = true)
    (l_Yard_out : K.lookup f_Yard_out = some ⟨oc_Yard_out, od_Yard_out, .func (PySem.W.fnOf "out" "Yard.out" (defArgs s_Yard_out) (defBody s_Yard_out) (defScope s_Yard_out) .none kV_Yard_out dc_Yard_out pm_Yard_out an_Yard_out cd_Yard_out ct_Yard_out), sl_Yard_out⟩)
    (c_Yard_out : PySem.W.codeIn K cd_Yard_out "Yard.out" = true)
    (k_Yard_out : PySem.W.keepIn K (.ref f_Yard_out) = true)
    (a_Yard_owner : PySem.W.findIn K (.ref c_Yard) "owner" = some (some (.ref f_Yard_owner)))
    (i_Yard_owner : PySem.W.isFn K (.ref f_Yard_owner) = true)
    (l_Yard_owner : K.lookup f_Yard_owner = some ⟨oc_Yard_owner, od_Yard_owner, .func (PySem.W.fnOf "owner" "Yard.owner" (defArgs s_Yard_owner) (defBody s_Yard_owner) (defScope s_Yard_owner) .none kV_Yard_owner dc_Yard_owner pm_Yard_owner an_Yard_owner cd_Yard_owner ct_Yard_owner), sl_Yard_owner⟩)
    (c_Yard_owner : PySem.W.codeIn K cd_Yard_owner "Yard.owner" = true)
    (k_Yard_owner : PySem.W.keepIn K (.ref f_Yard_owner) = true)
    (a_Yard_fitting : PySem.W.findIn K (.ref c_Yard) "_fitting" = some (some (.ref f_Yard_fitting)))
    (i_Yard_fitting : PySem.W.isFn K (.ref f_Yard_fitting) = true)
    (l_Yard_fitting : K.lookup f_Yard_fitting = some ⟨oc_Yard_fitting, od_Yard_fitting, .func (PySem.W.fnOf "_fitting" "Yard._fitting" (defArgs s_Yard_fitting) (defBody s_Yard_fitting) (defScope s_Yard_fitting) .none kV_Yard_fitting dc_Yard_fitting pm_Yard_fitting an_Yard_fitting cd_Yard_fitting ct_Yard_fitting), sl_Yard_fitting⟩)
    (c_Yard_fitting : PySem.W.codeIn K cd_Yard_fitting "Yard._fitting" = true)
    (k_Yard_fitting : PySem.W.keepIn K (.ref f_Yard_fitting) = true)
    (a_Yard_size_of : PySem.W.findIn K (.ref c_Yard) "_size_of" = some (some (.ref f_Yard_size_of)))
    (i_Yard_size_of : PySem.W.isFn K (.ref f_Yard_size_of) = true)
    (l_Yard_size_of : K.lookup f_Yard_size_of = some ⟨oc_Yard_size_of, od_Yard_size_of, .func (PySem.W.fnOf "_size_of" "Yard._size_of" (defArgs s_Yard_size_of) (defBody s_Yard_size_of) (defScope s_Yard_size_of) .none kV_Yard_size_of dc_Yard_size_of pm_Yard_size_of an_Yard_size_of cd_Yard_size_of ct_Yard_size_of), sl_Yard_size_of⟩)
    (c_Yard_size_of : PySem.W.codeIn K cd_Yard_size_of "Yard._size_of" = true)
    (k_Yard_size_of : PySem.W.keepIn K (.ref f_Yard_size_of) = true)
    (a_Yard_cut : PySem.W.findIn K (.ref c_Yard) "_cut" = some (some (.ref f_Yard_cut)))
    (i_Yard_cut : PySem.W.isFn K (.ref f_Yard_cut) = true)
    (l_Yard_cut : K.lookup f_Yard_cut = some ⟨oc_Yard_cut, od_Yard_cut, .func (PySem.W.fnOf "_cut" "Yard._cut" (defArgs s_Yard_cut) (defBody s_Yard_cut) (defScope s_Yard_cut) .none kV_Yard_cut dc_Yard_cut pm_Yard_cut an_Yard_cut cd_Yard_cut ct_Yard_cut), sl_Yard_cut⟩)
    (c_Yard_cut : PySem.W.codeIn K cd_Yard_cut "Yard._cut" = true)
    (k_Yard_cut : PySem.W.keepIn K (.ref f_Yard_cut) = true)
    (a_Yard_grow : PySem.W.findIn K (.ref c_Yard) "_grow" = some (some (.ref f_Yard_grow)))
    (i_Yard_grow : PySem.W.isFn K (.ref f_Yard_grow) = true)
    (l_Yard_grow : K.lookup f_Yard_grow = some ⟨oc_Yard_grow, od_Yard_grow, .func (PySem.W.fnOf "_grow" "Yard._grow" (defArgs s_Yard_grow) (defBody s_Yard_grow) (defScope s_Yard_grow) .none kV_Yard_grow dc_Yard_grow pm_Yard_grow an_Yard_grow cd_Yard_grow ct_Yard_grow), sl_Yard_grow⟩)
    (c_Yard_grow : PySem.W.codeIn K cd_Yard_grow "Yard._grow" = true)
    (k_Yard_grow : PySem.W.keepIn K (.ref f_Yard_grow) = true)
    (a_Yard_join : PySem.W.findIn K (.ref c_Yard) "_join" = some (some (.ref f_Yard_join)))
    (i_Yard_join : PySem.W.isFn K (.ref f_Yard_join) = true)
    (l_Yard_join : K.lookup f_Yard_join = some ⟨oc_Yard_join, od_Yard_join, .func (PySem.W.fnOf "_join" "Yard._join" (defArgs s_Yard_join) (defBody s_Yard_join) (defScope s_Yard_join) .none kV_Yard_join dc_Yard_join pm_Yard_join an_Yard_join cd_Yard_join ct_Yard_join), sl_Yard_join⟩)
    (c_Yard_join : PySem.W.codeIn K cd_Yard_join "Yard._join" = true)
    (k_Yard_join : PySem.W.keepIn K (.ref f_Yard_join) = true)
    (a_read : PySem.W.nsIn K mainGlobals "read" = some (some (.ref f_read)))
    (l_read : K.lookup f_read = some ⟨oc_read, od_read, .func (PySem.W.fnOf "read" "read" (defArgs s_read) (defBody s_read) (defScope s_read) .none kV_read dc_read pm_read an_read cd_read ct_read), sl_read⟩)
    (c_read : PySem.W.codeIn K cd_read "read" = true)
    (k_read : PySem.W.keepIn K (.ref f_read) = true)
    (a_read_row : PySem.W.nsIn K mainGlobals "read_row" = some (some (.ref f_read_row)))
    (l_read_row : K.lookup f_read_row = some ⟨oc_read_row, od_read_row, .func (PySem.W.fnOf "read_row" "read_row" (defArgs s_read_row) (defBody s_read_row) (defScope s_read_row) .none kV_read_row dc_read_row pm_read_row an_read_row cd_read_row ct_read_row), sl_read_row⟩)
    (c_read_row : PySem.W.codeIn K cd_read_row "read_row" = true)
    (k_read_row : PySem.W.keepIn K (.ref f_read_row) = true)
    (a_read_number : PySem.W.nsIn K mainGlobals "read_number" = some (some (.ref f_read_number)))
    (l_read_number : K.lookup f_read_number = some ⟨oc_read_number, od_read_number, .func (PySem.W.fnOf "read_number" "read_number" (defArgs s_read_number) (defBody s_read_number) (defScope s_read_number) .none kV_read_number dc_read_number pm_read_number an_read_number cd_read_number ct_read_number), sl_read_number⟩)
    (c_read_number : PySem.W.codeIn K cd_read_number "read_number" = true)
    (k_read_number : PySem.W.keepIn K (.ref f_read_number) = true)
    (a_count_cells : PySem.W.nsIn K mainGlobals "count_cells" = some (some (.ref f_count_cells)))
    (l_count_cells : K.lookup f_count_cells = some ⟨oc_count_cells, od_count_cells, .func (PySem.W.fnOf "count_cells" "count_cells" (defArgs s_count_cells) (defBody s_count_cells) (defScope s_count_cells) .none kV_count_cells dc_count_cells pm_count_cells an_count_cells cd_count_cells ct_count_cells), sl_count_cells⟩)
    (c_count_cells : PySem.W.codeIn K cd_count_cells "count_cells" = true)
    (k_count_cells : PySem.W.keepIn K (.ref f_count_cells) = true)
    (a_refuse_free_twins : PySem.W.nsIn K mainGlobals "refuse_free_twins" = some (some (.ref f_refuse_free_twins)))
    (l_refuse_free_twins : K.lookup f_refuse_free_twins = some ⟨oc_refuse_free_twins, od_refuse_free_twins, .func (PySem.W.fnOf "refuse_free_twins" "refuse_free_twins" (defArgs s_refuse_free_twins) (defBody s_refuse_free_twins) (defScope s_refuse_free_twins) .none kV_refuse_free_twins dc_refuse_free_twins pm_refuse_free_twins an_refuse_free_twins cd_refuse_free_twins ct_refuse_free_twins), sl_refuse_free_twins⟩)
    (c_refuse_free_twins : PySem.W.codeIn K cd_refuse_free_twins "refuse_free_twins" = true)
    (k_refuse_free_twins : PySem.W.keepIn K (.ref f_refuse_free_twins) = true)
    (a_yard_of : PySem.W.nsIn K mainGlobals "yard_of" = some (some (.ref f_yard_of)))
    (l_yard_of : K.lookup f_yard_of = some ⟨oc_yard_of, od_yard_of, .func (PySem.W.fnOf "yard_of" "yard_of" (defArgs s_yard_of) (defBody s_yard_of) (defScope s_yard_of) .none kV_yard_of dc_yard_of pm_yard_of an_yard_of cd_yard_of ct_yard_of), sl_yard_of⟩)
    (c_yard_of : PySem.W.codeIn K cd_yard_of "yard_of" = true)
    (k_yard_of : PySem.W.keepIn K (.ref f_yard_of) = true)
    (a_law_whole : PySem.W.nsIn K mainGlobals "_law_whole" = some (some (.ref f_law_whole)))
    (l_law_whole : K.lookup f_law_whole = some ⟨oc_law_whole, od_law_whole, .func (PySem.W.fnOf "_law_whole" "_law_whole" (defArgs s_law_whole) (defBody s_law_whole) (defScope s_law_whole) .none kV_law_whole dc_law_whole pm_law_whole an_law_whole cd_law_whole ct_law_whole), sl_law_whole⟩)
    (c_law_whole : PySem.W.codeIn K cd_law_whole "_law_whole" = true)
    (k_law_whole : PySem.W.keepIn K (.ref f_law_whole) = true)
    (a_law_cell_at : PySem.W.nsIn K mainGlobals "_law_cell_at" = some (some (.ref f_law_cell_at)))
    (l_law_cell_at : K.lookup f_law_cell_at = some ⟨oc_law_cell_at, od_law_cell_at, .func (PySem.W.fnOf "_law_cell_at" "_law_cell_at" (defArgs s_law_cell_at) (defBody s_law_cell_at) (defScope s_law_cell_at) .none kV_law_cell_at dc_law_cell_at pm_law_cell_at an_law_cell_at cd_law_cell_at ct_law_cell_at), sl_law_cell_at⟩)
    (c_law_cell_at : PySem.W.codeIn K cd_law_cell_at "_law_cell_at" = true)
    (k_law_cell_at : PySem.W.keepIn K (.ref f_law_cell_at) = true)
    (a_law_doubled : PySem.W.nsIn K mainGlobals "_law_doubled" = some (some (.ref f_law_doubled)))
    (l_law_doubled : K.lookup f_law_doubled = some ⟨oc_law_doubled, od_law_doubled, .func (PySem.W.fnOf "_law_doubled" "_law_doubled" (defArgs s_law_doubled) (defBody s_law_doubled) (defScope s_law_doubled) .none kV_law_doubled dc_law_doubled pm_law_doubled an_law_doubled cd_law_doubled ct_law_doubled), sl_law_doubled⟩)
    (c_law_doubled : PySem.W.codeIn K cd_law_doubled "_law_doubled" = true)
    (k_law_doubled : PySem.W.keepIn K (.ref f_law_doubled) = true)
    (a_law_halved : PySem.W.nsIn K mainGlobals "_law_halved" = some (some (.ref f_law_halved)))
    (l_law_halved : K.lookup f_law_halved = some ⟨oc_law_halved, od_law_halved, .func (PySem.W.fnOf "_law_halved" "_law_halved" (defArgs s_law_halved) (defBody s_law_halved) (defScope s_law_halved) .none kV_law_halved dc_law_halved pm_law_halved an_law_halved cd_law_halved ct_law_halved), sl_law_halved⟩)
    (c_law_halved : PySem.W.codeIn K cd_law_halved "_law_halved" = true)
    (k_law_halved : PySem.W.keepIn K (.ref f_law_halved) = true)
    (a_law_in_a_row : PySem.W.nsIn K mainGlobals "_law_in_a_row" = some (some (.ref f_law_in_a_row)))
    (l_law_in_a_row : K.lookup f_law_in_a_row = some ⟨oc_law_in_a_row, od_law_in_a_row, .func (PySem.W.fnOf "_law_in_a_row" "_law_in_a_row" (defArgs s_law_in_a_row) (defBody s_law_in_a_row) (defScope s_law_in_a_row) .none kV_law_in_a_row dc_law_in_a_row pm_law_in_a_row an_law_in_a_row cd_law_in_a_row ct_law_in_a_row), sl_law_in_a_row⟩)
    (c_law_in_a_row : PySem.W.codeIn K cd_law_in_a_row "_law_in_a_row" = true)
    (k_law_in_a_row : PySem.W.keepIn K (.ref f_law_in_a_row) = true)
    (a_law_lines : PySem.W.nsIn K mainGlobals "_law_lines" = some (some (.ref f_law_lines)))
    (l_law_lines : K.lookup f_law_lines = some ⟨oc_law_lines, od_law_lines, .func (PySem.W.fnOf "_law_lines" "_law_lines" (defArgs s_law_lines) (defBody s_law_lines) (defScope s_law_lines) .none kV_law_lines dc_law_lines pm_law_lines an_law_lines cd_law_lines ct_law_lines), sl_law_lines⟩)
    (c_law_lines : PySem.W.codeIn K cd_law_lines "_law_lines" = true)
    (k_law_lines : PySem.W.keepIn K (.ref f_law_lines) = true)
    (a_law_others : PySem.W.nsIn K mainGlobals "_law_others" = some (some (.ref f_law_others)))
    (l_law_others : K.lookup f_law_others = some ⟨oc_law_others, od_law_others, .func (PySem.W.fnOf "_law_others" "_law_others" (defArgs s_law_others) (defBody s_law_others) (defScope s_law_others) .none kV_law_others dc_law_others pm_law_others an_law_others cd_law_others ct_law_others), sl_law_others⟩)
    (c_law_others : PySem.W.codeIn K cd_law_others "_law_others" = true)
    (k_law_others : PySem.W.keepIn K (.ref f_law_others) = true)
    (a_law_spoilt : PySem.W.nsIn K mainGlobals "_law_spoilt" = some (some (.ref f_law_spoilt)))
    (l_law_spoilt : K.lookup f_law_spoilt = some ⟨oc_law_spoilt, od_law_spoilt, .func (PySem.W.fnOf "_law_spoilt" "_law_spoilt" (defArgs s_law_spoilt) (defBody s_law_spoilt) (defScope s_law_spoilt) .none kV_law_spoilt dc_law_spoilt pm_law_spoilt an_law_spoilt cd_law_spoilt ct_law_spoilt), sl_law_spoilt⟩)
    (c_law_spoilt : PySem.W.codeIn K cd_law_spoilt "_law_spoilt" = true)
    (k_law_spoilt : PySem.W.keepIn K (.ref f_law_spoilt) = true)
    (a_law_number : PySem.W.nsIn K mainGlobals "_law_number" = some (some (.ref f_law_number)))
    (l_law_number : K.lookup f_law_number = some ⟨oc_law_number, od_law_number, .func (PySem.W.fnOf "_law_number" "_law_number" (defArgs s_law_number) (defBody s_law_number) (defScope s_law_number) .none kV_law_number dc_law_number pm_law_number an_law_number cd_law_number ct_law_number), sl_law_number⟩)
    (c_law_number : PySem.W.codeIn K cd_law_number "_law_number" = true)
    (k_law_number : PySem.W.keepIn K (.ref f_law_number) = true)
    (a_law_is_size : PySem.W.nsIn K mainGlobals "_law_is_size" = some (some (.ref f_law_is_size)))
    (l_law_is_size : K.lookup f_law_is_size = some ⟨oc_law_is_size, od_law_is_size, .func (PySem.W.fnOf "_law_is_size" "_law_is_size" (defArgs s_law_is_size) (defBody s_law_is_size) (defScope s_law_is_size) .none kV_law_is_size dc_law_is_size pm_law_is_size an_law_is_size cd_law_is_size ct_law_is_size), sl_law_is_size⟩)
    (c_law_is_size : PySem.W.codeIn K cd_law_is_size "_law_is_size" = true)
    (k_law_is_size : PySem.W.keepIn K (.ref f_law_is_size) = true)
    (a_law_due : PySem.W.nsIn K mainGlobals "_law_due" = some (some (.ref f_law_due)))
    (l_law_due : K.lookup f_law_due = some ⟨oc_law_due, od_law_due, .func (PySem.W.fnOf "_law_due" "_law_due" (defArgs s_law_due) (defBody s_law_due) (defScope s_law_due) .none kV_law_due dc_law_due pm_law_due an_law_due cd_law_due ct_law_due), sl_law_due⟩)
    (c_law_due : PySem.W.codeIn K cd_law_due "_law_due" = true)
    (k_law_due : PySem.W.keepIn K (.ref f_law_due) = true)
    (a_law_refused : PySem.W.nsIn K mainGlobals "_law_refused" = some (some (.ref f_law_refused)))
    (l_law_refused : K.lookup f_law_refused = some ⟨oc_law_refused, od_law_refused, .func (PySem.W.fnOf "_law_refused" "_law_refused" (defArgs s_law_refused) (defBody s_law_refused) (defScope s_law_refused) .none kV_law_refused dc_law_refused pm_law_refused an_law_refused cd_law_refused ct_law_refused), sl_law_refused⟩)
    (c_law_refused : PySem.W.codeIn K cd_law_refused "_law_refused" = true)
    (k_law_refused : PySem.W.keepIn K (.ref f_law_refused) = true)
    (a_law_refused_by_any : PySem.W.nsIn K mainGlobals "_law_refused_by_any" = some (some (.ref f_law_refused_by_any)))
    (l_law_refused_by_any : K.lookup f_law_refused_by_any = some ⟨oc_law_refused_by_any, od_law_refused_by_any, .func (PySem.W.fnOf "_law_refused_by_any" "_law_refused_by_any" (defArgs s_law_refused_by_any) (defBody s_law_refused_by_any) (defScope s_law_refused_by_any) .none kV_law_refused_by_any dc_law_refused_by_any pm_law_refused_by_any an_law_refused_by_any cd_law_refused_by_any ct_law_refused_by_any), sl_law_refused_by_any⟩)
    (c_law_refused_by_any : PySem.W.codeIn K cd_law_refused_by_any "_law_refused_by_any" = true)
    (k_law_refused_by_any : PySem.W.keepIn K (.ref f_law_refused_by_any) = true)
    (a_law : PySem.W.nsIn K mainGlobals "law" = some (some (.ref f_law)))
    (l_law : K.lookup f_law = some ⟨oc_law, od_law, .func (PySem.W.fnOf "law" "law" (defArgs s_law) (defBody s_law) (defScope s_law) .none kV_law dc_law pm_law an_law cd_law ct_law), sl_law⟩)
    (c_law : PySem.W.codeIn K cd_law "law" = true)
    (k_law : PySem.W.keepIn K (.ref f_law) = true)
    (pg_Pool : PySem.W.plainGet K c_Pool Str.empty = true)
    (hd_Pool : PySem.W.hasDictIn K c_Pool = true)
    (po_Pool : PySem.W.plainOver K c_Pool = true)
    (sa_Pool : PySem.W.findIn K (.ref c_Pool) "__setattr__" = some (some (.builtin "object.__setattr__")))
    (mk_Pool : PySem.W.makesIn K c_Pool = true)
    (kc_Pool : PySem.W.keepIn K (.ref c_Pool) = true)
    (n_Pool__places : PySem.W.findIn K (.ref c_Pool) "_places" = some none)
    (pg_Yard : PySem.W.plainGet K c_Yard Str.empty = true)
    (hd_Yard : PySem.W.hasDictIn K c_Yard = true)
    (po_Yard : PySem.W.plainOver K c_Yard = true)
    (sa_Yard : PySem.W.findIn K (.ref c_Yard) "__setattr__" = some (some (.builtin "object.__setattr__")))
    (mk_Yard : PySem.W.makesIn K c_Yard = true)
    (kc_Yard : PySem.W.keepIn K (.ref c_Yard) = true)
    (n_Yard_cells : PySem.W.findIn K (.ref c_Yard) "cells" = some none)
    (n_Yard__sizes : PySem.W.findIn K (.ref c_Yard) "_sizes" = some none)
    (n_Yard__pool : PySem.W.findIn K (.ref c_Yard) "_pool" = some none)
    (sp1 : PySem.W.specialIn K (.builtin "object.__class__") "__get__" = some (some (.builtin "getset_descriptor.__get__")))
    (sp2 : PySem.W.takesIn K (.builtin "object.__class__") = some true)
    (xx_YardError : PySem.W.excIn K c_YardError [.type "ValueError", .type "Exception", .type "BaseException", .type "object"] "ValueError.__new__" = true)
    (xk_YardError : PySem.W.keepIn K (.ref c_YardError) = true)
    (xt_YardError : PySem.W.typeIn K (.ref c_YardError) = some (.type "type"))
    (xc_YardError : PySem.W.isClsIn K c_YardError = true)
    (xg_YardError : PySem.W.findIn K (.ref c_YardError) "__getattribute__" = some (some (.builtin "BaseException.__getattribute__")))
    (xh_YardError : PySem.W.findIn K (.ref c_YardError) "__getattr__" = some none)
    (xs_YardError : PySem.W.subIn K (.ref c_YardError) (.type "BaseException") = some true)
    (xd_YardError : PySem.W.hasDictIn K c_YardError = true)
    (xa_YardError : PySem.W.findIn K (.ref c_YardError) "__class__" = some (some (.builtin "object.__class__")))
    (xm_YardError : PySem.W.mroIn K c_YardError (.type "object") = some true)
    (xv_YardError : PySem.W.subIn K (.ref c_YardError) (.type "ValueError") = some true)
    (xx_NoYard : PySem.W.excIn K c_NoYard [.type "ValueError", .type "Exception", .type "BaseException", .type "object"] "ValueError.__new__" = true)
    (xk_NoYard : PySem.W.keepIn K (.ref c_NoYard) = true)
    (xt_NoYard : PySem.W.typeIn K (.ref c_NoYard) = some (.type "type"))
    (xc_NoYard : PySem.W.isClsIn K c_NoYard = true)
    (xg_NoYard : PySem.W.findIn K (.ref c_NoYard) "__getattribute__" = some (some (.builtin "BaseException.__getattribute__")))
    (xh_NoYard : PySem.W.findIn K (.ref c_NoYard) "__getattr__" = some none)
    (xs_NoYard : PySem.W.subIn K (.ref c_NoYard) (.type "BaseException") = some true)
    (xd_NoYard : PySem.W.hasDictIn K c_NoYard = true)
    (xa_NoYard : PySem.W.findIn K (.ref c_NoYard) "__class__" = some (some (.builtin "object.__class__")))
    (xm_NoYard : PySem.W.mroIn K c_NoYard (.type "object") = some true)
    (xv_NoYard : PySem.W.subIn K (.ref c_NoYard) (.type "ValueError") = some true)
    (xx_NoWish : PySem.W.excIn K c_NoWish [.type "ValueError", .type "Exception", .type "BaseException", .type "object"] "ValueError.__new__" = true)
    (xk_NoWish : PySem.W.keepIn K (.ref c_NoWish) = true)
    (xt_NoWish : PySem.W.typeIn K (.ref c_NoWish) = some (.type "type"))
    (xc_NoWish : PySem.W.isClsIn K c_NoWish = true)
    (xg_NoWish : PySem.W.findIn K (.ref c_NoWish) "__getattribute__" = some (some (.builtin "BaseException.__getattribute__")))
    (xh_NoWish : PySem.W.findIn K (.ref c_NoWish) "__getattr__" = some none)
    (xs_NoWish : PySem.W.subIn K (.ref c_NoWish) (.type "BaseException") = some true)
    (xd_NoWish : PySem.W.hasDictIn K c_NoWish = true)
    (xa_NoWish : PySem.W.findIn K (.ref c_NoWish) "__class__" = some (some (.builtin "object.__class__")))
    (xm_NoWish : PySem.W.mroIn K c_NoWish (.type "object") = some true)
    (xv_NoWish : PySem.W.subIn K (.ref c_NoWish) (.type "ValueError") = some true)
    (xx_NoRoom : PySem.W.excIn K c_NoRoom [.type "ValueError", .type "Exception", .type "BaseException", .type "object"] "ValueError.__new__" = true)
    (xk_NoRoom : PySem.W.keepIn K (.ref c_NoRoom) = true)
    (xt_NoRoom : PySem.W.typeIn K (.ref c_NoRoom) = some (.type "type"))
    (xc_NoRoom : PySem.W.isClsIn K c_NoRoom = true)
    (xg_NoRoom : PySem.W.findIn K (.ref c_NoRoom) "__getattribute__" = some (some (.builtin "BaseException.__getattribute__")))
    (xh_NoRoom : PySem.W.findIn K (.ref c_NoRoom) "__getattr__" = some none)
    (xs_NoRoom : PySem.W.subIn K (.ref c_NoRoom) (.type "BaseException") = some true)
    (xd_NoRoom : PySem.W.hasDictIn K c_NoRoom = true)
    (xa_NoRoom : PySem.W.findIn K (.ref c_NoRoom) "__class__" = some (some (.builtin "object.__class__")))
    (xm_NoRoom : PySem.W.mroIn K c_NoRoom (.type "object") = some true)
    (xv_NoRoom : PySem.W.subIn K (.ref c_NoRoom) (.type "ValueError") = some true)
    (xx_NotOut : PySem.W.excIn K c_NotOut [.type "ValueError", .type "Exception", .type "BaseException", .type "object"] "ValueError.__new__" = true)
    (xk_NotOut : PySem.W.keepIn K (.ref c_NotOut) = true)
    (xt_NotOut : PySem.W.typeIn K (.ref c_NotOut) = some (.type "type"))
    (xc_NotOut : PySem.W.isClsIn K c_NotOut = true)
    (xg_NotOut : PySem.W.findIn K (.ref c_NotOut) "__getattribute__" = some (some (.builtin "BaseException.__getattribute__")))
    (xh_NotOut : PySem.W.findIn K (.ref c_NotOut) "__getattr__" = some none)
    (xs_NotOut : PySem.W.subIn K (.ref c_NotOut) (.type "BaseException") = some true)
    (xd_NotOut : PySem.W.hasDictIn K c_NotOut = true)
    (xa_NotOut : PySem.W.findIn K (.ref c_NotOut) "__class__" = some (some (.builtin "object.__class__")))
    (xm_NotOut : PySem.W.mroIn K c_NotOut (.type "object") = some true)
    (xv_NotOut : PySem.W.subIn K (.ref c_NotOut) (.type "ValueError") = some true)
    (xx_NoNote : PySem.W.excIn K c_NoNote [.type "ValueError", .type "Exception", .type "BaseException", .type "object"] "ValueError.__new__" = true)
    (xk_NoNote : PySem.W.keepIn K (.ref c_NoNote) = true)
    (xt_NoNote : PySem.W.typeIn K (.ref c_NoNote) = some (.type "type"))
    (xc_NoNote : PySem.W.isClsIn K c_NoNote = true)
    (xg_NoNote : PySem.W.findIn K (.ref c_NoNote) "__getattribute__" = some (some (.builtin "BaseException.__getattribute__")))
    (xh_NoNote : PySem.W.findIn K (.ref c_NoNote) "__getattr__" = some none)
    (xs_NoNote : PySem.W.subIn K (.ref c_NoNote) (.type "BaseException") = some true)
    (xd_NoNote : PySem.W.hasDictIn K c_NoNote = true)
    (xa_NoNote : PySem.W.findIn K (.ref c_NoNote) "__class__" = some (some (.builtin "object.__class__")))
    (xm_NoNote : PySem.W.mroIn K c_NoNote (.type "object") = some true)
    (xv_NoNote : PySem.W.subIn K (.ref c_NoNote) (.type "ValueError") = some true)
    (s_NoYard_YardError : PySem.W.subIn K (.ref c_NoYard) (.ref c_YardError) = some true)
    (t_NoYard_YardError : PySem.W.kitOne K (.ref c_NoYard) (.ref c_YardError) = some true)
    (s_NoYard_NoYard : PySem.W.subIn K (.ref c_NoYard) (.ref c_NoYard) = some true)
    (t_NoYard_NoYard : PySem.W.kitOne K (.ref c_NoYard) (.ref c_NoYard) = some true)
    (s_NoYard_NoWish : PySem.W.subIn K (.ref c_NoYard) (.ref c_NoWish) = some false)
    (t_NoYard_NoWish : PySem.W.kitOne K (.ref c_NoYard) (.ref c_NoWish) = some false)
    (s_NoYard_NoRoom : PySem.W.subIn K (.ref c_NoYard) (.ref c_NoRoom) = some false)
    (t_NoYard_NoRoom : PySem.W.kitOne K (.ref c_NoYard) (.ref c_NoRoom) = some false)
    (s_NoYard_NotOut : PySem.W.subIn K (.ref c_NoYard) (.ref c_NotOut) = some false)
    (t_NoYard_NotOut : PySem.W.kitOne K (.ref c_NoYard) (.ref c_NotOut) = some false)
    (s_NoYard_NoNote : PySem.W.subIn K (.ref c_NoYard) (.ref c_NoNote) = some false)
    (t_NoYard_NoNote : PySem.W.kitOne K (.ref c_NoYard) (.ref c_NoNote) = some false)
    (s_NoWish_YardError : PySem.W.subIn K (.ref c_NoWish) (.ref c_YardError) = some true)
    (t_NoWish_YardError : PySem.W.kitOne K (.ref c_NoWish) (.ref c_YardError) = some true)
    (s_NoWish_NoYard : PySem.W.subIn K (.ref c_NoWish) (.ref c_NoYard) = some false)
    (t_NoWish_NoYard : PySem.W.kitOne K (.ref c_NoWish) (.ref c_NoYard) = some false)
    (s_NoWish_NoWish : PySem.W.subIn K (.ref c_NoWish) (.ref c_NoWish) = some true)
    (t_NoWish_NoWish : PySem.W.kitOne K (.ref c_NoWish) (.ref c_NoWish) = some true)
    (s_NoWish_NoRoom : PySem.W.subIn K (.ref c_NoWish) (.ref c_NoRoom) = some false)
    (t_NoWish_NoRoom : PySem.W.kitOne K (.ref c_NoWish) (.ref c_NoRoom) = some false)
    (s_NoWish_NotOut : PySem.W.subIn K (.ref c_NoWish) (.ref c_NotOut) = some false)
    (t_NoWish_NotOut : PySem.W.kitOne K (.ref c_NoWish) (.ref c_NotOut) = some false)
    (s_NoWish_NoNote : PySem.W.subIn K (.ref c_NoWish) (.ref c_NoNote) = some false)
    (t_NoWish_NoNote : PySem.W.kitOne K (.ref c_NoWish) (.ref c_NoNote) = some false)
    (s_NoRoom_YardError : PySem.W.subIn K (.ref c_NoRoom) (.ref c_YardError) = some true)
    (t_NoRoom_YardError : PySem.W.kitOne K (.ref c_NoRoom) (.ref c_YardError) = some true)
    (s_NoRoom_NoYard : PySem.W.subIn K (.ref c_NoRoom) (.ref c_NoYard) = some false)
    (t_NoRoom_NoYard : PySem.W.kitOne K (.ref c_NoRoom) (.ref c_NoYard) = some false)
    (s_NoRoom_NoWish : PySem.W.subIn K (.ref c_NoRoom) (.ref c_NoWish) = some false)
    (t_NoRoom_NoWish : PySem.W.kitOne K (.ref c_NoRoom) (.ref c_NoWish) = some false)
    (s_NoRoom_NoRoom : PySem.W.subIn K (.ref c_NoRoom) (.ref c_NoRoom) = some true)
    (t_NoRoom_NoRoom : PySem.W.kitOne K (.ref c_NoRoom) (.ref c_NoRoom) = some true)
    (s_NoRoom_NotOut : PySem.W.subIn K (.ref c_NoRoom) (.ref c_NotOut) = some false)
    (t_NoRoom_NotOut : PySem.W.kitOne K (.ref c_NoRoom) (.ref c_NotOut) = some false)
    (s_NoRoom_NoNote : PySem.W.subIn K (.ref c_NoRoom) (.ref c_NoNote) = some false)
    (t_NoRoom_NoNote : PySem.W.kitOne K (.ref c_NoRoom) (.ref c_NoNote) = some false)
    (s_NotOut_YardError : PySem.W.subIn K (.ref c_NotOut) (.ref c_YardError) = some true)
    (t_NotOut_YardError : PySem.W.kitOne K (.ref c_NotOut) (.ref c_YardError) = some true)
    (s_NotOut_NoYard : PySem.W.subIn K (.ref c_NotOut) (.ref c_NoYard) = some false)
    (t_NotOut_NoYard : PySem.W.kitOne K (.ref c_NotOut) (.ref c_NoYard) = some false)
    (s_NotOut_NoWish : PySem.W.subIn K (.ref c_NotOut) (.ref c_NoWish) = some false)
    (t_NotOut_NoWish : PySem.W.kitOne K (.ref c_NotOut) (.ref c_NoWish) = some false)
    (s_NotOut_NoRoom : PySem.W.subIn K (.ref c_NotOut) (.ref c_NoRoom) = some false)
    (t_NotOut_NoRoom : PySem.W.kitOne K (.ref c_NotOut) (.ref c_NoRoom) = some false)
    (s_NotOut_NotOut : PySem.W.subIn K (.ref c_NotOut) (.ref c_NotOut) = some true)
    (t_NotOut_NotOut : PySem.W.kitOne K (.ref c_NotOut) (.ref c_NotOut) = some true)
    (s_NotOut_NoNote : PySem.W.subIn K (.ref c_NotOut) (.ref c_NoNote) = some false)
    (t_NotOut_NoNote : PySem.W.kitOne K (.ref c_NotOut) (.ref c_NoNote) = some false)
    (s_NoNote_YardError : PySem.W.subIn K (.ref c_NoNote) (.ref c_YardError) = some true)
    (t_NoNote_YardError : PySem.W.kitOne K (.ref c_NoNote) (.ref c_YardError) = some true)
    (s_NoNote_NoYard : PySem.W.subIn K (.ref c_NoNote) (.ref c_NoYard) = some false)
    (t_NoNote_NoYard : PySem.W.kitOne K (.ref c_NoNote) (.ref c_NoYard) = some false)
    (s_NoNote_NoWish : PySem.W.subIn K (.ref c_NoNote) (.ref c_NoWish) = some false)
    (t_NoNote_NoWish : PySem.W.kitOne K (.ref c_NoNote) (.ref c_NoWish) = some false)
    (s_NoNote_NoRoom : PySem.W.subIn K (.ref c_NoNote) (.ref c_NoRoom) = some false)
    (t_NoNote_NoRoom : PySem.W.kitOne K (.ref c_NoNote) (.ref c_NoRoom) = some false)
    (s_NoNote_NotOut : PySem.W.subIn K (.ref c_NoNote) (.ref c_NotOut) = some false)
    (t_NoNote_NotOut : PySem.W.kitOne K (.ref c_NoNote) (.ref c_NotOut) = some false)
    (s_NoNote_NoNote : PySem.W.subIn K (.ref c_NoNote) (.ref c_NoNote) = some true)
    (t_NoNote_NoNote : PySem.W.kitOne K (.ref c_NoNote) (.ref c_NoNote) = some true)
    (z_ValueError : PySem.W.nsIn K mainGlobals "ValueError" = some none)
    (z_bool : PySem.W.nsIn K mainGlobals "bool" = some none)
    (z_int : PySem.W.nsIn K mainGlobals "int" = some none)
    (z_isinstance : PySem.W.nsIn K mainGlobals "isinstance" = some none)
    (z_len : PySem.W.nsIn K mainGlobals "len" = some none)
    (z_list : PySem.W.nsIn K mainGlobals "list" = some none)
    (z_min : PySem.W.nsIn K mainGlobals "min" = some none)
    (z_range : PySem.W.nsIn K mainGlobals "range" = some none)
    (z_reversed : PySem.W.nsIn K mainGlobals "reversed" = some none)
    (z_sorted : PySem.W.nsIn K mainGlobals "sorted" = some none)
    (z_str : PySem.W.nsIn K mainGlobals "str" = some none)
    (v_MOST : PySem.W.nsIn K mainGlobals "MOST" = some (some (.int 1152921504606846976 t_MOST)))
    (v_OUT : PySem.W.nsIn K mainGlobals "OUT" = some (some (.str "out" t_OUT)))
    (v_FREE : PySem.W.nsIn K mainGlobals "FREE" = some (some (.str "free" t_FREE))) :
    ∃ fd : FuncData, (∀ (s : Shared) (u : Value), BindsTo s fd ⟨[u], []⟩ [("_law_script", u)]) ∧ ∀ base : Heap, K.In base → base.Ns mainGlobals mg → FnOk P w K mg base CX0 8 fa fd ["_law_script"] (spLaw K) := by
  have e := hfa.symm.trans (PySem.W.mg_of X G a_law)
  cases e
  have F_wall := fun_mk (st := s_wall) l_wall c_wall k_wall
  have B_wall := F_wall.binds (ps := ["k"]) fun _ _ _ _ _ _ us hl => match us, hl with | [_], _ => rfl
  have F_is_size := fun_mk (st := s_is_size) l_is_size c_is_size k_is_size
  have B_is_size := F_is_size.binds (ps := ["number"]) fun _ _ _ _ _ _ us hl => match us, hl with | [_], _ => rfl
  have F_size_for := fun_mk (st := s_size_for) l_size_for c_size_for k_size_for
  have B_size_for := F_size_for.binds (ps := ["want"]) fun _ _ _ _ _ _ us hl => match us, hl with | [_], _ => rfl
  have F_twin_of := fun_mk (st := s_twin_of) l_twin_of c_twin_of k_twin_of
  have B_twin_of := F_twin_of.binds (ps := ["at", "size"]) fun _ _ _ _ _ _ us hl => match us, hl with | [_, _], _ => rfl
  have F_rank := fun_mk (st := s_rank) l_rank c_rank k_rank
  have B_rank := F_rank.binds (ps := ["places", "at"]) fun _ _ _ _ _ _ us hl => match us, hl with | [_, _], _ => rfl
  have F_Pool_init := fun_mk (st := s_Pool_init) l_Pool_init c_Pool_init k_Pool_init
  have B_Pool_init := F_Pool_init.binds (ps := ["self", "cells"]) fun _ _ _ _ _ _ us hl => match us, hl with | [_, _], _ => rfl
  have F_Pool_put := fun_mk (st := s_Pool_put) l_Pool_put c_Pool_put k_Pool_put
  have B_Pool_put := F_Pool_put.binds (ps := ["self", "at", "size"]) fun _ _ _ _ _ _ us hl => match us, hl with | [_, _, _], _ => rfl
  have F_Pool_drop := fun_mk (st := s_Pool_drop) l_Pool_drop c_Pool_drop k_Pool_drop
  have B_Pool_drop := F_Pool_drop.binds (ps := ["self", "at", "size"]) fun _ _ _ _ _ _ us hl => match us, hl with | [_, _, _], _ => rfl
  have F_Pool_has := fun_mk (st := s_Pool_has) l_Pool_has c_Pool_has k_Pool_has
  have B_Pool_has := F_Pool_has.binds (ps := ["self", "at", "size"]) fun _ _ _ _ _ _ us hl => match us, hl with | [_, _, _], _ => rfl
  have F_Pool_best := fun_mk (st := s_Pool_best) l_Pool_best c_Pool_best k_Pool_best
  have B_Pool_best := F_Pool_best.binds (ps := ["self", "size"]) fun _ _ _ _ _ _ us hl => match us, hl with | [_, _], _ => rfl
  have F_Pool_pieces := fun_mk (st := s_Pool_pieces) l_Pool_pieces c_Pool_pieces k_Pool_pieces
  have B_Pool_pieces := F_Pool_pieces.binds (ps := ["self"]) fun _ _ _ _ _ _ us hl => match us, hl with | [_], _ => rfl
  have F_upper_halves := fun_mk (st := s_upper_halves) l_upper_halves c_upper_halves k_upper_halves
  have B_upper_halves := F_upper_halves.binds (ps := ["at", "size", "least"]) fun _ _ _ _ _ _ us hl => match us, hl with | [_, _, _], _ => rfl
  have F_Yard_init := fun_mk (st := s_Yard_init) l_Yard_init c_Yard_init k_Yard_init
  have B_Yard_init := F_Yard_init.binds (ps := ["self", "cells"]) fun _ _ _ _ _ _ us hl => match us, hl with | [_, _], _ => rfl
  have F_Yard_give := fun_mk (st := s_Yard_give) l_Yard_give c_Yard_give k_Yard_give
  have B_Yard_give := F_Yard_give.binds (ps := ["self", "want"]) fun _ _ _ _ _ _ us hl => match us, hl with | [_, _], _ => rfl
  have F_Yard_take_back := fun_mk (st := s_Yard_take_back) l_Yard_take_back c_Yard_take_back k_Yard_take_back
  have B_Yard_take_back := F_Yard_take_back.binds (ps := ["self", "at"]) fun _ _ _ _ _ _ us hl => match us, hl with | [_, _], _ => rfl
  have F_Yard_resize := fun_mk (st := s_Yard_resize) l_Yard_resize c_Yard_resize k_Yard_resize
  have B_Yard_resize := F_Yard_resize.binds (ps := ["self", "at", "want"]) fun _ _ _ _ _ _ us hl => match us, hl with | [_, _, _], _ => rfl
  have F_Yard_free := fun_mk (st := s_Yard_free) l_Yard_free c_Yard_free k_Yard_free
  have B_Yard_free := F_Yard_free.binds (ps := ["self"]) fun _ _ _ _ _ _ us hl => match us, hl with | [_], _ => rfl
  have F_Yard_out := fun_mk (st := s_Yard_out) l_Yard_out c_Yard_out k_Yard_out
  have B_Yard_out := F_Yard_out.binds (ps := ["self"]) fun _ _ _ _ _ _ us hl => match us, hl with | [_], _ => rfl
  have F_Yard_owner := fun_mk (st := s_Yard_owner) l_Yard_owner c_Yard_owner k_Yard_owner
  have B_Yard_owner := F_Yard_owner.binds (ps := ["self", "cell"]) fun _ _ _ _ _ _ us hl => match us, hl with | [_, _], _ => rfl
  have F_Yard_fitting := fun_mk (st := s_Yard_fitting) l_Yard_fitting c_Yard_fitting k_Yard_fitting
  have B_Yard_fitting := F_Yard_fitting.binds (ps := ["self", "want"]) fun _ _ _ _ _ _ us hl => match us, hl with | [_, _], _ => rfl
  have F_Yard_size_of := fun_mk (st := s_Yard_size_of) l_Yard_size_of c_Yard_size_of k_Yard_size_of
  have B_Yard_size_of := F_Yard_size_of.binds (ps := ["self", "at"]) fun _ _ _ _ _ _ us hl => match us, hl with | [_, _], _ => rfl
  have F_Yard_cut := fun_mk (st := s_Yard_cut) l_Yard_cut c_Yard_cut k_Yard_cut
  have B_Yard_cut := F_Yard_cut.binds (ps := ["self", "at", "size", "least"]) fun _ _ _ _ _ _ us hl => match us, hl with | [_, _, _, _], _ => rfl
  have F_Yard_grow := fun_mk (st := s_Yard_grow) l_Yard_grow c_Yard_grow k_Yard_grow
  have B_Yard_grow := F_Yard_grow.binds (ps := ["self", "at", "had", "size"]) fun _ _ _ _ _ _ us hl => match us, hl with | [_, _, _, _], _ => rfl
  have F_Yard_join := fun_mk (st := s_Yard_join) l_Yard_join c_Yard_join k_Yard_join
  have B_Yard_join := F_Yard_join.binds (ps := ["self", "at", "size"]) fun _ _ _ _ _ _ us hl => match us, hl with | [_, _, _], _ => rfl
  have F_read := fun_mk (st := s_read) l_read c_read k_read
  have B_read := F_read.binds (ps := ["text"]) fun _ _ _ _ _ _ us hl => match us, hl with | [_], _ => rfl
  have F_read_row := fun_mk (st := s_read_row) l_read_row c_read_row k_read_row
  have B_read_row := F_read_row.binds (ps := ["row"]) fun _ _ _ _ _ _ us hl => match us, hl with | [_], _ => rfl
  have F_read_number := fun_mk (st := s_read_number) l_read_number c_read_number k_read_number
  have B_read_number := F_read_number.binds (ps := ["word"]) fun _ _ _ _ _ _ us hl => match us, hl with | [_], _ => rfl
  have F_count_cells := fun_mk (st := s_count_cells) l_count_cells c_count_cells k_count_cells
  have B_count_cells := F_count_cells.binds (ps := ["rows"]) fun _ _ _ _ _ _ us hl => match us, hl with | [_], _ => rfl
  have F_refuse_free_twins := fun_mk (st := s_refuse_free_twins) l_refuse_free_twins c_refuse_free_twins k_refuse_free_twins
  have B_refuse_free_twins := F_refuse_free_twins.binds (ps := ["rows"]) fun _ _ _ _ _ _ us hl => match us, hl with | [_], _ => rfl
  have F_yard_of := fun_mk (st := s_yard_of) l_yard_of c_yard_of k_yard_of
  have B_yard_of := F_yard_of.binds (ps := ["cells", "rows"]) fun _ _ _ _ _ _ us hl => match us, hl with | [_, _], _ => rfl
  have F_law_whole := fun_mk (st := s_law_whole) l_law_whole c_law_whole k_law_whole
  have B_law_whole := F_law_whole.binds (ps := ["_law_found"]) fun _ _ _ _ _ _ us hl => match us, hl with | [_], _ => rfl
  have F_law_cell_at := fun_mk (st := s_law_cell_at) l_law_cell_at c_law_cell_at k_law_cell_at
  have B_law_cell_at := F_law_cell_at.binds (ps := ["_law_script", "_law_k"]) fun _ _ _ _ _ _ us hl => match us, hl with | [_, _], _ => rfl
  have F_law_doubled := fun_mk (st := s_law_doubled) l_law_doubled c_law_doubled k_law_doubled
  have B_law_doubled := F_law_doubled.binds (ps := ["_law_times"]) fun _ _ _ _ _ _ us hl => match us, hl with | [_], _ => rfl
  have F_law_halved := fun_mk (st := s_law_halved) l_law_halved c_law_halved k_law_halved
  have B_law_halved := F_law_halved.binds (ps := ["_law_script"]) fun _ _ _ _ _ _ us hl => match us, hl with | [_], _ => rfl
  have F_law_in_a_row := fun_mk (st := s_law_in_a_row) l_law_in_a_row c_law_in_a_row k_law_in_a_row
  have B_law_in_a_row := F_law_in_a_row.binds (ps := ["_law_pieces", "_law_cell"]) fun _ _ _ _ _ _ us hl => match us, hl with | [_, _], _ => rfl
  have F_law_lines := fun_mk (st := s_law_lines) l_law_lines c_law_lines k_law_lines
  have B_law_lines := F_law_lines.binds (ps := ["_law_script", "_law_pieces"]) fun _ _ _ _ _ _ us hl => match us, hl with | [_, _], _ => rfl
  have F_law_others := fun_mk (st := s_law_others) l_law_others c_law_others k_law_others
  have B_law_others := F_law_others.binds (ps := ["_law_line"]) fun _ _ _ _ _ _ us hl => match us, hl with | [_], _ => rfl
  have F_law_spoilt := fun_mk (st := s_law_spoilt) l_law_spoilt c_law_spoilt k_law_spoilt
  have B_law_spoilt := F_law_spoilt.binds (ps := ["_law_lines_here", "_law_cell"]) fun _ _ _ _ _ _ us hl => match us, hl with | [_, _], _ => rfl
  have F_law_number := fun_mk (st := s_law_number) l_law_number c_law_number k_law_number
  have B_law_number := F_law_number.binds (ps := ["_law_word"]) fun _ _ _ _ _ _ us hl => match us, hl with | [_], _ => rfl
  have F_law_is_size := fun_mk (st := s_law_is_size) l_law_is_size c_law_is_size k_law_is_size
  have B_law_is_size := F_law_is_size.binds (ps := ["_law_size"]) fun _ _ _ _ _ _ us hl => match us, hl with | [_], _ => rfl
  have F_law_due := fun_mk (st := s_law_due) l_law_due c_law_due k_law_due
  have B_law_due := F_law_due.binds (ps := ["_law_lines_here"]) fun _ _ _ _ _ _ us hl => match us, hl with | [_], _ => rfl
  have F_law_refused := fun_mk (st := s_law_refused) l_law_refused c_law_refused k_law_refused
  have B_law_refused := F_law_refused.binds (ps := ["_law_text"]) fun _ _ _ _ _ _ us hl => match us, hl with | [_], _ => rfl
  have F_law_refused_by_any := fun_mk (st := s_law_refused_by_any) l_law_refused_by_any c_law_refused_by_any k_law_refused_by_any
  have B_law_refused_by_any := F_law_refused_by_any.binds (ps := ["_law_text"]) fun _ _ _ _ _ _ us hl => match us, hl with | [_], _ => rfl
  have F_law := fun_mk (st := s_law) l_law c_law k_law
  have B_law := F_law.binds (ps := ["_law_script"]) fun _ _ _ _ _ _ us hl => match us, hl with | [_], _ => rfl
  have T : Txt K mg ⟨f_wall, _, f_is_size, _, f_size_for, _, f_twin_of, _, f_rank, _, f_Pool_init, _, f_Pool_put, _, f_Pool_drop, _, f_Pool_has, _, f_Pool_best, _, f_Pool_pieces, _, f_upper_halves, _, f_Yard_init, _, f_Yard_give, _, f_Yard_take_back, _, f_Yard_resize, _, f_Yard_free, _, f_Yard_out, _, f_Yard_owner, _, f_Yard_fitting, _, f_Yard_size_of, _, f_Yard_cut, _, f_Yard_grow, _, f_Yard_join, _, f_read, _, f_read_row, _, f_read_number, _, f_count_cells, _, f_refuse_free_twins, _, f_yard_of, _, f_law_whole, _, f_law_cell_at, _, f_law_doubled, _, f_law_halved, _, f_law_in_a_row, _, f_law_lines, _, f_law_others, _, f_law_spoilt, _, f_law_number, _, f_law_is_size, _, f_law_due, _, f_law_refused, _, f_law_refused_by_any, _, fa, _, c_YardError, c_NoYard, c_NoWish, c_NoRoom, c_NotOut, c_NoNote, c_Pool, c_Yard⟩ := {
    wall := ⟨PySem.W.mg_of X G a_wall, F_wall, B_wall⟩
    is_size := ⟨PySem.W.mg_of X G a_is_size, F_is_size, B_is_size⟩
    size_for := ⟨PySem.W.mg_of X G a_size_for, F_size_for, B_size_for⟩
    twin_of := ⟨PySem.W.mg_of X G a_twin_of, F_twin_of, B_twin_of⟩
    rank := ⟨PySem.W.mg_of X G a_rank, F_rank, B_rank⟩
    Pool_init := F_Pool_init
    b_Pool_init := B_Pool_init
    m_Pool_init := ⟨mk_Pool, a_Pool_init, i_Pool_init, kc_Pool⟩
    Pool_put := F_Pool_put
    b_Pool_put := B_Pool_put
    m_Pool_put := ⟨a_Pool_put, i_Pool_put, k_Pool_put⟩
    Pool_drop := F_Pool_drop
    b_Pool_drop := B_Pool_drop
    m_Pool_drop := ⟨a_Pool_drop, i_Pool_drop, k_Pool_drop⟩
    Pool_has := F_Pool_has
    b_Pool_has := B_Pool_has
    m_Pool_has := ⟨a_Pool_has, i_Pool_has, k_Pool_has⟩
    Pool_best := F_Pool_best
    b_Pool_best := B_Pool_best
    m_Pool_best := ⟨a_Pool_best, i_Pool_best, k_Pool_best⟩
    Pool_pieces := F_Pool_pieces
    b_Pool_pieces := B_Pool_pieces
    m_Pool_pieces := ⟨a_Pool_pieces, i_Pool_pieces, k_Pool_pieces⟩
    upper_halves := ⟨PySem.W.mg_of X G a_upper_halves, F_upper_halves, B_upper_halves⟩
    Yard_init := F_Yard_init
    b_Yard_init := B_Yard_init
    m_Yard_init := ⟨mk_Yard, a_Yard_init, i_Yard_init, kc_Yard⟩
    Yard_give := F_Yard_give
    b_Yard_give := B_Yard_give
    m_Yard_give := ⟨a_Yard_give, i_Yard_give, k_Yard_give⟩
    Yard_take_back := F_Yard_take_back
    b_Yard_take_back := B_Yard_take_back
    m_Yard_take_back := ⟨a_Yard_take_back, i_Yard_take_back, k_Yard_take_back⟩
    Yard_resize := F_Yard_resize
    b_Yard_resize := B_Yard_resize
    m_Yard_resize := ⟨a_Yard_resize, i_Yard_resize, k_Yard_resize⟩
    Yard_free := F_Yard_free
    b_Yard_free := B_Yard_free
    m_Yard_free := ⟨a_Yard_free, i_Yard_free, k_Yard_free⟩
    Yard_out := F_Yard_out
    b_Yard_out := B_Yard_out
    m_Yard_out := ⟨a_Yard_out, i_Yard_out, k_Yard_out⟩
    Yard_owner := F_Yard_owner
    b_Yard_owner := B_Yard_owner
    m_Yard_owner := ⟨a_Yard_owner, i_Yard_owner, k_Yard_owner⟩
    Yard_fitting := F_Yard_fitting
    b_Yard_fitting := B_Yard_fitting
    m_Yard_fitting := ⟨a_Yard_fitting, i_Yard_fitting, k_Yard_fitting⟩
    Yard_size_of := F_Yard_size_of
    b_Yard_size_of := B_Yard_size_of
    m_Yard_size_of := ⟨a_Yard_size_of, i_Yard_size_of, k_Yard_size_of⟩
    Yard_cut := F_Yard_cut
    b_Yard_cut := B_Yard_cut
    m_Yard_cut := ⟨a_Yard_cut, i_Yard_cut, k_Yard_cut⟩
    Yard_grow := F_Yard_grow
    b_Yard_grow := B_Yard_grow
    m_Yard_grow := ⟨a_Yard_grow, i_Yard_grow, k_Yard_grow⟩
    Yard_join := F_Yard_join
    b_Yard_join := B_Yard_join
    m_Yard_join := ⟨a_Yard_join, i_Yard_join, k_Yard_join⟩
    read := ⟨PySem.W.mg_of X G a_read, F_read, B_read⟩
    read_row := ⟨PySem.W.mg_of X G a_read_row, F_read_row, B_read_row⟩
    read_number := ⟨PySem.W.mg_of X G a_read_number, F_read_number, B_read_number⟩
    count_cells := ⟨PySem.W.mg_of X G a_count_cells, F_count_cells, B_count_cells⟩
    refuse_free_twins := ⟨PySem.W.mg_of X G a_refuse_free_twins, F_refuse_free_twins, B_refuse_free_twins⟩
    yard_of := ⟨PySem.W.mg_of X G a_yard_of, F_yard_of, B_yard_of⟩
    law_whole := ⟨PySem.W.mg_of X G a_law_whole, F_law_whole, B_law_whole⟩
    law_cell_at := ⟨PySem.W.mg_of X G a_law_cell_at, F_law_cell_at, B_law_cell_at⟩
    law_doubled := ⟨PySem.W.mg_of X G a_law_doubled, F_law_doubled, B_law_doubled⟩
    law_halved := ⟨PySem.W.mg_of X G a_law_halved, F_law_halved, B_law_halved⟩
    law_in_a_row := ⟨PySem.W.mg_of X G a_law_in_a_row, F_law_in_a_row, B_law_in_a_row⟩
    law_lines := ⟨PySem.W.mg_of X G a_law_lines, F_law_lines, B_law_lines⟩
    law_others := ⟨PySem.W.mg_of X G a_law_others, F_law_others, B_law_others⟩
    law_spoilt := ⟨PySem.W.mg_of X G a_law_spoilt, F_law_spoilt, B_law_spoilt⟩
    law_number := ⟨PySem.W.mg_of X G a_law_number, F_law_number, B_law_number⟩
    law_is_size := ⟨PySem.W.mg_of X G a_law_is_size, F_law_is_size, B_law_is_size⟩
    law_due := ⟨PySem.W.mg_of X G a_law_due, F_law_due, B_law_due⟩
    law_refused := ⟨PySem.W.mg_of X G a_law_refused, F_law_refused, B_law_refused⟩
    law_refused_by_any := ⟨PySem.W.mg_of X G a_law_refused_by_any, F_law_refused_by_any, B_law_refused_by_any⟩
    law := ⟨PySem.W.mg_of X G a_law, F_law, B_law⟩
    g_Pool := PySem.W.mg_of X G g_Pool
    cl_Pool := ⟨pg_Pool, hd_Pool, po_Pool, sa_Pool⟩
    n_Pool__places := n_Pool__places
    g_Yard := PySem.W.mg_of X G g_Yard
    cl_Yard := ⟨pg_Yard, hd_Yard, po_Yard, sa_Yard⟩
    n_Yard_cells := n_Yard_cells
    n_Yard__sizes := n_Yard__sizes
    n_Yard__pool := n_Yard__pool
    e_YardError := ⟨PySem.W.mg_of X G g_YardError, xx_YardError, xk_YardError, xt_YardError, xc_YardError, ⟨xg_YardError, xh_YardError, xs_YardError, xd_YardError, xa_YardError, sp1, sp2, xm_YardError⟩, kit_ve xv_YardError⟩
    e_NoYard := ⟨PySem.W.mg_of X G g_NoYard, xx_NoYard, xk_NoYard, xt_NoYard, xc_NoYard, ⟨xg_NoYard, xh_NoYard, xs_NoYard, xd_NoYard, xa_NoYard, sp1, sp2, xm_NoYard⟩, kit_ve xv_NoYard⟩
    e_NoWish := ⟨PySem.W.mg_of X G g_NoWish, xx_NoWish, xk_NoWish, xt_NoWish, xc_NoWish, ⟨xg_NoWish, xh_NoWish, xs_NoWish, xd_NoWish, xa_NoWish, sp1, sp2, xm_NoWish⟩, kit_ve xv_NoWish⟩
    e_NoRoom := ⟨PySem.W.mg_of X G g_NoRoom, xx_NoRoom, xk_NoRoom, xt_NoRoom, xc_NoRoom, ⟨xg_NoRoom, xh_NoRoom, xs_NoRoom, xd_NoRoom, xa_NoRoom, sp1, sp2, xm_NoRoom⟩, kit_ve xv_NoRoom⟩
    e_NotOut := ⟨PySem.W.mg_of X G g_NotOut, xx_NotOut, xk_NotOut, xt_NotOut, xc_NotOut, ⟨xg_NotOut, xh_NotOut, xs_NotOut, xd_NotOut, xa_NotOut, sp1, sp2, xm_NotOut⟩, kit_ve xv_NotOut⟩
    e_NoNote := ⟨PySem.W.mg_of X G g_NoNote, xx_NoNote, xk_NoNote, xt_NoNote, xc_NoNote, ⟨xg_NoNote, xh_NoNote, xs_NoNote, xd_NoNote, xa_NoNote, sp1, sp2, xm_NoNote⟩, kit_ve xv_NoNote⟩
    x_NoYard_YardError := PySem.W.exm_ref xs_YardError xd_YardError xt_YardError s_NoYard_YardError
    k_NoYard_YardError := t_NoYard_YardError
    x_NoYard_NoYard := PySem.W.exm_ref xs_NoYard xd_NoYard xt_NoYard s_NoYard_NoYard
    k_NoYard_NoYard := t_NoYard_NoYard
    x_NoYard_NoWish := PySem.W.exm_ref xs_NoWish xd_NoWish xt_NoWish s_NoYard_NoWish
    k_NoYard_NoWish := t_NoYard_NoWish
    x_NoYard_NoRoom := PySem.W.exm_ref xs_NoRoom xd_NoRoom xt_NoRoom s_NoYard_NoRoom
    k_NoYard_NoRoom := t_NoYard_NoRoom
    x_NoYard_NotOut := PySem.W.exm_ref xs_NotOut xd_NotOut xt_NotOut s_NoYard_NotOut
    k_NoYard_NotOut := t_NoYard_NotOut
    x_NoYard_NoNote := PySem.W.exm_ref xs_NoNote xd_NoNote xt_NoNote s_NoYard_NoNote
    k_NoYard_NoNote := t_NoYard_NoNote
    x_NoWish_YardError := PySem.W.exm_ref xs_YardError xd_YardError xt_YardError s_NoWish_YardError
    k_NoWish_YardError := t_NoWish_YardError
    x_NoWish_NoYard := PySem.W.exm_ref xs_NoYard xd_NoYard xt_NoYard s_NoWish_NoYard
    k_NoWish_NoYard := t_NoWish_NoYard
    x_NoWish_NoWish := PySem.W.exm_ref xs_NoWish xd_NoWish xt_NoWish s_NoWish_NoWish
    k_NoWish_NoWish := t_NoWish_NoWish
    x_NoWish_NoRoom := PySem.W.exm_ref xs_NoRoom xd_NoRoom xt_NoRoom s_NoWish_NoRoom
    k_NoWish_NoRoom := t_NoWish_NoRoom
    x_NoWish_NotOut := PySem.W.exm_ref xs_NotOut xd_NotOut xt_NotOut s_NoWish_NotOut
    k_NoWish_NotOut := t_NoWish_NotOut
    x_NoWish_NoNote := PySem.W.exm_ref xs_NoNote xd_NoNote xt_NoNote s_NoWish_NoNote
    k_NoWish_NoNote := t_NoWish_NoNote
    x_NoRoom_YardError := PySem.W.exm_ref xs_YardError xd_YardError xt_YardError s_NoRoom_YardError
    k_NoRoom_YardError := t_NoRoom_YardError
    x_NoRoom_NoYard := PySem.W.exm_ref xs_NoYard xd_NoYard xt_NoYard s_NoRoom_NoYard
    k_NoRoom_NoYard := t_NoRoom_NoYard
    x_NoRoom_NoWish := PySem.W.exm_ref xs_NoWish xd_NoWish xt_NoWish s_NoRoom_NoWish
    k_NoRoom_NoWish := t_NoRoom_NoWish
    x_NoRoom_NoRoom := PySem.W.exm_ref xs_NoRoom xd_NoRoom xt_NoRoom s_NoRoom_NoRoom
    k_NoRoom_NoRoom := t_NoRoom_NoRoom
    x_NoRoom_NotOut := PySem.W.exm_ref xs_NotOut xd_NotOut xt_NotOut s_NoRoom_NotOut
    k_NoRoom_NotOut := t_NoRoom_NotOut
    x_NoRoom_NoNote := PySem.W.exm_ref xs_NoNote xd_NoNote xt_NoNote s_NoRoom_NoNote
    k_NoRoom_NoNote := t_NoRoom_NoNote
    x_NotOut_YardError := PySem.W.exm_ref xs_YardError xd_YardError xt_YardError s_NotOut_YardError
    k_NotOut_YardError := t_NotOut_YardError
    x_NotOut_NoYard := PySem.W.exm_ref xs_NoYard xd_NoYard xt_NoYard s_NotOut_NoYard
    k_NotOut_NoYard := t_NotOut_NoYard
    x_NotOut_NoWish := PySem.W.exm_ref xs_NoWish xd_NoWish xt_NoWish s_NotOut_NoWish
    k_NotOut_NoWish := t_NotOut_NoWish
    x_NotOut_NoRoom := PySem.W.exm_ref xs_NoRoom xd_NoRoom xt_NoRoom s_NotOut_NoRoom
    k_NotOut_NoRoom := t_NotOut_NoRoom
    x_NotOut_NotOut := PySem.W.exm_ref xs_NotOut xd_NotOut xt_NotOut s_NotOut_NotOut
    k_NotOut_NotOut := t_NotOut_NotOut
    x_NotOut_NoNote := PySem.W.exm_ref xs_NoNote xd_NoNote xt_NoNote s_NotOut_NoNote
    k_NotOut_NoNote := t_NotOut_NoNote
    x_NoNote_YardError := PySem.W.exm_ref xs_YardError xd_YardError xt_YardError s_NoNote_YardError
    k_NoNote_YardError := t_NoNote_YardError
    x_NoNote_NoYard := PySem.W.exm_ref xs_NoYard xd_NoYard xt_NoYard s_NoNote_NoYard
    k_NoNote_NoYard := t_NoNote_NoYard
    x_NoNote_NoWish := PySem.W.exm_ref xs_NoWish xd_NoWish xt_NoWish s_NoNote_NoWish
    k_NoNote_NoWish := t_NoNote_NoWish
    x_NoNote_NoRoom := PySem.W.exm_ref xs_NoRoom xd_NoRoom xt_NoRoom s_NoNote_NoRoom
    k_NoNote_NoRoom := t_NoNote_NoRoom
    x_NoNote_NotOut := PySem.W.exm_ref xs_NotOut xd_NotOut xt_NotOut s_NoNote_NotOut
    k_NoNote_NotOut := t_NoNote_NotOut
    x_NoNote_NoNote := PySem.W.exm_ref xs_NoNote xd_NoNote xt_NoNote s_NoNote_NoNote
    k_NoNote_NoNote := t_NoNote_NoNote
    z_ValueError := PySem.W.mg_none_of X G z_ValueError
    z_bool := PySem.W.mg_none_of X G z_bool
    z_int := PySem.W.mg_none_of X G z_int
    z_isinstance := PySem.W.mg_none_of X G z_isinstance
    z_len := PySem.W.mg_none_of X G z_len
    z_list := PySem.W.mg_none_of X G z_list
    z_min := PySem.W.mg_none_of X G z_min
    z_range := PySem.W.mg_none_of X G z_range
    z_reversed := PySem.W.mg_none_of X G z_reversed
    z_sorted := PySem.W.mg_none_of X G z_sorted
    z_str := PySem.W.mg_none_of X G z_str
    v_MOST := ⟨_, PySem.W.mg_of X G v_MOST⟩
    v_OUT := ⟨_, PySem.W.mg_of X G v_OUT⟩
    v_FREE := ⟨_, PySem.W.mg_of X G v_FREE⟩ }
  exact ⟨_, fun s v => .of_eq rfl, fun base _ _ => ok_law T⟩
end BY
open PySem PySem.W PyProof.Rows
set_option maxRecDepth 100000 in
set_option maxHeartbeats 0 in
theorem PySem.Challenge.cw_buddyyard_k14_read_holds : PySem.Challenge.rw_buddyyard_k14_read.Holds := by
  w_on; o_law; k_head; (case hw => w_witness2)
  k_fill
  refine L2.walk_ofK (l := PySem.Challenge.rw_buddyyard_k14_read) (n := 63) (k := 8) (x := "_law_script") (CX := L2.CX0) (sp := BY.spLaw) rfl (by decide) rfl ⟨rfl, by decide, by decide⟩ (fun w h Y => PySem.W.kIn_of Y) ?F (fun K H a ns hl _ hS => ⟨a, ns, rfl, hS, hl, fun _ => rfl⟩) (fun _ _ _ _ h => h)
  case F =>
    intro w mg fa h KX G hmg
    refine' BY.all_mk KX G hmg ?g_YardError ?g_NoYard ?g_NoWish ?g_NoRoom ?g_NotOut ?g_NoNote ?g_Pool ?g_Yard ?a_wall ?l_wall ?c_wall ?k_wall ?a_is_size ?l_is_size ?c_is_size ?k_is_size ?a_size_for ?l_size_for ?c_size_for ?k_size_for ?a_twin_of ?l_twin_of ?c_twin_of ?k_twin_of ?a_rank ?l_rank ?c_rank ?k_rank ?a_Pool_init ?i_Pool_init ?l_Pool_init ?c_Pool_init ?k_Pool_init ?a_Pool_put ?i_Pool_put ?l_Pool_put ?c_Pool_put ?k_Pool_put ?a_Pool_drop ?i_Pool_drop ?l_Pool_drop ?c_Pool_drop ?k_Pool_drop ?a_Pool_has ?i_Pool_has ?l_Pool_has ?c_Pool_has ?k_Pool_has ?a_Pool_best ?i_Pool_best ?l_Pool_best ?c_Pool_best ?k_Pool_best ?a_Pool_pieces ?i_Pool_pieces ?l_Pool_pieces ?c_Pool_pieces ?k_Pool_pieces ?a_upper_halves ?l_upper_halves ?c_upper_halves ?k_upper_halves ?a_Yard_init ?i_Yard_init ?l_Yard_init ?c_Yard_init ?k_Yard_init ?a_Yard_give ?i_Yard_give ?l_Yard_give ?c_Yard_give ?k_Yard_give ?a_Yard_take_back ?i_Yard_take_back ?l_Yard_take_back ?c_Yard_take_back ?k_Yard_take_back ?a_Yard_resize ?i_Yard_resize ?l_Yard_resize ?c_Yard_resize ?k_Yard_resize ?a_Yard_free ?i_Yard_free ?l_Yard_free ?c_Yard_free ?k_Yard_free ?a_Yard_out ?i_Yard_out ?l_Yard_out ?c_Yard_out ?k_Yard_out ?a_Yard_owner ?i_Yard_owner ?l_Yard_owner ?c_Yard_owner ?k_Yard_owner ?a_Yard_fitting ?i_Yard_fitting ?l_Yard_fitting ?c_Yard_fitting ?k_Yard_fitting ?a_Yard_size_of ?i_Yard_size_of ?l_Yard_size_of ?c_Yard_size_of ?k_Yard_size_of ?a_Yard_cut ?i_Yard_cut ?l_Yard_cut ?c_Yard_cut ?k_Yard_cut ?a_Yard_grow ?i_Yard_grow ?l_Yard_grow ?c_Yard_grow ?k_Yard_grow ?a_Yard_join ?i_Yard_join ?l_Yard_join ?c_Yard_join ?k_Yard_join ?a_read ?l_read ?c_read ?k_read ?a_read_row ?l_read_row ?c_read_row ?k_read_row ?a_read_number ?l_read_number ?c_read_number ?k_read_number ?a_count_cells ?l_count_cells ?c_count_cells ?k_count_cells ?a_refuse_free_twins ?l_refuse_free_twins ?c_refuse_free_twins ?k_refuse_free_twins ?a_yard_of ?l_yard_of ?c_yard_of ?k_yard_of ?a_law_whole ?l_law_whole ?c_law_whole ?k_law_whole ?a_law_cell_at ?l_law_cell_at ?c_law_cell_at ?k_law_cell_at ?a_law_doubled ?l_law_doubled ?c_law_doubled ?k_law_doubled ?a_law_halved ?l_law_halved ?c_law_halved ?k_law_halved ?a_law_in_a_row ?l_law_in_a_row ?c_law_in_a_row ?k_law_in_a_row ?a_law_lines ?l_law_lines ?c_law_lines ?k_law_lines ?a_law_others ?l_law_others ?c_law_others ?k_law_others ?a_law_spoilt ?l_law_spoilt ?c_law_spoilt ?k_law_spoilt ?a_law_number ?l_law_number ?c_law_number ?k_law_number ?a_law_is_size ?l_law_is_size ?c_law_is_size ?k_law_is_size ?a_law_due ?l_law_due ?c_law_due ?k_law_due ?a_law_refused ?l_law_refused ?c_law_refused ?k_law_refused ?a_law_refused_by_any ?l_law_refused_by_any ?c_law_refused_by_any ?k_law_refused_by_any ?a_law ?l_law ?c_law ?k_law ?pg_Pool ?hd_Pool ?po_Pool ?sa_Pool ?mk_Pool ?kc_Pool ?n_Pool__places ?pg_Yard ?hd_Yard ?po_Yard ?sa_Yard ?mk_Yard ?kc_Yard ?n_Yard_cells ?n_Yard__sizes ?n_Yard__pool ?sp1 ?sp2 ?xx_YardError ?xk_YardError ?xt_YardError ?xc_YardError ?xg_YardError ?xh_YardError ?xs_YardError ?xd_YardError ?xa_YardError ?xm_YardError ?xv_YardError ?xx_NoYard ?xk_NoYard ?xt_NoYard ?xc_NoYard ?xg_NoYard ?xh_NoYard ?xs_NoYard ?xd_NoYard ?xa_NoYard ?xm_NoYard ?xv_NoYard ?xx_NoWish ?xk_NoWish ?xt_NoWish ?xc_NoWish ?xg_NoWish ?xh_NoWish ?xs_NoWish ?xd_NoWish ?xa_NoWish ?xm_NoWish ?xv_NoWish ?xx_NoRoom ?xk_NoRoom ?xt_NoRoom ?xc_NoRoom ?xg_NoRoom ?xh_NoRoom ?xs_NoRoom ?xd_NoRoom ?xa_NoRoom ?xm_NoRoom ?xv_NoRoom ?xx_NotOut ?xk_NotOut ?xt_NotOut ?xc_NotOut ?xg_NotOut ?xh_NotOut ?xs_NotOut ?xd_NotOut ?xa_NotOut ?xm_NotOut ?xv_NotOut ?xx_NoNote ?xk_NoNote ?xt_NoNote ?xc_NoNote ?xg_NoNote ?xh_NoNote ?xs_NoNote ?xd_NoNote ?xa_NoNote ?xm_NoNote ?xv_NoNote ?s_NoYard_YardError ?t_NoYard_YardError ?s_NoYard_NoYard ?t_NoYard_NoYard ?s_NoYard_NoWish ?t_NoYard_NoWish ?s_NoYard_NoRoom ?t_NoYard_NoRoom ?s_NoYard_NotOut ?t_NoYard_NotOut ?s_NoYard_NoNote ?t_NoYard_NoNote ?s_NoWish_YardError ?t_NoWish_YardError ?s_NoWish_NoYard ?t_NoWish_NoYard ?s_NoWish_NoWish ?t_NoWish_NoWish ?s_NoWish_NoRoom ?t_NoWish_NoRoom ?s_NoWish_NotOut ?t_NoWish_NotOut ?s_NoWish_NoNote ?t_NoWish_NoNote ?s_NoRoom_YardError ?t_NoRoom_YardError ?s_NoRoom_NoYard ?t_NoRoom_NoYard ?s_NoRoom_NoWish ?t_NoRoom_NoWish ?s_NoRoom_NoRoom ?t_NoRoom_NoRoom ?s_NoRoom_NotOut ?t_NoRoom_NotOut ?s_NoRoom_NoNote ?t_NoRoom_NoNote ?s_NotOut_YardError ?t_NotOut_YardError ?s_NotOut_NoYard ?t_NotOut_NoYard ?s_NotOut_NoWish ?t_NotOut_NoWish ?s_NotOut_NoRoom ?t_NotOut_NoRoom ?s_NotOut_NotOut ?t_NotOut_NotOut ?s_NotOut_NoNote ?t_NotOut_NoNote ?s_NoNote_YardError ?t_NoNote_YardError ?s_NoNote_NoYard ?t_NoNote_NoYard ?s_NoNote_NoWish ?t_NoNote_NoWish ?s_NoNote_NoRoom ?t_NoNote_NoRoom ?s_NoNote_NotOut ?t_NoNote_NotOut ?s_NoNote_NoNote ?t_NoNote_NoNote ?z_ValueError ?z_bool ?z_int ?z_isinstance ?z_len ?z_list ?z_min ?z_range ?z_reversed ?z_sorted ?z_str ?v_MOST ?v_OUT ?v_FREE
    (case g_YardError => k_is)
    (case g_NoYard => k_is)
    (case g_NoWish => k_is)
    (case g_NoRoom => k_is)
    (case g_NotOut => k_is)
    (case g_NoNote => k_is)
    (case g_Pool => k_is)
    (case g_Yard => k_is)
    (case a_wall => k_is)
    (case l_wall => k_is)
    (case c_wall => k_is)
    (case k_wall => k_is)
    (case a_is_size => k_is)
    (case l_is_size => k_is)
    (case c_is_size => k_is)
    (case k_is_size => k_is)
    (case a_size_for => k_is)
    (case l_size_for => k_is)
    (case c_size_for => k_is)
    (case k_size_for => k_is)
    (case a_twin_of => k_is)
    (case l_twin_of => k_is)
    (case c_twin_of => k_is)
    (case k_twin_of => k_is)
    (case a_rank => k_is)
    (case l_rank => k_is)
    (case c_rank => k_is)
    (case k_rank => k_is)
    (case a_Pool_init => k_is)
    (case i_Pool_init => k_is)
    (case l_Pool_init => k_is)
    (case c_Pool_init => k_is)
    (case k_Pool_init => k_is)
    (case a_Pool_put => k_is)
    (case i_Pool_put => k_is)
    (case l_Pool_put => k_is)
    (case c_Pool_put => k_is)
    (case k_Pool_put => k_is)
    (case a_Pool_drop => k_is)
    (case i_Pool_drop => k_is)
    (case l_Pool_drop => k_is)
    (case c_Pool_drop => k_is)
    (case k_Pool_drop => k_is)
    (case a_Pool_has => k_is)
    (case i_Pool_has => k_is)
    (case l_Pool_has => k_is)
    (case c_Pool_has => k_is)
    (case k_Pool_has => k_is)
    (case a_Pool_best => k_is)
    (case i_Pool_best => k_is)
    (case l_Pool_best => k_is)
    (case c_Pool_best => k_is)
    (case k_Pool_best => k_is)
    (case a_Pool_pieces => k_is)
    (case i_Pool_pieces => k_is)
    (case l_Pool_pieces => k_is)
    (case c_Pool_pieces => k_is)
    (case k_Pool_pieces => k_is)
    (case a_upper_halves => k_is)
    (case l_upper_halves => k_is)
    (case c_upper_halves => k_is)
    (case k_upper_halves => k_is)
    (case a_Yard_init => k_is)
    (case i_Yard_init => k_is)
    (case l_Yard_init => k_is)
    (case c_Yard_init => k_is)
    (case k_Yard_init => k_is)
    (case a_Yard_give => k_is)
    (case i_Yard_give => k_is)
    (case l_Yard_give => k_is)
    (case c_Yard_give => k_is)
    (case k_Yard_give => k_is)
    (case a_Yard_take_back => k_is)
    (case i_Yard_take_back => k_is)
    (case l_Yard_take_back => k_is)
    (case c_Yard_take_back => k_is)
    (case k_Yard_take_back => k_is)
    (case a_Yard_resize => k_is)
    (case i_Yard_resize => k_is)
    (case l_Yard_resize => k_is)
    (case c_Yard_resize => k_is)
    (case k_Yard_resize => k_is)
    (case a_Yard_free => k_is)
    (case i_Yard_free => k_is)
    (case l_Yard_free => k_is)
    (case c_Yard_free => k_is)
    (case k_Yard_free => k_is)
    (case a_Yard_out => k_is)
    (case i_Yard_out => k_is)
    (case l_Yard_out => k_is)
    (case c_Yard_out => k_is)
    (case k_Yard_out => k_is)
    (case a_Yard_owner => k_is)
    (case i_Yard_owner => k_is)
    (case l_Yard_owner => k_is)
    (case c_Yard_owner => k_is)
    (case k_Yard_owner => k_is)
    (case a_Yard_fitting => k_is)
    (case i_Yard_fitting => k_is)
    (case l_Yard_fitting => k_is)
    (case c_Yard_fitting => k_is)
    (case k_Yard_fitting => k_is)
    (case a_Yard_size_of => k_is)
    (case i_Yard_size_of => k_is)
    (case l_Yard_size_of => k_is)
    (case c_Yard_size_of => k_is)
    (case k_Yard_size_of => k_is)
    (case a_Yard_cut => k_is)
    (case i_Yard_cut => k_is)
    (case l_Yard_cut => k_is)
    (case c_Yard_cut => k_is)
    (case k_Yard_cut => k_is)
    (case a_Yard_grow => k_is)
    (case i_Yard_grow => k_is)
    (case l_Yard_grow => k_is)
    (case c_Yard_grow => k_is)
    (case k_Yard_grow => k_is)
    (case a_Yard_join => k_is)
    (case i_Yard_join => k_is)
    (case l_Yard_join => k_is)
    (case c_Yard_join => k_is)
    (case k_Yard_join => k_is)
    (case a_read => k_is)
    (case l_read => k_is)
    (case c_read => k_is)
    (case k_read => k_is)
    (case a_read_row => k_is)
    (case l_read_row => k_is)
    (case c_read_row => k_is)
    (case k_read_row => k_is)
    (case a_read_number => k_is)
    (case l_read_number => k_is)
    (case c_read_number => k_is)
    (case k_read_number => k_is)
    (case a_count_cells => k_is)
    (case l_count_cells => k_is)
    (case c_count_cells => k_is)
    (case k_count_cells => k_is)
    (case a_refuse_free_twins => k_is)
    (case l_refuse_free_twins => k_is)
    (case c_refuse_free_twins => k_is)
    (case k_refuse_free_twins => k_is)
    (case a_yard_of => k_is)
    (case l_yard_of => k_is)
    (case c_yard_of => k_is)
    (case k_yard_of => k_is)
    (case a_law_whole => k_is)
    (case l_law_whole => k_is)
    (case c_law_whole => k_is)
    (case k_law_whole => k_is)
    (case a_law_cell_at => k_is)
    (case l_law_cell_at => k_is)
    (case c_law_cell_at => k_is)
    (case k_law_cell_at => k_is)
    (case a_law_doubled => k_is)
    (case l_law_doubled => k_is)
    (case c_law_doubled => k_is)
    (case k_law_doubled => k_is)
    (case a_law_halved => k_is)
    (case l_law_halved => k_is)
    (case c_law_halved => k_is)
    (case k_law_halved => k_is)
    (case a_law_in_a_row => k_is)
    (case l_law_in_a_row => k_is)
    (case c_law_in_a_row => k_is)
    (case k_law_in_a_row => k_is)
    (case a_law_lines => k_is)
    (case l_law_lines => k_is)
    (case c_law_lines => k_is)
    (case k_law_lines => k_is)
    (case a_law_others => k_is)
    (case l_law_others => k_is)
    (case c_law_others => k_is)
    (case k_law_others => k_is)
    (case a_law_spoilt => k_is)
    (case l_law_spoilt => k_is)
    (case c_law_spoilt => k_is)
    (case k_law_spoilt => k_is)
    (case a_law_number => k_is)
    (case l_law_number => k_is)
    (case c_law_number => k_is)
    (case k_law_number => k_is)
    (case a_law_is_size => k_is)
    (case l_law_is_size => k_is)
    (case c_law_is_size => k_is)
    (case k_law_is_size => k_is)
    (case a_law_due => k_is)
    (case l_law_due => k_is)
    (case c_law_due => k_is)
    (case k_law_due => k_is)
    (case a_law_refused => k_is)
    (case l_law_refused => k_is)
    (case c_law_refused => k_is)
    (case k_law_refused => k_is)
    (case a_law_refused_by_any => k_is)
    (case l_law_refused_by_any => k_is)
    (case c_law_refused_by_any => k_is)
    (case k_law_refused_by_any => k_is)
    (case a_law => k_is)
    (case l_law => k_is)
    (case c_law => k_is)
    (case k_law => k_is)
    (case pg_Pool => k_is)
    (case hd_Pool => k_is)
    (case po_Pool => k_is)
    (case sa_Pool => k_is)
    (case mk_Pool => k_is)
    (case kc_Pool => k_is)
    (case n_Pool__places => k_is)
    (case pg_Yard => k_is)
    (case hd_Yard => k_is)
    (case po_Yard => k_is)
    (case sa_Yard => k_is)
    (case mk_Yard => k_is)
    (case kc_Yard => k_is)
    (case n_Yard_cells => k_is)
    (case n_Yard__sizes => k_is)
    (case n_Yard__pool => k_is)
    (case sp1 => k_is)
    (case sp2 => k_is)
    (case xx_YardError => k_exc)
    (case xk_YardError => k_is)
    (case xt_YardError => k_is)
    (case xc_YardError => k_is)
    (case xg_YardError => k_is)
    (case xh_YardError => k_is)
    (case xs_YardError => k_is)
    (case xd_YardError => k_is)
    (case xa_YardError => k_is)
    (case xm_YardError => k_is)
    (case xv_YardError => k_is)
    (case xx_NoYard => k_exc)
    (case xk_NoYard => k_is)
    (case xt_NoYard => k_is)
    (case xc_NoYard => k_is)
    (case xg_NoYard => k_is)
    (case xh_NoYard => k_is)
    (case xs_NoYard => k_is)
    (case xd_NoYard => k_is)
    (case xa_NoYard => k_is)
    (case xm_NoYard => k_is)
    (case xv_NoYard => k_is)
    (case xx_NoWish => k_exc)
    (case xk_NoWish => k_is)
    (case xt_NoWish => k_is)
    (case xc_NoWish => k_is)
    (case xg_NoWish => k_is)
    (case xh_NoWish => k_is)
    (case xs_NoWish => k_is)
    (case xd_NoWish => k_is)
    (case xa_NoWish => k_is)
    (case xm_NoWish => k_is)
    (case xv_NoWish => k_is)
    (case xx_NoRoom => k_exc)
    (case xk_NoRoom => k_is)
    (case xt_NoRoom => k_is)
    (case xc_NoRoom => k_is)
    (case xg_NoRoom => k_is)
    (case xh_NoRoom => k_is)
    (case xs_NoRoom => k_is)
    (case xd_NoRoom => k_is)
    (case xa_NoRoom => k_is)
    (case xm_NoRoom => k_is)
    (case xv_NoRoom => k_is)
    (case xx_NotOut => k_exc)
    (case xk_NotOut => k_is)
    (case xt_NotOut => k_is)
    (case xc_NotOut => k_is)
    (case xg_NotOut => k_is)
    (case xh_NotOut => k_is)
    (case xs_NotOut => k_is)
    (case xd_NotOut => k_is)
    (case xa_NotOut => k_is)
    (case xm_NotOut => k_is)
    (case xv_NotOut => k_is)
    (case xx_NoNote => k_exc)
    (case xk_NoNote => k_is)
    (case xt_NoNote => k_is)
    (case xc_NoNote => k_is)
    (case xg_NoNote => k_is)
    (case xh_NoNote => k_is)
    (case xs_NoNote => k_is)
    (case xd_NoNote => k_is)
    (case xa_NoNote => k_is)
    (case xm_NoNote => k_is)
    (case xv_NoNote => k_is)
    (case s_NoYard_YardError => first | rfl | k_is)
    (case t_NoYard_YardError => first | rfl | k_is)
    (case s_NoYard_NoYard => first | rfl | k_is)
    (case t_NoYard_NoYard => first | rfl | k_is)
    (case s_NoYard_NoWish => first | rfl | k_is)
    (case t_NoYard_NoWish => first | rfl | k_is)
    (case s_NoYard_NoRoom => first | rfl | k_is)
    (case t_NoYard_NoRoom => first | rfl | k_is)
    (case s_NoYard_NotOut => first | rfl | k_is)
    (case t_NoYard_NotOut => first | rfl | k_is)
    (case s_NoYard_NoNote => first | rfl | k_is)
    (case t_NoYard_NoNote => first | rfl | k_is)
    (case s_NoWish_YardError => first | rfl | k_is)
    (case t_NoWish_YardError => first | rfl | k_is)
    (case s_NoWish_NoYard => first | rfl | k_is)
    (case t_NoWish_NoYard => first | rfl | k_is)
    (case s_NoWish_NoWish => first | rfl | k_is)
    (case t_NoWish_NoWish => first | rfl | k_is)
    (case s_NoWish_NoRoom => first | rfl | k_is)
    (case t_NoWish_NoRoom => first | rfl | k_is)
    (case s_NoWish_NotOut => first | rfl | k_is)
    (case t_NoWish_NotOut => first | rfl | k_is)
    (case s_NoWish_NoNote => first | rfl | k_is)
    (case t_NoWish_NoNote => first | rfl | k_is)
    (case s_NoRoom_YardError => first | rfl | k_is)
    (case t_NoRoom_YardError => first | rfl | k_is)
    (case s_NoRoom_NoYard => first | rfl | k_is)
    (case t_NoRoom_NoYard => first | rfl | k_is)
    (case s_NoRoom_NoWish => first | rfl | k_is)
    (case t_NoRoom_NoWish => first | rfl | k_is)
    (case s_NoRoom_NoRoom => first | rfl | k_is)
    (case t_NoRoom_NoRoom => first | rfl | k_is)
    (case s_NoRoom_NotOut => first | rfl | k_is)
    (case t_NoRoom_NotOut => first | rfl | k_is)
    (case s_NoRoom_NoNote => first | rfl | k_is)
    (case t_NoRoom_NoNote => first | rfl | k_is)
    (case s_NotOut_YardError => first | rfl | k_is)
    (case t_NotOut_YardError => first | rfl | k_is)
    (case s_NotOut_NoYard => first | rfl | k_is)
    (case t_NotOut_NoYard => first | rfl | k_is)
    (case s_NotOut_NoWish => first | rfl | k_is)
    (case t_NotOut_NoWish => first | rfl | k_is)
    (case s_NotOut_NoRoom => first | rfl | k_is)
    (case t_NotOut_NoRoom => first | rfl | k_is)
    (case s_NotOut_NotOut => first | rfl | k_is)
    (case t_NotOut_NotOut => first | rfl | k_is)
    (case s_NotOut_NoNote => first | rfl | k_is)
    (case t_NotOut_NoNote => first | rfl | k_is)
    (case s_NoNote_YardError => first | rfl | k_is)
    (case t_NoNote_YardError => first | rfl | k_is)
    (case s_NoNote_NoYard => first | rfl | k_is)
    (case t_NoNote_NoYard => first | rfl | k_is)
    (case s_NoNote_NoWish => first | rfl | k_is)
    (case t_NoNote_NoWish => first | rfl | k_is)
    (case s_NoNote_NoRoom => first | rfl | k_is)
    (case t_NoNote_NoRoom => first | rfl | k_is)
    (case s_NoNote_NotOut => first | rfl | k_is)
    (case t_NoNote_NotOut => first | rfl | k_is)
    (case s_NoNote_NoNote => first | rfl | k_is)
    (case t_NoNote_NoNote => first | rfl | k_is)
    (case z_ValueError => k_is)
    (case z_bool => k_is)
    (case z_int => k_is)
    (case z_isinstance => k_is)
    (case z_len => k_is)
    (case z_list => k_is)
    (case z_min => k_is)
    (case z_range => k_is)
    (case z_reversed => k_is)
    (case z_sorted => k_is)
    (case z_str => k_is)
    (case v_MOST => k_is)
    (case v_OUT => k_is)
    (case v_FREE => k_is)
