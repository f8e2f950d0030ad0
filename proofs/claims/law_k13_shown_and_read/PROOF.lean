import PyProof.Rows.All
import Wide.All
import OpenK.AllK
import Wide.FinOn
import HandS.ForMost
import HandS.StrMore
import HandS.DictComp
import KE.KIntText
import KE.IntTextText
import HandS.ForExc
import HandS.ExcIs
import HandS.IsInst
import HandS.WideBits
import HandS.WideMore
import HandS.Style
import HandS.SortRule
import HandS.SortInts
import HandS.DictTup
import HandS.ListItems
import HandS.More
import HandS.Flow
import HandS.TryMany
import HandS.Strs
import HandS.Walk
import HandS.Rev
import HandS.SortKw
import HandS.FStr
import HandS.Lambda
import HandS.SuiteRaise
import HandS.RaiseFrom
import HandS.Deep
import HandS.HotCalls
import KE.SortKeyHeap
import KE.KSortKeyAny
import HandS.Conv
import HandS.EndTab
import HandS.Finally
import HandS.NestedHot
import HandS.FStrTup
import PySem.Challenge.RW_buddyyard_k13_shown_and_read
set_option Elab.async false
set_option linter.all false
set_option maxRecDepth 100000
set_option maxHeartbeats 1000000
namespace BY
open PySem L2
/-! ### the mathematics of a yard: cells that are out, blocks of 2 ^ j cells -/
theorem blk_mono {x y j m : Nat} (h : j ≤ m) (e : x / 2 ^ j = y / 2 ^ j) : x / 2 ^ m = y / 2 ^ m := by
  obtain ⟨t, rfl⟩ : ∃ t, m = j + t := ⟨m - j, by omega⟩
  rw [Nat.pow_add, ← Nat.div_div_eq_div_mul, ← Nat.div_div_eq_div_mul, e]
theorem blk_succ (x j : Nat) : x / 2 ^ (j + 1) = x / 2 ^ j / 2 := by
  rw [Nat.pow_succ, ← Nat.div_div_eq_div_mul]
theorem blk_of (i j : Nat) : i * 2 ^ j / 2 ^ j = i := Nat.mul_div_cancel _ (Nat.pow_pos (by decide))
/-- no cell of block i of size 2 ^ j is out -/
def Fr (O : Nat → Prop) (j i : Nat) : Prop := ∀ c, c / 2 ^ j = i → ¬ O c
/-- block i of size 2 ^ j is a whole free piece -/
def Mx (O : Nat → Prop) (d j i : Nat) : Prop := j ≤ d ∧ i < 2 ^ (d - j) ∧ Fr O j i ∧ (j < d → ¬ Fr O (j + 1) (i / 2))
def sib (i : Nat) : Nat := if i % 2 = 0 then i + 1 else i - 1
theorem sib_half (i : Nat) : sib i / 2 = i / 2 := by
  unfold sib
  split <;> omega
theorem sib_ne (i : Nat) : sib i ≠ i := by
  unfold sib
  split <;> omega
theorem sib_of {i m : Nat} (h : i / 2 = m / 2) (n : i ≠ m) : i = sib m := by
  unfold sib
  split <;> omega
theorem sib_sib (i : Nat) : sib (sib i) = i := by
  unfold sib
  split <;> split <;> omega
theorem fr_down {O : Nat → Prop} {j m c : Nat} (h : Fr O m (c / 2 ^ m)) (l : j ≤ m) : Fr O j (c / 2 ^ j) := fun x e => h x (blk_mono l e)
theorem fr_half {O : Nat → Prop} {j i : Nat} (h1 : Fr O j i) (h2 : Fr O j (sib i)) : Fr O (j + 1) (i / 2) := by
  intro c e
  rw [blk_succ] at e
  by_cases h : c / 2 ^ j = i
  · exact h1 c h
  · exact h2 c (sib_of e h)
theorem fr_at {O : Nat → Prop} {j i : Nat} (h : Fr O (j + 1) (i / 2)) : Fr O j i := fun c e => h c (by rw [blk_succ, e])
theorem mx_le {O : Nat → Prop} {d j m c : Nat} (h : Mx O d j (c / 2 ^ j)) (hm : m ≤ d) (f : Fr O m (c / 2 ^ m)) : m ≤ j := by
  by_cases l : m ≤ j
  · exact l
  · exfalso
    refine h.2.2.2 (by omega) ?_
    rw [← blk_succ]
    exact fr_down f (by omega)
theorem mx_uniq {O : Nat → Prop} {d j m c : Nat} (h : Mx O d j (c / 2 ^ j)) (g : Mx O d m (c / 2 ^ m)) : j = m :=
  Nat.le_antisymm (mx_le g h.1 h.2.2.1) (mx_le h g.1 g.2.2.1)
theorem blk_lt {c d j : Nat} (h : c < 2 ^ d) (l : j ≤ d) : c / 2 ^ j < 2 ^ (d - j) := by
  apply Nat.div_lt_of_lt_mul
  rw [← Nat.pow_add, show j + (d - j) = d by omega]
  exact h
theorem mx_exists {O : Nat → Prop} {d c : Nat} (hc : c < 2 ^ d) : ∀ (n k : Nat), d - k = n → k ≤ d → Fr O k (c / 2 ^ k) → ∃ m, k ≤ m ∧ Mx O d m (c / 2 ^ m)
  | 0, k, e, l, f => ⟨k, Nat.le_refl _, l, blk_lt hc l, f, fun z => by omega⟩
  | n + 1, k, e, l, f => by
    by_cases g : Fr O (k + 1) (c / 2 ^ (k + 1))
    · obtain ⟨m, h1, h2⟩ := mx_exists hc n (k + 1) (by omega) (by omega) g
      exact ⟨m, by omega, h2⟩
    · exact ⟨k, Nat.le_refl _, l, blk_lt hc l, f, fun _ z => g (by rw [blk_succ]; exact z)⟩
/-- the block of size 2 ^ k that has the cell a is given out of the whole free piece of size 2 ^ m that has it -/
theorem mx_add {O O' : Nat → Prop} {d k m a : Nat} (hk : k ≤ m) (hM : Mx O' d m (a / 2 ^ m)) (hO : ∀ c, O c ↔ O' c ∨ c / 2 ^ k = a / 2 ^ k) (j i : Nat) :
    Mx O d j i ↔ (Mx O' d j i ∧ ¬ (j = m ∧ i = a / 2 ^ m)) ∨ (k ≤ j ∧ j < m ∧ i = sib (a / 2 ^ j)) := by
  have hp : ∀ n : Nat, 0 < 2 ^ n := fun n => Nat.pow_pos (by decide)
  have sub : ∀ {j i : Nat}, Fr O j i → Fr O' j i := fun f c e z => f c e ((hO c).mpr (.inl z))
  -- a cell of the block that is given, in a block that is free: no
  have no : ∀ {j i : Nat}, Fr O j i → i * 2 ^ j / 2 ^ k ≠ a / 2 ^ k := fun f z => f _ (blk_of _ _) ((hO _).mpr (.inr z))
  constructor
  · rintro ⟨jd, il, f, mx⟩
    have f' := sub f
    by_cases hin : i * 2 ^ j / 2 ^ m = a / 2 ^ m ∧ j < m
    · obtain ⟨hin, jm⟩ := hin
      right
      -- its parent is free in O', so what is out there is the new block
      have mm := hM.1
      have pf : Fr O' (j + 1) (i / 2) := by
        have z : Fr O' m (i * 2 ^ j / 2 ^ m) := by rw [hin]; exact hM.2.2.1
        have y := fr_down z (show j + 1 ≤ m by omega)
        rw [blk_succ, blk_of] at y
        exact y
      have nf := mx (by omega)
      have ⟨c, e, oc⟩ : ∃ c, c / 2 ^ (j + 1) = i / 2 ∧ O c := by
        apply Classical.byContradiction
        intro z
        exact nf fun c e oc => z ⟨c, e, oc⟩
      have ec : c / 2 ^ k = a / 2 ^ k := ((hO c).mp oc).resolve_left (pf c e)
      have kj : k ≤ j := by
        apply Classical.byContradiction
        intro z
        refine no f ?_
        rw [← ec]
        refine blk_mono (j := j + 1) (by omega) ?_
        rw [e, blk_succ, blk_of]
      have e2 : c / 2 ^ j = a / 2 ^ j := blk_mono kj ec
      refine ⟨kj, jm, sib_of ?_ ?_⟩
      · rw [← e2, ← blk_succ]
        exact e.symm
      · intro z
        refine f c ?_ oc
        rw [e2, z]
    · left
      have hne : ¬ (j = m ∧ i = a / 2 ^ m) := by
        rintro ⟨rfl, rfl⟩
        refine f a rfl ((hO a).mpr (.inr rfl))
      refine ⟨⟨jd, il, f', fun l pf => ?_⟩, hne⟩
      have nf := mx l
      have ⟨c, e, oc⟩ : ∃ c, c / 2 ^ (j + 1) = i / 2 ∧ O c := by
        apply Classical.byContradiction
        intro z
        exact nf fun c e oc => z ⟨c, e, oc⟩
      have ec : c / 2 ^ k = a / 2 ^ k := ((hO c).mp oc).resolve_left (pf c e)
      have kj : k ≤ j := by
        apply Classical.byContradiction
        intro z
        refine no f ?_
        rw [← ec]
        refine blk_mono (j := j + 1) (by omega) ?_
        rw [e, blk_succ, blk_of]
      have e2 : c / 2 ^ j = a / 2 ^ j := blk_mono kj ec
      have e3 : a / 2 ^ (j + 1) = i / 2 := by rw [blk_succ, ← e2, ← blk_succ]; exact e
      have y : j + 1 ≤ m := mx_le hM (by omega) (by rw [e3]; exact pf)
      refine hin ⟨?_, by omega⟩
      refine blk_mono y ?_
      rw [e3, blk_succ, blk_of]
  · rintro (⟨⟨jd, il, f, mx⟩, ne⟩ | ⟨kj, jm, rfl⟩)
    · -- it has no cell of the new block: else it were the piece itself
      have away : ∀ c, c / 2 ^ j = i → c / 2 ^ k ≠ a / 2 ^ k := by
        intro c e z
        have e2 : c / 2 ^ m = a / 2 ^ m := blk_mono hk z
        have hM' : Mx O' d m (c / 2 ^ m) := by rw [e2]; exact hM
        have := mx_uniq (c := c) (j := j) (m := m) (by rw [e]; exact ⟨jd, il, f, mx⟩) hM'
        subst this
        exact ne ⟨rfl, by rw [← e2]; exact e.symm⟩
      refine ⟨jd, il, fun c e oc => ?_, fun l pf => mx l (sub pf)⟩
      rcases (hO c).mp oc with z | z
      · exact f c e z
      · exact away c e z
    · have mm := hM.1
      have hf : Fr O' j (sib (a / 2 ^ j)) := by
        have z := fr_down hM.2.2.1 (show j + 1 ≤ m by omega)
        rw [blk_succ, ← sib_half] at z
        exact fr_at z
      refine ⟨by omega, ?_, fun c e oc => ?_, fun l pf => ?_⟩
      · have y := hM.2.1
        have y2 : a / 2 ^ (j + 1) < 2 ^ (d - (j + 1)) := by
          have e : a / 2 ^ m = a / 2 ^ (j + 1) / 2 ^ (m - (j + 1)) := by
            rw [Nat.div_div_eq_div_mul, ← Nat.pow_add, show j + 1 + (m - (j + 1)) = m by omega]
          rw [e] at y
          have y3 := Nat.lt_mul_of_div_lt y (hp _)
          rw [← Nat.pow_add, show d - m + (m - (j + 1)) = d - (j + 1) by omega] at y3
          exact y3
        have e4 : 2 ^ (d - j) = 2 * 2 ^ (d - (j + 1)) := by
          rw [show d - j = d - (j + 1) + 1 by omega, Nat.pow_succ]
          omega
        rw [blk_succ, ← sib_half] at y2
        omega
      · rcases (hO c).mp oc with z | z
        · exact hf c e z
        · have z2 := blk_mono kj z
          rw [e] at z2
          exact sib_ne _ z2
      · refine pf a ?_ ((hO a).mpr (.inr rfl))
        rw [blk_succ, sib_half]
/-- going down the same way: while the sibling is a whole free piece, the piece grows -/
theorem mx_stop {O O' : Nat → Prop} {d k m a : Nat} (hk : k ≤ m) (hM : Mx O' d m (a / 2 ^ m)) (hO : ∀ c, O c ↔ O' c ∨ c / 2 ^ k = a / 2 ^ k) (j : Nat) (kj : k ≤ j) (jm : j ≤ m) : Mx O d j (sib (a / 2 ^ j)) ↔ j < m := by
  rw [mx_add hk hM hO]
  constructor
  · rintro (⟨h, _⟩ | ⟨_, h, _⟩)
    · apply Classical.byContradiction
      intro z
      have e : j = m := by omega
      subst e
      by_cases l : j < d
      · refine hM.2.2.2 l (fr_half hM.2.2.1 h.2.2.1)
      · have jd : j = d := by have := h.1; omega
        have h2 := h.2.1
        have h3 := hM.2.1
        rw [jd, Nat.sub_self, Nat.pow_zero] at h2 h3
        have h4 := sib_ne (a / 2 ^ d)
        generalize a / 2 ^ d = z at h2 h3 h4
        omega
    · exact h
  · intro h
    exact .inr ⟨kj, h, rfl⟩
/-! lists that rise -/
theorem rise_ext : ∀ {l m : List Nat}, l.Pairwise (· < ·) → m.Pairwise (· < ·) → (∀ x, x ∈ l ↔ x ∈ m) → l = m
  | [], [], _, _, _ => rfl
  | [], y :: m, _, _, h => absurd ((h y).mpr List.mem_cons_self) (by simp)
  | x :: l, [], _, _, h => absurd ((h x).mp List.mem_cons_self) (by simp)
  | x :: l, y :: m, h1, h2, h => by
    obtain ⟨a1, a2⟩ := List.pairwise_cons.mp h1
    obtain ⟨b1, b2⟩ := List.pairwise_cons.mp h2
    have e : x = y := by
      rcases List.mem_cons.mp ((h x).mp List.mem_cons_self) with e | e
      · exact e
      · rcases List.mem_cons.mp ((h y).mpr List.mem_cons_self) with e' | e'
        · exact e'.symm
        · have := b1 x e
          have := a1 y e'
          omega
    subst e
    rw [rise_ext a2 b2 fun z => ?_]
    constructor
    · intro hz
      rcases List.mem_cons.mp ((h z).mp (List.mem_cons_of_mem _ hz)) with e | e
      · have := a1 z hz; omega
      · exact e
    · intro hz
      rcases List.mem_cons.mp ((h z).mpr (List.mem_cons_of_mem _ hz)) with e | e
      · have := b1 z hz; omega
      · exact e
/-- the places of the whole free pieces of size 2 ^ j, rising -/
noncomputable def frl (O : Nat → Prop) (d j : Nat) : List Nat := ((List.range (2 ^ (d - j))).filter fun i => @decide (Mx O d j i) (Classical.propDecidable _)).map (· * 2 ^ j)
theorem frl_rise (O : Nat → Prop) (d j : Nat) : (frl O d j).Pairwise (· < ·) := by
  unfold frl
  refine List.pairwise_map.mpr ((List.pairwise_lt_range.filter _).imp fun {x y} h => ?_)
  exact Nat.mul_lt_mul_of_pos_right h (Nat.pow_pos (by decide))
theorem frl_mem {O : Nat → Prop} {d j x : Nat} : x ∈ frl O d j ↔ ∃ i, x = i * 2 ^ j ∧ Mx O d j i := by
  unfold frl
  constructor
  · intro h
    obtain ⟨i, hi, rfl⟩ := List.mem_map.mp h
    exact ⟨i, rfl, by simpa using (List.mem_filter.mp hi).2⟩
  · rintro ⟨i, rfl, h⟩
    exact List.mem_map.mpr ⟨i, List.mem_filter.mpr ⟨List.mem_range.mpr h.2.1, by simpa using h⟩, rfl⟩
theorem frl_mem' {O : Nat → Prop} {d j i : Nat} : i * 2 ^ j ∈ frl O d j ↔ Mx O d j i := by
  rw [frl_mem]
  constructor
  · rintro ⟨m, e, h⟩
    have := Nat.eq_of_mul_eq_mul_right (Nat.pow_pos (by decide)) e
    rw [this]
    exact h
  · exact fun h => ⟨i, rfl, h⟩
theorem mx_congr {O O' : Nat → Prop} (h : ∀ c, O c ↔ O' c) : O = O' := funext fun c => propext (h c)
/-- put among the rising ones -/
def ins (x : Nat) (l : List Nat) : List Nat := l.filter (· < x) ++ x :: l.filter (x < ·)
theorem ins_mem {x y : Nat} {l : List Nat} : y ∈ ins x l ↔ y = x ∨ y ∈ l := by
  unfold ins
  simp only [List.mem_append, List.mem_filter, List.mem_cons, decide_eq_true_eq]
  constructor
  · rintro (⟨h, _⟩ | rfl | ⟨h, _⟩)
    · exact .inr h
    · exact .inl rfl
    · exact .inr h
  · rintro (rfl | h)
    · exact .inr (.inl rfl)
    · by_cases h1 : y < x
      · exact .inl ⟨h, h1⟩
      · by_cases h2 : y = x
        · exact .inr (.inl h2)
        · exact .inr (.inr ⟨h, by omega⟩)
theorem ins_rise {x : Nat} {l : List Nat} (h : l.Pairwise (· < ·)) : (ins x l).Pairwise (· < ·) := by
  unfold ins
  refine List.pairwise_append.mpr ⟨h.filter _, List.pairwise_cons.mpr ⟨fun y hy => by simpa using (List.mem_filter.mp hy).2, h.filter _⟩, fun y hy z hz => ?_⟩
  have h1 : y < x := by simpa using (List.mem_filter.mp hy).2
  rcases List.mem_cons.mp hz with rfl | hz
  · exact h1
  · have h2 : x < z := by simpa using (List.mem_filter.mp hz).2
    omega
/-- how many lie ahead -/
def rk (x : Nat) (l : List Nat) : Nat := (l.filter (· < x)).length
theorem rk_le (x : Nat) (l : List Nat) : rk x l ≤ l.length := List.length_filter_le _ _
theorem split_at (x : Nat) : ∀ {l : List Nat}, l.Pairwise (· < ·) → l = l.filter (· < x) ++ l.filter (x ≤ ·)
  | [], _ => rfl
  | y :: l, h => by
    obtain ⟨h1, h2⟩ := List.pairwise_cons.mp h
    have ih := split_at x h2
    by_cases c : y < x
    · rw [List.filter_cons_of_pos (by simpa using c), List.filter_cons_of_neg (by simp; omega), List.cons_append, ← ih]
    · have e : l.filter (· < x) = [] := List.filter_eq_nil_iff.mpr fun z hz => by have := h1 z hz; simp; omega
      have e2 : l.filter (x ≤ ·) = l := List.filter_eq_self.mpr fun z hz => by have := h1 z hz; simp; omega
      rw [List.filter_cons_of_neg (by simpa using c), List.filter_cons_of_pos (by simp; omega), e, e2]
      rfl
theorem rk_take {x : Nat} {l : List Nat} (h : l.Pairwise (· < ·)) : l.take (rk x l) = l.filter (· < x) := by
  exact (congrArg (List.take (rk x l)) (split_at x h)).trans (List.take_left' rfl)
theorem rk_drop {x : Nat} {l : List Nat} (h : l.Pairwise (· < ·)) : l.drop (rk x l) = l.filter (x ≤ ·) := by
  exact (congrArg (List.drop (rk x l)) (split_at x h)).trans (List.drop_left' rfl)
theorem rk_lt {x i : Nat} {l : List Nat} (h : l.Pairwise (· < ·)) {y : Nat} (e : l[i]? = some y) : y < x ↔ i < rk x l := by
  constructor
  · intro hy
    apply Classical.byContradiction
    intro z
    have m : y ∈ l.drop (rk x l) := by
      refine List.mem_iff_getElem?.mpr ⟨i - rk x l, ?_⟩
      rw [List.getElem?_drop, show rk x l + (i - rk x l) = i by omega]
      exact e
    rw [rk_drop h] at m
    have : x ≤ y := by simpa using (List.mem_filter.mp m).2
    omega
  · intro hi
    have m : y ∈ l.take (rk x l) := by
      refine List.mem_iff_getElem?.mpr ⟨i, ?_⟩
      rw [List.getElem?_take, if_pos hi]
      exact e
    rw [rk_take h] at m
    simpa using (List.mem_filter.mp m).2
theorem rk_at {x : Nat} {l : List Nat} (h : l.Pairwise (· < ·)) : l[rk x l]? = some x ↔ x ∈ l := by
  constructor
  · exact fun e => List.mem_of_getElem? e
  · intro m
    obtain ⟨i, hi⟩ := List.mem_iff_getElem?.mp m
    have h1 := rk_lt (x := x) h hi
    have h2 : ¬ i < rk x l := fun z => Nat.lt_irrefl x (h1.mpr z)
    have lt := (List.getElem?_eq_some_iff.mp hi).1
    by_cases e : i = rk x l
    · rw [← e]; exact hi
    · exfalso
      have : rk x l < l.length := by omega
      obtain ⟨y, hy⟩ : ∃ y, l[rk x l]? = some y := ⟨_, List.getElem?_eq_getElem this⟩
      have a1 : ¬ y < x := fun z => Nat.lt_irrefl _ ((rk_lt h hy).mp z)
      obtain ⟨q1, q2⟩ := List.getElem?_eq_some_iff.mp hi
      obtain ⟨q3, q4⟩ := List.getElem?_eq_some_iff.mp hy
      have := List.pairwise_iff_getElem.mp h _ _ q3 q1 (by omega)
      omega
theorem ins_eq {x : Nat} {l : List Nat} (h : l.Pairwise (· < ·)) (n : x ∉ l) : l.take (rk x l) ++ [x] ++ l.drop (rk x l) = ins x l := by
  rw [rk_take h, rk_drop h]
  unfold ins
  rw [List.append_assoc]
  congr 1
  show x :: l.filter (x ≤ ·) = x :: l.filter (x < ·)
  congr 1
  refine List.filter_congr fun y hy => ?_
  have : y ≠ x := fun e => n (e ▸ hy)
  simp only [decide_eq_decide]
  omega
def del (x : Nat) (l : List Nat) : List Nat := l.filter (· ≠ x)
theorem del_eq {x : Nat} {l : List Nat} (h : l.Pairwise (· < ·)) (m : x ∈ l) : l.eraseIdx (rk x l) = del x l := by
  have e1 := (rk_at (x := x) h).mpr m
  obtain ⟨lt, e2⟩ := List.getElem?_eq_some_iff.mp e1
  refine rise_ext (h.sublist (List.eraseIdx_sublist ..)) (h.filter _) fun y => ?_
  unfold del
  rw [List.mem_filter, List.mem_eraseIdx_iff_getElem?]
  constructor
  · rintro ⟨i, ne, hi⟩
    refine ⟨List.mem_of_getElem? hi, ?_⟩
    simp only [ne_eq, decide_not, Bool.not_eq_true', decide_eq_false_iff_not]
    rintro rfl
    obtain ⟨q1, q2⟩ := List.getElem?_eq_some_iff.mp hi
    rcases Nat.lt_or_gt_of_ne ne with z | z
    · have := List.pairwise_iff_getElem.mp h _ _ q1 lt z; omega
    · have := List.pairwise_iff_getElem.mp h _ _ lt q1 z; omega
  · rintro ⟨hy, ne⟩
    obtain ⟨i, hi⟩ := List.mem_iff_getElem?.mp hy
    refine ⟨i, fun z => ?_, hi⟩
    rw [z, e1] at hi
    simp only [ne_eq, decide_not, Bool.not_eq_true', decide_eq_false_iff_not] at ne
    exact ne (Option.some.inj hi).symm
theorem del_mem {x y : Nat} {l : List Nat} : y ∈ del x l ↔ y ∈ l ∧ y ≠ x := by
  unfold del
  rw [List.mem_filter]
  simp
theorem del_rise {x : Nat} {l : List Nat} (h : l.Pairwise (· < ·)) : (del x l).Pairwise (· < ·) := h.filter _
/-! ### what is out, and what is free by it -/
abbrev PN := Nat × Nat
/-- the cell c is out: a piece (place, exponent of its size) has it -/
def Oc (os : List PN) (c : Nat) : Prop := ∃ q ∈ os, c / 2 ^ q.2 = q.1 / 2 ^ q.2
def Apart (p q : PN) : Prop := ∀ c, c / 2 ^ p.2 = p.1 / 2 ^ p.2 → c / 2 ^ q.2 ≠ q.1 / 2 ^ q.2
structure Good (d : Nat) (os : List PN) : Prop where
  each : ∀ q ∈ os, q.2 ≤ d ∧ q.1 / 2 ^ q.2 * 2 ^ q.2 = q.1 ∧ q.1 < 2 ^ d
  disj : os.Pairwise Apart
theorem Apart.symm {p q : PN} (h : Apart p q) : Apart q p := fun c e z => h c z e
theorem Good.nil (d : Nat) : Good d [] := ⟨fun q h => absurd h (by simp), List.Pairwise.nil⟩
theorem Good.sub {d : Nat} {os os' : List PN} (h : Good d os) (s : os'.Sublist os) : Good d os' := ⟨fun q m => h.each q (s.subset m), h.disj.sublist s⟩
theorem Good.perm {d : Nat} {os os' : List PN} (h : Good d os) (s : os'.Perm os) : Good d os' := ⟨fun q m => h.each q (s.mem_iff.mp m), (s.pairwise_iff (fun {_ _} z => z.symm)).mpr h.disj⟩
theorem Oc.perm {os os' : List PN} (s : os'.Perm os) : Oc os' = Oc os := mx_congr fun c => ⟨fun ⟨q, m, e⟩ => ⟨q, s.mem_iff.mp m, e⟩, fun ⟨q, m, e⟩ => ⟨q, s.mem_iff.mpr m, e⟩⟩
theorem Good.one {d : Nat} {os : List PN} (h : Good d os) {p q : PN} (hp : p ∈ os) (hq : q ∈ os) {c : Nat} (e1 : c / 2 ^ p.2 = p.1 / 2 ^ p.2) (e2 : c / 2 ^ q.2 = q.1 / 2 ^ q.2) : p = q := by
  apply Classical.byContradiction
  intro ne
  have aux : ∀ l : List PN, l.Pairwise Apart → p ∈ l → q ∈ l → False := by
    intro l
    induction l with
    | nil => intro _ z; cases z
    | cons x l ih =>
      intro hd h1 h2
      obtain ⟨a1, a2⟩ := List.pairwise_cons.mp hd
      rcases List.mem_cons.mp h1 with e | m1
      · rcases List.mem_cons.mp h2 with e' | m2
        · exact ne (e.trans e'.symm)
        · rw [← e] at a1
          exact a1 q m2 c e1 e2
      · rcases List.mem_cons.mp h2 with e' | m2
        · rw [← e'] at a1
          exact a1 p m1 c e2 e1
        · exact ih a2 m1 m2
  exact aux os h.disj hp hq
/-- no two pieces begin at one place -/
theorem Good.key {d : Nat} {os : List PN} (h : Good d os) {p q : PN} (hp : p ∈ os) (hq : q ∈ os) (e : p.1 = q.1) : p = q := h.one hp hq (c := p.1) rfl (by rw [e])
theorem Oc_snoc {os : List PN} {x k c : Nat} : Oc (os ++ [(x, k)]) c ↔ Oc os c ∨ c / 2 ^ k = x / 2 ^ k := by
  unfold Oc
  constructor
  · rintro ⟨q, m, e⟩
    rcases List.mem_append.mp m with m | m
    · exact .inl ⟨q, m, e⟩
    · have := List.mem_singleton.mp m
      subst this
      exact .inr e
  · rintro (⟨q, m, e⟩ | e)
    · exact ⟨q, List.mem_append.mpr (.inl m), e⟩
    · exact ⟨(x, k), List.mem_append.mpr (.inr List.mem_cons_self), e⟩
/-- without the piece that begins at x -/
def outs (os : List PN) (x : Nat) : List PN := os.filter fun q => decide (q.1 ≠ x)
theorem Oc_outs {d : Nat} {os : List PN} {x k c : Nat} (g : Good d os) (m : (x, k) ∈ os) : Oc os c ↔ Oc (outs os x) c ∨ c / 2 ^ k = x / 2 ^ k := by
  constructor
  · rintro ⟨q, hq, e⟩
    by_cases z : q.1 = x
    · have := g.key hq m z
      subst this
      exact .inr e
    · exact .inl ⟨q, List.mem_filter.mpr ⟨hq, by simpa using z⟩, e⟩
  · rintro (⟨q, hq, e⟩ | e)
    · exact ⟨q, (List.mem_filter.mp hq).1, e⟩
    · exact ⟨(x, k), m, e⟩
theorem fr_outs {d : Nat} {os : List PN} {x k : Nat} (g : Good d os) (m : (x, k) ∈ os) : Fr (Oc (outs os x)) k (x / 2 ^ k) := by
  rintro c e ⟨q, hq, e2⟩
  have hq' := List.mem_filter.mp hq
  have := g.one hq'.1 m (c := c) e2 e
  subst this
  simp at hq'
/-- the piece at x has the exponent k from now on -/
def outr (os : List PN) (x k : Nat) : List PN := os.map fun q => if q.1 = x then (x, k) else q
theorem outr_mem {d : Nat} {os : List PN} {x h k : Nat} (g : Good d os) (m : (x, h) ∈ os) {q : PN} : q ∈ outr os x k ↔ q ∈ outs os x ∨ q = (x, k) := by
  unfold outr outs
  constructor
  · intro z
    obtain ⟨p, hp, rfl⟩ := List.mem_map.mp z
    by_cases e : p.1 = x
    · rw [if_pos e]; exact .inr rfl
    · rw [if_neg e]; exact .inl (List.mem_filter.mpr ⟨hp, by simpa using e⟩)
  · rintro (z | rfl)
    · have z := List.mem_filter.mp z
      refine List.mem_map.mpr ⟨q, z.1, if_neg (by simpa using z.2)⟩
    · exact List.mem_map.mpr ⟨(x, h), m, if_pos rfl⟩
theorem Oc_outr {d : Nat} {os : List PN} {x h k c : Nat} (g : Good d os) (m : (x, h) ∈ os) : Oc (outr os x k) c ↔ Oc (outs os x) c ∨ c / 2 ^ k = x / 2 ^ k := by
  unfold Oc
  constructor
  · rintro ⟨q, hq, e⟩
    rcases (outr_mem g m).mp hq with z | rfl
    · exact .inl ⟨q, z, e⟩
    · exact .inr e
  · rintro (⟨q, hq, e⟩ | e)
    · exact ⟨q, (outr_mem g m).mpr (.inl hq), e⟩
    · exact ⟨(x, k), (outr_mem g m).mpr (.inr rfl), e⟩
theorem Good.snoc {d : Nat} {os : List PN} (g : Good d os) {x k : Nat} (hk : k ≤ d) (ha : x / 2 ^ k * 2 ^ k = x) (hx : x < 2 ^ d) (f : Fr (Oc os) k (x / 2 ^ k)) : Good d (os ++ [(x, k)]) := by
  refine ⟨fun q m => ?_, ?_⟩
  · rcases List.mem_append.mp m with m | m
    · exact g.each q m
    · have := List.mem_singleton.mp m
      subst this
      exact ⟨hk, ha, hx⟩
  · refine List.pairwise_append.mpr ⟨g.disj, List.pairwise_singleton _ _, fun p hp q hq c e1 e2 => ?_⟩
    have := List.mem_singleton.mp hq
    subst this
    exact f c e2 ⟨p, hp, e1⟩
theorem Good.outr {d : Nat} {os : List PN} (g : Good d os) {x h k : Nat} (m : (x, h) ∈ os) (hk : k ≤ d) (ha : x / 2 ^ k * 2 ^ k = x) (f : Fr (Oc (outs os x)) k (x / 2 ^ k)) : Good d (outr os x k) := by
  refine ⟨fun q z => ?_, ?_⟩
  · rcases (outr_mem g m).mp z with z | rfl
    · exact g.each q (List.mem_filter.mp z).1
    · exact ⟨hk, ha, (g.each _ m).2.2⟩
  · unfold BY.outr
    refine List.pairwise_map.mpr (g.disj.imp_of_mem fun {p q} hp hq ap => ?_)
    by_cases e1 : p.1 = x
    · by_cases e2 : q.1 = x
      · have e3 := g.key hp hq (e1.trans e2.symm)
        subst e3
        exact absurd rfl (ap p.1 rfl)
      · rw [if_pos e1, if_neg e2]
        intro c z1 z2
        exact f c z1 ⟨q, List.mem_filter.mpr ⟨hq, by simpa using e2⟩, z2⟩
    · by_cases e2 : q.1 = x
      · rw [if_neg e1, if_pos e2]
        intro c z1 z2
        exact f c z2 ⟨p, List.mem_filter.mpr ⟨hp, by simpa using e1⟩, z1⟩
      · rw [if_neg e1, if_neg e2]
        exact ap
/-! the free lists behind a deed -/
def setF (F : Nat → List Nat) (k : Nat) (l : List Nat) : Nat → List Nat := fun j => if j = k then l else F j
def remF (F : Nat → List Nat) (x k m : Nat) : Nat → List Nat := fun j => if k ≤ j ∧ j < m then del (sib (x / 2 ^ j) * 2 ^ j) (F j) else F j
def addF (F : Nat → List Nat) (x k m : Nat) : Nat → List Nat := fun j => if k ≤ j ∧ j < m then ins (sib (x / 2 ^ j) * 2 ^ j) (F j) else F j
theorem mul_inj {i m j : Nat} (e : i * 2 ^ j = m * 2 ^ j) : i = m := Nat.eq_of_mul_eq_mul_right (Nat.pow_pos (by decide)) e
theorem frl_ext {O : Nat → Prop} {d j : Nat} {l : List Nat} (r : l.Pairwise (· < ·)) (h : ∀ y, y ∈ l ↔ ∃ i, y = i * 2 ^ j ∧ Mx O d j i) : l = frl O d j := rise_ext r (frl_rise O d j) fun y => by rw [h, frl_mem]
/-- a piece is given out of the whole free one of exponent m -/
theorem can_give {O O' : Nat → Prop} {d k m a : Nat} (hk : k ≤ m) (hM : Mx O' d m (a / 2 ^ m)) (hO : ∀ c, O c ↔ O' c ∨ c / 2 ^ k = a / 2 ^ k) (j : Nat) :
    addF (setF (frl O' d) m (del (a / 2 ^ m * 2 ^ m) (frl O' d m))) a k m j = frl O d j := by
  unfold addF setF
  show (if k ≤ j ∧ j < m then ins (sib (a / 2 ^ j) * 2 ^ j) (if j = m then del (a / 2 ^ m * 2 ^ m) (frl O' d m) else frl O' d j) else (if j = m then del (a / 2 ^ m * 2 ^ m) (frl O' d m) else frl O' d j)) = frl O d j
  refine frl_ext ?_ fun y => ?_
  · split
    · refine ins_rise ?_
      split
      · exact del_rise (frl_rise _ _ _)
      · exact frl_rise _ _ _
    · split
      · exact del_rise (frl_rise _ _ _)
      · exact frl_rise _ _ _
  · have key : (∃ i, y = i * 2 ^ j ∧ Mx O d j i) ↔ (∃ i, y = i * 2 ^ j ∧ Mx O' d j i ∧ ¬ (j = m ∧ i = a / 2 ^ m)) ∨ (k ≤ j ∧ j < m ∧ y = sib (a / 2 ^ j) * 2 ^ j) := by
      constructor
      · rintro ⟨i, e, h⟩
        rcases (mx_add hk hM hO j i).mp h with ⟨h1, h2⟩ | ⟨h1, h2, rfl⟩
        · exact .inl ⟨i, e, h1, h2⟩
        · exact .inr ⟨h1, h2, e⟩
      · rintro (⟨i, e, h1, h2⟩ | ⟨h1, h2, e⟩)
        · exact ⟨i, e, (mx_add hk hM hO j i).mpr (.inl ⟨h1, h2⟩)⟩
        · exact ⟨_, e, (mx_add hk hM hO j _).mpr (.inr ⟨h1, h2, rfl⟩)⟩
    have base : y ∈ (if j = m then del (a / 2 ^ m * 2 ^ m) (frl O' d m) else frl O' d j) ↔ ∃ i, y = i * 2 ^ j ∧ Mx O' d j i ∧ ¬ (j = m ∧ i = a / 2 ^ m) := by
      by_cases e : j = m
      · subst e
        rw [if_pos rfl, del_mem, frl_mem]
        constructor
        · rintro ⟨⟨i, e, h⟩, ne⟩
          exact ⟨i, e, h, fun z => ne (by rw [e, z.2])⟩
        · rintro ⟨i, e, h, ne⟩
          exact ⟨⟨i, e, h⟩, fun z => ne ⟨rfl, mul_inj (e.symm.trans z)⟩⟩
      · rw [if_neg e, frl_mem]
        constructor
        · rintro ⟨i, e2, h⟩
          exact ⟨i, e2, h, fun z => e z.1⟩
        · rintro ⟨i, e2, h, _⟩
          exact ⟨i, e2, h⟩
    rw [key]
    by_cases c : k ≤ j ∧ j < m
    · rw [if_pos c, ins_mem, base]
      constructor
      · rintro (h | h)
        · exact .inr ⟨c.1, c.2, h⟩
        · exact .inl h
      · rintro (h | ⟨_, _, h⟩)
        · exact .inr h
        · exact .inl h
    · rw [if_neg c, base]
      constructor
      · exact .inl
      · rintro (h | ⟨h1, h2, _⟩)
        · exact h
        · exact absurd ⟨h1, h2⟩ c
/-- a piece comes back, and joins to the whole free one of exponent m -/
theorem can_back {O O' : Nat → Prop} {d k m a : Nat} (hk : k ≤ m) (hM : Mx O' d m (a / 2 ^ m)) (hO : ∀ c, O c ↔ O' c ∨ c / 2 ^ k = a / 2 ^ k) (j : Nat) :
    setF (remF (frl O d) a k m) m (ins (a / 2 ^ m * 2 ^ m) (remF (frl O d) a k m m)) j = frl O' d j := by
  unfold setF
  have hrem : ∀ j, (remF (frl O d) a k m j).Pairwise (· < ·) := fun j => by
    unfold remF
    split
    · exact del_rise (frl_rise _ _ _)
    · exact frl_rise _ _ _
  have mem : ∀ j y, y ∈ remF (frl O d) a k m j ↔ ∃ i, y = i * 2 ^ j ∧ Mx O' d j i ∧ ¬ (j = m ∧ i = a / 2 ^ m) := by
    intro j y
    unfold remF
    by_cases c : k ≤ j ∧ j < m
    · rw [if_pos c, del_mem, frl_mem]
      constructor
      · rintro ⟨⟨i, e, h⟩, ne⟩
        rcases (mx_add hk hM hO j i).mp h with ⟨h1, h2⟩ | ⟨h1, h2, rfl⟩
        · exact ⟨i, e, h1, h2⟩
        · exact absurd e ne
      · rintro ⟨i, e, h1, h2⟩
        refine ⟨⟨i, e, (mx_add hk hM hO j i).mpr (.inl ⟨h1, h2⟩)⟩, fun z => ?_⟩
        have e3 : i = sib (a / 2 ^ j) := mul_inj (e.symm.trans z)
        -- the sibling lies in the whole free piece of exponent m
        have hj := h1
        rw [e3] at hj
        have e4 : (sib (a / 2 ^ j) * 2 ^ j) / 2 ^ m = a / 2 ^ m := by
          refine blk_mono (j := j + 1) (by omega) ?_
          rw [blk_succ, blk_of, sib_half, ← blk_succ]
        have := mx_uniq (c := sib (a / 2 ^ j) * 2 ^ j) (j := j) (m := m) (by rw [blk_of]; exact hj) (by rw [e4]; exact hM)
        omega
    · rw [if_neg c, frl_mem]
      constructor
      · rintro ⟨i, e, h⟩
        rcases (mx_add hk hM hO j i).mp h with ⟨h1, h2⟩ | ⟨h1, h2, _⟩
        · exact ⟨i, e, h1, h2⟩
        · exact absurd ⟨h1, h2⟩ c
      · rintro ⟨i, e, h1, h2⟩
        exact ⟨i, e, (mx_add hk hM hO j i).mpr (.inl ⟨h1, h2⟩)⟩
  by_cases e : j = m
  · subst e
    rw [if_pos rfl]
    refine frl_ext (ins_rise (hrem _)) fun y => ?_
    rw [ins_mem, mem]
    constructor
    · rintro (rfl | ⟨i, e, h, _⟩)
      · exact ⟨_, rfl, hM⟩
      · exact ⟨i, e, h⟩
    · rintro ⟨i, e, h⟩
      by_cases z : i = a / 2 ^ j
      · exact .inl (by rw [e, z])
      · exact .inr ⟨i, e, h, fun q => z q.2⟩
  · rw [if_neg e]
    refine frl_ext (hrem _) fun y => ?_
    rw [mem]
    constructor
    · rintro ⟨i, e2, h, _⟩
      exact ⟨i, e2, h⟩
    · rintro ⟨i, e2, h⟩
      exact ⟨i, e2, h, fun q => e q.1⟩
/-- a piece gets another size: the exponents h and k, within the same whole free piece -/
theorem mx_size {O1 O2 O' : Nat → Prop} {d h k m a : Nat} (hh : h ≤ m) (hk : k ≤ m) (hM : Mx O' d m (a / 2 ^ m)) (h1 : ∀ c, O1 c ↔ O' c ∨ c / 2 ^ h = a / 2 ^ h) (h2 : ∀ c, O2 c ↔ O' c ∨ c / 2 ^ k = a / 2 ^ k) (l : k ≤ h) (j i : Nat) :
    (Mx O2 d j i ↔ Mx O1 d j i ∨ (k ≤ j ∧ j < h ∧ i = sib (a / 2 ^ j))) ∧ (k ≤ j → j < h → ¬ Mx O1 d j (sib (a / 2 ^ j))) := by
  constructor
  · rw [mx_add hk hM h2, mx_add hh hM h1]
    constructor
    · rintro (z | ⟨z1, z2, z3⟩)
      · exact .inl (.inl z)
      · by_cases c : j < h
        · exact .inr ⟨z1, c, z3⟩
        · exact .inl (.inr ⟨by omega, z2, z3⟩)
    · rintro ((z | ⟨z1, z2, z3⟩) | ⟨z1, z2, z3⟩)
      · exact .inl z
      · exact .inr ⟨by omega, z2, z3⟩
      · exact .inr ⟨z1, by omega, z3⟩
  · intro kj jh z
    rw [mx_add hh hM h1] at z
    rcases z with ⟨z, _⟩ | ⟨z, _⟩
    · have e4 : (sib (a / 2 ^ j) * 2 ^ j) / 2 ^ m = a / 2 ^ m := by
        refine blk_mono (j := j + 1) (by omega) ?_
        rw [blk_succ, blk_of, sib_half, ← blk_succ]
      have := mx_uniq (c := sib (a / 2 ^ j) * 2 ^ j) (j := j) (m := m) (by rw [blk_of]; exact z) (by rw [e4]; exact hM)
      omega
    · omega
theorem can_shrink {O1 O2 : Nat → Prop} {d h k a : Nat} (q : ∀ j i, Mx O2 d j i ↔ Mx O1 d j i ∨ (k ≤ j ∧ j < h ∧ i = sib (a / 2 ^ j))) (j : Nat) : addF (frl O1 d) a k h j = frl O2 d j := by
  unfold addF
  refine frl_ext ?_ fun y => ?_
  · split
    · exact ins_rise (frl_rise _ _ _)
    · exact frl_rise _ _ _
  · by_cases c : k ≤ j ∧ j < h
    · rw [if_pos c, ins_mem, frl_mem]
      constructor
      · rintro (rfl | ⟨i, e, z⟩)
        · exact ⟨_, rfl, (q j _).mpr (.inr ⟨c.1, c.2, rfl⟩)⟩
        · exact ⟨i, e, (q j i).mpr (.inl z)⟩
      · rintro ⟨i, e, z⟩
        rcases (q j i).mp z with z | ⟨_, _, z⟩
        · exact .inr ⟨i, e, z⟩
        · exact .inl (by rw [e, z])
    · rw [if_neg c, frl_mem]
      constructor
      · rintro ⟨i, e, z⟩
        exact ⟨i, e, (q j i).mpr (.inl z)⟩
      · rintro ⟨i, e, z⟩
        rcases (q j i).mp z with z | ⟨z1, z2, _⟩
        · exact ⟨i, e, z⟩
        · exact absurd ⟨z1, z2⟩ c
theorem can_grow {O1 O2 : Nat → Prop} {d h k a : Nat} (q : ∀ j i, Mx O2 d j i ↔ Mx O1 d j i ∨ (k ≤ j ∧ j < h ∧ i = sib (a / 2 ^ j))) (n : ∀ j, k ≤ j → j < h → ¬ Mx O1 d j (sib (a / 2 ^ j))) (j : Nat) : remF (frl O2 d) a k h j = frl O1 d j := by
  unfold remF
  refine frl_ext ?_ fun y => ?_
  · split
    · exact del_rise (frl_rise _ _ _)
    · exact frl_rise _ _ _
  · by_cases c : k ≤ j ∧ j < h
    · rw [if_pos c, del_mem, frl_mem]
      constructor
      · rintro ⟨⟨i, e, z⟩, ne⟩
        rcases (q j i).mp z with z | ⟨_, _, z⟩
        · exact ⟨i, e, z⟩
        · exact absurd (by rw [e, z]) ne
      · rintro ⟨i, e, z⟩
        refine ⟨⟨i, e, (q j i).mpr (.inl z)⟩, fun w => n j c.1 c.2 ?_⟩
        have e3 : i = sib (a / 2 ^ j) := mul_inj (e.symm.trans w)
        rw [← e3]
        exact z
    · rw [if_neg c, frl_mem]
      constructor
      · rintro ⟨i, e, z⟩
        rcases (q j i).mp z with z | ⟨z1, z2, _⟩
        · exact ⟨i, e, z⟩
        · exact absurd ⟨z1, z2⟩ c
      · rintro ⟨i, e, z⟩
        exact ⟨i, e, (q j i).mpr (.inl z)⟩
/-! how many there can be -/
theorem nodup_le {α β : Type} {R : α → β → Prop} : ∀ {l : List α} {m : List β}, l.Nodup → (∀ x ∈ l, ∃ y ∈ m, R x y) → (∀ x x' y, x ∈ l → x' ∈ l → R x y → R x' y → x = x') → l.length ≤ m.length
  | [], _, _, _, _ => Nat.zero_le _
  | x :: l, m, nd, h, inj => by
    classical
    obtain ⟨n1, n2⟩ := List.nodup_cons.mp nd
    obtain ⟨y, hy, r⟩ := h x List.mem_cons_self
    have ih := nodup_le (R := R) (l := l) (m := m.filter fun z => decide (z ≠ y)) n2 (fun x' hx' => by
      obtain ⟨y', hy', r'⟩ := h x' (List.mem_cons_of_mem _ hx')
      refine ⟨y', List.mem_filter.mpr ⟨hy', decide_eq_true fun e => ?_⟩, r'⟩
      subst e
      have := inj x x' y' List.mem_cons_self (List.mem_cons_of_mem _ hx') r r'
      exact n1 (this ▸ hx')) (fun a b c ha hb => inj a b c (List.mem_cons_of_mem _ ha) (List.mem_cons_of_mem _ hb))
    have lt : (m.filter fun z => decide (z ≠ y)).length < m.length := by
      have aux : ∀ m : List β, y ∈ m → (m.filter fun z => decide (z ≠ y)).length < m.length := by
        intro m
        induction m with
        | nil => intro z; cases z
        | cons w m ih =>
          intro z
          by_cases e : w = y
          · rw [List.filter_cons_of_neg (by simpa using e), List.length_cons]
            exact Nat.lt_succ_of_le (List.length_filter_le _ _)
          · rw [List.filter_cons_of_pos (by simpa using e), List.length_cons, List.length_cons]
            exact Nat.succ_lt_succ (ih ((List.mem_cons.mp z).resolve_left fun q => e q.symm))
      exact aux m hy
    rw [List.length_cons]
    omega
theorem frl_len {d j : Nat} {os : List PN} : (frl (Oc os) d j).length ≤ os.length + 1 := by
  rcases Nat.lt_or_ge j d with lt | ge
  · refine Nat.le_succ_of_le (nodup_le (R := fun y (q : PN) => ∃ i, y = i * 2 ^ j ∧ Mx (Oc os) d j i ∧ q.2 ≤ j ∧ q.1 / 2 ^ j = sib i) ((frl_rise _ _ _).imp fun h => Nat.ne_of_lt h) (fun y hy => ?_) ?_)
    · obtain ⟨i, e, h⟩ := frl_mem.mp hy
      have nf := h.2.2.2 lt
      have ⟨c, ec, oc⟩ : ∃ c, c / 2 ^ (j + 1) = i / 2 ∧ Oc os c := by
        apply Classical.byContradiction
        intro z
        exact nf fun c e oc => z ⟨c, e, oc⟩
      obtain ⟨q, hq, eq⟩ := oc
      rw [blk_succ] at ec
      have ne : c / 2 ^ j ≠ i := fun z => h.2.2.1 c z ⟨q, hq, eq⟩
      have le : q.2 ≤ j := by
        apply Classical.byContradiction
        intro z
        refine h.2.2.1 (i * 2 ^ j) (blk_of _ _) ⟨q, hq, ?_⟩
        rw [← eq]
        refine blk_mono (j := j + 1) (by omega) ?_
        rw [blk_succ, blk_of, blk_succ]
        exact ec.symm
      refine ⟨q, hq, i, e, h, le, ?_⟩
      rw [← blk_mono le eq]
      exact sib_of ec ne
    · rintro y y' q _ _ ⟨i, e, _, _, h⟩ ⟨i', e', _, _, h'⟩
      have : i = i' := by rw [← sib_sib i, ← h, h', sib_sib]
      rw [e, e', this]
  · -- the whole yard at most
    unfold frl
    rw [List.length_map, show d - j = 0 by omega]
    have := List.length_filter_le (fun i => @decide (Mx (Oc os) d j i) (Classical.propDecidable _)) (List.range (2 ^ 0))
    rw [List.length_range] at this
    omega
/-! ### own rules of the layer -/
theorem passX {X : Cx} {E : XK} (tk : Takes X (fun cls d _ H => E cls d H)) : Passes (L2.CX X.prog X.w) X E := passes_call tk fun _ _ _ _ h => h
/-- a method's call within a try -/
def tMethS (C : Addr) (m : Str) (sp : Sp) (E : L2.St → XK) (ta : TE) (t : TA) : TE :=
  fun σ H Q => ta σ H fun x H1 => ∃ a dx fs, x = .ref a ∧ H1 a = some (.ins C dx fs) ∧ fs.lookup m = none ∧
    t σ H1 fun vs H2 => sp (x :: vs) H2 Q (E σ)
theorem pe_methS {X : Cx} {XT : CXT} {lv : Nat} {g C : Addr} {fdg : FuncData} {prm : List Str} {sg : Sp} {wish : L2.St → XK} {m : Str} {pos apos : Pos} {arg0 ob : Expr} {rest : List Expr} {tob : TE} {targ : TA} {pl : Sem Bool}
    (hob : PE X ob tob) (cl : Cls X.K C) (me : Meth X.K C m g) (ok : FnOk X.prog X.w X.K X.mg X.base XT lv g fdg prm sg) (room : Room lv X.A) (bd : Binds X.K fdg prm []) (pass : ∀ σ, PassesAt XT X σ (wish σ)) (harg : PA X (arg0 :: rest) targ)
    (st1 : starEach (arg0 :: rest) X.env = (false, eval arg0 X.env) :: starEach rest X.env := by rfl) (st2 : (backTo pos (starEach rest X.env)).any (·.1) = false := by rfl)
    (shape : eval (.Call (.Attribute ob m apos) (arg0 :: rest) [] pos) X.env = (do
      let recv ← eval ob X.env
      standAt apos.atName
      let (fn, fst) ← holding [recv] (getMethod recv m pl)
      callWith pos fn fst (backTo pos (starEach (arg0 :: rest) X.env)) (backToKw pos (keywordEach [] X.env))) := by rfl) :
    PE X (.Call (.Attribute ob m apos) (arg0 :: rest) [] pos) (tMethS C m sg wish tob targ) := by
  constructor
  intro pins s0 τ H0 Q I0 ask
  refine PySem.W.methodCall_KW (pl := pl) (thn (hob.run pins s0 τ H0 _ I0 ask) fun rv s1 got => ?_) shape
  obtain ⟨xv, H1, I1, rel1, ad, dx, fs, rfl, there, look, more⟩ := got
  have erv : rv = Value.ref ad := rel1
  subst erv
  refine getmeth_ok I1 there cl me look ?_
  refine PySem.W.callWith_K (first := [.ref ad]) (h₀ := X.base) I1.ok.mod.kin me.kp (thn (harg.run pos pins s1 τ H1 _ I1 more) fun ws s2 got2 => ?_) st1 st2
  obtain ⟨vs, H2, I2, rel2, fin⟩ := got2
  exact ⟨I2.kIn, run_fnS (us := .ref ad :: ws) (vs := .ref ad :: vs) ok room bd (pass τ) I2 (.cons rfl rel2) fin⟩
/-- a making within a try -/
def tMakeS (C : Addr) (sp : Sp) (E : L2.St → XK) (t : TA) : TE :=
  fun σ H Q => t σ H fun vs H1 => ∀ x dx, H1 x = none → H1 dx = none → dx ≠ x →
    sp (.ref x :: vs) (upd (upd H1 dx (.own x)) x (.ins C dx [])) (fun v H2 => v = .non ∧ Q (.ref x) H2) (E σ)
section
variable {X : Cx} {XT : CXT} {lv : Nat} {g C : Addr} {fdg : FuncData} {prm : List Str} {sg : Sp}
theorem run_makeS {pins : List (Addr × Obj)} {τ : L2.St} {H0 : Hp} {s0 : Shared} {Q : VK} {us : List Value} {vs : List V} {wish : XK} (mk : Mk X.K C g) (ok : FnOk X.prog X.w X.K X.mg X.base XT lv g fdg prm sg) (room : Room (lv + 1) X.A) (bd : Binds X.K fdg prm [])
    (pass : PassesAt XT X τ wish) (I0 : Inv X pins τ H0 s0) (rel : Vals vs us)
    (ask : ∀ x dx, H0 x = none → H0 dx = none → dx ≠ x → sg (.ref x :: vs) (upd (upd H0 dx (.own x)) x (.ins C dx [])) (fun v H2 => v = .non ∧ Q (.ref x) H2) wish) :
    wpAny (model X.prog X.w) X.A (call (.ref C) us) (EP X pins τ Q) X.xe s0 := by
  have asked := ask (s0.heap.objs.size + 1) s0.heap.objs.size (I0.hok.fresh (Nat.le_succ _)) (I0.hok.fresh (Nat.le_refl _)) (Nat.ne_of_lt (Nat.lt_succ_self _))
  have I1 := Inv.made (C := C) I0
  have rel1 : Vals (V.ref (s0.heap.objs.size + 1) :: vs) (Value.ref (s0.heap.objs.size + 1) :: us) := .cons rfl rel
  have count : (Value.ref (s0.heap.objs.size + 1) :: us ++ []).length = prm.length := by
    have e := rel1.length
    rw [ok.len _ _ _ _ asked] at e
    rw [List.append_nil]
    exact e.symm
  have b := bd _ (Value.ref (s0.heap.objs.size + 1) :: us) I1.kIn count
  rw [List.append_nil] at b
  refine wpAny_call (make_map (f := g) I0.kIn mk.makes mk.init (beq_iff_eq.mp mk.fn) (codeAny_mono (ok.run _ X.stack _ _ ⟨Value.ref (s0.heap.objs.size + 1) :: us, []⟩ (Value.ref (s0.heap.objs.size + 1) :: us) _ _ wish (room.make C us [])
    (I1.env0.make C us []) b rel1 asked) fun out s1 end1 => ?_))
  cases out with
  | error err => exact pass pins _ _ err s1 I1 end1
  | ok flow =>
    cases flow with
    | ret u =>
      obtain ⟨v, H2, I2, rv, hv, fin⟩ := I1.after end1
      subst hv
      exact ⟨rv, V.ref (s0.heap.objs.size + 1), H2, I2, rfl, fin⟩
    | next => exact end1.elim
    | brk => exact end1.elim
    | cont => exact end1.elim
theorem pe_makeS {wish : L2.St → XK} {x : Str} {p pos : Pos} {arg0 : Expr} {rest : List Expr} {targ : TA} (mk : Mk X.K C g) (ok : FnOk X.prog X.w X.K X.mg X.base XT lv g fdg prm sg) (room : Room (lv + 1) X.A) (gl : Gl X x) (at_ : X.mg x = some (.ref C)) (bd : Binds X.K fdg prm []) (pass : ∀ σ, PassesAt XT X σ (wish σ))
    (harg : PA X (arg0 :: rest) targ) (nd : (x == ("__debug__" : Str)) = false := by decide) (st1 : starEach (arg0 :: rest) X.env = (false, eval arg0 X.env) :: starEach rest X.env := by rfl) (st2 : (backTo pos (starEach rest X.env)).any (·.1) = false := by rfl) :
    PE X (.Call (.Name x p) (arg0 :: rest) [] pos) (tMakeS C sg wish targ) := by
  constructor
  intro pins s0 τ H0 Q I0 ask
  refine wpAny_Call_Name_kw (ld_glob I0 gl at_ ?_ nd)
  refine PySem.W.callWith_K (h₀ := X.base) I0.ok.mod.kin mk.kp (thn (harg.run pos pins s0 τ H0 _ I0 ask) fun us s1 got => ?_) st1 st2
  obtain ⟨vs, H1, I1, rel, fin⟩ := got
  exact ⟨I1.kIn, run_makeS mk ok room bd (pass τ) I1 rel fin⟩
/-- x *= j, x //= j -/
theorem ip_mulX : PIp X .Mult (rI CMulX fun i j => .int (i * j)) := by
  intro pins s0 τ H0 x y v u Q I0 r1 r2 ask
  obtain ⟨i, j, rfl, rfl, small, fin⟩ := ask
  obtain ⟨t1, rfl⟩ := r1
  obtain ⟨t2, rfl⟩ := r2
  have got : (Made.int (i * j)).post (EP X pins τ Q) s0 := ⟨.int _, H0, I0.tok _, ⟨_, rfl⟩, fin⟩
  exact AutoIntOps.imul_0 got small.ok
theorem ip_fdivW : PIp X .FloorDiv (rI CDivW fun i j => .int (i / j)) := iop_fdivW
/-- d.items(), as a value -/
def rItemsK : V → List V → Hp → VK → Prop := fun x xs H Q => ∃ (d : Addr) (kvs : List (Key × V)), x = .ref d ∧ xs = [] ∧ H d = some (.dK kvs) ∧ ∀ p, H p = none → Q (.ref p) (upd H p (L2.DX.itemsO p d))
theorem mt_itemsK : MtR X "dict.items" rItemsK := by
  intro pins s0 τ H0 x xs v us Q I0 rx rxs ask
  obtain ⟨d, kvs, rfl, rfl, there, fin⟩ := ask
  cases rx
  cases rxs
  obtain ⟨_, notSys, ents, _, ob, es, ep, at0, exact0, body0, _⟩ := I0.hok d _ there
  refine DT.callItems (es := es) (ep := ep) notSys ⟨ob, at0, exact0, body0⟩ ?_
  refine ⟨.ref s0.heap.objs.size, upd H0 s0.heap.objs.size (L2.DX.itemsO s0.heap.objs.size d), ?_, rfl, fin _ (I0.hok.fresh (Nat.le_refl _))⟩
  exact I0.laid (t' := s0.toks) (fun b u e => Heap.get?_push_of_some _ e) (Nat.le_refl _) (L2.DX.itemsO_ok (Heap.get?_push_size _ rfl))
end
/-! ### pairs of ints in their order -/
abbrev PI2 := Int × Int
/-- x is not behind y -/
def leP (x y : PI2) : Bool := !SrtO.lexB y x
theorem leP_iff {x y : PI2} : leP x y = true ↔ x.1 < y.1 ∨ (x.1 = y.1 ∧ x.2 ≤ y.2) := by
  unfold leP
  rw [Bool.not_eq_true', SrtO.lexB_no]
  omega
def srt (l : List PI2) : List PI2 := l.mergeSort leP
theorem srt_perm (l : List PI2) : (srt l).Perm l := List.mergeSort_perm l leP
theorem srt_sorted (l : List PI2) : (srt l).Pairwise (fun x y => leP x y = true) := by
  refine List.pairwise_mergeSort (fun x y z h1 h2 => ?_) (fun x y => ?_) l
  · rw [leP_iff] at h1 h2 ⊢
    omega
  · rw [Bool.or_eq_true, leP_iff, leP_iff]
    omega
theorem leP_anti {x y : PI2} (h1 : leP x y = true) (h2 : leP y x = true) : x = y := by
  rw [leP_iff] at h1 h2
  have e1 : x.1 = y.1 := by omega
  have e2 : x.2 = y.2 := by omega
  exact Prod.ext e1 e2
theorem sorted_uniq : ∀ {l m : List PI2}, l.Perm m → l.Pairwise (fun x y => leP x y = true) → m.Pairwise (fun x y => leP x y = true) → l = m
  | [], m, p, _, _ => p.symm.eq_nil.symm
  | x :: l, [], p, _, _ => by cases p.eq_nil
  | x :: l, y :: m, p, h1, h2 => by
    obtain ⟨a1, a2⟩ := List.pairwise_cons.mp h1
    obtain ⟨b1, b2⟩ := List.pairwise_cons.mp h2
    have e : x = y := by
      rcases List.mem_cons.mp (p.mem_iff.mp List.mem_cons_self) with e | e
      · exact e
      · rcases List.mem_cons.mp (p.mem_iff.mpr List.mem_cons_self) with e' | e'
        · exact e'.symm
        · exact leP_anti (a1 y e') (b1 x e)
    subst e
    rw [sorted_uniq p.cons_inv a2 b2]
theorem srt_of {l m : List PI2} (p : l.Perm m) (h : l.Pairwise (fun x y => SrtO.lexB y x = false)) : l = srt m := by
  refine sorted_uniq (p.trans (srt_perm m).symm) (h.imp fun {x y} z => ?_) (srt_sorted m)
  unfold leP
  rw [z]
  rfl
theorem srt_eq {l m : List PI2} (p : l.Perm m) : srt l = srt m := sorted_uniq ((srt_perm l).trans (p.trans (srt_perm m).symm)) (srt_sorted l) (srt_sorted m)
theorem srt_mem {l : List PI2} {q : PI2} : q ∈ srt l ↔ q ∈ l := (srt_perm l).mem_iff
/-! tuples in the heap -/
def Tups (H : Hp) (ts : List Addr) (zs : List PI2) : Prop := Paired (fun (t : Addr) (q : PI2) => H t = some (.tup [.int q.1, .int q.2])) ts zs
theorem Tups.len {H : Hp} : ∀ {ts : List Addr} {zs : List PI2}, Tups H ts zs → ts.length = zs.length
  | _, _, .nil => rfl
  | _, _, .cons _ r => congrArg Nat.succ (Tups.len r)
theorem Tups.get {H : Hp} : ∀ {ts : List Addr} {zs : List PI2}, Tups H ts zs → ∀ {i : Nat} {q : PI2}, zs[i]? = some q → ∃ t, ts[i]? = some t ∧ H t = some (.tup [.int q.1, .int q.2])
  | _, _, .cons h _, 0, q, e => by
    cases e
    exact ⟨_, rfl, h⟩
  | _, _, .cons _ r, i + 1, q, e => Tups.get r e
theorem Tups.keep {H H' : Hp} (k : ∀ t xs, H t = some (.tup xs) → H' t = some (.tup xs)) : ∀ {ts : List Addr} {zs : List PI2}, Tups H ts zs → Tups H' ts zs
  | _, _, .nil => .nil
  | _, _, .cons h r => .cons (k _ _ h) (Tups.keep k r)
theorem Tups.snoc {H : Hp} {t : Addr} {q : PI2} (h : H t = some (.tup [.int q.1, .int q.2])) : ∀ {ts : List Addr} {zs : List PI2}, Tups H ts zs → Tups H (ts ++ [t]) (zs ++ [q])
  | _, _, .nil => .cons h .nil
  | _, _, .cons g r => .cons g (Tups.snoc h r)
theorem Tups.append {H : Hp} : ∀ {ts us : List Addr} {zs ws : List PI2}, Tups H ts zs → Tups H us ws → Tups H (ts ++ us) (zs ++ ws)
  | _, _, _, _, .nil, g => g
  | _, _, _, _, .cons h r, g => .cons h (Tups.append r g)
/-- what pair stands at the object -/
def tupK (H : Hp) : V → PI2
  | .ref t => match H t with
    | some (.tup [.int i, .int j]) => (i, j)
    | _ => (0, 0)
  | _ => (0, 0)
theorem tupK_at {H : Hp} {t : Addr} {q : PI2} (h : H t = some (.tup [.int q.1, .int q.2])) : tupK H (.ref t) = q := by
  show (match H t with | some (.tup [.int i, .int j]) => (i, j) | _ => (0, 0)) = q
  rw [h]
theorem Tups.map {H : Hp} : ∀ {ts : List Addr} {zs : List PI2}, Tups H ts zs → zs = ts.map fun t => tupK H (.ref t)
  | _, _, .nil => rfl
  | _, _, .cons h r => by rw [List.map_cons, tupK_at h, ← Tups.map r]
theorem refs_inj {l m : List Addr} (h : (l.map V.ref).Perm (m.map V.ref)) : l.Perm m := by
  have e2 := h.map fun v => match v with | V.ref b => b | _ => 0
  rw [List.map_map, List.map_map] at e2
  have f : ∀ l : List Addr, l.map ((fun v => match v with | V.ref b => b | _ => 0) ∘ V.ref) = l := fun l => by
    induction l with
    | nil => rfl
    | cons x l ih => rw [List.map_cons, ih]; rfl
  rw [f, f] at e2
  exact e2
theorem refs_of : ∀ {ys : List V}, (∀ y ∈ ys, ∃ t, y = V.ref t) → ∃ ts : List Addr, ys = ts.map V.ref
  | [], _ => ⟨[], rfl⟩
  | y :: ys, h => by
    obtain ⟨t, rfl⟩ := h y List.mem_cons_self
    obtain ⟨ts, rfl⟩ := refs_of fun z hz => h z (List.mem_cons_of_mem _ hz)
    exact ⟨t :: ts, rfl⟩
/-- sorted(xs), xs a list of pairs of ints -/
def rSortTups (K : PySem.W.Frag) : List V → Hp → VK → Prop := fun vs H Q => ∃ (l : Addr) (ts : List Addr) (zs : List PI2), vs = [.ref l] ∧ SqL K H l (ts.map V.ref) ∧ Tups H ts zs ∧
  ∀ (p : Addr) (us : List Addr), H p = none → Tups (upd H p (.lst (us.map V.ref))) us (srt zs) → Q (.ref p) (upd H p (.lst (us.map V.ref)))
theorem cr_sortedTups {X : Cx} : CallR X (.builtin "sorted") (rSortTups X.K) := by
  intro pins s0 τ H0 vs us Q I0 rel ask
  obtain ⟨l, ts, zs, rfl, hl, ht, fin⟩ := ask
  have each : ∀ x ∈ ts.map V.ref, ∃ t, x = V.ref t ∧ H0 t = some (.tup [.int (tupK H0 x).1, .int (tupK H0 x).2]) := by
    intro x hx
    obtain ⟨t, m, rfl⟩ := List.mem_map.mp hx
    obtain ⟨i, hi⟩ := List.mem_iff_getElem?.mp m
    obtain ⟨lt, _⟩ := List.getElem?_eq_some_iff.mp hi
    obtain ⟨q, hq⟩ : ∃ q, zs[i]? = some q := ⟨_, List.getElem?_eq_getElem (by rw [← ht.len]; exact lt)⟩
    obtain ⟨t', h1, h2⟩ := ht.get hq
    have e := Option.some.inj (h1.symm.trans hi)
    subst e
    exact ⟨_, rfl, by rw [tupK_at h2]; exact h2⟩
  refine cr_sortedPO pins s0 τ H0 [V.ref l] us Q I0 rel ⟨l, _, tupK H0, rfl, hl, each, fun ys p ordered stable new => ?_⟩
  obtain ⟨us, rfl⟩ := refs_of fun y hy => by
    obtain ⟨t, e, _⟩ := each y (stable.perm.mem_iff.mp hy)
    exact ⟨t, e⟩
  have pm := refs_inj stable.perm
  have ez : us.map (fun t => tupK H0 (.ref t)) = srt zs := by
    refine srt_of ?_ ?_
    · rw [ht.map]
      exact pm.map _
    · exact List.pairwise_map.mpr (List.pairwise_map.mp ordered)
  refine fin p us new ?_
  rw [← ez]
  have aux : ∀ l : List Addr, (∀ t ∈ l, t ∈ ts) → Tups (upd H0 p (.lst (us.map V.ref))) l (l.map fun t => tupK H0 (.ref t)) := fun l => by
    induction l with
    | nil => exact fun _ => .nil
    | cons t l ih =>
      intro h
      refine .cons ?_ (ih fun z hz => h z (List.mem_cons_of_mem _ hz))
      obtain ⟨t', e, e2⟩ := each (.ref t) (List.mem_map.mpr ⟨t, h t List.mem_cons_self, rfl⟩)
      have e3 : t = t' := V.ref.inj e
      rw [← e3] at e2
      show upd H0 p (.lst (us.map V.ref)) t = some (.tup [.int (tupK H0 (.ref t)).1, .int (tupK H0 (.ref t)).2])
      rw [upd_ne (ne_of_none e2 new)]
      exact e2
  exact aux us fun t m => pm.mem_iff.mp m
/-! ### sorted(d.items()): keys and values are ints -/
abbrev entI (q : Int × Int) : Key × V := (Sum.inl q.1, V.int q.2)
def rSortView : List V → Hp → VK → Prop := fun vs H Q => ∃ (p d : Addr) (ps : List (Int × Int)), vs = [.ref p] ∧ H p = some (L2.DX.itemsO p d) ∧ H d = some (.dK (ps.map entI)) ∧
  ∀ (H' : Hp) (l : Addr) (ts : List Addr), (∀ b o, H b = some o → H' b = some o) → H l = none → H' l = some (.lst (ts.map V.ref)) → Tups H' ts (srt ps) → Q (.ref l) H'
theorem pairs_at {P : Program} {w : World} : ∀ {es : List DictEntry} {kvs : List (Key × Value)}, Pairs (mixKind P w) es kvs → ∀ (j : Nat) (en : DictEntry), es[j]? = some en → ∃ k : Key, kvs[j]? = some (k, en.val) ∧ keyIs k en.key = true
  | _, _, .nil, j, en, h => by cases h
  | _, kv :: _, .cons hk hv r, 0, en, h => by
    have e := Option.some.inj h
    subst e
    exact ⟨kv.1, by rw [hv]; rfl, hk⟩
  | _, _, .cons hk hv r, j + 1, en, h => pairs_at r j en h
/-- the pair that the place j of the new tuples stands for -/
def pairOf (as : List Addr) (ps : List (Int × Int)) : Value → Int × Int
  | .ref b => ps.getD (as.idxOf b) (0, 0)
  | _ => (0, 0)
theorem pairOf_at {as : List Addr} {ps : List (Int × Int)} (nd : as.Nodup) {j : Nat} {b : Addr} {q : Int × Int} (h1 : as[j]? = some b) (h2 : ps[j]? = some q) : pairOf as ps (.ref b) = q := by
  obtain ⟨lt, e⟩ := List.getElem?_eq_some_iff.mp h1
  have e2 : as.idxOf b = j := by rw [← e]; exact nd.idxOf_getElem j lt
  show ps.getD (as.idxOf b) (0, 0) = q
  rw [e2, List.getD, h2]
  rfl
section
variable {X : Cx}
theorem cr_sortedView (calm : X.calm = true) : CallR X (.builtin "sorted") rSortView := by
  intro pins s0 τ H0 xs us Q I0 rel ask
  obtain ⟨p, d, ps, rfl, hp, hd, fin⟩ := ask
  obtain rfl := Vals.ref1 rel
  have view : s0.heap.IsItemsView p d := (show ObjOk X.prog X.w H0 s0.heap p (L2.DX.itemsO p d) from I0.hok p _ hp).1
  obtain ⟨few, _, ents, kv, ob, es, ep, at0, exact0, body0, _, prs, _⟩ := I0.hok d _ hd
  have n1 : (ps.map entI).length = ents.length := Paired.length kv
  have n2 : es.toList.length = ents.length := prs.length
  rw [List.length_map] at n1 few
  rw [Array.length_toList] at n2
  refine DT.sortedI (es := es) (ep := ep) (I0.ok.hd calm) view ⟨ob, at0, exact0, body0⟩ (by omega) fun h' tk as keep above count made => ?_
  have nd : as.Nodup := made.rise.imp fun l => Nat.ne_of_lt l
  -- each new tuple is its pair
  have tup : ∀ (j : Nat) (b : Addr), as[j]? = some b → ∃ (q : Int × Int) (t1 t2 : Tok), ps[j]? = some q ∧ h'.get? b = some { cls := .type "tuple", data := .seq #[Value.int q.1 t1, Value.int q.2 t2] } := by
    intro j b hj
    obtain ⟨en, he, hg⟩ := made.pairs j b hj
    rw [← Array.getElem?_toList] at he
    obtain ⟨key, hk, isk⟩ := pairs_at prs j en he
    obtain ⟨kvq, g1, g2, g3⟩ := L2.DX.pget kv hk
    rw [List.getElem?_map] at g1
    cases hq : ps[j]? with
    | none =>
      rw [hq] at g1
      cases g1
    | some q =>
      rw [hq] at g1
      cases g1
      have ek : Sum.inl q.1 = key := g2
      subst ek
      obtain ⟨t1, e1⟩ := Value.isInt_shape (k := q.1) (v := en.key) isk
      obtain ⟨t2, e2⟩ : ∃ t2, en.val = Value.int q.2 t2 := g3
      refine ⟨q, t1, t2, rfl, ?_⟩
      rw [hg, e1, e2]
  have hob : (h'.push { cls := .type "list", data := .seq (as.map Value.ref).toArray }).get? h'.objs.size = some (PyProof.Rows.seqObj "list" (as.map Value.ref).toArray 0) := Heap.get?_push_size _ rfl
  have kb : ∀ b o, s0.heap.get? b = some o → (h'.push { cls := .type "list", data := .seq (as.map Value.ref).toArray }).get? b = some o := fun b o e => Heap.get?_push_of_some _ (keep b o e)
  have apart : ∀ b o, h'.get? b = some o → b ≠ h'.objs.size := fun b o e => Nat.ne_of_lt (Heap.lt_size e)
  generalize hh2 : h'.push { cls := .type "list", data := .seq (as.map Value.ref).toArray } = h2 at hob kb ⊢
  have ka : ∀ b o, h'.get? b = some o → h2.get? b = some o := fun b o e => by rw [← hh2]; exact Heap.get?_push_of_some _ e
  have isp : ∀ v ∈ as.map Value.ref, Srt.IsPair h2 v (pairOf as ps v).1 (pairOf as ps v).2 := by
    intro v hv
    obtain ⟨b, hb, rfl⟩ := List.mem_map.mp hv
    obtain ⟨j, hj⟩ := List.mem_iff_getElem?.mp hb
    obtain ⟨q, t1, t2, hq, hg⟩ := tup j b hj
    rw [pairOf_at nd hj hq]
    exact ⟨b, _, t1, t2, 0, rfl, ka _ _ hg, rfl, rfl⟩
  refine wpAny_call_entry PyProof.Rows.slot_list_sort ⟨_, hob, rfl⟩ PyProof.Rows.entry_list_sort
    (SrtO.list_sort_ord (s := { s0 with heap := h2, toks := tk }) (SrtO.swo_lex (pairOf as ps)) hob (by rw [List.length_map]; omega) (fun two => SrtO.pairs_sortableO (by omega) isp fun o e => ?_) fun out ordered stable => ⟨.none, rfl, ?_⟩) (PyProof.Rows.args_list_sort _)
  · have e' : some o = some (PyProof.Rows.seqObj "list" (as.map Value.ref).toArray 0) := e.symm.trans hob
    cases e'
    intro c
    exact absurd (Value.type.inj c) (by decide)
  · show EP X pins τ Q (.ref h'.objs.size) { s0 with heap := PyProof.Rows.sortedHeap h2 h'.objs.size (as.map Value.ref) out.toArray, toks := tk }
    -- the addresses in their order
    have outs : ∃ ts : List Addr, out = ts.map Value.ref ∧ ∀ t ∈ ts, t ∈ as := by
      have each : ∀ u ∈ out, ∃ t, u = Value.ref t ∧ t ∈ as := fun u hu => by
        obtain ⟨t, ht, e⟩ := List.mem_map.mp (stable.perm.mem_iff.mp hu)
        exact ⟨t, e.symm, ht⟩
      clear stable ordered
      induction out with
      | nil => exact ⟨[], rfl, fun t h => by cases h⟩
      | cons u out ih =>
        obtain ⟨t, e, ht⟩ := each u List.mem_cons_self
        obtain ⟨ts, e2, h2⟩ := ih fun v hv => each v (List.mem_cons_of_mem _ hv)
        refine ⟨t :: ts, by rw [e, e2]; rfl, fun z hz => ?_⟩
        rcases List.mem_cons.mp hz with rfl | hz
        · exact ht
        · exact h2 z hz
    obtain ⟨ts, eo, mem⟩ := outs
    have k2 : ∀ b o, b ≠ h'.objs.size → h2.get? b = some o → (PyProof.Rows.sortedHeap h2 h'.objs.size (as.map Value.ref) out.toArray).get? b = some o := fun b o hb e => (PyProof.Rows.sortedHeap_old hb (Heap.lt_size e)).trans e
    have k0 : ∀ b o, s0.heap.get? b = some o → (PyProof.Rows.sortedHeap h2 h'.objs.size (as.map Value.ref) out.toArray).get? b = some o := fun b o e => k2 b o (apart b o (keep b o e)) (kb b o e)
    obtain ⟨ep2, there⟩ := PyProof.Rows.sortedHeap_at (vs := as.map Value.ref) (out := out.toArray) hob
    have I1 : Inv X pins τ H0 { s0 with heap := PyProof.Rows.sortedHeap h2 h'.objs.size (as.map Value.ref) out.toArray, toks := tk } := I0.kept (t' := tk) k0
    have new0 : H0 h'.objs.size = none := I0.hok.fresh (Nat.le_of_lt above)
    have lts : ts.length = as.length := by
      have e := stable.perm.length_eq
      rw [eo, List.length_map, List.length_map] at e
      exact e
    have I2 : Inv X pins τ (upd H0 h'.objs.size (.lst (ts.map V.ref))) { s0 with heap := PyProof.Rows.sortedHeap h2 h'.objs.size (as.map Value.ref) out.toArray, toks := tk } := by
      refine I1.take (h' := PyProof.Rows.sortedHeap h2 h'.objs.size (as.map Value.ref) out.toArray) (t' := tk) (fun b ob _ e => e) (I0.fpOk (Nat.le_of_lt above) new0) ⟨?_, out, ep2, ?_, there⟩
      · rw [List.length_map]
        omega
      · rw [eo]
        exact LiI.vals_refs ts
    obtain ⟨H2, I3, grow, each⟩ := L2.DX.takeT (P := fun b vs => ∃ q : Int × Int, pairOf as ps (.ref b) = q ∧ vs = [.int q.1, .int q.2]) I0 as _ I2 nd fun b hb => by
      obtain ⟨j, hj⟩ := List.mem_iff_getElem?.mp hb
      obtain ⟨q, t1, t2, hq, hg⟩ := tup j b hj
      have low : s0.heap.objs.size ≤ b := Nat.le_of_lt (made.above b hb)
      refine ⟨low, ?_, _, ⟨q, pairOf_at nd hj hq, rfl⟩, fun H3 => ⟨by show 2 ≤ sizeLine; decide, [Value.int q.1 t1, Value.int q.2 t2], .cons ⟨t1, rfl⟩ (.cons ⟨t2, rfl⟩ .nil), ⟨_, k2 _ _ (apart _ _ hg) (ka _ _ hg), rfl, 0, rfl⟩⟩⟩
      rw [upd_ne (apart _ _ hg)]
      exact I0.hok.fresh low
    have ez : ts.map (fun t => pairOf as ps (.ref t)) = srt ps := srt_of (by
      have pm : ts.Perm as := by
        have e := stable.perm
        rw [eo] at e
        have e2 := e.map fun v => match v with | Value.ref b => b | _ => 0
        rw [List.map_map, List.map_map] at e2
        have f : ∀ l : List Addr, l.map ((fun v => match v with | Value.ref b => b | _ => 0) ∘ Value.ref) = l := fun l => by
          induction l with
          | nil => rfl
          | cons x l ih => rw [List.map_cons, ih]; rfl
        rw [f, f] at e2
        exact e2
      have em : as.map (fun t => pairOf as ps (.ref t)) = ps := by
        refine List.ext_getElem? fun j => ?_
        rw [List.getElem?_map]
        cases hj : as[j]? with
        | none =>
          have := List.getElem?_eq_none_iff.mp hj
          rw [List.getElem?_eq_none (by omega)]
          rfl
        | some b =>
          obtain ⟨q, _, _, hq, _⟩ := tup j b hj
          rw [hq]
          show some (pairOf as ps (.ref b)) = some q
          rw [pairOf_at nd hj hq]
      have e := pm.map fun t => pairOf as ps (.ref t)
      rw [em] at e
      exact e
      ) (by
      rw [eo] at ordered
      exact List.pairwise_map.mpr (List.pairwise_map.mp ordered))
    have aux : ∀ l : List Addr, (∀ t ∈ l, t ∈ as) → Tups H2 l (l.map fun t => pairOf as ps (.ref t)) := fun l => by
      induction l with
      | nil => exact fun _ => .nil
      | cons t l ih =>
        intro h
        refine .cons ?_ (ih fun z hz => h z (List.mem_cons_of_mem _ hz))
        obtain ⟨vs, ⟨q, e1, rfl⟩, e2⟩ := each t (h t List.mem_cons_self)
        show H2 t = some (.tup [.int (pairOf as ps (.ref t)).1, .int (pairOf as ps (.ref t)).2])
        rw [e1]
        exact e2
    refine ⟨.ref h'.objs.size, H2, I3, rfl, fin H2 h'.objs.size ts (fun b o e => grow b o (by rw [upd_ne (ne_of_none e new0)]; exact e)) new0 (grow _ _ upd_same) ?_⟩
    rw [← ez]
    exact aux ts mem
end
/-! ### isinstance of a caught error (its class is known where the reading is answered) -/
def rIsX (K : PySem.W.Frag) (a : Addr) (cls : Value) (d : Option Addr) : List V → Hp → VK → Prop := fun xs H Q => ∃ D, cls = .ref D ∧ d = none ∧ ExcC K D ∧ rIsE K D a xs H Q
def rIsXT (K : PySem.W.Frag) (a : Addr) (cls : Value) (d : Option Addr) : List V → Hp → VK → Prop := fun xs H Q => ∃ (D tp : Addr) (cs : List V) (us : List Value) (b : Bool), cls = .ref D ∧ d = none ∧ ExcC K D ∧
  xs = [.ref a, .ref tp] ∧ H tp = some (.tup cs) ∧ Paired ClsV cs us ∧ PySem.W.kitAny K (.ref D) us = some b ∧ Q (.bl b) H
section
variable {X : Cx} {a : Addr} {oe : Obj} {pn : List (Addr × Obj)} {cls : Value} {d : Option Addr}
theorem call_isX (hz : Zc cls d oe) (hf : ∃ vs, oe.data = .fields vs) : CallR (X.suite a ((a, oe) :: pn)) (.builtin "isinstance") (rIsX X.K a cls d) := by
  intro pins s σ H xs us Q I r h
  obtain ⟨D, rfl, rfl, C, h⟩ := h
  exact call_isE C hz hf pins s σ H xs us Q I r h
theorem call_isXT (hz : Zc cls d oe) (hf : ∃ vs, oe.data = .fields vs) : CallR (X.suite a ((a, oe) :: pn)) (.builtin "isinstance") (rIsXT X.K a cls d) := by
  intro pins s σ H vals args Q inv rel ask
  rcases ask with ⟨D, tp, cs, want, b, rfl, rfl, ok, rfl, htup, pairs, ans, fin⟩
  rcases vals2 rel with ⟨x1, x2, rfl, rel1, rel2⟩
  have ex1 : x1 = Value.ref a := rel1
  have ex2 : x2 = Value.ref tp := rel2
  subst ex1 ex2
  have pinned := (inv.pin (a, oe) (List.mem_append.mpr (.inl List.mem_cons_self))).1
  have inst : PySem.W.InstAt s.heap a oe D none := by
    rcases oe with ⟨kind, dct, body, slots⟩
    rcases hz with ⟨z1, z2⟩
    rcases hf with ⟨fs, z3⟩
    simp only at z1 z2 z3
    subst z1; subst z2; subst z3
    exact ⟨pinned, rfl, rfl, trivial⟩
  have tup : ObjOk X.prog X.w H s.heap tp (.tup cs) := inv.hok tp _ htup
  rcases tup with ⟨_, members, each, obj, at1, kind1, size1, body1⟩
  have same := ClsV.all pairs each
  subst same
  rcases obj with ⟨kind, dct, body, slots⟩
  dsimp only at kind1 body1
  subst kind1; subst body1
  refine PySem.W.kia_tup (PySem.W.handS_kitx_exc ok.hg ok.hk ok.hs ok.hd ok.ha ok.hn ok.ht ok.hm) inv.kIn inst at1 ans (fun z => nomatch z) (fun tk => ?_)
  exact ⟨.bl b, H, inv.kept (t' := tk) (fun _ _ same => same), rfl, fin⟩
end
theorem iteTof {c : Bool} {A B : Prop} (hc : c = true) (h : A) : if c = true then A else B := by
  rw [if_pos hc]
  exact h
theorem iteFof {c : Bool} {A B : Prop} (hc : c = false) (h : B) : if c = true then A else B := by
  rw [hc, if_neg Bool.false_ne_true]
  exact h
end BY
namespace BY
open PySem L2
/-- a def of the top's -/
structure DefAt (K : PySem.W.Frag) (mg : Str → Option Value) (x : Str) (st : Stmt) (ps : List Str) (f : Addr) (fd : FuncData) : Prop where
  mg : mg x = some (.ref f)
  fn : Fun K x x st f fd
  bd : Binds K fd ps []
/-- an own error class -/
structure ExcT (K : PySem.W.Frag) (mg : Str → Option Value) (x : Str) (C : Addr) : Prop where
  g : mg x = some (.ref C)
  x : PySem.W.excIn K C [.type "ValueError", .type "Exception", .type "BaseException", .type "object"] "ValueError.__new__" = true
  k : PySem.W.keepIn K (.ref C) = true
  t : PySem.W.typeIn K (.ref C) = some (.type "type")
  c : PySem.W.isClsIn K C = true
  is : ExcC K C
  ve : PySem.W.kitOne K (.ref C) (.type "ValueError") = some true
theorem kit_ve {K : PySem.W.Frag} {C : Addr} (h : PySem.W.subIn K (.ref C) (.type "ValueError") = some true) : PySem.W.kitOne K (.ref C) (.type "ValueError") = some true := by
  have e : PySem.W.kitMeta "ValueError" = true := by decide +kernel
  show (if (Value.ref C == Value.type "ValueError") = true then some true else if PySem.W.kitMeta "ValueError" = true then PySem.W.subIn K (.ref C) (.type "ValueError") else none) = some true
  rw [if_neg (by simp), if_pos e]
  exact h

/-- a def whose code object is known -/
structure FunAt (K : PySem.W.Frag) (x qual : Str) (st : Stmt) (f : Addr) (fd : FuncData) (q : Addr) : Prop where
  ex : ∃ (oc : Value) (od : Option Addr) (kV doc pm : Value) (an : Option Addr) (ct : Value) (osl : Array (Option Value)),
    fd = PySem.W.fnOf x qual (defArgs st) (defBody st) (defScope st) .none kV doc pm an (.ref q) ct ∧ K.lookup f = some ⟨oc, od, .func fd, osl⟩ ∧ PySem.W.codeIn K (.ref q) qual = true
def top (i : Nat) : Stmt := PySem.Challenge.pw_buddyyard_k13_shown_and_read.main.body.getD i (.Pass ⟨0, 0, 0, 0⟩)
abbrev s_is_size : Stmt := top 9
abbrev s_size_for : Stmt := top 10
abbrev s_twin_of : Stmt := top 11
abbrev s_rank : Stmt := top 13
abbrev s_Pool_init : Stmt := inClass (top 14) 0
abbrev s_Pool_put : Stmt := inClass (top 14) 1
abbrev s_Pool_drop : Stmt := inClass (top 14) 2
abbrev s_Pool_has : Stmt := inClass (top 14) 3
abbrev s_Pool_best : Stmt := inClass (top 14) 4
abbrev s_Pool_pieces : Stmt := inClass (top 14) 5
abbrev s_upper_halves : Stmt := top 16
abbrev s_Yard_init : Stmt := inClass (top 17) 0
abbrev s_Yard_give : Stmt := inClass (top 17) 1
abbrev s_Yard_take_back : Stmt := inClass (top 17) 2
abbrev s_Yard_resize : Stmt := inClass (top 17) 3
abbrev s_Yard_free : Stmt := inClass (top 17) 4
abbrev s_Yard_out : Stmt := inClass (top 17) 5
abbrev s_Yard_owner : Stmt := inClass (top 17) 6
abbrev s_Yard_fitting : Stmt := inClass (top 17) 7
abbrev s_Yard_size_of : Stmt := inClass (top 17) 8
abbrev s_Yard_cut : Stmt := inClass (top 17) 9
abbrev s_Yard_grow : Stmt := inClass (top 17) 10
abbrev s_Yard_join : Stmt := inClass (top 17) 11
abbrev s_shown : Stmt := top 21
abbrev s_read : Stmt := top 22
abbrev s_read_row : Stmt := top 23
abbrev s_read_number : Stmt := top 24
abbrev s_count_cells : Stmt := top 25
abbrev s_refuse_free_twins : Stmt := top 26
abbrev s_yard_of : Stmt := top 27
abbrev s_fitting_sizes : Stmt := top 29
abbrev s_give_all : Stmt := top 30
abbrev s_law_cell_at : Stmt := top 32
abbrev s_law_doubled : Stmt := top 33
abbrev s_law_fitting : Stmt := top 34
abbrev s_law_yard_size : Stmt := top 35
abbrev s_law_room : Stmt := top 36
abbrev s_law_want : Stmt := top 37
abbrev s_law_begun : Stmt := top 38
abbrev s_law_done : Stmt := top 39
abbrev s_law_text : Stmt := top 40
abbrev s_law_owner : Stmt := top 41
abbrev s_law_refused_so : Stmt := top 42
abbrev s_law_owners : Stmt := top 43
abbrev s_law_many : Stmt := top 44
abbrev s_law_alike : Stmt := top 45
abbrev s_law : Stmt := top 46
theorem sc_is_size : FnScope ["number"] ["number"] (defScope s_is_size) := ⟨rfl, rfl, rfl, by decide +kernel, rfl, by decide +kernel, by decide +kernel⟩
theorem sc_size_for : FnScope ["want"] ["want"] (defScope s_size_for) := ⟨rfl, rfl, rfl, by decide +kernel, rfl, by decide +kernel, by decide +kernel⟩
theorem sc_twin_of : FnScope ["at", "size"] ["at", "size"] (defScope s_twin_of) := ⟨rfl, rfl, rfl, by decide +kernel, rfl, by decide +kernel, by decide +kernel⟩
theorem sc_rank : FnScope ["places", "at", "low", "high", "middle"] ["places", "at"] (defScope s_rank) := ⟨rfl, rfl, rfl, by decide +kernel, rfl, by decide +kernel, by decide +kernel⟩
theorem sc_Pool_init : FnScope ["self", "cells", "size"] ["self", "cells"] (defScope s_Pool_init) := ⟨rfl, rfl, rfl, by decide +kernel, rfl, by decide +kernel, by decide +kernel⟩
theorem sc_Pool_put : FnScope ["self", "at", "size", "places"] ["self", "at", "size"] (defScope s_Pool_put) := ⟨rfl, rfl, rfl, by decide +kernel, rfl, by decide +kernel, by decide +kernel⟩
theorem sc_Pool_drop : FnScope ["self", "at", "size", "places"] ["self", "at", "size"] (defScope s_Pool_drop) := ⟨rfl, rfl, rfl, by decide +kernel, rfl, by decide +kernel, by decide +kernel⟩
theorem sc_Pool_has : FnScope ["self", "at", "size", "places", "ahead"] ["self", "at", "size"] (defScope s_Pool_has) := ⟨rfl, rfl, rfl, by decide +kernel, rfl, by decide +kernel, by decide +kernel⟩
theorem sc_Pool_best : FnScope ["self", "size", "large", "places"] ["self", "size"] (defScope s_Pool_best) := ⟨rfl, rfl, rfl, by decide +kernel, rfl, by decide +kernel, by decide +kernel⟩
theorem sc_Pool_pieces : FnScope ["self", "size", "places", "at"] ["self"] (defScope s_Pool_pieces) := ⟨rfl, rfl, rfl, by decide +kernel, rfl, by decide +kernel, by decide +kernel⟩
theorem sc_upper_halves : FnScope ["at", "size", "least", "halves"] ["at", "size", "least"] (defScope s_upper_halves) := ⟨rfl, rfl, rfl, by decide +kernel, rfl, by decide +kernel, by decide +kernel⟩
theorem sc_Yard_init : FnScope ["self", "cells"] ["self", "cells"] (defScope s_Yard_init) := ⟨rfl, rfl, rfl, by decide +kernel, rfl, by decide +kernel, by decide +kernel⟩
theorem sc_Yard_give : FnScope ["self", "want", "size", "found", "at", "large"] ["self", "want"] (defScope s_Yard_give) := ⟨rfl, rfl, rfl, by decide +kernel, rfl, by decide +kernel, by decide +kernel⟩
theorem sc_Yard_take_back : FnScope ["self", "at", "size"] ["self", "at"] (defScope s_Yard_take_back) := ⟨rfl, rfl, rfl, by decide +kernel, rfl, by decide +kernel, by decide +kernel⟩
theorem sc_Yard_resize : FnScope ["self", "at", "want", "had", "size"] ["self", "at", "want"] (defScope s_Yard_resize) := ⟨rfl, rfl, rfl, by decide +kernel, rfl, by decide +kernel, by decide +kernel⟩
theorem sc_Yard_free : FnScope ["self"] ["self"] (defScope s_Yard_free) := ⟨rfl, rfl, rfl, by decide +kernel, rfl, by decide +kernel, by decide +kernel⟩
theorem sc_Yard_out : FnScope ["self"] ["self"] (defScope s_Yard_out) := ⟨rfl, rfl, rfl, by decide +kernel, rfl, by decide +kernel, by decide +kernel⟩
theorem sc_Yard_owner : FnScope ["self", "cell", "size", "at"] ["self", "cell"] (defScope s_Yard_owner) := ⟨rfl, rfl, rfl, by decide +kernel, rfl, by decide +kernel, by decide +kernel⟩
theorem sc_Yard_fitting : FnScope ["self", "want"] ["self", "want"] (defScope s_Yard_fitting) := ⟨rfl, rfl, rfl, by decide +kernel, rfl, by decide +kernel, by decide +kernel⟩
theorem sc_Yard_size_of : FnScope ["self", "at"] ["self", "at"] (defScope s_Yard_size_of) := ⟨rfl, rfl, rfl, by decide +kernel, rfl, by decide +kernel, by decide +kernel⟩
theorem sc_Yard_cut : FnScope ["self", "at", "size", "least", "half", "half_size"] ["self", "at", "size", "least"] (defScope s_Yard_cut) := ⟨rfl, rfl, rfl, by decide +kernel, rfl, by decide +kernel, by decide +kernel⟩
theorem sc_Yard_grow : FnScope ["self", "at", "had", "size", "halves", "half", "half_size"] ["self", "at", "had", "size"] (defScope s_Yard_grow) := ⟨rfl, rfl, rfl, by decide +kernel, rfl, by decide +kernel, by decide +kernel⟩
theorem sc_Yard_join : FnScope ["self", "at", "size", "twin"] ["self", "at", "size"] (defScope s_Yard_join) := ⟨rfl, rfl, rfl, by decide +kernel, rfl, by decide +kernel, by decide +kernel⟩
theorem sc_shown : FnScope ["yard", "rows", "at", "size", "state"] ["yard"] (defScope s_shown) := ⟨rfl, rfl, rfl, by decide +kernel, rfl, by decide +kernel, by decide +kernel⟩
theorem sc_read : FnScope ["text", "rows", "cells", "row"] ["text"] (defScope s_read) := ⟨rfl, rfl, rfl, by decide +kernel, rfl, by decide +kernel, by decide +kernel⟩
theorem sc_read_row : FnScope ["row", "words", "at", "size"] ["row"] (defScope s_read_row) := ⟨rfl, rfl, rfl, by decide +kernel, rfl, by decide +kernel, by decide +kernel⟩
theorem sc_read_number : FnScope ["word", "number"] ["word"] (defScope s_read_number) := ⟨rfl, rfl, rfl, by decide +kernel, rfl, by decide +kernel, by decide +kernel⟩
theorem sc_count_cells : FnScope ["rows", "cells", "at", "size", "_"] ["rows"] (defScope s_count_cells) := ⟨rfl, rfl, rfl, by decide +kernel, rfl, by decide +kernel, by decide +kernel⟩
theorem sc_refuse_free_twins : FnScope ["rows", "at", "size", "sizes", "state"] ["rows"] (defScope s_refuse_free_twins) := ⟨rfl, rfl, rfl, by decide +kernel, rfl, by decide +kernel, by decide +kernel⟩
theorem sc_yard_of : FnScope ["cells", "rows", "yard", "back", "at", "size", "state"] ["cells", "rows"] (defScope s_yard_of) := ⟨rfl, rfl, rfl, by decide +kernel, rfl, by decide +kernel, by decide +kernel⟩
theorem sc_fitting_sizes : FnScope ["yard", "wants", "want"] ["yard", "wants"] (defScope s_fitting_sizes) := ⟨rfl, rfl, rfl, by decide +kernel, rfl, by decide +kernel, by decide +kernel⟩
theorem sc_give_all : FnScope ["yard", "wants", "order", "places", "turn", "at", "sizes"] ["yard", "wants"] (defScope s_give_all) := ⟨rfl, rfl, rfl, by decide +kernel, rfl, by decide +kernel, by decide +kernel⟩
theorem sc_law_cell_at : FnScope ["_law_script", "_law_k"] ["_law_script", "_law_k"] (defScope s_law_cell_at) := ⟨rfl, rfl, rfl, by decide +kernel, rfl, by decide +kernel, by decide +kernel⟩
theorem sc_law_doubled : FnScope ["_law_times", "_law_size", "_law_k"] ["_law_times"] (defScope s_law_doubled) := ⟨rfl, rfl, rfl, by decide +kernel, rfl, by decide +kernel, by decide +kernel⟩
theorem sc_law_fitting : FnScope ["_law_want_here", "_law_size"] ["_law_want_here"] (defScope s_law_fitting) := ⟨rfl, rfl, rfl, by decide +kernel, rfl, by decide +kernel, by decide +kernel⟩
theorem sc_law_yard_size : FnScope ["_law_script", "_law_way", "_law_cell"] ["_law_script"] (defScope s_law_yard_size) := ⟨rfl, rfl, rfl, by decide +kernel, rfl, by decide +kernel, by decide +kernel⟩
theorem sc_law_room : FnScope ["_law_script", "_law_few", "_law_many_here"] ["_law_script", "_law_few", "_law_many_here"] (defScope s_law_room) := ⟨rfl, rfl, rfl, by decide +kernel, rfl, by decide +kernel, by decide +kernel⟩
theorem sc_law_want : FnScope ["_law_cell", "_law_cells", "_law_way", "_law_rest"] ["_law_cell", "_law_cells"] (defScope s_law_want) := ⟨rfl, rfl, rfl, by decide +kernel, rfl, by decide +kernel, by decide +kernel⟩
theorem sc_law_begun : FnScope ["_law_yard", "_law_cell", "_law_cells", "_law_held", "_law_many_here", "_law_k"] ["_law_yard", "_law_cell", "_law_cells"] (defScope s_law_begun) := ⟨rfl, rfl, rfl, by decide +kernel, rfl, by decide +kernel, by decide +kernel⟩
theorem sc_law_done : FnScope ["_law_yard", "_law_held", "_law_cell", "_law_cells", "_law_rest", "_law_want_here", "_law_at", "_law_piece", "_law_left", "_law_size", "_law_one"] ["_law_yard", "_law_held", "_law_cell", "_law_cells"] (defScope s_law_done) := ⟨rfl, rfl, rfl, by decide +kernel, rfl, by decide +kernel, by decide +kernel⟩
theorem sc_law_text : FnScope ["_law_out", "_law_free", "_law_rows", "_law_piece", "_law_row"] ["_law_out", "_law_free"] (defScope s_law_text) := ⟨rfl, rfl, rfl, by decide +kernel, rfl, by decide +kernel, by decide +kernel⟩
theorem sc_law_owner : FnScope ["_law_held", "_law_cell", "_law_piece"] ["_law_held", "_law_cell"] (defScope s_law_owner) := ⟨rfl, rfl, rfl, by decide +kernel, rfl, by decide +kernel, by decide +kernel⟩
theorem sc_law_refused_so : FnScope ["_law_yard", "_law_place", "_law_refused"] ["_law_yard", "_law_place"] (defScope s_law_refused_so) := ⟨rfl, rfl, rfl, by decide +kernel, rfl, by decide +kernel, by decide +kernel⟩
theorem sc_law_owners : FnScope ["_law_yard", "_law_held", "_law_cells", "_law_places", "_law_piece", "_law_place", "_law_due"] ["_law_yard", "_law_held", "_law_cells", "_law_places"] (defScope s_law_owners) := ⟨rfl, rfl, rfl, by decide +kernel, rfl, by decide +kernel, by decide +kernel⟩
theorem sc_law_many : FnScope ["_law_yard", "_law_held", "_law_wants", "_law_places", "_law_k"] ["_law_yard", "_law_held", "_law_wants"] (defScope s_law_many) := ⟨rfl, rfl, rfl, by decide +kernel, rfl, by decide +kernel, by decide +kernel⟩
theorem sc_law_alike : FnScope ["_law_one", "_law_two", "_law_cells"] ["_law_one", "_law_two", "_law_cells"] (defScope s_law_alike) := ⟨rfl, rfl, rfl, by decide +kernel, rfl, by decide +kernel, by decide +kernel⟩
theorem sc_law : FnScope ["_law_script", "_law_cells", "_law_yard", "_law_held", "_law_cell", "_law_found", "_law_free", "_law_again", "_law_row", "_law_places"] ["_law_script"] (defScope s_law) := ⟨rfl, rfl, rfl, by decide +kernel, rfl, by decide +kernel, by decide +kernel⟩
structure Ad where
  f_is_size : Addr
  d_is_size : FuncData
  f_size_for : Addr
  d_size_for : FuncData
  f_twin_of : Addr
  d_twin_of : FuncData
  f_rank : Addr
  d_rank : FuncData
  f_Pool_init : Addr
  d_Pool_init : FuncData
  f_Pool_put : Addr
  d_Pool_put : FuncData
  f_Pool_drop : Addr
  d_Pool_drop : FuncData
  f_Pool_has : Addr
  d_Pool_has : FuncData
  f_Pool_best : Addr
  d_Pool_best : FuncData
  f_Pool_pieces : Addr
  d_Pool_pieces : FuncData
  f_upper_halves : Addr
  d_upper_halves : FuncData
  f_Yard_init : Addr
  d_Yard_init : FuncData
  f_Yard_give : Addr
  d_Yard_give : FuncData
  f_Yard_take_back : Addr
  d_Yard_take_back : FuncData
  f_Yard_resize : Addr
  d_Yard_resize : FuncData
  f_Yard_free : Addr
  d_Yard_free : FuncData
  f_Yard_out : Addr
  d_Yard_out : FuncData
  f_Yard_owner : Addr
  d_Yard_owner : FuncData
  f_Yard_fitting : Addr
  d_Yard_fitting : FuncData
  f_Yard_size_of : Addr
  d_Yard_size_of : FuncData
  f_Yard_cut : Addr
  d_Yard_cut : FuncData
  f_Yard_grow : Addr
  d_Yard_grow : FuncData
  f_Yard_join : Addr
  d_Yard_join : FuncData
  f_shown : Addr
  d_shown : FuncData
  f_read : Addr
  d_read : FuncData
  f_read_row : Addr
  d_read_row : FuncData
  f_read_number : Addr
  d_read_number : FuncData
  f_count_cells : Addr
  d_count_cells : FuncData
  f_refuse_free_twins : Addr
  d_refuse_free_twins : FuncData
  f_yard_of : Addr
  d_yard_of : FuncData
  f_fitting_sizes : Addr
  d_fitting_sizes : FuncData
  f_give_all : Addr
  d_give_all : FuncData
  q_give_all : Addr
  p_give_all : Addr
  f_law_cell_at : Addr
  d_law_cell_at : FuncData
  f_law_doubled : Addr
  d_law_doubled : FuncData
  f_law_fitting : Addr
  d_law_fitting : FuncData
  f_law_yard_size : Addr
  d_law_yard_size : FuncData
  f_law_room : Addr
  d_law_room : FuncData
  f_law_want : Addr
  d_law_want : FuncData
  f_law_begun : Addr
  d_law_begun : FuncData
  f_law_done : Addr
  d_law_done : FuncData
  f_law_text : Addr
  d_law_text : FuncData
  f_law_owner : Addr
  d_law_owner : FuncData
  f_law_refused_so : Addr
  d_law_refused_so : FuncData
  f_law_owners : Addr
  d_law_owners : FuncData
  f_law_many : Addr
  d_law_many : FuncData
  f_law_alike : Addr
  d_law_alike : FuncData
  f_law : Addr
  d_law : FuncData
  c_YardError : Addr
  c_NoYard : Addr
  c_NoWish : Addr
  c_NoRoom : Addr
  c_NotOut : Addr
  c_NoNote : Addr
  c_Pool : Addr
  c_Yard : Addr
structure Txt (K : PySem.W.Frag) (mg : Str → Option Value) (a : Ad) : Prop where
  is_size : DefAt K mg "is_size" s_is_size ["number"] a.f_is_size a.d_is_size
  size_for : DefAt K mg "size_for" s_size_for ["want"] a.f_size_for a.d_size_for
  twin_of : DefAt K mg "twin_of" s_twin_of ["at", "size"] a.f_twin_of a.d_twin_of
  rank : DefAt K mg "rank" s_rank ["places", "at"] a.f_rank a.d_rank
  Pool_init : Fun K "__init__" "Pool.__init__" s_Pool_init a.f_Pool_init a.d_Pool_init
  b_Pool_init : Binds K a.d_Pool_init ["self", "cells"] []
  m_Pool_init : Mk K a.c_Pool a.f_Pool_init
  Pool_put : Fun K "put" "Pool.put" s_Pool_put a.f_Pool_put a.d_Pool_put
  b_Pool_put : Binds K a.d_Pool_put ["self", "at", "size"] []
  m_Pool_put : Meth K a.c_Pool "put" a.f_Pool_put
  Pool_drop : Fun K "drop" "Pool.drop" s_Pool_drop a.f_Pool_drop a.d_Pool_drop
  b_Pool_drop : Binds K a.d_Pool_drop ["self", "at", "size"] []
  m_Pool_drop : Meth K a.c_Pool "drop" a.f_Pool_drop
  Pool_has : Fun K "has" "Pool.has" s_Pool_has a.f_Pool_has a.d_Pool_has
  b_Pool_has : Binds K a.d_Pool_has ["self", "at", "size"] []
  m_Pool_has : Meth K a.c_Pool "has" a.f_Pool_has
  Pool_best : Fun K "best" "Pool.best" s_Pool_best a.f_Pool_best a.d_Pool_best
  b_Pool_best : Binds K a.d_Pool_best ["self", "size"] []
  m_Pool_best : Meth K a.c_Pool "best" a.f_Pool_best
  Pool_pieces : Fun K "pieces" "Pool.pieces" s_Pool_pieces a.f_Pool_pieces a.d_Pool_pieces
  b_Pool_pieces : Binds K a.d_Pool_pieces ["self"] []
  m_Pool_pieces : Meth K a.c_Pool "pieces" a.f_Pool_pieces
  upper_halves : DefAt K mg "upper_halves" s_upper_halves ["at", "size", "least"] a.f_upper_halves a.d_upper_halves
  Yard_init : Fun K "__init__" "Yard.__init__" s_Yard_init a.f_Yard_init a.d_Yard_init
  b_Yard_init : Binds K a.d_Yard_init ["self", "cells"] []
  m_Yard_init : Mk K a.c_Yard a.f_Yard_init
  Yard_give : Fun K "give" "Yard.give" s_Yard_give a.f_Yard_give a.d_Yard_give
  b_Yard_give : Binds K a.d_Yard_give ["self", "want"] []
  m_Yard_give : Meth K a.c_Yard "give" a.f_Yard_give
  Yard_take_back : Fun K "take_back" "Yard.take_back" s_Yard_take_back a.f_Yard_take_back a.d_Yard_take_back
  b_Yard_take_back : Binds K a.d_Yard_take_back ["self", "at"] []
  m_Yard_take_back : Meth K a.c_Yard "take_back" a.f_Yard_take_back
  Yard_resize : Fun K "resize" "Yard.resize" s_Yard_resize a.f_Yard_resize a.d_Yard_resize
  b_Yard_resize : Binds K a.d_Yard_resize ["self", "at", "want"] []
  m_Yard_resize : Meth K a.c_Yard "resize" a.f_Yard_resize
  Yard_free : Fun K "free" "Yard.free" s_Yard_free a.f_Yard_free a.d_Yard_free
  b_Yard_free : Binds K a.d_Yard_free ["self"] []
  m_Yard_free : Meth K a.c_Yard "free" a.f_Yard_free
  Yard_out : Fun K "out" "Yard.out" s_Yard_out a.f_Yard_out a.d_Yard_out
  b_Yard_out : Binds K a.d_Yard_out ["self"] []
  m_Yard_out : Meth K a.c_Yard "out" a.f_Yard_out
  Yard_owner : Fun K "owner" "Yard.owner" s_Yard_owner a.f_Yard_owner a.d_Yard_owner
  b_Yard_owner : Binds K a.d_Yard_owner ["self", "cell"] []
  m_Yard_owner : Meth K a.c_Yard "owner" a.f_Yard_owner
  Yard_fitting : Fun K "_fitting" "Yard._fitting" s_Yard_fitting a.f_Yard_fitting a.d_Yard_fitting
  b_Yard_fitting : Binds K a.d_Yard_fitting ["self", "want"] []
  m_Yard_fitting : Meth K a.c_Yard "_fitting" a.f_Yard_fitting
  Yard_size_of : Fun K "_size_of" "Yard._size_of" s_Yard_size_of a.f_Yard_size_of a.d_Yard_size_of
  b_Yard_size_of : Binds K a.d_Yard_size_of ["self", "at"] []
  m_Yard_size_of : Meth K a.c_Yard "_size_of" a.f_Yard_size_of
  Yard_cut : Fun K "_cut" "Yard._cut" s_Yard_cut a.f_Yard_cut a.d_Yard_cut
  b_Yard_cut : Binds K a.d_Yard_cut ["self", "at", "size", "least"] []
  m_Yard_cut : Meth K a.c_Yard "_cut" a.f_Yard_cut
  Yard_grow : Fun K "_grow" "Yard._grow" s_Yard_grow a.f_Yard_grow a.d_Yard_grow
  b_Yard_grow : Binds K a.d_Yard_grow ["self", "at", "had", "size"] []
  m_Yard_grow : Meth K a.c_Yard "_grow" a.f_Yard_grow
  Yard_join : Fun K "_join" "Yard._join" s_Yard_join a.f_Yard_join a.d_Yard_join
  b_Yard_join : Binds K a.d_Yard_join ["self", "at", "size"] []
  m_Yard_join : Meth K a.c_Yard "_join" a.f_Yard_join
  shown : DefAt K mg "shown" s_shown ["yard"] a.f_shown a.d_shown
  read : DefAt K mg "read" s_read ["text"] a.f_read a.d_read
  read_row : DefAt K mg "read_row" s_read_row ["row"] a.f_read_row a.d_read_row
  read_number : DefAt K mg "read_number" s_read_number ["word"] a.f_read_number a.d_read_number
  count_cells : DefAt K mg "count_cells" s_count_cells ["rows"] a.f_count_cells a.d_count_cells
  refuse_free_twins : DefAt K mg "refuse_free_twins" s_refuse_free_twins ["rows"] a.f_refuse_free_twins a.d_refuse_free_twins
  yard_of : DefAt K mg "yard_of" s_yard_of ["cells", "rows"] a.f_yard_of a.d_yard_of
  fitting_sizes : DefAt K mg "fitting_sizes" s_fitting_sizes ["yard", "wants"] a.f_fitting_sizes a.d_fitting_sizes
  give_all : DefAt K mg "give_all" s_give_all ["yard", "wants"] a.f_give_all a.d_give_all
  law_cell_at : DefAt K mg "_law_cell_at" s_law_cell_at ["_law_script", "_law_k"] a.f_law_cell_at a.d_law_cell_at
  law_doubled : DefAt K mg "_law_doubled" s_law_doubled ["_law_times"] a.f_law_doubled a.d_law_doubled
  law_fitting : DefAt K mg "_law_fitting" s_law_fitting ["_law_want_here"] a.f_law_fitting a.d_law_fitting
  law_yard_size : DefAt K mg "_law_yard_size" s_law_yard_size ["_law_script"] a.f_law_yard_size a.d_law_yard_size
  law_room : DefAt K mg "_law_room" s_law_room ["_law_script", "_law_few", "_law_many_here"] a.f_law_room a.d_law_room
  law_want : DefAt K mg "_law_want" s_law_want ["_law_cell", "_law_cells"] a.f_law_want a.d_law_want
  law_begun : DefAt K mg "_law_begun" s_law_begun ["_law_yard", "_law_cell", "_law_cells"] a.f_law_begun a.d_law_begun
  law_done : DefAt K mg "_law_done" s_law_done ["_law_yard", "_law_held", "_law_cell", "_law_cells"] a.f_law_done a.d_law_done
  law_text : DefAt K mg "_law_text" s_law_text ["_law_out", "_law_free"] a.f_law_text a.d_law_text
  law_owner : DefAt K mg "_law_owner" s_law_owner ["_law_held", "_law_cell"] a.f_law_owner a.d_law_owner
  law_refused_so : DefAt K mg "_law_refused_so" s_law_refused_so ["_law_yard", "_law_place"] a.f_law_refused_so a.d_law_refused_so
  law_owners : DefAt K mg "_law_owners" s_law_owners ["_law_yard", "_law_held", "_law_cells", "_law_places"] a.f_law_owners a.d_law_owners
  law_many : DefAt K mg "_law_many" s_law_many ["_law_yard", "_law_held", "_law_wants"] a.f_law_many a.d_law_many
  law_alike : DefAt K mg "_law_alike" s_law_alike ["_law_one", "_law_two", "_law_cells"] a.f_law_alike a.d_law_alike
  law : DefAt K mg "law" s_law ["_law_script"] a.f_law a.d_law
  at_give_all : FunAt K "give_all" "give_all" s_give_all a.f_give_all a.d_give_all a.q_give_all
  g_Pool : mg "Pool" = some (.ref a.c_Pool)
  cl_Pool : Cls K a.c_Pool
  n_Pool__places : NoAttr K a.c_Pool "_places"
  g_Yard : mg "Yard" = some (.ref a.c_Yard)
  cl_Yard : Cls K a.c_Yard
  n_Yard_cells : NoAttr K a.c_Yard "cells"
  n_Yard__sizes : NoAttr K a.c_Yard "_sizes"
  n_Yard__pool : NoAttr K a.c_Yard "_pool"
  o_Yard : PySem.W.findIn K (.ref a.c_Yard) "__class__" = some (some (.builtin "object.__class__")) ∧ PySem.W.specialIn K (.builtin "object.__class__") "__get__" = some (some (.builtin "getset_descriptor.__get__")) ∧ PySem.W.takesIn K (.builtin "object.__class__") = some true ∧ PySem.W.mroIn K a.c_Yard (.type "object") = some true
  e_YardError : ExcT K mg "YardError" a.c_YardError
  e_NoYard : ExcT K mg "NoYard" a.c_NoYard
  e_NoWish : ExcT K mg "NoWish" a.c_NoWish
  e_NoRoom : ExcT K mg "NoRoom" a.c_NoRoom
  e_NotOut : ExcT K mg "NotOut" a.c_NotOut
  e_NoNote : ExcT K mg "NoNote" a.c_NoNote
  x_NoYard_YardError : PySem.W.exmOne K (.ref a.c_NoYard) (.ref a.c_YardError) = some true
  k_NoYard_YardError : PySem.W.kitOne K (.ref a.c_NoYard) (.ref a.c_YardError) = some true
  x_NoYard_NoYard : PySem.W.exmOne K (.ref a.c_NoYard) (.ref a.c_NoYard) = some true
  k_NoYard_NoYard : PySem.W.kitOne K (.ref a.c_NoYard) (.ref a.c_NoYard) = some true
  x_NoYard_NoWish : PySem.W.exmOne K (.ref a.c_NoYard) (.ref a.c_NoWish) = some false
  k_NoYard_NoWish : PySem.W.kitOne K (.ref a.c_NoYard) (.ref a.c_NoWish) = some false
  x_NoYard_NoRoom : PySem.W.exmOne K (.ref a.c_NoYard) (.ref a.c_NoRoom) = some false
  k_NoYard_NoRoom : PySem.W.kitOne K (.ref a.c_NoYard) (.ref a.c_NoRoom) = some false
  x_NoYard_NotOut : PySem.W.exmOne K (.ref a.c_NoYard) (.ref a.c_NotOut) = some false
  k_NoYard_NotOut : PySem.W.kitOne K (.ref a.c_NoYard) (.ref a.c_NotOut) = some false
  x_NoYard_NoNote : PySem.W.exmOne K (.ref a.c_NoYard) (.ref a.c_NoNote) = some false
  k_NoYard_NoNote : PySem.W.kitOne K (.ref a.c_NoYard) (.ref a.c_NoNote) = some false
  x_NoWish_YardError : PySem.W.exmOne K (.ref a.c_NoWish) (.ref a.c_YardError) = some true
  k_NoWish_YardError : PySem.W.kitOne K (.ref a.c_NoWish) (.ref a.c_YardError) = some true
  x_NoWish_NoYard : PySem.W.exmOne K (.ref a.c_NoWish) (.ref a.c_NoYard) = some false
  k_NoWish_NoYard : PySem.W.kitOne K (.ref a.c_NoWish) (.ref a.c_NoYard) = some false
  x_NoWish_NoWish : PySem.W.exmOne K (.ref a.c_NoWish) (.ref a.c_NoWish) = some true
  k_NoWish_NoWish : PySem.W.kitOne K (.ref a.c_NoWish) (.ref a.c_NoWish) = some true
  x_NoWish_NoRoom : PySem.W.exmOne K (.ref a.c_NoWish) (.ref a.c_NoRoom) = some false
  k_NoWish_NoRoom : PySem.W.kitOne K (.ref a.c_NoWish) (.ref a.c_NoRoom) = some false
  x_NoWish_NotOut : PySem.W.exmOne K (.ref a.c_NoWish) (.ref a.c_NotOut) = some false
  k_NoWish_NotOut : PySem.W.kitOne K (.ref a.c_NoWish) (.ref a.c_NotOut) = some false
  x_NoWish_NoNote : PySem.W.exmOne K (.ref a.c_NoWish) (.ref a.c_NoNote) = some false
  k_NoWish_NoNote : PySem.W.kitOne K (.ref a.c_NoWish) (.ref a.c_NoNote) = some false
  x_NoRoom_YardError : PySem.W.exmOne K (.ref a.c_NoRoom) (.ref a.c_YardError) = some true
  k_NoRoom_YardError : PySem.W.kitOne K (.ref a.c_NoRoom) (.ref a.c_YardError) = some true
  x_NoRoom_NoYard : PySem.W.exmOne K (.ref a.c_NoRoom) (.ref a.c_NoYard) = some false
  k_NoRoom_NoYard : PySem.W.kitOne K (.ref a.c_NoRoom) (.ref a.c_NoYard) = some false
  x_NoRoom_NoWish : PySem.W.exmOne K (.ref a.c_NoRoom) (.ref a.c_NoWish) = some false
  k_NoRoom_NoWish : PySem.W.kitOne K (.ref a.c_NoRoom) (.ref a.c_NoWish) = some false
  x_NoRoom_NoRoom : PySem.W.exmOne K (.ref a.c_NoRoom) (.ref a.c_NoRoom) = some true
  k_NoRoom_NoRoom : PySem.W.kitOne K (.ref a.c_NoRoom) (.ref a.c_NoRoom) = some true
  x_NoRoom_NotOut : PySem.W.exmOne K (.ref a.c_NoRoom) (.ref a.c_NotOut) = some false
  k_NoRoom_NotOut : PySem.W.kitOne K (.ref a.c_NoRoom) (.ref a.c_NotOut) = some false
  x_NoRoom_NoNote : PySem.W.exmOne K (.ref a.c_NoRoom) (.ref a.c_NoNote) = some false
  k_NoRoom_NoNote : PySem.W.kitOne K (.ref a.c_NoRoom) (.ref a.c_NoNote) = some false
  x_NotOut_YardError : PySem.W.exmOne K (.ref a.c_NotOut) (.ref a.c_YardError) = some true
  k_NotOut_YardError : PySem.W.kitOne K (.ref a.c_NotOut) (.ref a.c_YardError) = some true
  x_NotOut_NoYard : PySem.W.exmOne K (.ref a.c_NotOut) (.ref a.c_NoYard) = some false
  k_NotOut_NoYard : PySem.W.kitOne K (.ref a.c_NotOut) (.ref a.c_NoYard) = some false
  x_NotOut_NoWish : PySem.W.exmOne K (.ref a.c_NotOut) (.ref a.c_NoWish) = some false
  k_NotOut_NoWish : PySem.W.kitOne K (.ref a.c_NotOut) (.ref a.c_NoWish) = some false
  x_NotOut_NoRoom : PySem.W.exmOne K (.ref a.c_NotOut) (.ref a.c_NoRoom) = some false
  k_NotOut_NoRoom : PySem.W.kitOne K (.ref a.c_NotOut) (.ref a.c_NoRoom) = some false
  x_NotOut_NotOut : PySem.W.exmOne K (.ref a.c_NotOut) (.ref a.c_NotOut) = some true
  k_NotOut_NotOut : PySem.W.kitOne K (.ref a.c_NotOut) (.ref a.c_NotOut) = some true
  x_NotOut_NoNote : PySem.W.exmOne K (.ref a.c_NotOut) (.ref a.c_NoNote) = some false
  k_NotOut_NoNote : PySem.W.kitOne K (.ref a.c_NotOut) (.ref a.c_NoNote) = some false
  x_NoNote_YardError : PySem.W.exmOne K (.ref a.c_NoNote) (.ref a.c_YardError) = some true
  k_NoNote_YardError : PySem.W.kitOne K (.ref a.c_NoNote) (.ref a.c_YardError) = some true
  x_NoNote_NoYard : PySem.W.exmOne K (.ref a.c_NoNote) (.ref a.c_NoYard) = some false
  k_NoNote_NoYard : PySem.W.kitOne K (.ref a.c_NoNote) (.ref a.c_NoYard) = some false
  x_NoNote_NoWish : PySem.W.exmOne K (.ref a.c_NoNote) (.ref a.c_NoWish) = some false
  k_NoNote_NoWish : PySem.W.kitOne K (.ref a.c_NoNote) (.ref a.c_NoWish) = some false
  x_NoNote_NoRoom : PySem.W.exmOne K (.ref a.c_NoNote) (.ref a.c_NoRoom) = some false
  k_NoNote_NoRoom : PySem.W.kitOne K (.ref a.c_NoNote) (.ref a.c_NoRoom) = some false
  x_NoNote_NotOut : PySem.W.exmOne K (.ref a.c_NoNote) (.ref a.c_NotOut) = some false
  k_NoNote_NotOut : PySem.W.kitOne K (.ref a.c_NoNote) (.ref a.c_NotOut) = some false
  x_NoNote_NoNote : PySem.W.exmOne K (.ref a.c_NoNote) (.ref a.c_NoNote) = some true
  k_NoNote_NoNote : PySem.W.kitOne K (.ref a.c_NoNote) (.ref a.c_NoNote) = some true
  z_all : mg "all" = none
  z_any : mg "any" = none
  z_int : mg "int" = none
  z_isinstance : mg "isinstance" = none
  z_len : mg "len" = none
  z_list : mg "list" = none
  z_max : mg "max" = none
  z_min : mg "min" = none
  z_range : mg "range" = none
  z_sorted : mg "sorted" = none
  z_str : mg "str" = none
  v_MOST : ∃ t, mg "MOST" = some (.int 1152921504606846976 t)
  v_OUT : ∃ t, mg "OUT" = some (.str "out" t)
  v_FREE : ∃ t, mg "FREE" = some (.str "free" t)
/-! ### a yard in the heap -/
def nI (n : Nat) : V := .int (n : Int)
abbrev sI (k : Nat) : V := .int ((2 ^ k : Nat) : Int)
def Only (S : List Addr) (H H' : Hp) : Prop := ∀ b o, H b = some o → b ∉ S → H' b = some o
theorem Only.refl (S : List Addr) (H : Hp) : Only S H H := fun _ _ e _ => e
theorem Only.trans {S : List Addr} {H1 H2 H3 : Hp} (h : Only S H1 H2) (g : Only S H2 H3) : Only S H1 H3 := fun b o e n => g b o (h b o e n) n
theorem Only.mono {S S' : List Addr} {H H' : Hp} (h : Only S H H') (l : ∀ b, b ∈ S → b ∈ S') : Only S' H H' := fun b o e n => h b o e fun z => n (l b z)
theorem Only.upd {S : List Addr} {H : Hp} {b : Addr} (o : HO) (h : b ∈ S) : Only S H (upd H b o) := fun c u e n => by
  rw [upd_ne (fun z => n (by rw [z]; exact h))]
  exact e
theorem Only.new {S : List Addr} {H : Hp} {b : Addr} (o : HO) (h : H b = none) : Only S H (L2.upd H b o) := fun c u e n => by
  rw [upd_ne (ne_of_none e h)]
  exact e
theorem Only.same {S : List Addr} {H H' : Hp} (h : ∀ b o, H b = some o → H' b = some o) : Only S H H' := fun b o e _ => h b o e
structure YA where
  y : Addr
  sd : Addr
  p : Addr
  pd : Addr
  dy : Addr
  dp : Addr
  ls : Nat → Addr
def pdK (d : Nat) (ls : Nat → Addr) : List (Key × V) := (List.range (d + 1)).map fun j => (Sum.inl ((2 ^ j : Nat) : Int), V.ref (ls j))
def pFs (Y : YA) : List (Str × V) := putF "_places" (.ref Y.pd) []
structure PoolAt (a : Ad) (Y : YA) (d : Nat) (F : Nat → List Nat) (H : Hp) : Prop where
  ob : H Y.p = some (.ins a.c_Pool Y.dp (pFs Y))
  dk : H Y.pd = some (.dK (pdK d Y.ls))
  at_ : ∀ j, j ≤ d → H (Y.ls j) = some (.lst ((F j).map nI))
  inj : ∀ i j, i ≤ d → j ≤ d → Y.ls i = Y.ls j → i = j
  rise : ∀ j, j ≤ d → (F j).Pairwise (· < ·)
  len : ∀ j, j ≤ d → (F j).length ≤ 200000
  d60 : d ≤ 60
theorem pow_inj {i j : Nat} (h : ((2 ^ i : Nat) : Int) = ((2 ^ j : Nat) : Int)) : i = j := by
  have e : 2 ^ i = 2 ^ j := Int.ofNat.inj h
  exact (Nat.pow_right_inj (by decide)).mp e
theorem PoolAt.upd {a : Ad} {Y : YA} {d k : Nat} {F : Nat → List Nat} {H : Hp} {l : List Nat} (h : PoolAt a Y d F H) (hk : k ≤ d) (hl : l.Pairwise (· < ·)) (hz : l.length ≤ 200000) : PoolAt a Y d (setF F k l) (L2.upd H (Y.ls k) (.lst (l.map nI))) := by
  have hk' := h.at_ k hk
  refine ⟨?_, ?_, fun j hj => ?_, h.inj, fun j hj => ?_, fun j hj => ?_, h.d60⟩
  · rw [upd_ne (ne_of h.ob hk' (by intro z; cases z))]
    exact h.ob
  · rw [upd_ne (ne_of h.dk hk' (by intro z; cases z))]
    exact h.dk
  · unfold setF
    by_cases e : j = k
    · subst e
      rw [if_pos rfl]
      exact upd_same
    · rw [if_neg e, upd_ne (fun z => e (h.inj j k hj hk z))]
      exact h.at_ j hj
  · unfold setF
    split
    · exact hl
    · exact h.rise j hj
  · unfold setF
    split
    · exact hz
    · exact h.len j hj
theorem PoolAt.keep {a : Ad} {Y : YA} {d : Nat} {F : Nat → List Nat} {H H' : Hp} (h : PoolAt a Y d F H) (k : ∀ b o, H b = some o → H' b = some o) : PoolAt a Y d F H' :=
  ⟨k _ _ h.ob, k _ _ h.dk, fun j hj => k _ _ (h.at_ j hj), h.inj, h.rise, h.len, h.d60⟩
theorem pdK_get {d k : Nat} {ls : Nat → Addr} (h : k ≤ d) : valV (pdK d ls) (Sum.inl ((2 ^ k : Nat) : Int)) = some (.ref (ls k)) := by
  unfold pdK
  have aux : ∀ l : List Nat, k ∈ l → valV (l.map fun j => ((Sum.inl ((2 ^ j : Nat) : Int) : Key), V.ref (ls j))) (Sum.inl ((2 ^ k : Nat) : Int)) = some (.ref (ls k)) := by
    intro l
    induction l with
    | nil => intro z; cases z
    | cons x l ih =>
      intro z
      unfold valV
      rw [List.map_cons, List.find?_cons]
      by_cases e : x = k
      · subst e
        simp
      · have ne : ¬ (Sum.inl ((2 ^ x : Nat) : Int) : Key) = Sum.inl ((2 ^ k : Nat) : Int) := fun q => e (pow_inj (Sum.inl.inj q))
        rw [decide_eq_false ne]
        exact ih ((List.mem_cons.mp z).resolve_left fun q => e q.symm)
  exact aux _ (List.mem_range.mpr (by omega))
theorem pFs_at (Y : YA) : (pFs Y).lookup ("_places" : Str) = some (.ref Y.pd) := by
  unfold pFs
  rw [lookup_putF, if_pos rfl]
theorem pFs_no (Y : YA) {m : Str} (h : ¬ m = "_places") : (pFs Y).lookup m = none := by
  unfold pFs
  rw [lookup_putF, if_neg h]
  rfl
theorem map_nI_get {l : List Nat} {i x : Nat} (h : l[i]? = some x) : (l.map nI)[i]? = some (nI x) := by rw [List.getElem?_map, h]; rfl
theorem dget_of {H : Hp} {b : Addr} {kvs : List (Key × V)} {i : Int} {v : V} (h : H b = some (.dK kvs)) (e : valV kvs (Sum.inl i) = some v) : DGet H b (.int i) (some v) := by
  have z := DGet.k (k := Sum.inl i) h
  rw [e] at z
  exact z
/-! ### rank, Pool -/
def sp_rank (K : PySem.W.Frag) (a : Ad) : Sp := fun vs H Q _ => ∃ (l : Addr) (x : Nat) (ns : List Nat), vs = [.ref l, nI x] ∧ SqL K H l (ns.map nI) ∧ ns.Pairwise (· < ·) ∧ ns.length ≤ 200000 ∧ Q (nI (rk x ns)) H
def sp_Pool_put (K : PySem.W.Frag) (a : Ad) : Sp := fun vs H Q _ => ∃ (Y : YA) (d x k : Nat) (F : Nat → List Nat), vs = [.ref Y.p, nI x, sI k] ∧ PoolAt a Y d F H ∧ k ≤ d ∧ x ∉ F k ∧ (F k).length < 200000 ∧
  Q .non (L2.upd H (Y.ls k) (.lst ((ins x (F k)).map nI)))
def sp_Pool_drop (K : PySem.W.Frag) (a : Ad) : Sp := fun vs H Q _ => ∃ (Y : YA) (d x k : Nat) (F : Nat → List Nat), vs = [.ref Y.p, nI x, sI k] ∧ PoolAt a Y d F H ∧ k ≤ d ∧ x ∈ F k ∧
  Q .non (L2.upd H (Y.ls k) (.lst ((del x (F k)).map nI)))
def sp_Pool_has (K : PySem.W.Frag) (a : Ad) : Sp := fun vs H Q _ => ∃ (Y : YA) (d x k : Nat) (F : Nat → List Nat), vs = [.ref Y.p, nI x, sI k] ∧ PoolAt a Y d F H ∧ k ≤ d ∧
  Q (.bl (decide (x ∈ F k))) H
section
variable {P : Program} {w : World} {K : PySem.W.Frag} {mg : Str → Option Value} {base : Heap} {a : Ad}
theorem ok_rank (T : Txt K mg a) : FnOk P w K mg base CX0 1 a.f_rank a.d_rank ["places", "at"] (sp_rank K a) := by
  refine T.rank.fn.ok sc_rank (fun vs H Q E h => by first | (obtain ⟨rfl, _⟩ := h; rfl) | (obtain ⟨_, rfl, _⟩ := h; rfl) | (obtain ⟨_, _, rfl, _⟩ := h; rfl) | (obtain ⟨_, _, _, rfl, _⟩ := h; rfl) | (obtain ⟨_, _, _, _, rfl, _⟩ := h; rfl) | (obtain ⟨_, _, _, _, _, rfl, _⟩ := h; rfl) | (obtain ⟨_, _, _, _, _, _, rfl, _⟩ := h; rfl) | (obtain ⟨_, _, _, _, _, _, _, rfl, _⟩ := h; rfl) | (obtain ⟨_, _, _, _, _, _, _, _, rfl, _⟩ := h; rfl) | (obtain ⟨_, _, _, _, _, _, _, _, _, rfl, _⟩ := h; rfl) | (obtain ⟨_, _, _, _, _, _, _, _, _, _, rfl, _⟩ := h; rfl) | (obtain ⟨_, _, _, _, _, _, _, _, _, _, _, rfl, _⟩ := h; rfl)) (fun cdv A outer s H vs Q E hr h => ?_)
  refine ⟨_, pss_cons (ps_set (i := 2) sc_rank.nd rfl (Or.inl rfl) pe_int)
      (pss_cons (ps_set (i := 3) sc_rank.nd rfl (Or.inl rfl) (pe_callB call_len_seq (by rfl) T.z_len PySem.boot_len (pa_cons (pv 0) pa_nil)))
      (pss_cons (ps_while PassesOwn.never (pt_cmpR op_lt (pv 2) (pv 3) (nomark _)) (pss_cons (ps_set (i := 4) sc_rank.nd rfl (Or.inl rfl) (pe_op op_fdiv (pe_op op_add (pv 2) (pv 3)) pe_int))
      (pss_one (ps_if (pt_cmpR op_lt (pe_ix ix_list (pv 0) (pv 4) (fun _ _ => rfl)) (pv 1) (nomark _)) (pss_one (ps_set (i := 2) sc_rank.nd rfl (Or.inl rfl) (pe_op op_add (pv 4) pe_int))) (pss_one (ps_set (i := 3) sc_rank.nd rfl (Or.inl rfl) (pv 4)))))))
      (pss_one (ps_ret (pv 2))))), ?_⟩
  obtain ⟨l, x, ns, rfl, hS, rise, hz, q⟩ := h
  refine ⟨_, rfl, l, _, rfl, .inl hS, ?_⟩
  refine while_by (fun σ H' => H' = H ∧ ∃ (lo hi : Nat) (m : Option V), lo ≤ rk x ns ∧ rk x ns ≤ hi ∧ hi ≤ ns.length ∧ σ = [some (.ref l), some (nI x), some (nI lo), some (nI hi), m])
    (fun σ H' => match σ with | [_, _, some (.int lo), some (.int hi), _] => (hi - lo).toNat | _ => 0) ⟨rfl, 0, ns.length, none, Nat.zero_le _, rk_le _ _, Nat.le_refl _, ?_⟩ ?_ ?_
  · rw [List.length_map]
    rfl
  · rintro σ H' ⟨rfl, lo, hi, m, h1, h2, h3, rfl⟩
    refine ⟨_, rfl, _, rfl, _, _, rfl, rfl, _, rfl, ?_⟩
    by_cases c : lo < hi
    · refine iteTof (decide_eq_true (by omega)) ?_
      refine ⟨_, rfl, _, rfl, _, _, rfl, rfl, _, _, rfl, rfl, ⟨by decide, by decide⟩, ?_⟩
      have em : ((lo : Int) + (hi : Int)) / 2 = (((lo + hi) / 2 : Nat) : Int) := by omega
      generalize hmid : (lo + hi) / 2 = mid at em
      have mlt : mid < ns.length := by omega
      obtain ⟨v, hv⟩ : ∃ v, ns[mid]? = some v := ⟨_, List.getElem?_eq_getElem mlt⟩
      refine ⟨_, rfl, _, rfl, l, _, _, nI v, rfl, rfl, hS, at_of (j := mid) em (map_nI_get hv), _, rfl, _, _, rfl, rfl, _, rfl, ?_⟩
      have cmp := rk_lt (x := x) rise hv
      by_cases c2 : v < x
      · refine iteTof (decide_eq_true (by omega)) ?_
        have := cmp.mp c2
        refine ⟨_, rfl, _, _, rfl, rfl, ?_⟩
        refine ⟨⟨rfl, mid + 1, hi, some (.int (((lo : Int) + (hi : Int)) / 2)), by omega, h2, h3, ?_⟩, ?_⟩
        · show [some (V.ref l), some (nI x), some (V.int (((lo : Int) + (hi : Int)) / 2 + 1)), some (nI hi), some (V.int (((lo : Int) + (hi : Int)) / 2))] = _
          rw [em]
          rfl
        · show ((hi : Int) - (((lo : Int) + (hi : Int)) / 2 + 1)).toNat < ((hi : Int) - (lo : Int)).toNat
          omega
      · refine iteFof (decide_eq_false (by omega)) ?_
        have : ¬ mid < rk x ns := fun z => c2 (cmp.mpr z)
        refine ⟨_, rfl, ?_⟩
        refine ⟨⟨rfl, lo, mid, some (.int (((lo : Int) + (hi : Int)) / 2)), h1, by omega, by omega, ?_⟩, ?_⟩
        · show [some (V.ref l), some (nI x), some (nI lo), some (V.int (((lo : Int) + (hi : Int)) / 2)), some (V.int (((lo : Int) + (hi : Int)) / 2))] = _
          rw [em]
          rfl
        · show ((((lo : Int) + (hi : Int)) / 2) - (lo : Int)).toNat < ((hi : Int) - (lo : Int)).toNat
          omega
    · refine iteFof (decide_eq_false (by omega)) ?_
      have e : lo = rk x ns := by omega
      subst e
      exact ⟨_, rfl, q⟩
  · rintro σ H' Q1 Q2 hQ ⟨v, hv, y, hy, i, j, e1, e2, k, ek, h⟩
    exact ⟨v, hv, y, hy, i, j, e1, e2, k, ek, by cases k <;> exact hQ _ _ (by simpa using h)⟩
end
section
variable {P : Program} {w : World} {K : PySem.W.Frag} {mg : Str → Option Value} {base : Heap} {a : Ad}
theorem ok_Pool_put (T : Txt K mg a) : FnOk P w K mg base CX0 2 a.f_Pool_put a.d_Pool_put ["self", "at", "size"] (sp_Pool_put K a) := by
  have G_rank : FnOk P w K mg base CX0 1 a.f_rank a.d_rank ["places", "at"] (sp_rank K a) := ok_rank T
  refine T.Pool_put.ok sc_Pool_put (fun vs H Q E h => by first | (obtain ⟨rfl, _⟩ := h; rfl) | (obtain ⟨_, rfl, _⟩ := h; rfl) | (obtain ⟨_, _, rfl, _⟩ := h; rfl) | (obtain ⟨_, _, _, rfl, _⟩ := h; rfl) | (obtain ⟨_, _, _, _, rfl, _⟩ := h; rfl) | (obtain ⟨_, _, _, _, _, rfl, _⟩ := h; rfl) | (obtain ⟨_, _, _, _, _, _, rfl, _⟩ := h; rfl) | (obtain ⟨_, _, _, _, _, _, _, rfl, _⟩ := h; rfl) | (obtain ⟨_, _, _, _, _, _, _, _, rfl, _⟩ := h; rfl) | (obtain ⟨_, _, _, _, _, _, _, _, _, rfl, _⟩ := h; rfl) | (obtain ⟨_, _, _, _, _, _, _, _, _, _, rfl, _⟩ := h; rfl) | (obtain ⟨_, _, _, _, _, _, _, _, _, _, _, rfl, _⟩ := h; rfl)) (fun cdv A outer s H vs Q E hr h => ?_)
  refine ⟨_, pss_cons (ps_set (i := 3) sc_Pool_put.nd rfl (Or.inl rfl) (pe_dget (hu_of hr) (pe_fld (pv 0) rfl) (pv 2) (fun _ _ => rfl)))
      (pss_one (ps_expr (pe_bm PySem.F.plainAttrs_list PySem.F.slot_list_insert PySem.F.type_list_insert mt_insert (pv 3) (pa_cons (pe_call G_rank (hr.mono (by decide)) rfl T.rank.mg T.rank.fn.kp T.rank.bd .nil pass0 (pa_cons (pv 3) (pa_cons (pv 1) pa_nil))) (pa_cons (pv 1) pa_nil))))), ?_⟩
  obtain ⟨Y, d, x, k, F, rfl, po, hk, hx, hlen, q⟩ := h
  have hl := po.at_ k hk
  have lk : ((F k).map nI).length < sizeLine := by
    rw [List.length_map, sizeLine_eq]
    omega
  refine ⟨_, rfl, Y.p, a.c_Pool, Y.dp, _, _, rfl, po.ob, T.cl_Pool, T.n_Pool__places, pFs_at Y, _, rfl, Y.pd, _, rfl, dget_of po.dk (pdK_get hk), ?_⟩
  refine ⟨_, rfl, .inl ⟨rfl, _, SqL.of hl⟩, _, rfl, _, rfl, Y.ls k, x, F k, rfl, SqL.of hl, po.rise k hk, by omega, _, rfl, Y.ls k, _, _, _, rfl, rfl, hl, lk, by omega, ?_, ?_⟩
  · have := rk_le x (F k)
    have : (rk x (F k) : Int) < 2 ^ 63 := by
      show (rk x (F k) : Int) < 9223372036854775808
      omega
    exact this
  · rw [Int.toNat_natCast, ← List.map_take, ← List.map_drop]
    rw [← ins_eq (po.rise k hk) hx, List.map_append, List.map_append] at q
    exact q
theorem ok_Pool_drop (T : Txt K mg a) : FnOk P w K mg base CX0 2 a.f_Pool_drop a.d_Pool_drop ["self", "at", "size"] (sp_Pool_drop K a) := by
  have G_rank : FnOk P w K mg base CX0 1 a.f_rank a.d_rank ["places", "at"] (sp_rank K a) := ok_rank T
  refine T.Pool_drop.ok sc_Pool_drop (fun vs H Q E h => by first | (obtain ⟨rfl, _⟩ := h; rfl) | (obtain ⟨_, rfl, _⟩ := h; rfl) | (obtain ⟨_, _, rfl, _⟩ := h; rfl) | (obtain ⟨_, _, _, rfl, _⟩ := h; rfl) | (obtain ⟨_, _, _, _, rfl, _⟩ := h; rfl) | (obtain ⟨_, _, _, _, _, rfl, _⟩ := h; rfl) | (obtain ⟨_, _, _, _, _, _, rfl, _⟩ := h; rfl) | (obtain ⟨_, _, _, _, _, _, _, rfl, _⟩ := h; rfl) | (obtain ⟨_, _, _, _, _, _, _, _, rfl, _⟩ := h; rfl) | (obtain ⟨_, _, _, _, _, _, _, _, _, rfl, _⟩ := h; rfl) | (obtain ⟨_, _, _, _, _, _, _, _, _, _, rfl, _⟩ := h; rfl) | (obtain ⟨_, _, _, _, _, _, _, _, _, _, _, rfl, _⟩ := h; rfl)) (fun cdv A outer s H vs Q E hr h => ?_)
  refine ⟨_, pss_cons (ps_set (i := 3) sc_Pool_drop.nd rfl (Or.inl rfl) (pe_dget (hu_of hr) (pe_fld (pv 0) rfl) (pv 2) (fun _ _ => rfl)))
      (pss_one (ps_delL (pv 3) (pe_call G_rank (hr.mono (by decide)) rfl T.rank.mg T.rank.fn.kp T.rank.bd .nil pass0 (pa_cons (pv 3) (pa_cons (pv 1) pa_nil))))), ?_⟩
  obtain ⟨Y, d, x, k, F, rfl, po, hk, hx, q⟩ := h
  have hl := po.at_ k hk
  have rl : rk x (F k) < (F k).length := (List.getElem?_eq_some_iff.mp ((rk_at (po.rise k hk)).mpr hx)).1
  have lm := po.len k hk
  refine ⟨_, rfl, Y.p, a.c_Pool, Y.dp, _, _, rfl, po.ob, T.cl_Pool, T.n_Pool__places, pFs_at Y, _, rfl, Y.pd, _, rfl, dget_of po.dk (pdK_get hk), ?_⟩
  refine ⟨_, rfl, _, rfl, _, rfl, Y.ls k, x, F k, rfl, SqL.of hl, po.rise k hk, lm, Y.ls k, _, _, rk x (F k), rfl, rfl, hl, ?_, ?_, ?_, ?_⟩
  · show -9223372036854775808 ≤ (rk x (F k) : Int)
    omega
  · show (rk x (F k) : Int) < 9223372036854775808
    omega
  · rw [List.length_map]
    unfold seqIndex?
    simp
    omega
  · rw [← del_eq (po.rise k hk) hx, DT.map_erase] at q
    exact q
theorem ok_Pool_has (T : Txt K mg a) : FnOk P w K mg base CX0 2 a.f_Pool_has a.d_Pool_has ["self", "at", "size"] (sp_Pool_has K a) := by
  have G_rank : FnOk P w K mg base CX0 1 a.f_rank a.d_rank ["places", "at"] (sp_rank K a) := ok_rank T
  refine T.Pool_has.ok sc_Pool_has (fun vs H Q E h => by first | (obtain ⟨rfl, _⟩ := h; rfl) | (obtain ⟨_, rfl, _⟩ := h; rfl) | (obtain ⟨_, _, rfl, _⟩ := h; rfl) | (obtain ⟨_, _, _, rfl, _⟩ := h; rfl) | (obtain ⟨_, _, _, _, rfl, _⟩ := h; rfl) | (obtain ⟨_, _, _, _, _, rfl, _⟩ := h; rfl) | (obtain ⟨_, _, _, _, _, _, rfl, _⟩ := h; rfl) | (obtain ⟨_, _, _, _, _, _, _, rfl, _⟩ := h; rfl) | (obtain ⟨_, _, _, _, _, _, _, _, rfl, _⟩ := h; rfl) | (obtain ⟨_, _, _, _, _, _, _, _, _, rfl, _⟩ := h; rfl) | (obtain ⟨_, _, _, _, _, _, _, _, _, _, rfl, _⟩ := h; rfl) | (obtain ⟨_, _, _, _, _, _, _, _, _, _, _, rfl, _⟩ := h; rfl)) (fun cdv A outer s H vs Q E hr h => ?_)
  refine ⟨_, pss_cons (ps_set (i := 3) sc_Pool_has.nd rfl (Or.inl rfl) (pe_dget (hu_of hr) (pe_fld (pv 0) rfl) (pv 2) (fun _ _ => rfl)))
      (pss_cons (ps_set (i := 4) sc_Pool_has.nd rfl (Or.inl rfl) (pe_call G_rank (hr.mono (by decide)) rfl T.rank.mg T.rank.fn.kp T.rank.bd .nil pass0 (pa_cons (pv 3) (pa_cons (pv 1) pa_nil))))
      (pss_one (ps_ret (pe_and (pe_cmpR op_lt (pv 4) (pe_callB call_len_seq (by rfl) T.z_len PySem.boot_len (pa_cons (pv 3) pa_nil)) (nomark _)) (pe_one (pe_cmpR op_eq (pe_ix ix_list (pv 3) (pv 4) (fun _ _ => rfl)) (pv 1) (nomark _))))))), ?_⟩
  obtain ⟨Y, d, x, k, F, rfl, po, hk, q⟩ := h
  have hl := po.at_ k hk
  have lm := po.len k hk
  refine ⟨_, rfl, Y.p, a.c_Pool, Y.dp, _, _, rfl, po.ob, T.cl_Pool, T.n_Pool__places, pFs_at Y, _, rfl, Y.pd, _, rfl, dget_of po.dk (pdK_get hk), ?_⟩
  refine ⟨_, rfl, _, rfl, Y.ls k, x, F k, rfl, SqL.of hl, po.rise k hk, lm, ?_⟩
  refine ⟨_, rfl, _, rfl, Y.ls k, _, rfl, .inl (SqL.of hl), _, _, rfl, rfl, _, rfl, ?_⟩
  rw [List.length_map]
  by_cases c : rk x (F k) < (F k).length
  · refine iteTof (decide_eq_true (by omega)) ?_
    obtain ⟨v, hv⟩ : ∃ v, (F k)[rk x (F k)]? = some v := ⟨_, List.getElem?_eq_getElem c⟩
    refine ⟨_, rfl, _, rfl, Y.ls k, _, _, nI v, rfl, rfl, SqL.of hl, atI_nat (map_nI_get hv), _, rfl, rfl, ?_⟩
    have e : decide (nI v = nI x) = decide (x ∈ F k) := by
      rw [decide_eq_decide, ← rk_at (po.rise k hk), hv]
      constructor
      · intro z
        have z2 : (v : Int) = (x : Int) := by injection z
        have : v = x := by omega
        rw [this]
      · intro z
        rw [Option.some.inj z]
    show Q (.bl (decide (nI v = nI x))) _
    rw [e]
    exact q
  · refine iteFof (decide_eq_false (by omega)) ?_
    have e : decide (x ∈ F k) = false := by
      rw [decide_eq_false_iff_not, ← rk_at (po.rise k hk)]
      intro z
      exact c (List.getElem?_eq_some_iff.mp z).1
    rw [e] at q
    exact q
end
/-! ### Pool() -/
def pdN (n : Nat) (ls : Nat → Addr) : List (Key × V) := (List.range n).map fun j => (Sum.inl ((2 ^ j : Nat) : Int), V.ref (ls j))
theorem pdN_congr {n : Nat} {ls ls' : Nat → Addr} (h : ∀ j, j < n → ls j = ls' j) : pdN n ls = pdN n ls' := by
  unfold pdN
  refine List.map_congr_left fun j hj => ?_
  rw [h j (List.mem_range.mp hj)]
theorem pdN_none {n : Nat} {ls : Nat → Addr} : valV (pdN n ls) (Sum.inl ((2 ^ n : Nat) : Int)) = none := by
  unfold pdN
  have aux : ∀ l : List Nat, (∀ j ∈ l, j < n) → valV (l.map fun j => ((Sum.inl ((2 ^ j : Nat) : Int) : Key), V.ref (ls j))) (Sum.inl ((2 ^ n : Nat) : Int)) = none := by
    intro l
    induction l with
    | nil => intro _; rfl
    | cons x l ih =>
      intro h
      have ne : ¬ (Sum.inl ((2 ^ x : Nat) : Int) : Key) = Sum.inl ((2 ^ n : Nat) : Int) := fun q => by
        have := pow_inj (Sum.inl.inj q)
        have := h x List.mem_cons_self
        omega
      rw [List.map_cons, valV_neg ne]
      exact ih fun j hj => h j (List.mem_cons_of_mem _ hj)
  exact aux _ fun j hj => List.mem_range.mp hj
def setL (ls : Nat → Addr) (n : Nat) (l : Addr) : Nat → Addr := fun j => if j = n then l else ls j
theorem setL_at {ls : Nat → Addr} {n : Nat} {l : Addr} : setL ls n l n = l := if_pos rfl
theorem setL_ne {ls : Nat → Addr} {n j : Nat} {l : Addr} (h : j ≠ n) : setL ls n l j = ls j := if_neg h
theorem pdN_put {n : Nat} {ls : Nat → Addr} {l : Addr} : putK (pdN n ls) (Sum.inl ((2 ^ n : Nat) : Int)) (.ref l) = pdN (n + 1) (setL ls n l) := by
  rw [putK_new _ pdN_none]
  have e : pdN n ls = pdN n (setL ls n l) := pdN_congr fun j hj => (setL_ne (by omega)).symm
  rw [e]
  unfold pdN
  rw [List.range_succ, List.map_append, List.map_cons, List.map_nil, setL_at]
theorem pow60 {d : Nat} (h : d ≤ 60) : 2 ^ d ≤ 1152921504606846976 := by
  have := Nat.pow_le_pow_right (n := 2) (by decide) h
  exact this
def sp_Pool_init (K : PySem.W.Frag) (a : Ad) : Sp := fun vs H Q _ => ∃ (p dp : Addr) (d : Nat), vs = [.ref p, sI d] ∧ H p = some (.ins a.c_Pool dp []) ∧ d ≤ 60 ∧
  ∀ (pd : Addr) (ls : Nat → Addr) (H' : Hp), (∀ y sd dy, PoolAt a ⟨y, sd, p, pd, dy, dp, ls⟩ d (fun _ => []) H') → H pd = none → (∀ j, j ≤ d → H (ls j) = none) → Only [p] H H' → Q .non H'
section
variable {P : Program} {w : World} {K : PySem.W.Frag} {mg : Str → Option Value} {base : Heap} {a : Ad}
theorem ok_Pool_init (T : Txt K mg a) : FnOk P w K mg base CX0 1 a.f_Pool_init a.d_Pool_init ["self", "cells"] (sp_Pool_init K a) := by
  refine T.Pool_init.ok sc_Pool_init (fun vs H Q E h => by first | (obtain ⟨rfl, _⟩ := h; rfl) | (obtain ⟨_, rfl, _⟩ := h; rfl) | (obtain ⟨_, _, rfl, _⟩ := h; rfl) | (obtain ⟨_, _, _, rfl, _⟩ := h; rfl) | (obtain ⟨_, _, _, _, rfl, _⟩ := h; rfl) | (obtain ⟨_, _, _, _, _, rfl, _⟩ := h; rfl) | (obtain ⟨_, _, _, _, _, _, rfl, _⟩ := h; rfl) | (obtain ⟨_, _, _, _, _, _, _, rfl, _⟩ := h; rfl) | (obtain ⟨_, _, _, _, _, _, _, _, rfl, _⟩ := h; rfl) | (obtain ⟨_, _, _, _, _, _, _, _, _, rfl, _⟩ := h; rfl) | (obtain ⟨_, _, _, _, _, _, _, _, _, _, rfl, _⟩ := h; rfl) | (obtain ⟨_, _, _, _, _, _, _, _, _, _, _, rfl, _⟩ := h; rfl)) (fun cdv A outer s H vs Q E hr h => ?_)
  refine ⟨_, pss_cons (ps_fld (pv 0) pe_dnewK rfl)
      (pss_cons (ps_set (i := 2) sc_Pool_init.nd rfl (Or.inl rfl) pe_int)
      (pss_one (ps_while PassesOwn.never (pt_cmpR op_le (pv 2) (pv 1) (nomark _)) (pss_cons (ps_dput (hu_of hr) (pe_fld (pv 0) rfl) (pv 2) (pe_lst pa_nil) rfl)
      (pss_one (ps_aug (i := 2) sc_Pool_init.nd rfl (Or.inl rfl) pe_int ip_mulX)))))), ?_⟩
  obtain ⟨p, dp, d, rfl, hp, hd, q⟩ := h
  intro pd npd
  have ppd : p ≠ pd := ne_of_none hp npd
  refine ⟨_, rfl, p, a.c_Pool, dp, [], rfl, (by rw [upd_ne ppd]; exact hp), T.cl_Pool, T.n_Pool__places, (by show 0 < 1000; decide), ?_⟩
  -- between two turns
  refine while_by (fun σ H' => ∃ (n : Nat) (ls : Nat → Addr), n ≤ d + 1 ∧ σ = [some (.ref p), some (sI d), some (sI n)] ∧ H' p = some (.ins a.c_Pool dp (putF "_places" (.ref pd) [])) ∧ H' pd = some (.dK (pdN n ls)) ∧
      (∀ j, j < n → H' (ls j) = some (.lst []) ∧ H (ls j) = none) ∧ (∀ i j, i < n → j < n → ls i = ls j → i = j) ∧ Only [p] H H')
    (fun σ H' => match σ with | [_, some (.int hi), some (.int lo)] => (hi + 1 - lo).toNat | _ => 0) ⟨0, fun _ => 0, by omega, rfl, upd_same, ?_, fun j h => by omega, fun i j h => by omega, ?_⟩ ?_ ?_
  · rw [upd_ne ppd.symm, upd_same]
    rfl
  · exact (Only.new (S := [p]) _ npd).trans (Only.upd _ (by simp))
  · rintro σ H' ⟨n, ls, hn, rfl, h1, h2, h3, h4, h5⟩
    have hpn : 0 < 2 ^ n := Nat.pow_pos (by decide)
    refine ⟨_, rfl, _, rfl, _, _, rfl, rfl, _, rfl, ?_⟩
    by_cases c : n ≤ d
    · have hle : 2 ^ n ≤ 2 ^ d := Nat.pow_le_pow_right (by decide) c
      refine iteTof (decide_eq_true (by omega)) ?_
      refine ⟨by show 0 ≤ sizeLine; omega, fun l hl => ?_⟩
      have npl : p ≠ l := ne_of_none h1 hl
      have ndl : pd ≠ l := ne_of_none h2 hl
      refine ⟨_, rfl, p, a.c_Pool, dp, _, _, rfl, (by rw [upd_ne npl]; exact h1), T.cl_Pool, T.n_Pool__places, (by rw [lookup_putF, if_pos rfl]), _, rfl, pd, _, rfl, DPut.k (k := Sum.inl ((2 ^ n : Nat) : Int)) (by rw [upd_ne ndl]; exact h2) (by
        unfold pdN
        rw [List.length_map, List.length_range, sizeLine_eq]
        omega), ?_⟩
      have p60 := pow60 (show n ≤ 60 by omega)
      refine ⟨_, rfl, _, _, rfl, rfl, mulx_ok (a := 61) (b := 3) (by rw [Int.natAbs_natCast]; exact Nat.lt_of_le_of_lt p60 (by decide)) (by decide) (by decide), ?_⟩
      have ez : ((2 ^ n : Nat) : Int) * 2 = ((2 ^ (n + 1) : Nat) : Int) := by rw [Nat.pow_succ, Int.natCast_mul]; rfl
      refine ⟨⟨n + 1, setL ls n l, by omega, ?_, ?_, ?_, ?_, ?_, ?_⟩, ?_⟩
      · show [some (V.ref p), some (sI d), some (V.int (((2 ^ n : Nat) : Int) * 2))] = _
        rw [ez]
      · rw [upd_ne ppd, upd_ne npl]
        exact h1
      · rw [← pdN_put]
        exact upd_same
      · intro j hj
        by_cases e : j = n
        · subst e
          rw [setL_at]
          refine ⟨by rw [upd_ne ndl.symm]; exact upd_same, ?_⟩
          refine Classical.byContradiction fun z => ?_
          obtain ⟨o, ho⟩ := Option.ne_none_iff_exists'.mp z
          rw [h5 l o ho (by simp [npl.symm])] at hl
          cases hl
        · rw [setL_ne e]
          obtain ⟨g1, g2⟩ := h3 j (by omega)
          refine ⟨?_, g2⟩
          rw [upd_ne (ne_of g1 h2 (by intro z; cases z)), upd_ne (ne_of_none g1 hl)]
          exact g1
      · intro i j hi hj e
        have ne : ∀ m, m < n → ls m ≠ l := fun m hm z => by
          have := (h3 m hm).1
          rw [z, hl] at this
          cases this
        by_cases e1 : i = n
        · by_cases e2 : j = n
          · omega
          · rw [e1, setL_at, setL_ne e2] at e
            exact absurd e.symm (ne j (by omega))
        · by_cases e2 : j = n
          · rw [e2, setL_at, setL_ne e1] at e
            exact absurd e (ne i (by omega))
          · rw [setL_ne e1, setL_ne e2] at e
            exact h4 i j (by omega) (by omega) e
      · intro b o e nb
        have g := h5 b o e nb
        rw [upd_ne, upd_ne (ne_of_none g hl)]
        · exact g
        · exact ne_of_none e npd
      · show (((2 ^ d : Nat) : Int) + 1 - ((2 ^ n : Nat) : Int) * 2).toNat < (((2 ^ d : Nat) : Int) + 1 - ((2 ^ n : Nat) : Int)).toNat
        omega
    · have e : n = d + 1 := by omega
      subst e
      have hle : 2 ^ d < 2 ^ (d + 1) := Nat.pow_lt_pow_right (by decide) (by omega)
      refine iteFof (decide_eq_false (by omega)) ?_
      refine q pd ls H' (fun y sd dy => ⟨h1, h2, fun j hj => (h3 j (by omega)).1, fun i j hi hj => h4 i j (by omega) (by omega), fun j hj => List.Pairwise.nil, fun j hj => Nat.zero_le _, hd⟩) npd (fun j hj => (h3 j (by omega)).2) h5
  · rintro σ H' Q1 Q2 hQ ⟨v, hv, y, hy, i, j, e1, e2, k, ek, h⟩
    exact ⟨v, hv, y, hy, i, j, e1, e2, k, ek, by cases k <;> exact hQ _ _ (by simpa using h)⟩
end
/-! ### Pool.best, Pool.pieces -/
def sp_Pool_best (K : PySem.W.Frag) (a : Ad) : Sp := fun vs H Q _ => ∃ (Y : YA) (d k : Nat) (F : Nat → List Nat), vs = [.ref Y.p, sI k] ∧ PoolAt a Y d F H ∧
  ((∀ j, k ≤ j → j ≤ d → F j = []) → ∀ H', (∀ b o, H b = some o → H' b = some o) → Q .non H') ∧
  (∀ j x r, k ≤ j → j ≤ d → (∀ i, k ≤ i → i < j → F i = []) → F j = x :: r → ∀ t H', (∀ b o, H b = some o → H' b = some o) → H' t = some (.tup [nI x, sI j]) → Q (.ref t) H')
theorem pdK_at {d i : Nat} {ls : Nat → Addr} (h : i ≤ d) : (pdK d ls)[i]? = some (Sum.inl ((2 ^ i : Nat) : Int), V.ref (ls i)) := by
  unfold pdK
  rw [List.getElem?_map, List.getElem?_range (by omega)]
  rfl
theorem pdK_len {d : Nat} {ls : Nat → Addr} : (pdK d ls).length = d + 1 := by
  unfold pdK
  rw [List.length_map, List.length_range]
theorem unlock {H H' : Hp} {b : Addr} {u v : HO} (h : H b = some u) (k : ∀ c o, L2.upd H b v c = some o → H' c = some o) : ∀ c o, H c = some o → L2.upd H' b u c = some o := by
  intro c o e
  by_cases z : c = b
  · subst z
    rw [upd_same, ← e, h]
  · rw [upd_ne z]
    exact k c o (by rw [upd_ne z]; exact e)
section
variable {P : Program} {w : World} {K : PySem.W.Frag} {mg : Str → Option Value} {base : Heap} {a : Ad}
theorem ok_Pool_best (T : Txt K mg a) : FnOk P w K mg base CX0 1 a.f_Pool_best a.d_Pool_best ["self", "size"] (sp_Pool_best K a) := by
  refine T.Pool_best.ok sc_Pool_best (fun vs H Q E h => by first | (obtain ⟨rfl, _⟩ := h; rfl) | (obtain ⟨_, rfl, _⟩ := h; rfl) | (obtain ⟨_, _, rfl, _⟩ := h; rfl) | (obtain ⟨_, _, _, rfl, _⟩ := h; rfl) | (obtain ⟨_, _, _, _, rfl, _⟩ := h; rfl) | (obtain ⟨_, _, _, _, _, rfl, _⟩ := h; rfl) | (obtain ⟨_, _, _, _, _, _, rfl, _⟩ := h; rfl) | (obtain ⟨_, _, _, _, _, _, _, rfl, _⟩ := h; rfl) | (obtain ⟨_, _, _, _, _, _, _, _, rfl, _⟩ := h; rfl) | (obtain ⟨_, _, _, _, _, _, _, _, _, rfl, _⟩ := h; rfl) | (obtain ⟨_, _, _, _, _, _, _, _, _, _, rfl, _⟩ := h; rfl) | (obtain ⟨_, _, _, _, _, _, _, _, _, _, _, rfl, _⟩ := h; rfl)) (fun cdv A outer s H vs Q E hr h => ?_)
  refine ⟨_, pss_cons (ps_lock (ps_for PassesOwn.never rfl (pi_items (pe_fld (pv 0) rfl)) (pg_tup rfl (pgs_cons (pg_name (i := 2) sc_Pool_best.nd rfl (Or.inl rfl)) (pgs_cons (pg_name (i := 3) sc_Pool_best.nd rfl (Or.inl rfl)) pgs_nil))) (pss_one (ps_if (PW.pt (pw_and (pt_cmpR op_ge (pv 2) (pv 1) (nomark _)) (pw_and1 (pt_truth (pv 3) (by intro _; rfl))))) (pss_one (ps_ret (pe_tup (pa_cons (pe_ix ix_list (pv 3) pe_int (fun _ _ => rfl)) (pa_cons (pv 2) pa_nil))))) pss_nil))))
      (pss_one (ps_ret pe_non)), ?_⟩
  obtain ⟨Y, d, k, F, rfl, po, q0, q1⟩ := h
  refine ⟨Y.pd, _, po.dk, trivial, fun od => ?_⟩
  have npd : Y.p ≠ Y.pd := ne_of po.ob po.dk (by intro z; cases z)
  have nls : ∀ j, j ≤ d → Y.ls j ≠ Y.pd := fun j hj => ne_of (po.at_ j hj) po.dk (by intro z; cases z)
  refine ⟨_, rfl, Y.p, a.c_Pool, Y.dp, _, _, rfl, (by rw [upd_ne npd]; exact po.ob), T.cl_Pool, T.n_Pool__places, pFs_at Y, Y.pd, od, _, rfl, upd_same, ?_⟩
  refine for_it walk_items (fun i σ H' => (∃ x3 x4, σ = [some (.ref Y.p), some (sI k), x3, x4]) ∧ (∀ j, k ≤ j → j < i → F j = []) ∧ (∀ b o, L2.upd H Y.pd (.frz od (.dK (pdK d Y.ls))) b = some o → H' b = some o))
    ⟨⟨none, none, rfl⟩, fun j h1 h2 => by omega, fun b o e => e⟩ (fun i σ H' _ p => p.2.2 _ _ upd_same) ?_ ?_
  · rintro i x σ H1 H2 hi ⟨⟨x3, x4, rfl⟩, none_yet, same⟩ ⟨t, u, v, rfl, new, rfl, eu, ev⟩
    rw [pdK_len] at hi
    dsimp only at eu ev
    rw [pdK_at (by omega)] at eu ev
    have eu : sI i = u := Option.some.inj eu
    have ev : V.ref (Y.ls i) = v := Option.some.inj ev
    subst eu ev
    have hat : H1 (Y.ls i) = some (.lst ((F i).map nI)) := same _ _ (by rw [upd_ne (nls i (by omega))]; exact po.at_ i (by omega))
    have hpd : H1 Y.pd = some (.frz od (.dK (pdK d Y.ls))) := same _ _ upd_same
    refine ⟨t, _, rfl, SqT.of upd_same, rfl, _, _, rfl, _, _, rfl, rfl, ?_⟩
    refine ⟨_, rfl, _, rfl, _, _, rfl, rfl, _, rfl, ?_⟩
    have grow : ∀ b o, L2.upd H Y.pd (.frz od (.dK (pdK d Y.ls))) b = some o → L2.upd H1 t (.tup [sI i, .ref (Y.ls i)]) b = some o := fun b o e => by
      have z := same b o e
      rw [upd_ne (ne_of_none z new)]
      exact z
    by_cases c : k ≤ i
    · have hle : 2 ^ k ≤ 2 ^ i := Nat.pow_le_pow_right (by decide) c
      refine iteTof (decide_eq_true (show ((2 ^ i : Nat) : Int) ≥ ((2 ^ k : Nat) : Int) by omega)) ?_
      refine ⟨_, rfl, _, .inl ⟨_, SqL.of (by rw [upd_ne (ne_of_none hat new)]; exact hat), rfl⟩, ?_⟩
      cases hF : F i with
      | nil =>
        refine iteFof rfl ?_
        refine ⟨⟨_, _, rfl⟩, fun j h1 h2 => ?_, grow⟩
        by_cases e : j = i
        · rw [e]; exact hF
        · exact none_yet j h1 (by omega)
      | cons y r =>
        refine iteTof rfl ?_
        refine ⟨_, rfl, Y.ls i, _, _, nI y, rfl, rfl, SqL.of (by rw [upd_ne (ne_of_none hat new)]; exact hat), at_of (j := 0) rfl (by rw [hF]; rfl), _, rfl, by show 2 ≤ sizeLine; decide, fun t2 ht2 => ?_⟩
        have hpd2 := grow _ _ (upd_same : L2.upd H Y.pd (.frz od (.dK (pdK d Y.ls))) Y.pd = _)
        have n2 : t2 ≠ Y.pd := fun z => by rw [z, hpd2] at ht2; cases ht2
        refine ⟨by rw [upd_ne n2.symm]; exact hpd2, ?_⟩
        refine q1 i y r c (by omega) none_yet hF t2 _ (unlock (v := .frz od (.dK (pdK d Y.ls))) po.dk fun b o e => ?_) ?_
        · have z := grow b o e
          rw [upd_ne (ne_of_none z ht2)]
          exact z
        · rw [upd_ne n2]
          exact upd_same
    · have hlt : 2 ^ i < 2 ^ k := Nat.pow_lt_pow_right (by decide) (by omega)
      refine iteFof (decide_eq_false (show ¬ ((2 ^ i : Nat) : Int) ≥ ((2 ^ k : Nat) : Int) by omega)) ?_
      exact ⟨⟨_, _, rfl⟩, fun j h1 h2 => by omega, grow⟩
  · rintro σ H1 ⟨_, none_yet, same⟩
    rw [pdK_len] at none_yet
    exact ⟨same _ _ upd_same, q0 (fun j h1 h2 => none_yet j h1 (by omega)) _ (unlock (v := .frz od (.dK (pdK d Y.ls))) po.dk same)⟩
end
/-! ### Pool.pieces -/
section
variable {J : It} {n : Nat} {G : Hp → Prop} {Y : Nat → Hp → V → Hp → Prop}
/-- a walk of a comprehension, whatever its turn is -/
theorem lc_out (wk : Walk J n G Y) {H0 : Hp} {Qd : Hp → Prop} {B : (Hp → Prop) → V → Hp → Prop} (Pv : Nat → Hp → Prop) (h0 : Pv 0 H0) (hG : ∀ i H, i ≤ n → Pv i H → G H)
    (hs : ∀ i x H H', i < n → Pv i H → Y i H x H' → B (Pv (i + 1)) x H') (hd : ∀ H, Pv n H → Qd H) :
    ∃ W : Nat → Nat → Hp → Prop, (∃ m, W 0 m H0) ∧ ∀ i m H, W i m H → (J.stop i H ∧ Qd H) ∨ (J.go i H ∧ ∃ Nx : Hp → Prop, (∀ H', Nx H' → ∃ m', m' < m ∧ W (i + 1) m' H') ∧ ∀ x H', J.yld i H x H' → B Nx x H') := by
  refine ⟨fun i m H => m = n - i ∧ i ≤ n ∧ Pv i H, ⟨n, by simp, Nat.zero_le _, h0⟩, ?_⟩
  intro i m H holds
  obtain ⟨rfl, le, pv⟩ := holds
  have g := hG i H le pv
  rcases Nat.lt_or_ge i n with lt | ge
  · exact .inr ⟨wk.goes i H lt g, Pv (i + 1), fun H' pv' => ⟨n - (i + 1), by omega, rfl, lt, pv'⟩, fun x H' y => hs i x H H' lt pv (wk.yields i H x H' lt g y)⟩
  · obtain rfl : i = n := by omega
    exact .inl ⟨wk.stops H g, hd H pv⟩
end
/-- the free pieces, by rising sizes -/
def allN (n : Nat) (F : Nat → List Nat) : List PI2 := (List.range n).flatMap fun j => (F j).map fun (x : Nat) => ((x : Int), ((2 ^ j : Nat) : Int))
theorem allN_succ (n : Nat) (F : Nat → List Nat) : allN (n + 1) F = allN n F ++ (F n).map fun (x : Nat) => ((x : Int), ((2 ^ n : Nat) : Int)) := by
  unfold allN
  rw [List.range_succ, List.flatMap_append]
  simp
theorem allN_len {n b : Nat} {F : Nat → List Nat} : (∀ j, j < n → (F j).length ≤ b) → (allN n F).length ≤ n * b := by
  induction n with
  | zero => intro _; exact Nat.zero_le _
  | succ n ih =>
    intro h
    rw [allN_succ, List.length_append, List.length_map, Nat.succ_mul]
    exact Nat.add_le_add (ih fun j hj => h j (by omega)) (h n (by omega))
def sp_Pool_pieces (K : PySem.W.Frag) (a : Ad) : Sp := fun vs H Q _ => ∃ (Y : YA) (d : Nat) (F : Nat → List Nat), vs = [.ref Y.p] ∧ PoolAt a Y d F H ∧
  ∀ (l : Addr) (us : List Addr) (H' : Hp), (∀ b o, H b = some o → H' b = some o) → H l = none → H' l = some (.lst (us.map V.ref)) → Tups H' us (srt (allN (d + 1) F)) → Q (.ref l) H'
section
variable {P : Program} {w : World} {K : PySem.W.Frag} {mg : Str → Option Value} {base : Heap} {a : Ad}
theorem ok_Pool_pieces (T : Txt K mg a) : FnOk P w K mg base CX0 1 a.f_Pool_pieces a.d_Pool_pieces ["self"] (sp_Pool_pieces K a) := by
  refine T.Pool_pieces.ok sc_Pool_pieces (fun vs H Q E h => by first | (obtain ⟨rfl, _⟩ := h; rfl) | (obtain ⟨_, rfl, _⟩ := h; rfl) | (obtain ⟨_, _, rfl, _⟩ := h; rfl) | (obtain ⟨_, _, _, rfl, _⟩ := h; rfl) | (obtain ⟨_, _, _, _, rfl, _⟩ := h; rfl) | (obtain ⟨_, _, _, _, _, rfl, _⟩ := h; rfl) | (obtain ⟨_, _, _, _, _, _, rfl, _⟩ := h; rfl) | (obtain ⟨_, _, _, _, _, _, _, rfl, _⟩ := h; rfl) | (obtain ⟨_, _, _, _, _, _, _, _, rfl, _⟩ := h; rfl) | (obtain ⟨_, _, _, _, _, _, _, _, _, rfl, _⟩ := h; rfl) | (obtain ⟨_, _, _, _, _, _, _, _, _, _, rfl, _⟩ := h; rfl) | (obtain ⟨_, _, _, _, _, _, _, _, _, _, _, rfl, _⟩ := h; rfl)) (fun cdv A outer s H vs Q E hr h => ?_)
  refine ⟨_, pss_one (ps_ret (pe_callB cr_sortedTups (by rfl) T.z_sorted (by decide +kernel) (pa_cons (pe_lock (pe_lc2 (own := [("size", 1), ("places", 2), ("at", 3)]) (vs1 := [3]) (g := gTup K 2 (gCons (gName 1) (gCons (gName 2) gNil))) (g1 := gName 3) (wi1 := iList K (tVar 2)) rfl sc_Pool_pieces.nd (pi_items (pe_fld (pv 0) rfl)) (blkOk_by (own := [("size", 1), ("places", 2), ("at", 3)]) (N := ["self", "size", "places", "at"]) (sc := defScope s_Pool_pieces) (by decide +kernel)) (by decide) (fun _ _ _ _ _ => (pg_tup rfl (pgs_cons (pg_name (i := 1) sc_Pool_pieces.nd rfl (Or.inl rfl)) (pgs_cons (pg_name (i := 2) sc_Pool_pieces.nd rfl (Or.inl rfl)) pgs_nil)))) (fun _ _ _ _ _ => pts_nil) (fun _ _ _ _ _ => (pi_list (pv 2))) (fun _ _ _ _ _ => (pg_name (i := 3) sc_Pool_pieces.nd rfl (Or.inl rfl))) (fun _ _ _ _ _ => pts_nil) (fun _ _ _ _ _ => (pe_tup (pa_cons (pv 3) (pa_cons (pv 1) pa_nil)))))) pa_nil))), ?_⟩
  obtain ⟨Y, d, F, rfl, po, q⟩ := h
  have npd : Y.p ≠ Y.pd := ne_of po.ob po.dk (by intro z; cases z)
  have nls : ∀ j, j ≤ d → Y.ls j ≠ Y.pd := fun j hj => ne_of (po.at_ j hj) po.dk (by intro z; cases z)
  refine ⟨Y.pd, _, po.dk, trivial, fun od => ?_⟩
  refine ⟨_, rfl, Y.p, a.c_Pool, Y.dp, _, _, rfl, (by rw [upd_ne npd]; exact po.ob), T.cl_Pool, T.n_Pool__places, pFs_at Y, Y.pd, od, _, rfl, upd_same, fun D newD => ?_⟩
  refine lc_out walk_items (fun i H' => ∃ ts : List Addr, H' D = some (.lst (ts.map V.ref)) ∧ Tups H' ts (allN i F) ∧ (∀ b o, L2.upd H Y.pd (.frz od (.dK (pdK d Y.ls))) b = some o → H' b = some o))
    ⟨[], upd_same, .nil, fun b o e => by rw [upd_ne (ne_of_none e newD)]; exact e⟩ (fun i H' _ ⟨_, _, _, p⟩ => p _ _ upd_same) ?_ ?_
  · rintro i x H1 H2 hi ⟨ts, hD, tups, same⟩ ⟨t, u, v, rfl, new, rfl, eu, ev⟩
    rw [pdK_len] at hi
    dsimp only at eu ev
    rw [pdK_at (by omega)] at eu ev
    have eu : sI i = u := Option.some.inj eu
    have ev : V.ref (Y.ls i) = v := Option.some.inj ev
    subst eu ev
    have hat : H1 (Y.ls i) = some (.lst ((F i).map nI)) := same _ _ (by rw [upd_ne (nls i (by omega))]; exact po.at_ i (by omega))
    have keep1 : ∀ b o, H1 b = some o → L2.upd H1 t (.tup [sI i, .ref (Y.ls i)]) b = some o := fun b o e => by rw [upd_ne (ne_of_none e new)]; exact e
    refine ⟨t, _, rfl, SqT.of upd_same, rfl, _, _, rfl, _, _, rfl, rfl, rfl, ?_⟩
    refine ⟨_, rfl, Y.ls i, rfl, ⟨_, SqL.of (keep1 _ _ hat)⟩, ?_⟩
    refine lc_out walk_list (fun j H' => ∃ ts : List Addr, H' D = some (.lst (ts.map V.ref)) ∧ Tups H' ts (allN i F ++ ((F i).take j).map fun (x : Nat) => ((x : Int), ((2 ^ i : Nat) : Int))) ∧ (∀ b o, L2.upd H Y.pd (.frz od (.dK (pdK d Y.ls))) b = some o → H' b = some o))
      ⟨ts, keep1 _ _ hD, ?_, fun b o e => keep1 _ _ (same b o e)⟩ (fun j H' _ ⟨_, _, _, p⟩ => SqL.of (p _ _ (by rw [upd_ne (nls i (by omega))]; exact po.at_ i (by omega)))) ?_ ?_
    · rw [List.take_zero, List.map_nil, List.append_nil]
      exact tups.keep fun t xs e => keep1 _ _ e
    · rintro j y H3 H4 hj ⟨us, hD3, tups3, same3⟩ ⟨rfl, ey⟩
      rw [List.length_map] at hj
      obtain ⟨m, hm⟩ : ∃ m, (F i)[j]? = some m := ⟨_, List.getElem?_eq_getElem hj⟩
      rw [map_nI_get hm] at ey
      have ey := Option.some.inj ey
      subst ey
      refine ⟨rfl, ?_⟩
      refine ⟨_, rfl, _, rfl, by show 2 ≤ sizeLine; decide, fun t2 new2 => ?_⟩
      have nD : D ≠ t2 := ne_of_none hD3 new2
      refine ⟨us.map V.ref, by rw [upd_ne nD]; exact hD3, ?_, us ++ [t2], ?_, ?_, ?_⟩
      · have l1 := tups3.len
        have l2 := allN_len (n := i) (b := 200000) (F := F) fun j hj => po.len j (by omega)
        have l3 := po.len i (by omega)
        have l4 := po.d60
        rw [List.length_append, List.length_map, List.length_take] at l1
        rw [List.length_map, sizeLine_eq]
        have : i * 200000 ≤ 60 * 200000 := Nat.mul_le_mul_right _ (by omega)
        omega
      · rw [List.map_append]
        exact upd_same
      · rw [List.take_add_one, hm, Option.toList_some, List.map_append, ← List.append_assoc]
        refine Tups.snoc ?_ ?_
        · show L2.upd (L2.upd H4 t2 (.tup [nI m, sI i])) D _ t2 = _
          rw [upd_ne nD.symm]
          exact upd_same
        · refine tups3.keep fun t xs e => ?_
          rw [upd_ne (fun z => by rw [z, hD3] at e; cases e), upd_ne (ne_of_none e new2)]
          exact e
      · intro b o e
        have z := same3 b o e
        have nb : b ≠ D := fun z2 => by rw [z2, newD] at e; cases e
        rw [upd_ne nb, upd_ne (ne_of_none z new2)]
        exact z
    · rintro H3 ⟨us, hD3, tups3, same3⟩
      rw [List.length_map] at tups3
      rw [List.take_length, ← allN_succ] at tups3
      exact ⟨us, hD3, tups3, same3⟩
  · rintro H1 ⟨ts, hD, tups, same⟩
    rw [pdK_len] at tups
    have nD : D ≠ Y.pd := fun z => by rw [z, upd_same] at newD; cases newD
    refine ⟨same _ _ upd_same, D, ts, _, rfl, SqL.of (by rw [upd_ne nD]; exact hD), tups.keep fun t xs e => ?_, fun p us new tu => ?_⟩
    · rw [upd_ne (fun z => by rw [z, same _ _ upd_same] at e; cases e)]
      exact e
    · have grow := unlock (v := .frz od (.dK (pdK d Y.ls))) po.dk same
      refine q p us _ (fun b o e => ?_) ?_ upd_same tu
      · have z := grow b o e
        rw [upd_ne (ne_of_none z new)]
        exact z
      · refine Classical.byContradiction fun z => ?_
        obtain ⟨o, ho⟩ := Option.ne_none_iff_exists'.mp z
        rw [grow p o ho] at new
        cases new
end
/-! ### a yard's own objects, the sizes' defs, the halves -/
def yFs (Y : YA) (d : Nat) : List (Str × V) := putF "_pool" (.ref Y.p) (putF "_sizes" (.ref Y.sd) (putF "cells" (sI d) []))
theorem yFs_cells (Y : YA) (d : Nat) : (yFs Y d).lookup ("cells" : Str) = some (sI d) := by
  unfold yFs
  rw [lookup_putF, if_neg (by decide +kernel), lookup_putF, if_neg (by decide +kernel), lookup_putF, if_pos rfl]
theorem yFs_sizes (Y : YA) (d : Nat) : (yFs Y d).lookup ("_sizes" : Str) = some (.ref Y.sd) := by
  unfold yFs
  rw [lookup_putF, if_neg (by decide +kernel), lookup_putF, if_pos rfl]
theorem yFs_pool (Y : YA) (d : Nat) : (yFs Y d).lookup ("_pool" : Str) = some (.ref Y.p) := by
  unfold yFs
  rw [lookup_putF, if_pos rfl]
theorem yFs_no (Y : YA) (d : Nat) {m : Str} (h1 : ¬ m = "_pool") (h2 : ¬ m = "_sizes") (h3 : ¬ m = "cells") : (yFs Y d).lookup m = none := by
  unfold yFs
  rw [lookup_putF, if_neg h1, lookup_putF, if_neg h2, lookup_putF, if_neg h3]
  rfl
def YOb (a : Ad) (Y : YA) (d : Nat) (H : Hp) : Prop := H Y.y = some (.ins a.c_Yard Y.dy (yFs Y d))
def lsA (Y : YA) (d : Nat) : List Addr := (List.range (d + 1)).map Y.ls
theorem lsA_mem {Y : YA} {d j : Nat} (h : j ≤ d) : Y.ls j ∈ lsA Y d := List.mem_map.mpr ⟨j, List.mem_range.mpr (by omega), rfl⟩
theorem PoolAt.off {a : Ad} {Y : YA} {d : Nat} {F : Nat → List Nat} {H : Hp} (h : PoolAt a Y d F H) {b : Addr} {o : HO} (e : H b = some o) (n : ∀ xs, o ≠ .lst xs) : b ∉ lsA Y d := by
  intro z
  obtain ⟨j, hj, rfl⟩ := List.mem_map.mp z
  rw [h.at_ j (by have := List.mem_range.mp hj; omega)] at e
  exact n _ (Option.some.inj e).symm
theorem PoolAt.congr {a : Ad} {Y : YA} {d : Nat} {F G : Nat → List Nat} {H : Hp} (h : PoolAt a Y d F H) (e : ∀ j, j ≤ d → F j = G j) : PoolAt a Y d G H :=
  ⟨h.ob, h.dk, fun j hj => by rw [← e j hj]; exact h.at_ j hj, h.inj, fun j hj => by rw [← e j hj]; exact h.rise j hj, fun j hj => by rw [← e j hj]; exact h.len j hj, h.d60⟩
/-- how often 1 is doubled to fit w -/
def fit (w : Int) : Nat := Builtin.Int.intBits (w - 1)
theorem fit_spec {w : Int} (h1 : 1 ≤ w) (h2 : w ≤ 1152921504606846976) : fit w ≤ 60 ∧ w ≤ ((2 ^ fit w : Nat) : Int) ∧ ((2 ^ fit w : Nat) : Int) < 2 * w := by
  obtain ⟨n, rfl⟩ : ∃ n : Nat, w = (n : Int) + 1 := ⟨(w - 1).toNat, by omega⟩
  have e0 : (n : Int) + 1 - 1 = (n : Int) := by omega
  unfold fit Builtin.Int.intBits
  rw [e0]
  by_cases hn : n = 0
  · subst hn
    decide
  · rw [if_neg (by simpa using hn), Int.natAbs_natCast]
    have hlt : n < 2 ^ (n.log2 + 1) := Nat.lt_log2_self
    have hle : 2 ^ n.log2 ≤ n := Nat.log2_self_le hn
    have h60 : n < 2 ^ 60 := by
      have : (1152921504606846976 : Int) = ((2 ^ 60 : Nat) : Int) := by decide
      omega
    refine ⟨?_, by omega, ?_⟩
    · have : n.log2 < 60 := (Nat.log2_lt hn).mpr h60
      omega
    · rw [Nat.pow_succ]
      generalize 2 ^ n.log2 = z at hle
      omega
theorem fit_le {w : Int} {d : Nat} (h1 : 1 ≤ w) (h2 : w ≤ ((2 ^ d : Nat) : Int)) (hd : d ≤ 60) : fit w ≤ d := by
  have p := pow60 hd
  have f := fit_spec h1 (by omega)
  apply Classical.byContradiction
  intro z
  have : 2 ^ (d + 1) ≤ 2 ^ fit w := Nat.pow_le_pow_right (by decide) (by omega)
  rw [Nat.pow_succ] at this
  omega
def sp_size_for (K : PySem.W.Frag) (a : Ad) : Sp := fun vs H Q E => ∃ w : Int, vs = [.int w] ∧ ((w < 1 ∨ w > 1152921504606846976) → E (.ref a.c_NoWish) none H) ∧ (1 ≤ w → w ≤ 1152921504606846976 → Q (sI (fit w)) H)
def sp_twin_of (K : PySem.W.Frag) (a : Ad) : Sp := fun vs H Q _ => ∃ i k : Nat, vs = [nI (i * 2 ^ k), sI k] ∧ Q (nI (sib i * 2 ^ k)) H
/-- the upper halves of a piece of exponent m, down to k -/
def hv (x k m : Nat) : List PN := (List.range (m - k)).map fun i => (x + 2 ^ (m - 1 - i), m - 1 - i)
def toI (q : PN) : PI2 := ((q.1 : Int), ((2 ^ q.2 : Nat) : Int))
def sp_upper_halves (K : PySem.W.Frag) (a : Ad) : Sp := fun vs H Q _ => ∃ x k m : Nat, vs = [nI x, sI m, sI k] ∧ m ≤ 60 ∧
  ∀ (l : Addr) (ts : List Addr) (H' : Hp), (∀ b o, H b = some o → H' b = some o) → H l = none → (∀ t ∈ ts, H t = none) → H' l = some (.lst (ts.map V.ref)) → Tups H' ts ((hv x k m).map toI) → Q (.ref l) H'
theorem xor_pow (i k : Nat) : (i * 2 ^ k) ^^^ 2 ^ k = sib i * 2 ^ k := by
  have e : i * 2 ^ k = i <<< k := (Nat.shiftLeft_eq i k).symm
  have e1 : (2 : Nat) ^ k = 1 <<< k := by rw [Nat.shiftLeft_eq, Nat.one_mul]
  have e2 : sib i * 2 ^ k = sib i <<< k := (Nat.shiftLeft_eq _ k).symm
  rw [e, e2]
  conv => lhs; rw [e1]
  rw [← Nat.shiftLeft_xor_distrib]
  congr 1
  unfold sib
  have h1 : (i ^^^ 1) / 2 = i / 2 := by
    rw [Nat.xor_div_two]
    simp
  have h2 : (i ^^^ 1) % 2 = (i + 1) % 2 := by
    have b := Nat.testBit_xor i 1 0
    rw [Nat.testBit_zero, Nat.testBit_zero] at b
    have b1 : Nat.testBit 1 0 = true := rfl
    rw [b1] at b
    by_cases c : i % 2 = 1
    · rw [decide_eq_true c] at b
      have b' : decide ((i ^^^ 1) % 2 = 1) = false := b
      have := of_decide_eq_false b'
      omega
    · rw [decide_eq_false c] at b
      have b' : decide ((i ^^^ 1) % 2 = 1) = true := b
      have := of_decide_eq_true b'
      omega
  split <;> omega
section
variable {P : Program} {w : World} {K : PySem.W.Frag} {mg : Str → Option Value} {base : Heap} {a : Ad}
theorem ok_size_for (T : Txt K mg a) : FnOk P w K mg base (L2.CX P w) 1 a.f_size_for a.d_size_for ["want"] (sp_size_for K a) := by
  obtain ⟨tM, mM⟩ := T.v_MOST
  refine T.size_for.fn.okX sc_size_for (fun vs H Q E h => by first | (obtain ⟨rfl, _⟩ := h; rfl) | (obtain ⟨_, rfl, _⟩ := h; rfl) | (obtain ⟨_, _, rfl, _⟩ := h; rfl) | (obtain ⟨_, _, _, rfl, _⟩ := h; rfl) | (obtain ⟨_, _, _, _, rfl, _⟩ := h; rfl) | (obtain ⟨_, _, _, _, _, rfl, _⟩ := h; rfl) | (obtain ⟨_, _, _, _, _, _, rfl, _⟩ := h; rfl) | (obtain ⟨_, _, _, _, _, _, _, rfl, _⟩ := h; rfl) | (obtain ⟨_, _, _, _, _, _, _, _, rfl, _⟩ := h; rfl) | (obtain ⟨_, _, _, _, _, _, _, _, _, rfl, _⟩ := h; rfl) | (obtain ⟨_, _, _, _, _, _, _, _, _, _, rfl, _⟩ := h; rfl) | (obtain ⟨_, _, _, _, _, _, _, _, _, _, _, rfl, _⟩ := h; rfl)) (fun cdv A outer s H vs Q E hr h => ?_)
  refine ⟨_, pss_cons (ps_if (PW.pt (pw_or (pt_cmpR op_lt (pv 0) pe_int (nomark _)) (pw_or1 (pt_cmpR op_gt (pv 0) (pe_glob (v := .int 1152921504606846976) rfl mM ⟨_, rfl⟩) (nomark _))))) (pss_one (ps_raise rfl (takes_of rfl rfl rfl rfl) (pmk_own PySem.F.excBase_ValueError T.e_NoWish.x T.e_NoWish.g T.e_NoWish.k (raises_own T.e_NoWish.is.hs T.e_NoWish.t) (by exact rfl)))) pss_nil)
      (pss_one (ps_ret (pe_op op_shlN pe_int (pe_bits (pe_op op_sub (pv 0) pe_int))))), ?_⟩
  obtain ⟨x, rfl, kE, kQ⟩ := h
  refine ⟨_, rfl, _, _, rfl, rfl, _, rfl, ?_⟩
  by_cases h1 : x < 1
  · exact iteTof (decide_eq_true h1) (iteTof rfl (kE (.inl h1)))
  · refine iteFof (decide_eq_false h1) ?_
    refine ⟨_, rfl, _, _, rfl, rfl, _, rfl, ?_⟩
    by_cases h2 : x > 1152921504606846976
    · exact iteTof (decide_eq_true h2) (kE (.inr h2))
    · refine iteFof (decide_eq_false h2) ?_
      have f := fit_spec (w := x) (by omega) (by omega)
      refine ⟨_, rfl, _, _, rfl, rfl, _, rfl, 1, fit x, rfl, rfl, shl_ok (n := 1) (by decide) (by omega), ?_⟩
      have e : (1 : Int) * 2 ^ fit x = ((2 ^ fit x : Nat) : Int) := by
        rw [Int.one_mul]
        exact PySem.W.kbt_cast _
      rw [e]
      exact kQ (by omega) (by omega)
theorem ok_twin_of (T : Txt K mg a) : FnOk P w K mg base CX0 1 a.f_twin_of a.d_twin_of ["at", "size"] (sp_twin_of K a) := by
  refine T.twin_of.fn.ok sc_twin_of (fun vs H Q E h => by first | (obtain ⟨rfl, _⟩ := h; rfl) | (obtain ⟨_, rfl, _⟩ := h; rfl) | (obtain ⟨_, _, rfl, _⟩ := h; rfl) | (obtain ⟨_, _, _, rfl, _⟩ := h; rfl) | (obtain ⟨_, _, _, _, rfl, _⟩ := h; rfl) | (obtain ⟨_, _, _, _, _, rfl, _⟩ := h; rfl) | (obtain ⟨_, _, _, _, _, _, rfl, _⟩ := h; rfl) | (obtain ⟨_, _, _, _, _, _, _, rfl, _⟩ := h; rfl) | (obtain ⟨_, _, _, _, _, _, _, _, rfl, _⟩ := h; rfl) | (obtain ⟨_, _, _, _, _, _, _, _, _, rfl, _⟩ := h; rfl) | (obtain ⟨_, _, _, _, _, _, _, _, _, _, rfl, _⟩ := h; rfl) | (obtain ⟨_, _, _, _, _, _, _, _, _, _, _, rfl, _⟩ := h; rfl)) (fun cdv A outer s H vs Q E hr h => ?_)
  refine ⟨_, pss_one (ps_ret (pe_op op_xor (pv 0) (pv 1))), ?_⟩
  obtain ⟨i, k, rfl, q⟩ := h
  refine ⟨_, rfl, _, rfl, _, _, rfl, rfl, ?_⟩
  have e := Bits.bitXor_pp (x := ((i * 2 ^ k : Nat) : Int)) (y := ((2 ^ k : Nat) : Int)) (Int.natCast_nonneg _) (Int.natCast_nonneg _)
  rw [Int.toNat_natCast, Int.toNat_natCast, xor_pow] at e
  show Q (.int (Builtin.bitXor ((i * 2 ^ k : Nat) : Int) ((2 ^ k : Nat) : Int))) H
  rw [e]
  exact q
theorem ok_upper_halves (T : Txt K mg a) : FnOk P w K mg base CX0 1 a.f_upper_halves a.d_upper_halves ["at", "size", "least"] (sp_upper_halves K a) := by
  refine T.upper_halves.fn.ok sc_upper_halves (fun vs H Q E h => by first | (obtain ⟨rfl, _⟩ := h; rfl) | (obtain ⟨_, rfl, _⟩ := h; rfl) | (obtain ⟨_, _, rfl, _⟩ := h; rfl) | (obtain ⟨_, _, _, rfl, _⟩ := h; rfl) | (obtain ⟨_, _, _, _, rfl, _⟩ := h; rfl) | (obtain ⟨_, _, _, _, _, rfl, _⟩ := h; rfl) | (obtain ⟨_, _, _, _, _, _, rfl, _⟩ := h; rfl) | (obtain ⟨_, _, _, _, _, _, _, rfl, _⟩ := h; rfl) | (obtain ⟨_, _, _, _, _, _, _, _, rfl, _⟩ := h; rfl) | (obtain ⟨_, _, _, _, _, _, _, _, _, rfl, _⟩ := h; rfl) | (obtain ⟨_, _, _, _, _, _, _, _, _, _, rfl, _⟩ := h; rfl) | (obtain ⟨_, _, _, _, _, _, _, _, _, _, _, rfl, _⟩ := h; rfl)) (fun cdv A outer s H vs Q E hr h => ?_)
  refine ⟨_, pss_cons (ps_set (i := 3) sc_upper_halves.nd rfl (Or.inl rfl) (pe_lst pa_nil))
      (pss_cons (ps_while PassesOwn.never (pt_cmpR op_gt (pv 1) (pv 2) (nomark _)) (pss_cons (ps_aug (i := 1) sc_upper_halves.nd rfl (Or.inl rfl) pe_int ip_fdivW)
      (pss_one (ps_expr (pe_bm PySem.F.plainAttrs_list PySem.F.slot_list_append PySem.F.type_list_append mt_append (pv 3) (pa_cons (pe_tup (pa_cons (pe_op op_add (pv 0) (pv 1)) (pa_cons (pv 1) pa_nil))) pa_nil))))))
      (pss_one (ps_ret (pv 3)))), ?_⟩
  obtain ⟨x, k, m, rfl, hm, q⟩ := h
  refine ⟨by show 0 ≤ sizeLine; omega, fun l hl => ?_⟩
  refine while_by (fun σ H' => ∃ (n : Nat) (ts : List Addr), n ≤ m ∧ (k ≤ n ∨ n = m) ∧ σ = [some (nI x), some (sI n), some (sI k), some (.ref l)] ∧ (∀ b o, H b = some o → H' b = some o) ∧ (∀ t ∈ ts, H t = none) ∧ H' l = some (.lst (ts.map V.ref)) ∧ Tups H' ts ((hv x n m).map toI))
    (fun σ H' => match σ with | [_, some (.int n), _, _] => n.toNat | _ => 0) ⟨m, [], Nat.le_refl _, .inr rfl, rfl, fun b o e => by rw [upd_ne (ne_of_none e hl)]; exact e, fun t h => absurd h (by simp), upd_same, ?_⟩ ?_ ?_
  · unfold hv
    rw [Nat.sub_self]
    exact .nil
  · rintro σ H' ⟨n, ts, hn, hkn, rfl, same, new, hat, tups⟩
    refine ⟨_, rfl, _, rfl, _, _, rfl, rfl, _, rfl, ?_⟩
    by_cases c : k < n
    · have hp : 0 < 2 ^ (n - 1) := Nat.pow_pos (by decide)
      have e2 : 2 ^ n = 2 ^ (n - 1) * 2 := by rw [← Nat.pow_succ]; congr 1; omega
      have hlt : 2 ^ k < 2 ^ n := Nat.pow_lt_pow_right (by decide) c
      refine iteTof (decide_eq_true (show ((2 ^ n : Nat) : Int) > ((2 ^ k : Nat) : Int) by omega)) ?_
      refine ⟨_, rfl, _, _, rfl, rfl, wide_div (b := 3) (by decide) (by decide) (by decide) (by decide), ?_⟩
      have e3 : ((2 ^ n : Nat) : Int) / 2 = ((2 ^ (n - 1) : Nat) : Int) := by omega
      refine ⟨_, rfl, .inl ⟨rfl, _, SqL.of hat⟩, _, rfl, _, rfl, _, _, rfl, rfl, _, rfl, by show 2 ≤ sizeLine; decide, fun t ht => ?_⟩
      have nl : l ≠ t := ne_of_none hat ht
      have l1 := tups.len
      refine ⟨l, _, _, rfl, rfl, by rw [upd_ne nl]; exact hat, ?_, ?_⟩
      · rw [List.length_map] at l1
        unfold hv at l1
        rw [List.length_map, List.length_range] at l1
        rw [List.length_map, sizeLine_eq]
        omega
      · refine ⟨⟨n - 1, ts ++ [t], by omega, .inl (by omega), by show [some (nI x), some (V.int (((2 ^ n : Nat) : Int) / 2)), some (sI k), some (V.ref l)] = _; rw [e3], fun b o e => ?_, fun t' h' => ?_, ?_, ?_⟩, ?_⟩
        · have z := same b o e
          rw [upd_ne (fun z2 => by rw [z2, hl] at e; cases e), upd_ne (ne_of_none z ht)]
          exact z
        · rcases List.mem_append.mp h' with h' | h'
          · exact new t' h'
          · have := List.mem_singleton.mp h'
            subst this
            refine Classical.byContradiction fun z => ?_
            obtain ⟨o, ho⟩ := Option.ne_none_iff_exists'.mp z
            rw [same _ _ ho] at ht
            cases ht
        · rw [List.map_append]
          exact upd_same
        · have e4 : hv x (n - 1) m = hv x n m ++ [(x + 2 ^ (n - 1), n - 1)] := by
            unfold hv
            rw [show m - (n - 1) = m - n + 1 by omega, List.range_succ, List.map_append, List.map_cons, List.map_nil, show m - 1 - (m - n) = n - 1 by omega]
          rw [e4, List.map_append, List.map_cons, List.map_nil]
          refine Tups.snoc ?_ ?_
          · rw [upd_ne nl.symm]
            have e5 : ((x : Int) + ((2 ^ n : Nat) : Int) / 2) = ((x + 2 ^ (n - 1) : Nat) : Int) := by omega
            unfold toI
            rw [← e5, ← e3]
            exact upd_same
          · refine tups.keep fun t' xs e => ?_
            rw [upd_ne (fun z => by rw [z, hat] at e; cases e), upd_ne (ne_of_none e ht)]
            exact e
        · show (((2 ^ n : Nat) : Int) / 2).toNat < (((2 ^ n : Nat) : Int)).toNat
          omega
    · have hle : 2 ^ n ≤ 2 ^ k := Nat.pow_le_pow_right (by decide) (by omega)
      refine iteFof (decide_eq_false (show ¬ ((2 ^ n : Nat) : Int) > ((2 ^ k : Nat) : Int) by omega)) ?_
      refine ⟨_, rfl, ?_⟩
      have e : hv x n m = hv x k m := by
        rcases hkn with z | z
        · rw [show n = k by omega]
        · unfold hv
          rw [show m - n = 0 by omega, show m - k = 0 by omega]
      rw [e] at tups
      exact q l ts H' same hl new hat tups
  · rintro σ H' Q1 Q2 hQ ⟨v, hv, y, hy, i, j, e1, e2, k, ek, h⟩
    exact ⟨v, hv, y, hy, i, j, e1, e2, k, ek, by cases k <;> exact hQ _ _ (by simpa using h)⟩
end
/-! ### cutting, growing, joining -/
def cutF (F : Nat → List Nat) (x k m : Nat) : Nat → List Nat := fun j => if k ≤ j ∧ j < m then ins (x + 2 ^ j) (F j) else F j
theorem cutF_step {F : Nat → List Nat} {x k m : Nat} (h : k < m) (j : Nat) : setF (cutF F x (k + 1) m) k (ins (x + 2 ^ k) (F k)) j = cutF F x k m j := by
  unfold setF cutF
  by_cases e : j = k
  · subst e
    rw [if_pos rfl, if_pos ⟨Nat.le_refl _, h⟩]
  · rw [if_neg e]
    by_cases c : k + 1 ≤ j ∧ j < m
    · rw [if_pos c, if_pos ⟨by omega, c.2⟩]
    · rw [if_neg c, if_neg (by omega)]
theorem sib_up {x j m : Nat} (ha : x / 2 ^ m * 2 ^ m = x) (h : j < m) : sib (x / 2 ^ j) * 2 ^ j = x + 2 ^ j := by
  obtain ⟨t, rfl⟩ : ∃ t, m = j + 1 + t := ⟨m - (j + 1), by omega⟩
  have e : x = x / 2 ^ (j + 1 + t) * 2 ^ t * 2 * 2 ^ j := by
    conv => lhs; rw [← ha]
    rw [Nat.pow_add, Nat.pow_succ]
    generalize x / (2 ^ j * 2 * 2 ^ t) = z
    ac_rfl
  generalize x / 2 ^ (j + 1 + t) * 2 ^ t = z at e
  subst e
  rw [Nat.mul_div_cancel _ (Nat.pow_pos (by decide))]
  unfold sib
  rw [if_pos (by omega), Nat.succ_mul]
theorem cutF_add {F : Nat → List Nat} {x k m n : Nat} (ha : x / 2 ^ n * 2 ^ n = x) (h : m ≤ n) (j : Nat) : cutF F x k m j = addF F x k m j := by
  unfold cutF addF
  by_cases c : k ≤ j ∧ j < m
  · rw [if_pos c, if_pos c, sib_up ha (by omega)]
  · rw [if_neg c, if_neg c]
theorem hv_at {x k m i : Nat} (h : i < m - k) : (hv x k m)[i]? = some (x + 2 ^ (m - 1 - i), m - 1 - i) := by
  unfold hv
  rw [List.getElem?_map, List.getElem?_range h]
  rfl
theorem hv_len {x k m : Nat} : (hv x k m).length = m - k := by
  unfold hv
  rw [List.length_map, List.length_range]
def sp_Yard_cut (K : PySem.W.Frag) (a : Ad) : Sp := fun vs H Q _ => ∃ (Y : YA) (d x k m : Nat) (F : Nat → List Nat), vs = [.ref Y.y, nI x, sI m, sI k] ∧ YOb a Y d H ∧ PoolAt a Y d F H ∧ m ≤ d ∧
  (∀ j, k ≤ j → j < m → x + 2 ^ j ∉ F j ∧ (F j).length < 200000) ∧ ∀ H', PoolAt a Y d (cutF F x k m) H' → Only (lsA Y d) H H' → Q .non H'
section
variable {P : Program} {w : World} {K : PySem.W.Frag} {mg : Str → Option Value} {base : Heap} {a : Ad}
theorem ok_Yard_cut (T : Txt K mg a) : FnOk P w K mg base CX0 3 a.f_Yard_cut a.d_Yard_cut ["self", "at", "size", "least"] (sp_Yard_cut K a) := by
  have G_Pool_put : FnOk P w K mg base CX0 2 a.f_Pool_put a.d_Pool_put ["self", "at", "size"] (sp_Pool_put K a) := ok_Pool_put T
  have G_upper_halves : FnOk P w K mg base CX0 1 a.f_upper_halves a.d_upper_halves ["at", "size", "least"] (sp_upper_halves K a) := ok_upper_halves T
  refine T.Yard_cut.ok sc_Yard_cut (fun vs H Q E h => by first | (obtain ⟨rfl, _⟩ := h; rfl) | (obtain ⟨_, rfl, _⟩ := h; rfl) | (obtain ⟨_, _, rfl, _⟩ := h; rfl) | (obtain ⟨_, _, _, rfl, _⟩ := h; rfl) | (obtain ⟨_, _, _, _, rfl, _⟩ := h; rfl) | (obtain ⟨_, _, _, _, _, rfl, _⟩ := h; rfl) | (obtain ⟨_, _, _, _, _, _, rfl, _⟩ := h; rfl) | (obtain ⟨_, _, _, _, _, _, _, rfl, _⟩ := h; rfl) | (obtain ⟨_, _, _, _, _, _, _, _, rfl, _⟩ := h; rfl) | (obtain ⟨_, _, _, _, _, _, _, _, _, rfl, _⟩ := h; rfl) | (obtain ⟨_, _, _, _, _, _, _, _, _, _, rfl, _⟩ := h; rfl) | (obtain ⟨_, _, _, _, _, _, _, _, _, _, _, rfl, _⟩ := h; rfl)) (fun cdv A outer s H vs Q E hr h => ?_)
  refine ⟨_, pss_one (ps_for PassesOwn.never rfl (pi_list (pe_call G_upper_halves (hr.mono (by decide)) rfl T.upper_halves.mg T.upper_halves.fn.kp T.upper_halves.bd .nil pass0 (pa_cons (pv 1) (pa_cons (pv 2) (pa_cons (pv 3) pa_nil))))) (pg_tup rfl (pgs_cons (pg_name (i := 4) sc_Yard_cut.nd rfl (Or.inl rfl)) (pgs_cons (pg_name (i := 5) sc_Yard_cut.nd rfl (Or.inl rfl)) pgs_nil))) (pss_one (ps_expr (pe_meth (pe_fld (pv 0) rfl) T.cl_Pool T.m_Pool_put G_Pool_put (hr.mono (by decide)) T.b_Pool_put .nil pass0 (pa_cons (pv 4) (pa_cons (pv 5) pa_nil)))))), ?_⟩
  obtain ⟨Y, d, x, k, m, F, rfl, yo, po, hm, hF, q⟩ := h
  have d60 := po.d60
  refine ⟨_, rfl, _, rfl, _, rfl, x, k, m, rfl, by omega, fun l ts H1 same new newt hat tups => ⟨l, rfl, ⟨_, SqL.of hat⟩, ?_⟩⟩
  have nl : l ∉ lsA Y d := fun z => by
    obtain ⟨j, hj, rfl⟩ := List.mem_map.mp z
    rw [po.at_ j (by have := List.mem_range.mp hj; omega)] at new
    cases new
  have lts := tups.len
  rw [List.length_map, hv_len] at lts
  refine for_list (xs := ts.map V.ref) (fun i σ H' => (∃ x4 x5, σ = [some (.ref Y.y), some (nI x), some (sI m), some (sI k), x4, x5]) ∧ PoolAt a Y d (cutF F x (m - i) m) H' ∧ Only (lsA Y d) H1 H')
    ⟨⟨none, none, rfl⟩, ?_, Only.refl _ _⟩ (fun i σ H' _ p => SqL.of (p.2.2 _ _ hat nl)) ?_ ?_
  · refine (po.keep same).congr fun j hj => ?_
    unfold cutF
    rw [if_neg (by omega)]
  · rintro i v σ H' hv ⟨⟨x4, x5, rfl⟩, po', only⟩
    have hi := (List.getElem?_eq_some_iff.mp hv).1
    rw [List.length_map, lts] at hi
    have hh := hv_at (x := x) hi
    obtain ⟨t, ht, hat2⟩ := tups.get (i := i) (q := toI (x + 2 ^ (m - 1 - i), m - 1 - i)) (by rw [List.getElem?_map, hh]; rfl)
    rw [List.getElem?_map, ht] at hv
    have hv := Option.some.inj hv
    subst hv
    have nt : t ∉ lsA Y d := (po.keep same).off hat2 (by intro xs z; cases z)
    refine ⟨t, _, rfl, SqT.of (only _ _ hat2 nt), rfl, _, _, rfl, _, _, rfl, rfl, ?_⟩
    have yo' : YOb a Y d H' := only _ _ (same _ _ yo) ((po.keep same).off (same _ _ yo) (by intro xs z; cases z))
    have ej : m - i = m - 1 - i + 1 := by omega
    have e0 : cutF F x (m - i) m (m - 1 - i) = F (m - 1 - i) := by
      unfold cutF
      rw [if_neg (by omega)]
    obtain ⟨f1, f2⟩ := hF (m - 1 - i) (by omega) (by omega)
    refine ⟨_, rfl, Y.y, a.c_Yard, Y.dy, _, _, rfl, yo', T.cl_Yard, T.n_Yard__pool, yFs_pool Y d, Y.p, Y.dp, _, rfl, po'.ob, pFs_no Y (by decide +kernel), _, rfl, _, rfl, Y, d, x + 2 ^ (m - 1 - i), m - 1 - i, _, rfl, po', by omega, by rw [e0]; exact f1, by rw [e0]; exact f2, ?_⟩
    rw [e0]
    have r := po'.rise (m - 1 - i) (by omega)
    rw [e0] at r
    refine ⟨⟨_, _, rfl⟩, ?_, only.trans (Only.upd _ (lsA_mem (by omega)))⟩
    refine (po'.upd (by omega) (ins_rise (x := x + 2 ^ (m - 1 - i)) r) ?_).congr fun j hj => ?_
    · have : (ins (x + 2 ^ (m - 1 - i)) (F (m - 1 - i))).length = (F (m - 1 - i)).length + 1 := by
        rw [← ins_eq r f1]
        simp
        have := rk_le (x + 2 ^ (m - 1 - i)) (F (m - 1 - i))
        omega
      omega
    · rw [ej, show m - (i + 1) = m - 1 - i by omega]
      exact cutF_step (by omega) j
  · rintro σ H' ⟨_, po', only⟩
    rw [List.length_map, lts] at po'
    refine q H' (po'.congr fun j hj => ?_) ((Only.same same).trans only)
    unfold cutF
    by_cases c : k ≤ j ∧ j < m
    · rw [if_pos c, if_pos (by omega)]
    · rw [if_neg c, if_neg (by omega)]
end
/-! ### the yard's own helpers -/
def rmF (F : Nat → List Nat) (x k m : Nat) : Nat → List Nat := fun j => if k ≤ j ∧ j < m then del (x + 2 ^ j) (F j) else F j
theorem rmF_rem {F : Nat → List Nat} {x k m n : Nat} (ha : x / 2 ^ n * 2 ^ n = x) (h : m ≤ n) (j : Nat) : rmF F x k m j = remF F x k m j := by
  unfold rmF remF
  by_cases c : k ≤ j ∧ j < m
  · rw [if_pos c, if_pos c, sib_up ha (by omega)]
  · rw [if_neg c, if_neg c]
theorem rmF_step {F : Nat → List Nat} {x k m : Nat} (h : k < m) (j : Nat) : setF (rmF F x (k + 1) m) k (del (x + 2 ^ k) (F k)) j = rmF F x k m j := by
  unfold setF rmF
  by_cases e : j = k
  · subst e
    rw [if_pos rfl, if_pos ⟨Nat.le_refl _, h⟩]
  · rw [if_neg e]
    by_cases c : k + 1 ≤ j ∧ j < m
    · rw [if_pos c, if_pos ⟨by omega, c.2⟩]
    · rw [if_neg c, if_neg (by omega)]
theorem remF_step {F : Nat → List Nat} {x k m : Nat} (h : k ≤ m) (j : Nat) : setF (remF F x k m) m (del (sib (x / 2 ^ m) * 2 ^ m) (F m)) j = remF F x k (m + 1) j := by
  unfold setF remF
  by_cases e : j = m
  · subst e
    rw [if_pos rfl, if_pos ⟨h, by omega⟩]
  · rw [if_neg e]
    by_cases c : k ≤ j ∧ j < m
    · rw [if_pos c, if_pos ⟨c.1, by omega⟩]
    · rw [if_neg c, if_neg (by omega)]
theorem remF_at {F : Nat → List Nat} {x k m : Nat} : remF F x k m m = F m := by
  unfold remF
  rw [if_neg (by omega)]
theorem min_sib (x j : Nat) : min (x / 2 ^ j * 2 ^ j) (sib (x / 2 ^ j) * 2 ^ j) = x / 2 ^ (j + 1) * 2 ^ (j + 1) := by
  rw [blk_succ, Nat.pow_succ]
  generalize x / 2 ^ j = i
  have hp : 0 < 2 ^ j := Nat.pow_pos (by decide)
  have e : i / 2 * (2 ^ j * 2) = (i / 2 * 2) * 2 ^ j := by ac_rfl
  rw [e]
  unfold sib
  by_cases c : i % 2 = 0
  · rw [if_pos c, show i / 2 * 2 = i by omega, Nat.min_eq_left (Nat.mul_le_mul_right _ (by omega))]
  · rw [if_neg c, show i / 2 * 2 = i - 1 by omega, Nat.min_eq_right (Nat.mul_le_mul_right _ (by omega))]
def outI (q : PN) : Key × V := (Sum.inl (q.1 : Int), sI q.2)
theorem valV_out {d : Nat} : ∀ {os : List PN}, Good d os → ∀ {x k : Nat}, (x, k) ∈ os → valV (os.map outI) (Sum.inl (x : Int)) = some (sI k) := by
  intro os g x k m
  have aux : ∀ l : List PN, (∀ q ∈ l, q ∈ os) → (x, k) ∈ l → valV (l.map outI) (Sum.inl (x : Int)) = some (sI k) := by
    intro l
    induction l with
    | nil => intro _ z; cases z
    | cons q l ih =>
      intro sub z
      by_cases e : q.1 = x
      · have e2 := g.key (sub q List.mem_cons_self) m e
        rw [List.map_cons, valV_pos (show (outI q).1 = Sum.inl (x : Int) by unfold outI; rw [e])]
        rw [e2]
        rfl
      · rw [List.map_cons, valV_neg (show ¬ (outI q).1 = Sum.inl (x : Int) from fun w => e (by have := Sum.inl.inj w; omega))]
        refine ih (fun p hp => sub p (List.mem_cons_of_mem _ hp)) ((List.mem_cons.mp z).resolve_left fun w => e ?_)
        rw [← w]
  exact aux os (fun q h => h) m
theorem valV_out_none {os : List PN} {i : Int} (n : ∀ q ∈ os, (q.1 : Int) ≠ i) : valV (os.map outI) (Sum.inl i) = none := by
  induction os with
  | nil => rfl
  | cons q l ih =>
    rw [List.map_cons, valV_neg (show ¬ (outI q).1 = Sum.inl i from fun w => n q List.mem_cons_self (Sum.inl.inj w))]
    exact ih fun p hp => n p (List.mem_cons_of_mem _ hp)
def sp_Yard_fitting (K : PySem.W.Frag) (a : Ad) : Sp := fun vs H Q E => ∃ (Y : YA) (d : Nat) (x : Int), vs = [.ref Y.y, .int x] ∧ YOb a Y d H ∧ d ≤ 60 ∧
  (x < 1 → E (.ref a.c_NoWish) none H) ∧ (x > ((2 ^ d : Nat) : Int) → E (.ref a.c_NoRoom) none H) ∧ (1 ≤ x → x ≤ ((2 ^ d : Nat) : Int) → Q (sI (fit x)) H)
def sp_Yard_size_of (K : PySem.W.Frag) (a : Ad) : Sp := fun vs H Q E => ∃ (Y : YA) (d : Nat) (os : List PN) (x : Int), vs = [.ref Y.y, .int x] ∧ YOb a Y d H ∧ H Y.sd = some (.dK (os.map outI)) ∧ Good d os ∧
  ((∀ q ∈ os, (q.1 : Int) ≠ x) → E (.ref a.c_NotOut) none H) ∧ (∀ n k : Nat, (n, k) ∈ os → x = (n : Int) → Q (sI k) H)
def sp_Yard_grow (K : PySem.W.Frag) (a : Ad) : Sp := fun vs H Q E => ∃ (Y : YA) (d x h k : Nat) (F : Nat → List Nat), vs = [.ref Y.y, nI x, sI h, sI k] ∧ YOb a Y d H ∧ PoolAt a Y d F H ∧ k ≤ d ∧
  (¬ (x % 2 ^ k = 0 ∧ ∀ j, h ≤ j → j < k → x + 2 ^ j ∈ F j) → ∀ H', (∀ b o, H b = some o → H' b = some o) → E (.ref a.c_NoRoom) none H') ∧
  (x % 2 ^ k = 0 → (∀ j, h ≤ j → j < k → x + 2 ^ j ∈ F j) → ∀ H', PoolAt a Y d (rmF F x h k) H' → Only (lsA Y d) H H' → Q .non H')
def sp_Yard_join (K : PySem.W.Frag) (a : Ad) : Sp := fun vs H Q _ => ∃ (Y : YA) (d x k m : Nat) (F : Nat → List Nat), vs = [.ref Y.y, nI x, sI k] ∧ YOb a Y d H ∧ PoolAt a Y d F H ∧ k ≤ m ∧ m ≤ d ∧ x / 2 ^ k * 2 ^ k = x ∧
  (∀ j, k ≤ j → j < m → sib (x / 2 ^ j) * 2 ^ j ∈ F j) ∧ sib (x / 2 ^ m) * 2 ^ m ∉ F m ∧ x / 2 ^ m * 2 ^ m ∉ F m ∧ (F m).length < 200000 ∧
  ∀ H', PoolAt a Y d (setF (remF F x k m) m (ins (x / 2 ^ m * 2 ^ m) (F m))) H' → Only (lsA Y d) H H' → Q .non H'
section
variable {P : Program} {w : World} {K : PySem.W.Frag} {mg : Str → Option Value} {base : Heap} {a : Ad}
theorem ok_Yard_fitting (T : Txt K mg a) : FnOk P w K mg base (L2.CX P w) 2 a.f_Yard_fitting a.d_Yard_fitting ["self", "want"] (sp_Yard_fitting K a) := by
  have G_size_for : FnOk P w K mg base (L2.CX P w) 1 a.f_size_for a.d_size_for ["want"] (sp_size_for K a) := ok_size_for T
  refine T.Yard_fitting.okX sc_Yard_fitting (fun vs H Q E h => by first | (obtain ⟨rfl, _⟩ := h; rfl) | (obtain ⟨_, rfl, _⟩ := h; rfl) | (obtain ⟨_, _, rfl, _⟩ := h; rfl) | (obtain ⟨_, _, _, rfl, _⟩ := h; rfl) | (obtain ⟨_, _, _, _, rfl, _⟩ := h; rfl) | (obtain ⟨_, _, _, _, _, rfl, _⟩ := h; rfl) | (obtain ⟨_, _, _, _, _, _, rfl, _⟩ := h; rfl) | (obtain ⟨_, _, _, _, _, _, _, rfl, _⟩ := h; rfl) | (obtain ⟨_, _, _, _, _, _, _, _, rfl, _⟩ := h; rfl) | (obtain ⟨_, _, _, _, _, _, _, _, _, rfl, _⟩ := h; rfl) | (obtain ⟨_, _, _, _, _, _, _, _, _, _, rfl, _⟩ := h; rfl) | (obtain ⟨_, _, _, _, _, _, _, _, _, _, _, rfl, _⟩ := h; rfl)) (fun cdv A outer s H vs Q E hr h => ?_)
  refine ⟨_, pss_cons (ps_if (pt_cmpR op_gt (pv 1) (pe_fld (pv 0) rfl) (nomark _)) (pss_one (ps_raise rfl (takes_of rfl rfl rfl rfl) (pmk_own PySem.F.excBase_ValueError T.e_NoRoom.x T.e_NoRoom.g T.e_NoRoom.k (raises_own T.e_NoRoom.is.hs T.e_NoRoom.t) (by exact rfl)))) pss_nil)
      (pss_one (ps_ret (pe_call G_size_for (hr.mono (by decide)) rfl T.size_for.mg T.size_for.fn.kp T.size_for.bd .nil (passX (takes_of rfl rfl rfl rfl)) (pa_cons (pv 1) pa_nil)))), ?_⟩
  obtain ⟨Y, d, x, rfl, yo, d60, q1, q2, q3⟩ := h
  have p60 := pow60 d60
  refine ⟨_, rfl, _, rfl, Y.y, a.c_Yard, Y.dy, _, _, rfl, yo, T.cl_Yard, T.n_Yard_cells, yFs_cells Y d, _, _, rfl, rfl, _, rfl, ?_⟩
  by_cases c : x > ((2 ^ d : Nat) : Int)
  · exact iteTof (decide_eq_true c) (q2 c)
  · refine iteFof (decide_eq_false c) ?_
    refine ⟨_, rfl, x, rfl, fun z => ?_, fun z1 z2 => q3 z1 (by omega)⟩
    rcases z with z | z
    · exact q1 z
    · omega
theorem ok_Yard_size_of (T : Txt K mg a) : FnOk P w K mg base (L2.CX P w) 1 a.f_Yard_size_of a.d_Yard_size_of ["self", "at"] (sp_Yard_size_of K a) := by
  refine T.Yard_size_of.okX sc_Yard_size_of (fun vs H Q E h => by first | (obtain ⟨rfl, _⟩ := h; rfl) | (obtain ⟨_, rfl, _⟩ := h; rfl) | (obtain ⟨_, _, rfl, _⟩ := h; rfl) | (obtain ⟨_, _, _, rfl, _⟩ := h; rfl) | (obtain ⟨_, _, _, _, rfl, _⟩ := h; rfl) | (obtain ⟨_, _, _, _, _, rfl, _⟩ := h; rfl) | (obtain ⟨_, _, _, _, _, _, rfl, _⟩ := h; rfl) | (obtain ⟨_, _, _, _, _, _, _, rfl, _⟩ := h; rfl) | (obtain ⟨_, _, _, _, _, _, _, _, rfl, _⟩ := h; rfl) | (obtain ⟨_, _, _, _, _, _, _, _, _, rfl, _⟩ := h; rfl) | (obtain ⟨_, _, _, _, _, _, _, _, _, _, rfl, _⟩ := h; rfl) | (obtain ⟨_, _, _, _, _, _, _, _, _, _, _, rfl, _⟩ := h; rfl)) (fun cdv A outer s H vs Q E hr h => ?_)
  refine ⟨_, pss_cons (ps_if (pt_cmp (pc_dnotin (hu_of hr) (pv 1) (pe_fld (pv 0) rfl))) (pss_one (ps_raise rfl (takes_of rfl rfl rfl rfl) (pmk_own PySem.F.excBase_ValueError T.e_NotOut.x T.e_NotOut.g T.e_NotOut.k (raises_own T.e_NotOut.is.hs T.e_NotOut.t) (by exact rfl)))) pss_nil)
      (pss_one (ps_ret (pe_dget (hu_of hr) (pe_fld (pv 0) rfl) (pv 1) (fun _ _ => rfl)))), ?_⟩
  obtain ⟨Y, d, os, x, rfl, yo, so, g, q1, q2⟩ := h
  refine ⟨_, rfl, _, rfl, Y.y, a.c_Yard, Y.dy, _, _, rfl, yo, T.cl_Yard, T.n_Yard__sizes, yFs_sizes Y d, Y.sd, _, rfl, DGet.k (k := Sum.inl x) so, ?_⟩
  by_cases c : ∃ n k : Nat, (n, k) ∈ os ∧ x = (n : Int)
  · obtain ⟨n, k, m, rfl⟩ := c
    have e := valV_out g m
    rw [e]
    refine ⟨_, rfl, iteFof rfl ?_⟩
    exact ⟨_, rfl, Y.y, a.c_Yard, Y.dy, _, _, rfl, yo, T.cl_Yard, T.n_Yard__sizes, yFs_sizes Y d, _, rfl, Y.sd, _, rfl, dget_of so e, q2 n k m rfl⟩
  · have e : valV (os.map outI) (Sum.inl x) = none := valV_out_none fun q m z => c ⟨q.1, q.2, m, z.symm⟩
    rw [e]
    exact ⟨_, rfl, iteTof rfl (q1 fun q m z => c ⟨q.1, q.2, m, z.symm⟩)⟩
theorem ok_Yard_join (T : Txt K mg a) : FnOk P w K mg base CX0 3 a.f_Yard_join a.d_Yard_join ["self", "at", "size"] (sp_Yard_join K a) := by
  have G_Pool_drop : FnOk P w K mg base CX0 2 a.f_Pool_drop a.d_Pool_drop ["self", "at", "size"] (sp_Pool_drop K a) := ok_Pool_drop T
  have G_Pool_has : FnOk P w K mg base CX0 2 a.f_Pool_has a.d_Pool_has ["self", "at", "size"] (sp_Pool_has K a) := ok_Pool_has T
  have G_Pool_put : FnOk P w K mg base CX0 2 a.f_Pool_put a.d_Pool_put ["self", "at", "size"] (sp_Pool_put K a) := ok_Pool_put T
  have G_twin_of : FnOk P w K mg base CX0 1 a.f_twin_of a.d_twin_of ["at", "size"] (sp_twin_of K a) := ok_twin_of T
  refine T.Yard_join.ok sc_Yard_join (fun vs H Q E h => by first | (obtain ⟨rfl, _⟩ := h; rfl) | (obtain ⟨_, rfl, _⟩ := h; rfl) | (obtain ⟨_, _, rfl, _⟩ := h; rfl) | (obtain ⟨_, _, _, rfl, _⟩ := h; rfl) | (obtain ⟨_, _, _, _, rfl, _⟩ := h; rfl) | (obtain ⟨_, _, _, _, _, rfl, _⟩ := h; rfl) | (obtain ⟨_, _, _, _, _, _, rfl, _⟩ := h; rfl) | (obtain ⟨_, _, _, _, _, _, _, rfl, _⟩ := h; rfl) | (obtain ⟨_, _, _, _, _, _, _, _, rfl, _⟩ := h; rfl) | (obtain ⟨_, _, _, _, _, _, _, _, _, rfl, _⟩ := h; rfl) | (obtain ⟨_, _, _, _, _, _, _, _, _, _, rfl, _⟩ := h; rfl) | (obtain ⟨_, _, _, _, _, _, _, _, _, _, _, rfl, _⟩ := h; rfl)) (fun cdv A outer s H vs Q E hr h => ?_)
  refine ⟨_, pss_cons (ps_set (i := 3) sc_Yard_join.nd rfl (Or.inl rfl) (pe_call G_twin_of (hr.mono (by decide)) rfl T.twin_of.mg T.twin_of.fn.kp T.twin_of.bd .nil pass0 (pa_cons (pv 1) (pa_cons (pv 2) pa_nil))))
      (pss_cons (ps_while PassesOwn.never (pt_val (pe_meth (pe_fld (pv 0) rfl) T.cl_Pool T.m_Pool_has G_Pool_has (hr.mono (by decide)) T.b_Pool_has .nil pass0 (pa_cons (pv 3) (pa_cons (pv 2) pa_nil)))) (pss_cons (ps_expr (pe_meth (pe_fld (pv 0) rfl) T.cl_Pool T.m_Pool_drop G_Pool_drop (hr.mono (by decide)) T.b_Pool_drop .nil pass0 (pa_cons (pv 3) (pa_cons (pv 2) pa_nil))))
      (pss_cons (ps_set (i := 1) sc_Yard_join.nd rfl (Or.inl rfl) (pe_callB (call_min2 rfl) (by rfl) T.z_min PyProof.Rows.boot_min (pa_cons (pv 1) (pa_cons (pv 3) pa_nil))))
      (pss_cons (ps_aug (i := 2) sc_Yard_join.nd rfl (Or.inl rfl) pe_int ip_mulX)
      (pss_one (ps_set (i := 3) sc_Yard_join.nd rfl (Or.inl rfl) (pe_call G_twin_of (hr.mono (by decide)) rfl T.twin_of.mg T.twin_of.fn.kp T.twin_of.bd .nil pass0 (pa_cons (pv 1) (pa_cons (pv 2) pa_nil)))))))))
      (pss_one (ps_expr (pe_meth (pe_fld (pv 0) rfl) T.cl_Pool T.m_Pool_put G_Pool_put (hr.mono (by decide)) T.b_Pool_put .nil pass0 (pa_cons (pv 1) (pa_cons (pv 2) pa_nil)))))), ?_⟩
  obtain ⟨Y, d, x, k, m, F, rfl, yo, po, hk, hm, ha, hF, h1, h2, h3, q⟩ := h
  have d60 := po.d60
  have keep : ∀ {H'}, Only (lsA Y d) H H' → YOb a Y d H' := fun o => o _ _ yo (po.off yo (by intro xs z; cases z))
  refine ⟨_, rfl, _, rfl, x / 2 ^ k, k, by rw [ha]; rfl, ?_⟩
  refine while_by (fun σ H' => ∃ j : Nat, k ≤ j ∧ j ≤ m ∧ σ = [some (.ref Y.y), some (nI (x / 2 ^ j * 2 ^ j)), some (sI j), some (nI (sib (x / 2 ^ j) * 2 ^ j))] ∧ PoolAt a Y d (remF F x k j) H' ∧ Only (lsA Y d) H H')
    (fun σ H' => match σ with | [_, _, some (.int j), _] => (((2 ^ m : Nat) : Int) - j).toNat | _ => 0) ⟨k, Nat.le_refl _, hk, by rw [ha]; rfl, po.congr fun j hj => ?_, Only.refl _ _⟩ ?_ ?_
  · unfold remF
    rw [if_neg (by omega)]
  · rintro σ H' ⟨j, kj, jm, rfl, po', only⟩
    refine ⟨_, rfl, Y.y, a.c_Yard, Y.dy, _, _, rfl, keep only, T.cl_Yard, T.n_Yard__pool, yFs_pool Y d, Y.p, Y.dp, _, rfl, po'.ob, pFs_no Y (by decide +kernel), _, rfl, _, rfl, Y, d, sib (x / 2 ^ j) * 2 ^ j, j, _, rfl, po', by omega, ?_⟩
    rw [remF_at]
    by_cases c : j < m
    · have hin := hF j kj c
      rw [decide_eq_true hin]
      refine ⟨_, rfl, ?_⟩
      refine iteT ?_
      refine ⟨_, rfl, Y.y, a.c_Yard, Y.dy, _, _, rfl, keep only, T.cl_Yard, T.n_Yard__pool, yFs_pool Y d, Y.p, Y.dp, _, rfl, po'.ob, pFs_no Y (by decide +kernel), _, rfl, _, rfl, Y, d, sib (x / 2 ^ j) * 2 ^ j, j, _, rfl, po', by omega, by rw [remF_at]; exact hin, ?_⟩
      rw [remF_at]
      have r := po'.rise j (by omega)
      have le := po'.len j (by omega)
      rw [remF_at] at r le
      have po2 := (po'.upd (k := j) (by omega) (del_rise (x := sib (x / 2 ^ j) * 2 ^ j) r) (by have := List.length_filter_le (fun y => decide (y ≠ sib (x / 2 ^ j) * 2 ^ j)) (F j); unfold del; omega)).congr fun i hi => remF_step kj i
      have p1 : 0 < 2 ^ j := Nat.pow_pos (by decide)
      refine ⟨_, rfl, _, rfl, _, _, rfl, ?_⟩
      have pj := pow60 (show j ≤ 60 by omega)
      refine ⟨_, rfl, _, _, rfl, rfl, mulx_ok (a := 61) (b := 3) (by rw [Int.natAbs_natCast]; exact Nat.lt_of_le_of_lt pj (by decide)) (by decide) (by decide), ?_⟩
      have em : (if ((sib (x / 2 ^ j) * 2 ^ j : Nat) : Int) < ((x / 2 ^ j * 2 ^ j : Nat) : Int) then ((sib (x / 2 ^ j) * 2 ^ j : Nat) : Int) else ((x / 2 ^ j * 2 ^ j : Nat) : Int)) = ((x / 2 ^ (j + 1) * 2 ^ (j + 1) : Nat) : Int) := by
        rw [← min_sib]
        by_cases z : sib (x / 2 ^ j) * 2 ^ j < x / 2 ^ j * 2 ^ j
        · rw [if_pos (by omega), Nat.min_eq_right (by omega)]
        · rw [if_neg (by omega), Nat.min_eq_left (by omega)]
      have ez : ((2 ^ j : Nat) : Int) * 2 = ((2 ^ (j + 1) : Nat) : Int) := by rw [Nat.pow_succ, Int.natCast_mul]; rfl
      have only2 : Only (lsA Y d) H (L2.upd H' (Y.ls j) (.lst ((del (sib (x / 2 ^ j) * 2 ^ j) (F j)).map nI))) := only.trans (Only.upd _ (lsA_mem (by omega)))
      refine ⟨_, rfl, _, rfl, x / 2 ^ (j + 1), j + 1, ?_, ?_⟩
      · show [V.int (if ((sib (x / 2 ^ j) * 2 ^ j : Nat) : Int) < ((x / 2 ^ j * 2 ^ j : Nat) : Int) then ((sib (x / 2 ^ j) * 2 ^ j : Nat) : Int) else ((x / 2 ^ j * 2 ^ j : Nat) : Int)), V.int (((2 ^ j : Nat) : Int) * 2)] = [V.int ((x / 2 ^ (j + 1) * 2 ^ (j + 1) : Nat) : Int), sI (j + 1)]
        rw [em, ez]
      · refine ⟨⟨j + 1, by omega, by omega, ?_, po2, only2⟩, ?_⟩
        · show [some (V.ref Y.y), some (V.int (if ((sib (x / 2 ^ j) * 2 ^ j : Nat) : Int) < ((x / 2 ^ j * 2 ^ j : Nat) : Int) then ((sib (x / 2 ^ j) * 2 ^ j : Nat) : Int) else ((x / 2 ^ j * 2 ^ j : Nat) : Int))), some (V.int (((2 ^ j : Nat) : Int) * 2)), some (nI (sib (x / 2 ^ (j + 1)) * 2 ^ (j + 1)))] = _
          rw [em, ez]
          rfl
        · show (((2 ^ m : Nat) : Int) - ((2 ^ j : Nat) : Int) * 2).toNat < (((2 ^ m : Nat) : Int) - ((2 ^ j : Nat) : Int)).toNat
          have : 2 ^ j < 2 ^ m := Nat.pow_lt_pow_right (by decide) c
          omega
    · have e : j = m := by omega
      subst e
      rw [decide_eq_false h1]
      refine ⟨_, rfl, ?_⟩
      refine iteF ?_
      have r := po'.rise j (by omega)
      rw [remF_at] at r
      refine ⟨_, rfl, Y.y, a.c_Yard, Y.dy, _, _, rfl, keep only, T.cl_Yard, T.n_Yard__pool, yFs_pool Y d, Y.p, Y.dp, _, rfl, po'.ob, pFs_no Y (by decide +kernel), _, rfl, _, rfl, Y, d, x / 2 ^ j * 2 ^ j, j, _, rfl, po', by omega, by rw [remF_at]; exact h2, by rw [remF_at]; exact h3, ?_⟩
      rw [remF_at]
      refine q _ (po'.upd (by omega) (ins_rise r) ?_) (only.trans (Only.upd _ (lsA_mem (by omega))))
      have : (ins (x / 2 ^ j * 2 ^ j) (F j)).length = (F j).length + 1 := by
        rw [← ins_eq r h2]
        simp
        have := rk_le (x / 2 ^ j * 2 ^ j) (F j)
        omega
      omega
  · rintro σ H' Q1 Q2 hQ ⟨v, hv, y, C, dx, fs, u, e1, e2, e3, e4, e5, p, dp, gs, e6, e7, e8, v2, hv2, v3, hv3, Z, d2, x2, k2, F2, e9, e10, e11, b, e12, e13⟩
    exact ⟨v, hv, y, C, dx, fs, u, e1, e2, e3, e4, e5, p, dp, gs, e6, e7, e8, v2, hv2, v3, hv3, Z, d2, x2, k2, F2, e9, e10, e11, b, e12, hQ _ _ e13⟩
theorem ok_Yard_grow (T : Txt K mg a) : FnOk P w K mg base (L2.CX P w) 3 a.f_Yard_grow a.d_Yard_grow ["self", "at", "had", "size"] (sp_Yard_grow K a) := by
  have G_Pool_drop : FnOk P w K mg base CX0 2 a.f_Pool_drop a.d_Pool_drop ["self", "at", "size"] (sp_Pool_drop K a) := ok_Pool_drop T
  have G_Pool_has : FnOk P w K mg base CX0 2 a.f_Pool_has a.d_Pool_has ["self", "at", "size"] (sp_Pool_has K a) := ok_Pool_has T
  have G_upper_halves : FnOk P w K mg base CX0 1 a.f_upper_halves a.d_upper_halves ["at", "size", "least"] (sp_upper_halves K a) := ok_upper_halves T
  refine T.Yard_grow.okX sc_Yard_grow (fun vs H Q E h => by first | (obtain ⟨rfl, _⟩ := h; rfl) | (obtain ⟨_, rfl, _⟩ := h; rfl) | (obtain ⟨_, _, rfl, _⟩ := h; rfl) | (obtain ⟨_, _, _, rfl, _⟩ := h; rfl) | (obtain ⟨_, _, _, _, rfl, _⟩ := h; rfl) | (obtain ⟨_, _, _, _, _, rfl, _⟩ := h; rfl) | (obtain ⟨_, _, _, _, _, _, rfl, _⟩ := h; rfl) | (obtain ⟨_, _, _, _, _, _, _, rfl, _⟩ := h; rfl) | (obtain ⟨_, _, _, _, _, _, _, _, rfl, _⟩ := h; rfl) | (obtain ⟨_, _, _, _, _, _, _, _, _, rfl, _⟩ := h; rfl) | (obtain ⟨_, _, _, _, _, _, _, _, _, _, rfl, _⟩ := h; rfl) | (obtain ⟨_, _, _, _, _, _, _, _, _, _, _, rfl, _⟩ := h; rfl)) (fun cdv A outer s H vs Q E hr h => ?_)
  refine ⟨_, pss_cons (ps_set (i := 4) sc_Yard_grow.nd rfl (Or.inl rfl) (pe_call G_upper_halves (hr.mono (by decide)) rfl T.upper_halves.mg T.upper_halves.fn.kp T.upper_halves.bd .nil pass0 (pa_cons (pv 1) (pa_cons (pv 3) (pa_cons (pv 2) pa_nil)))))
      (pss_cons (ps_if (PW.pt (pw_or (pt_cmpR op_ne (pe_op op_modN (pv 1) (pv 3)) pe_int (nomark _)) (pw_or1 (pt_not (pt_val (pe_callB (cr_all rfl) (by rfl) T.z_all (by decide +kernel) (pa_cons (pe_lc (own := [("half", 5), ("half_size", 6)]) (g := gTup K 2 (gCons (gName 5) (gCons (gName 6) gNil))) (te := (tMeth a.c_Pool "has" (sp_Pool_has K a) [] E0 (tFld K (tVar 0) "_pool") (tCons (tVar 5) (tCons (tVar 6) tNil)))) rfl sc_Yard_grow.nd (pi_list (pv 4)) (blkOk_by (own := [("half", 5), ("half_size", 6)]) (N := ["self", "at", "had", "size", "halves", "half", "half_size"]) (sc := defScope s_Yard_grow) (by decide +kernel)) (fun _ _ _ _ _ => (pg_tup rfl (pgs_cons (pg_name (i := 5) sc_Yard_grow.nd rfl (Or.inl rfl)) (pgs_cons (pg_name (i := 6) sc_Yard_grow.nd rfl (Or.inl rfl)) pgs_nil)))) (fun _ _ _ _ _ => pts_nil) (fun _ _ _ _ _ => (pe_meth (pe_fld (pv 0) rfl) T.cl_Pool T.m_Pool_has G_Pool_has (hr.mono (by decide)) T.b_Pool_has .nil pass0 (pa_cons (pv 5) (pa_cons (pv 6) pa_nil))))) pa_nil))))))) (pss_one (ps_raise rfl (takes_of rfl rfl rfl rfl) (pmk_own PySem.F.excBase_ValueError T.e_NoRoom.x T.e_NoRoom.g T.e_NoRoom.k (raises_own T.e_NoRoom.is.hs T.e_NoRoom.t) (by exact rfl)))) pss_nil)
      (pss_one (ps_for (passes_of rfl) rfl (pi_list (pv 4)) (pg_tup rfl (pgs_cons (pg_name (i := 5) sc_Yard_grow.nd rfl (Or.inl rfl)) (pgs_cons (pg_name (i := 6) sc_Yard_grow.nd rfl (Or.inl rfl)) pgs_nil))) (pss_one (ps_expr (pe_meth (pe_fld (pv 0) rfl) T.cl_Pool T.m_Pool_drop G_Pool_drop (hr.mono (by decide)) T.b_Pool_drop .nil pass0 (pa_cons (pv 5) (pa_cons (pv 6) pa_nil)))))))), ?_⟩
  obtain ⟨Y, d, x, hh, k, F, rfl, yo, po, hk, qE, qQ⟩ := h
  have d60 := po.d60
  have pk : 0 < 2 ^ k := Nat.pow_pos (by decide)
  refine ⟨_, rfl, _, rfl, _, rfl, x, hh, k, rfl, by omega, fun l ts H1 same new newt hat tups => ?_⟩
  have nl : l ∉ lsA Y d := fun z => by
    obtain ⟨j, hj, rfl⟩ := List.mem_map.mp z
    rw [po.at_ j (by have := List.mem_range.mp hj; omega)] at new
    cases new
  have lts := tups.len
  rw [List.length_map, hv_len] at lts
  have po1 := po.keep same
  have yo1 : YOb a Y d H1 := same _ _ yo
  have tup_at : ∀ i, i < k - hh → ∃ t, ts[i]? = some t ∧ H1 t = some (.tup [nI (x + 2 ^ (k - 1 - i)), sI (k - 1 - i)]) := fun i hi => by
    obtain ⟨t, ht, hat2⟩ := tups.get (i := i) (q := toI (x + 2 ^ (k - 1 - i), k - 1 - i)) (by rw [List.getElem?_map, hv_at hi]; rfl)
    exact ⟨t, ht, hat2⟩
  refine ⟨_, rfl, _, rfl, _, _, rfl, rfl, by show ((2 ^ k : Nat) : Int) ≠ 0; omega, rfl, _, rfl, ?_⟩
  have em : ((x : Int).fmod ((2 ^ k : Nat) : Int)) = ((x % 2 ^ k : Nat) : Int) := by
    rw [Int.fmod_eq_emod_of_nonneg _ (by omega), Int.natCast_emod]
  by_cases c0 : x % 2 ^ k = 0
  · refine iteFof ?_ ?_
    · show (!decide (V.int ((x : Int).fmod ((2 ^ k : Nat) : Int)) = V.int 0)) = false
      rw [em, c0]
      rfl
    · -- [self._pool.has(..) for ..]
      refine ⟨_, rfl, l, rfl, ⟨_, SqL.of hat⟩, fun D newD => ?_⟩
      refine lc_out walk_list (fun i H' => H' D = some (.lst (((hv x hh k).take i).map fun q => V.bl (decide (q.1 ∈ F q.2)))) ∧ (∀ b o, H1 b = some o → H' b = some o))
        ⟨upd_same, fun b o e => by rw [upd_ne (ne_of_none e newD)]; exact e⟩ (fun i H' _ p => SqL.of (p.2 _ _ hat)) ?_ ?_
      · rintro i v H2 H3 hi ⟨hD, same2⟩ ⟨rfl, hv1⟩
        rw [List.length_map, lts] at hi
        obtain ⟨t, ht, hat2⟩ := tup_at i hi
        rw [List.getElem?_map, ht] at hv1
        have hv1 := Option.some.inj hv1
        subst hv1
        refine ⟨t, _, rfl, SqT.of (same2 _ _ hat2), rfl, _, _, rfl, _, _, rfl, rfl, rfl, ?_⟩
        have po2 := po1.keep same2
        refine ⟨_, rfl, Y.y, a.c_Yard, Y.dy, _, _, rfl, same2 _ _ yo1, T.cl_Yard, T.n_Yard__pool, yFs_pool Y d, Y.p, Y.dp, _, rfl, po2.ob, pFs_no Y (by decide +kernel), _, rfl, _, rfl, Y, d, x + 2 ^ (k - 1 - i), k - 1 - i, F, rfl, po2, by omega, ?_⟩
        refine ⟨_, hD, ?_, ?_, fun b o e => ?_⟩
        · rw [List.length_map, List.length_take, sizeLine_eq, hv_len]
          omega
        · rw [List.take_add_one, hv_at hi, Option.toList_some, List.map_append, List.map_cons, List.map_nil]
          exact upd_same
        · rw [upd_ne (fun z => by rw [z, newD] at e; cases e)]
          exact same2 b o e
      · rintro H2 ⟨hD, same2⟩
        rw [List.length_map, lts, ← hv_len (x := x) (k := hh) (m := k), List.take_length] at hD
        refine ⟨D, (hv x hh k).map fun q => decide (q.1 ∈ F q.2), rfl, SqL.of (by rw [List.map_map]; exact hD), ?_⟩
        refine ⟨_, rfl, ?_⟩
        have iff : (((hv x hh k).map fun q => decide (q.1 ∈ F q.2)).all id = true) ↔ ∀ j, hh ≤ j → j < k → x + 2 ^ j ∈ F j := by
          rw [List.all_eq_true]
          constructor
          · intro z j h1 h2
            have := z (decide (x + 2 ^ j ∈ F j)) (List.mem_map.mpr ⟨(x + 2 ^ j, j), List.mem_iff_getElem?.mpr ⟨k - 1 - j, by rw [hv_at (by omega), show k - 1 - (k - 1 - j) = j by omega]⟩, rfl⟩)
            simpa using this
          · intro z b hb
            obtain ⟨q, hq, rfl⟩ := List.mem_map.mp hb
            obtain ⟨i, hi⟩ := List.mem_iff_getElem?.mp hq
            have lt := (List.getElem?_eq_some_iff.mp hi).1
            rw [hv_len] at lt
            rw [hv_at lt] at hi
            have hi := Option.some.inj hi
            subst hi
            simpa using z (k - 1 - i) (by omega) (by omega)
        by_cases c1 : ∀ j, hh ≤ j → j < k → x + 2 ^ j ∈ F j
        · rw [iff.mpr c1]
          refine iteF ?_
          have nl2 : H2 l = some (.lst (ts.map V.ref)) := same2 _ _ hat
          refine ⟨_, rfl, l, rfl, ⟨_, SqL.of nl2⟩, ?_⟩
          refine for_list (xs := ts.map V.ref) (fun i σ H' => (∃ x5 x6, σ = [some (.ref Y.y), some (nI x), some (sI hh), some (sI k), some (.ref l), x5, x6]) ∧ PoolAt a Y d (rmF F x (k - i) k) H' ∧ Only (lsA Y d) H2 H')
            ⟨⟨none, none, rfl⟩, ?_, Only.refl _ _⟩ (fun i σ H' _ p => SqL.of (p.2.2 _ _ nl2 nl)) ?_ ?_
          · refine (po1.keep same2).congr fun j hj => ?_
            unfold rmF
            rw [if_neg (by omega)]
          · rintro i v σ H' hv1 ⟨⟨x5, x6, rfl⟩, po', only⟩
            have hi := (List.getElem?_eq_some_iff.mp hv1).1
            rw [List.length_map, lts] at hi
            obtain ⟨t, ht, hat2⟩ := tup_at i hi
            rw [List.getElem?_map, ht] at hv1
            have hv1 := Option.some.inj hv1
            subst hv1
            have po2 := po1.keep same2
            have nt : t ∉ lsA Y d := po2.off (same2 _ _ hat2) (by intro xs z; cases z)
            have yo' : YOb a Y d H' := only _ _ (same2 _ _ yo1) (po2.off (same2 _ _ yo1) (by intro xs z; cases z))
            refine ⟨t, _, rfl, SqT.of (only _ _ (same2 _ _ hat2) nt), rfl, _, _, rfl, _, _, rfl, rfl, ?_⟩
            have ej : k - i = k - 1 - i + 1 := by omega
            have e0 : rmF F x (k - i) k (k - 1 - i) = F (k - 1 - i) := by
              unfold rmF
              rw [if_neg (by omega)]
            have hin := c1 (k - 1 - i) (by omega) (by omega)
            refine ⟨_, rfl, Y.y, a.c_Yard, Y.dy, _, _, rfl, yo', T.cl_Yard, T.n_Yard__pool, yFs_pool Y d, Y.p, Y.dp, _, rfl, po'.ob, pFs_no Y (by decide +kernel), _, rfl, _, rfl, Y, d, x + 2 ^ (k - 1 - i), k - 1 - i, _, rfl, po', by omega, by rw [e0]; exact hin, ?_⟩
            rw [e0]
            have r := po'.rise (k - 1 - i) (by omega)
            have le := po'.len (k - 1 - i) (by omega)
            rw [e0] at r le
            refine ⟨⟨_, _, rfl⟩, ?_, only.trans (Only.upd _ (lsA_mem (by omega)))⟩
            refine (po'.upd (by omega) (del_rise (x := x + 2 ^ (k - 1 - i)) r) ?_).congr fun j hj => ?_
            · have := List.length_filter_le (fun y => decide (y ≠ x + 2 ^ (k - 1 - i))) (F (k - 1 - i))
              unfold del
              omega
            · rw [ej, show k - (i + 1) = k - 1 - i by omega]
              exact rmF_step (by omega) j
          · rintro σ H' ⟨_, po', only⟩
            rw [List.length_map, lts] at po'
            refine qQ c0 c1 H' (po'.congr fun j hj => ?_) ((Only.same fun b o e => same2 _ _ (same _ _ e)).trans only)
            unfold rmF
            by_cases c : hh ≤ j ∧ j < k
            · rw [if_pos c, if_pos (by omega)]
            · rw [if_neg c, if_neg (by omega)]
        · have ef : ((hv x hh k).map fun q => decide (q.1 ∈ F q.2)).all id = false := by
            rw [← Bool.not_eq_true, iff]
            exact c1
          rw [ef]
          refine iteT ?_
          exact qE (fun z => c1 z.2) H2 fun b o e => same2 _ _ (same _ _ e)
  · refine iteTof ?_ ?_
    · show (!decide (V.int ((x : Int).fmod ((2 ^ k : Nat) : Int)) = V.int 0)) = true
      rw [em, Bool.not_eq_true', decide_eq_false_iff_not]
      intro z
      have : ((x % 2 ^ k : Nat) : Int) = 0 := by injection z
      omega
    · exact qE (fun z => c0 z.1) H1 same
end
/-! ### the yard -/
structure YardAt (a : Ad) (Y : YA) (d : Nat) (os : List PN) (H : Hp) : Prop where
  yo : YOb a Y d H
  so : H Y.sd = some (.dK (os.map outI))
  po : PoolAt a Y d (frl (Oc os) d) H
  good : Good d os
  few : os.length ≤ 100000
  ne : Y.pd ≠ Y.sd
/-- what changes in a yard's deeds -/
def own (Y : YA) (d : Nat) : List Addr := Y.sd :: lsA Y d
theorem YardAt.keep {a : Ad} {Y : YA} {d : Nat} {os : List PN} {H H' : Hp} (h : YardAt a Y d os H) (k : ∀ b o, H b = some o → H' b = some o) : YardAt a Y d os H' := ⟨k _ _ h.yo, k _ _ h.so, h.po.keep k, h.good, h.few, h.ne⟩
theorem YardAt.off {a : Ad} {Y : YA} {d : Nat} {os : List PN} {H : Hp} (h : YardAt a Y d os H) {b : Addr} {o : HO} (e : H b = some o) (n : ∀ xs, o ≠ .lst xs) (n2 : ∀ xs, o ≠ .dK xs) : b ∉ own Y d := by
  intro z
  rcases List.mem_cons.mp z with z | z
  · rw [z, h.so] at e
    exact n2 _ (Option.some.inj e).symm
  · exact h.po.off e n z
theorem YardAt.new {a : Ad} {Y : YA} {d : Nat} {os : List PN} {H : Hp} (h : YardAt a Y d os H) {b : Addr} (e : H b = none) : b ∉ own Y d := by
  intro z
  rcases List.mem_cons.mp z with z | z
  · rw [z, h.so] at e
    cases e
  · obtain ⟨j, hj, rfl⟩ := List.mem_map.mp z
    rw [h.po.at_ j (by have := List.mem_range.mp hj; omega)] at e
    cases e
theorem lsA_own {Y : YA} {d : Nat} : ∀ b, b ∈ lsA Y d → b ∈ own Y d := fun b h => List.mem_cons_of_mem _ h
theorem YardAt.dne {a : Ad} {Y : YA} {d : Nat} {os : List PN} {H : Hp} (h : YardAt a Y d os H) : Y.sd ∉ lsA Y d := h.po.off h.so (by intro xs z; cases z)
/-- which piece a wish of exponent k is given from -/
structure Best (os : List PN) (d k m n : Nat) : Prop where
  le : k ≤ m
  mx : Mx (Oc os) d m (n / 2 ^ m)
  al : n / 2 ^ m * 2 ^ m = n
  small : ∀ j i, k ≤ j → j < m → ¬ Mx (Oc os) d j i
  first : ∀ i, Mx (Oc os) d m i → n ≤ i * 2 ^ m
theorem frl_nil {O : Nat → Prop} {d j : Nat} : frl O d j = [] ↔ ∀ i, ¬ Mx O d j i := by
  constructor
  · intro h i z
    have := frl_mem'.mpr z
    rw [h] at this
    cases this
  · intro h
    cases e : frl O d j with
    | nil => rfl
    | cons y r =>
      obtain ⟨i, _, z⟩ := frl_mem.mp (show y ∈ frl O d j by rw [e]; exact List.mem_cons_self)
      exact absurd z (h i)
theorem Best.lt {os : List PN} {d k m n : Nat} (b : Best os d k m n) : n < 2 ^ d := by
  have h := b.mx.2.1
  have e := b.al
  have p : 0 < 2 ^ m := Nat.pow_pos (by decide)
  have e2 : 2 ^ d = 2 ^ (d - m) * 2 ^ m := by rw [← Nat.pow_add, show d - m + m = d by have := b.mx.1; omega]
  rw [← e, e2]
  exact Nat.mul_lt_mul_of_pos_right h p
theorem al_down {n k m : Nat} (h : n / 2 ^ m * 2 ^ m = n) (l : k ≤ m) : n / 2 ^ k * 2 ^ k = n := by
  apply Nat.div_mul_cancel
  exact Nat.dvd_trans (Nat.pow_dvd_pow 2 l) ⟨n / 2 ^ m, by rw [Nat.mul_comm]; exact h.symm⟩
/-- a piece that is out lies in a whole free one of what is out besides -/
theorem out_mx {d : Nat} {os : List PN} {x k : Nat} (g : Good d os) (m : (x, k) ∈ os) : ∃ K, k ≤ K ∧ Mx (Oc (outs os x)) d K (x / 2 ^ K) :=
  mx_exists (g.each _ m).2.2 _ k rfl (g.each _ m).1 (fr_outs g m)
theorem toI_ent (os : List PN) : os.map outI = (os.map toI).map entI := by
  rw [List.map_map]
  rfl
def outZ (os : List PN) : List PI2 := srt (os.map toI)
noncomputable def frees (os : List PN) (d : Nat) : List PI2 := srt (allN (d + 1) (frl (Oc os) d))
/-- a piece can get the exponent k -/
def Fits (os : List PN) (n k : Nat) : Prop := n / 2 ^ k * 2 ^ k = n ∧ Fr (Oc (outs os n)) k (n / 2 ^ k)
def sp_is_size (K : PySem.W.Frag) (a : Ad) : Sp := fun vs H Q _ => ∃ x : Int, vs = [.int x] ∧ ((∃ k : Nat, k ≤ 60 ∧ x = ((2 ^ k : Nat) : Int)) → Q (.bl true) H) ∧ ((¬ ∃ k : Nat, k ≤ 60 ∧ x = ((2 ^ k : Nat) : Int)) → Q (.bl false) H)
def sp_Yard_init (K : PySem.W.Frag) (a : Ad) : Sp := fun vs H Q E => ∃ (y dy : Addr) (x : Int), vs = [.ref y, .int x] ∧ H y = some (.ins a.c_Yard dy []) ∧
  ((¬ ∃ k : Nat, k ≤ 60 ∧ x = ((2 ^ k : Nat) : Int)) → E (.ref a.c_NoYard) none H) ∧
  (∀ d : Nat, d ≤ 60 → x = ((2 ^ d : Nat) : Int) → ∀ (Y : YA) (H' : Hp), Y.y = y → YardAt a Y d [] H' → (∀ b ∈ own Y d, H b = none) → Only [y] H H' → Q .non H')
def sp_Yard_give (K : PySem.W.Frag) (a : Ad) : Sp := fun vs H Q E => ∃ (Y : YA) (d : Nat) (os : List PN) (x : Int), vs = [.ref Y.y, .int x] ∧ YardAt a Y d os H ∧ os.length < 100000 ∧
  (x < 1 → E (.ref a.c_NoWish) none H) ∧
  (1 ≤ x → (x > ((2 ^ d : Nat) : Int) ∨ ∀ j i, fit x ≤ j → ¬ Mx (Oc os) d j i) → ∀ H', (∀ b o, H b = some o → H' b = some o) → E (.ref a.c_NoRoom) none H') ∧
  (1 ≤ x → x ≤ ((2 ^ d : Nat) : Int) → ∀ m n, Best os d (fit x) m n → ∀ H', YardAt a Y d (os ++ [(n, fit x)]) H' → Only (own Y d) H H' → Q (nI n) H')
def sp_Yard_take_back (K : PySem.W.Frag) (a : Ad) : Sp := fun vs H Q E => ∃ (Y : YA) (d : Nat) (os : List PN) (x : Int), vs = [.ref Y.y, .int x] ∧ YardAt a Y d os H ∧
  ((∀ q ∈ os, (q.1 : Int) ≠ x) → E (.ref a.c_NotOut) none H) ∧
  (∀ n k : Nat, (n, k) ∈ os → x = (n : Int) → ∀ H', YardAt a Y d (outs os n) H' → Only (own Y d) H H' → Q (sI k) H')
def sp_Yard_resize (K : PySem.W.Frag) (a : Ad) : Sp := fun vs H Q E => ∃ (Y : YA) (d : Nat) (os : List PN) (x x2 : Int), vs = [.ref Y.y, .int x, .int x2] ∧ YardAt a Y d os H ∧
  ((∀ q ∈ os, (q.1 : Int) ≠ x) → E (.ref a.c_NotOut) none H) ∧
  (∀ n h : Nat, (n, h) ∈ os → x = (n : Int) → (x2 < 1 → E (.ref a.c_NoWish) none H) ∧
    (1 ≤ x2 → (x2 > ((2 ^ d : Nat) : Int) ∨ ¬ Fits os n (fit x2)) → ∀ H', (∀ b o, H b = some o → H' b = some o) → E (.ref a.c_NoRoom) none H') ∧
    (1 ≤ x2 → x2 ≤ ((2 ^ d : Nat) : Int) → Fits os n (fit x2) → ∀ H', YardAt a Y d (outr os n (fit x2)) H' → Only (own Y d) H H' → Q (sI (fit x2)) H'))
def sp_Yard_free (K : PySem.W.Frag) (a : Ad) : Sp := fun vs H Q _ => ∃ (Y : YA) (d : Nat) (os : List PN), vs = [.ref Y.y] ∧ YardAt a Y d os H ∧
  ∀ (l : Addr) (us : List Addr) (H' : Hp), (∀ b o, H b = some o → H' b = some o) → H l = none → H' l = some (.lst (us.map V.ref)) → Tups H' us (frees os d) → Q (.ref l) H'
def sp_Yard_out (K : PySem.W.Frag) (a : Ad) : Sp := fun vs H Q _ => ∃ (Y : YA) (d : Nat) (os : List PN), vs = [.ref Y.y] ∧ YardAt a Y d os H ∧
  ∀ (l : Addr) (us : List Addr) (H' : Hp), (∀ b o, H b = some o → H' b = some o) → H l = none → H' l = some (.lst (us.map V.ref)) → Tups H' us (outZ os) → Q (.ref l) H'
def sp_Yard_owner (K : PySem.W.Frag) (a : Ad) : Sp := fun vs H Q _ => ∃ (Y : YA) (d : Nat) (os : List PN) (c : Int), vs = [.ref Y.y, .int c] ∧ YardAt a Y d os H ∧
  ((∀ q ∈ os, ¬ ((q.1 : Int) ≤ c ∧ c < (q.1 : Int) + ((2 ^ q.2 : Nat) : Int))) → Q .non H) ∧ (∀ q ∈ os, (q.1 : Int) ≤ c → c < (q.1 : Int) + ((2 ^ q.2 : Nat) : Int) → Q (nI q.1) H)
theorem and_pred {n : Nat} (h : 0 < n) : n &&& (n - 1) = 0 ↔ ∃ k, n = 2 ^ k := by
  constructor
  · intro z
    refine ⟨n.log2, ?_⟩
    apply Classical.byContradiction
    intro ne
    have h1 : 2 ^ n.log2 ≤ n := Nat.log2_self_le (by omega)
    have h2 : n < 2 ^ (n.log2 + 1) := Nat.lt_log2_self
    have b1 : n.testBit n.log2 = true := Nat.testBit_of_two_pow_le_and_two_pow_add_one_gt h1 h2
    have b2 : (n - 1).testBit n.log2 = true := Nat.testBit_of_two_pow_le_and_two_pow_add_one_gt (by omega) (by omega)
    have b3 := Nat.testBit_and n (n - 1) n.log2
    rw [z, b1, b2] at b3
    simp at b3
  · rintro ⟨k, rfl⟩
    rw [Nat.and_two_pow_sub_one_eq_mod, Nat.mod_self]
section
variable {P : Program} {w : World} {K : PySem.W.Frag} {mg : Str → Option Value} {base : Heap} {a : Ad}
theorem ok_is_size (T : Txt K mg a) : FnOk P w K mg base CX0 1 a.f_is_size a.d_is_size ["number"] (sp_is_size K a) := by
  obtain ⟨tM, mM⟩ := T.v_MOST
  refine T.is_size.fn.ok sc_is_size (fun vs H Q E h => by first | (obtain ⟨rfl, _⟩ := h; rfl) | (obtain ⟨_, rfl, _⟩ := h; rfl) | (obtain ⟨_, _, rfl, _⟩ := h; rfl) | (obtain ⟨_, _, _, rfl, _⟩ := h; rfl) | (obtain ⟨_, _, _, _, rfl, _⟩ := h; rfl) | (obtain ⟨_, _, _, _, _, rfl, _⟩ := h; rfl) | (obtain ⟨_, _, _, _, _, _, rfl, _⟩ := h; rfl) | (obtain ⟨_, _, _, _, _, _, _, rfl, _⟩ := h; rfl) | (obtain ⟨_, _, _, _, _, _, _, _, rfl, _⟩ := h; rfl) | (obtain ⟨_, _, _, _, _, _, _, _, _, rfl, _⟩ := h; rfl) | (obtain ⟨_, _, _, _, _, _, _, _, _, _, rfl, _⟩ := h; rfl) | (obtain ⟨_, _, _, _, _, _, _, _, _, _, _, rfl, _⟩ := h; rfl)) (fun cdv A outer s H vs Q E hr h => ?_)
  refine ⟨_, pss_one (ps_ret (pe_and (pe_chain op_le op_le pe_int (pv 0) (pe_glob (v := .int 1152921504606846976) rfl mM ⟨_, rfl⟩)) (pe_one (pe_cmpR op_eq (pe_op op_and (pv 0) (pe_op op_sub (pv 0) pe_int)) pe_int (nomark _))))), ?_⟩
  obtain ⟨x, rfl, q1, q2⟩ := h
  refine ⟨_, rfl, _, _, rfl, rfl, _, rfl, ?_⟩
  by_cases c1 : 1 ≤ x
  · refine iteTof (decide_eq_true c1) ?_
    by_cases c2 : x ≤ 1152921504606846976
    · refine ⟨_, _, rfl, rfl, _, rfl, iteTof (decide_eq_true c2) ?_⟩
      obtain ⟨n, rfl⟩ : ∃ n : Nat, x = (n : Int) := ⟨x.toNat, by omega⟩
      refine ⟨_, rfl, _, rfl, _, _, rfl, rfl, _, _, rfl, rfl, rfl, ?_⟩
      have e : Builtin.bitAnd (n : Int) ((n : Int) - 1) = ((n &&& (n - 1) : Nat) : Int) := by
        rw [show (n : Int) - 1 = ((n - 1 : Nat) : Int) by omega, PyProof.Rows.bitAnd_pp (Int.natCast_nonneg _) (Int.natCast_nonneg _), Int.toNat_natCast, Int.toNat_natCast]
      show Q (.bl (decide (V.int (Builtin.bitAnd (n : Int) ((n : Int) - 1)) = V.int 0))) H
      rw [e]
      by_cases c3 : n &&& (n - 1) = 0
      · rw [c3, decide_eq_true (show V.int ((0 : Nat) : Int) = V.int 0 from rfl)]
        obtain ⟨k, hk⟩ := (and_pred (by omega)).mp c3
        refine q1 ⟨k, ?_, by rw [hk]⟩
        apply Classical.byContradiction
        intro z
        have : 2 ^ 61 ≤ 2 ^ k := Nat.pow_le_pow_right (by decide) (by omega)
        have h61 : (2 : Nat) ^ 61 = 2305843009213693952 := by decide
        omega
      · rw [decide_eq_false (fun z => c3 (by have : ((n &&& (n - 1) : Nat) : Int) = 0 := (by injection z); omega))]
        refine q2 fun ⟨k, _, hk⟩ => c3 ((and_pred (by omega)).mpr ⟨k, by omega⟩)
    · refine ⟨_, _, rfl, rfl, _, rfl, iteFof (decide_eq_false c2) ?_⟩
      refine q2 fun ⟨k, hk, e⟩ => c2 ?_
      have := pow60 hk
      omega
  · refine iteFof (decide_eq_false c1) ?_
    refine ⟨_, rfl, iteF (q2 fun ⟨k, _, e⟩ => c1 ?_)⟩
    have : 0 < 2 ^ k := Nat.pow_pos (by decide)
    omega
theorem ok_Yard_free (T : Txt K mg a) : FnOk P w K mg base CX0 2 a.f_Yard_free a.d_Yard_free ["self"] (sp_Yard_free K a) := by
  have G_Pool_pieces : FnOk P w K mg base CX0 1 a.f_Pool_pieces a.d_Pool_pieces ["self"] (sp_Pool_pieces K a) := ok_Pool_pieces T
  refine T.Yard_free.ok sc_Yard_free (fun vs H Q E h => by first | (obtain ⟨rfl, _⟩ := h; rfl) | (obtain ⟨_, rfl, _⟩ := h; rfl) | (obtain ⟨_, _, rfl, _⟩ := h; rfl) | (obtain ⟨_, _, _, rfl, _⟩ := h; rfl) | (obtain ⟨_, _, _, _, rfl, _⟩ := h; rfl) | (obtain ⟨_, _, _, _, _, rfl, _⟩ := h; rfl) | (obtain ⟨_, _, _, _, _, _, rfl, _⟩ := h; rfl) | (obtain ⟨_, _, _, _, _, _, _, rfl, _⟩ := h; rfl) | (obtain ⟨_, _, _, _, _, _, _, _, rfl, _⟩ := h; rfl) | (obtain ⟨_, _, _, _, _, _, _, _, _, rfl, _⟩ := h; rfl) | (obtain ⟨_, _, _, _, _, _, _, _, _, _, rfl, _⟩ := h; rfl) | (obtain ⟨_, _, _, _, _, _, _, _, _, _, _, rfl, _⟩ := h; rfl)) (fun cdv A outer s H vs Q E hr h => ?_)
  refine ⟨_, pss_one (ps_ret (pe_meth0 (pe_fld (pv 0) rfl) T.cl_Pool T.m_Pool_pieces G_Pool_pieces (hr.mono (by decide)) T.b_Pool_pieces .nil pass0)), ?_⟩
  obtain ⟨Y, d, os, rfl, ya, q⟩ := h
  refine ⟨_, rfl, Y.y, a.c_Yard, Y.dy, _, _, rfl, ya.yo, T.cl_Yard, T.n_Yard__pool, yFs_pool Y d, Y.p, Y.dp, _, rfl, ya.po.ob, pFs_no Y (by decide +kernel), Y, d, _, rfl, ya.po, ?_⟩
  exact q
theorem ok_Yard_out (T : Txt K mg a) : FnOk P w K mg base CX0 1 a.f_Yard_out a.d_Yard_out ["self"] (sp_Yard_out K a) := by
  refine T.Yard_out.ok sc_Yard_out (fun vs H Q E h => by first | (obtain ⟨rfl, _⟩ := h; rfl) | (obtain ⟨_, rfl, _⟩ := h; rfl) | (obtain ⟨_, _, rfl, _⟩ := h; rfl) | (obtain ⟨_, _, _, rfl, _⟩ := h; rfl) | (obtain ⟨_, _, _, _, rfl, _⟩ := h; rfl) | (obtain ⟨_, _, _, _, _, rfl, _⟩ := h; rfl) | (obtain ⟨_, _, _, _, _, _, rfl, _⟩ := h; rfl) | (obtain ⟨_, _, _, _, _, _, _, rfl, _⟩ := h; rfl) | (obtain ⟨_, _, _, _, _, _, _, _, rfl, _⟩ := h; rfl) | (obtain ⟨_, _, _, _, _, _, _, _, _, rfl, _⟩ := h; rfl) | (obtain ⟨_, _, _, _, _, _, _, _, _, _, rfl, _⟩ := h; rfl) | (obtain ⟨_, _, _, _, _, _, _, _, _, _, _, rfl, _⟩ := h; rfl)) (fun cdv A outer s H vs Q E hr h => ?_)
  refine ⟨_, pss_one (ps_ret (pe_callB (cr_sortedView rfl) (by rfl) T.z_sorted (by decide +kernel) (pa_cons (pe_bm0 PySem.F.plainAttrs_dict PySem.F.slot_dict_items PySem.F.type_dict_items mt_itemsK (pe_fld (pv 0) rfl)) pa_nil))), ?_⟩
  obtain ⟨Y, d, os, rfl, ya, q⟩ := h
  refine ⟨_, rfl, Y.y, a.c_Yard, Y.dy, _, _, rfl, ya.yo, T.cl_Yard, T.n_Yard__sizes, yFs_sizes Y d, .inr (.inr (.inl ⟨rfl, .inl ⟨_, ya.so⟩⟩)), Y.sd, _, rfl, rfl, ya.so, fun p new => ?_⟩
  have sne : Y.sd ≠ p := ne_of_none ya.so new
  refine ⟨p, Y.sd, os.map toI, rfl, upd_same, by rw [upd_ne sne, ya.so, toI_ent], fun H' l ts keep newl hat tups => ?_⟩
  have k0 : ∀ b o, H b = some o → H' b = some o := fun b o e => keep b o (by rw [upd_ne (ne_of_none e new)]; exact e)
  refine q l ts H' k0 ?_ hat tups
  refine Classical.byContradiction fun z => ?_
  obtain ⟨o, ho⟩ := Option.ne_none_iff_exists'.mp z
  rw [upd_ne (ne_of_none ho new), ho] at newl
  cases newl
theorem ok_Yard_owner (T : Txt K mg a) : FnOk P w K mg base CX0 1 a.f_Yard_owner a.d_Yard_owner ["self", "cell"] (sp_Yard_owner K a) := by
  refine T.Yard_owner.ok sc_Yard_owner (fun vs H Q E h => by first | (obtain ⟨rfl, _⟩ := h; rfl) | (obtain ⟨_, rfl, _⟩ := h; rfl) | (obtain ⟨_, _, rfl, _⟩ := h; rfl) | (obtain ⟨_, _, _, rfl, _⟩ := h; rfl) | (obtain ⟨_, _, _, _, rfl, _⟩ := h; rfl) | (obtain ⟨_, _, _, _, _, rfl, _⟩ := h; rfl) | (obtain ⟨_, _, _, _, _, _, rfl, _⟩ := h; rfl) | (obtain ⟨_, _, _, _, _, _, _, rfl, _⟩ := h; rfl) | (obtain ⟨_, _, _, _, _, _, _, _, rfl, _⟩ := h; rfl) | (obtain ⟨_, _, _, _, _, _, _, _, _, rfl, _⟩ := h; rfl) | (obtain ⟨_, _, _, _, _, _, _, _, _, _, rfl, _⟩ := h; rfl) | (obtain ⟨_, _, _, _, _, _, _, _, _, _, _, rfl, _⟩ := h; rfl)) (fun cdv A outer s H vs Q E hr h => ?_)
  refine ⟨_, pss_cons (ps_set (i := 2) sc_Yard_owner.nd rfl (Or.inl rfl) pe_int)
      (pss_cons (ps_while PassesOwn.never (pt_cmpR op_le (pv 2) (pe_fld (pv 0) rfl) (nomark _)) (pss_cons (ps_set (i := 3) sc_Yard_owner.nd rfl (Or.inl rfl) (pe_op op_sub (pv 1) (pe_op op_modN (pv 1) (pv 2))))
      (pss_cons (ps_if (pt_cmpR op_eq (pe_dget1 (hu_of hr) (pe_fld (pv 0) rfl) (pv 3) ⟨rfl, rfl, rfl, rfl⟩) (pv 2) (nomark _)) (pss_one (ps_ret (pv 3))) pss_nil)
      (pss_one (ps_aug (i := 2) sc_Yard_owner.nd rfl (Or.inl rfl) pe_int ip_mulX)))))
      (pss_one (ps_ret pe_non))), ?_⟩
  obtain ⟨Y, d, os, c, rfl, ya, q1, q2⟩ := h
  have d60 := ya.po.d60
  refine while_by (fun σ H' => H' = H ∧ ∃ (j : Nat) (v : Option V), j ≤ d + 1 ∧ σ = [some (.ref Y.y), some (.int c), some (sI j), v] ∧ ∀ q ∈ os, q.2 < j → ¬ ((q.1 : Int) ≤ c ∧ c < (q.1 : Int) + ((2 ^ q.2 : Nat) : Int)))
    (fun σ H' => match σ with | [_, _, some (.int j), _] => (((2 ^ (d + 1) : Nat) : Int) - j).toNat | _ => 0) ⟨rfl, 0, none, by omega, rfl, fun q m l => by omega⟩ ?_ ?_
  · rintro σ H' ⟨rfl, j, v, hj, rfl, no⟩
    have pj : 0 < 2 ^ j := Nat.pow_pos (by decide)
    refine ⟨_, rfl, _, rfl, Y.y, a.c_Yard, Y.dy, _, _, rfl, ya.yo, T.cl_Yard, T.n_Yard_cells, yFs_cells Y d, _, _, rfl, rfl, _, rfl, ?_⟩
    by_cases c1 : j ≤ d
    · have hle : 2 ^ j ≤ 2 ^ d := Nat.pow_le_pow_right (by decide) c1
      refine iteTof (decide_eq_true (by omega)) ?_
      refine ⟨_, rfl, _, rfl, _, rfl, _, _, rfl, rfl, by show ((2 ^ j : Nat) : Int) ≠ 0; omega, _, _, rfl, rfl, ?_⟩
      have ef : c.fmod ((2 ^ j : Nat) : Int) = c % ((2 ^ j : Nat) : Int) := Int.fmod_eq_emod_of_nonneg _ (by omega)
      have r1 := Int.emod_nonneg c (show ((2 ^ j : Nat) : Int) ≠ 0 by omega)
      have r2 := Int.emod_lt_of_pos c (show (0 : Int) < ((2 ^ j : Nat) : Int) by omega)
      have eat : ∀ q ∈ os, q.2 = j → (q.1 : Int) ≤ c → c < (q.1 : Int) + ((2 ^ q.2 : Nat) : Int) → (q.1 : Int) = c - c.fmod ((2 ^ j : Nat) : Int) := by
        intro q m e h1 h2
        subst e
        have al := (ya.good.each q m).2.1
        rw [ef]
        have e3 : c = (c - (q.1 : Int)) + ((q.1 / 2 ^ q.2 : Nat) : Int) * ((2 ^ q.2 : Nat) : Int) := by
          rw [← Int.natCast_mul, al]
          omega
        have e4 : c % ((2 ^ q.2 : Nat) : Int) = c - (q.1 : Int) := by
          conv => lhs; rw [e3]
          rw [Int.add_mul_emod_self_right, Int.emod_eq_of_lt (by omega) (by omega)]
        omega
      generalize hA : c - c.fmod ((2 ^ j : Nat) : Int) = A at eat
      have hA2 : A ≤ c ∧ c < A + ((2 ^ j : Nat) : Int) := by rw [ef] at hA; omega
      refine ⟨_, rfl, Y.y, a.c_Yard, Y.dy, _, _, rfl, ya.yo, T.cl_Yard, T.n_Yard__sizes, yFs_sizes Y d, Y.sd, rfl, .inl ⟨_, .inl ya.so⟩, _, rfl, valV (os.map outI) (Sum.inl A), (by show DGet H' Y.sd (V.int (c - c.fmod ((2 ^ j : Nat) : Int))) _; rw [hA]; exact DGet.k (k := Sum.inl A) ya.so), ?_⟩
      have p60 := pow60 (show j ≤ 60 by omega)
      have ez : ((2 ^ j : Nat) : Int) * 2 = ((2 ^ (j + 1) : Nat) : Int) := by rw [Nat.pow_succ, Int.natCast_mul]; rfl
      by_cases c2 : ∃ q ∈ os, q.2 = j ∧ (q.1 : Int) = A
      · obtain ⟨q, m, e1, e2⟩ := c2
        have ev := valV_out ya.good (x := q.1) (k := q.2) m
        rw [e2] at ev
        rw [ev]
        refine ⟨_, rfl, rfl, _, rfl, iteTof ?_ ?_⟩
        · show decide (sI q.2 = sI j) = true
          rw [e1]
          exact decide_eq_true rfl
        · refine ⟨_, rfl, ?_⟩
          have z := q2 q m (by omega) (by rw [e1]; omega)
          unfold nI at z
          rw [e2, ← hA] at z
          exact z
      · have sc : scal ((valV (os.map outI) (Sum.inl A)).getD V.non) (sI j) = true := by
          by_cases c3 : ∃ q ∈ os, (q.1 : Int) = A
          · obtain ⟨q, m, e2⟩ := c3
            have ev := valV_out ya.good (x := q.1) (k := q.2) m
            rw [e2] at ev
            rw [ev]
            rfl
          · rw [show valV (os.map outI) (Sum.inl A) = none from valV_out_none fun q m w => c3 ⟨q, m, w⟩]
            rfl
        refine ⟨_, rfl, sc, _, rfl, iteFof ?_ ?_⟩
        · refine decide_eq_false fun z => ?_
          by_cases c3 : ∃ q ∈ os, (q.1 : Int) = A
          · obtain ⟨q, m, e2⟩ := c3
            have ev := valV_out ya.good (x := q.1) (k := q.2) m
            rw [e2] at ev
            rw [ev] at z
            have z2 : ((2 ^ q.2 : Nat) : Int) = ((2 ^ j : Nat) : Int) := by injection z
            exact c2 ⟨q, m, pow_inj z2, e2⟩
          · have ev : valV (os.map outI) (Sum.inl A) = none := valV_out_none fun q m w => c3 ⟨q, m, w⟩
            rw [ev] at z
            cases z
        · refine ⟨_, rfl, _, _, rfl, rfl, mulx_ok (a := 61) (b := 3) (by rw [Int.natAbs_natCast]; exact Nat.lt_of_le_of_lt p60 (by decide)) (by decide) (by decide), ?_⟩
          refine ⟨⟨rfl, j + 1, some (.int (c - c.fmod ((2 ^ j : Nat) : Int))), by omega, ?_, fun q m l => ?_⟩, ?_⟩
          · show [some (V.ref Y.y), some (V.int c), some (V.int (((2 ^ j : Nat) : Int) * 2)), some (V.int (c - c.fmod ((2 ^ j : Nat) : Int)))] = _
            rw [ez]
          · by_cases c4 : q.2 < j
            · exact no q m c4
            · intro w
              have e := eat q m (by omega) w.1 w.2
              exact c2 ⟨q, m, by omega, e⟩
          · show (((2 ^ (d + 1) : Nat) : Int) - ((2 ^ j : Nat) : Int) * 2).toNat < (((2 ^ (d + 1) : Nat) : Int) - ((2 ^ j : Nat) : Int)).toNat
            rw [Nat.pow_succ]
            omega
    · have e : j = d + 1 := by omega
      subst e
      have hlt : 2 ^ d < 2 ^ (d + 1) := Nat.pow_lt_pow_right (by decide) (by omega)
      refine iteFof (decide_eq_false (by omega)) ?_
      exact q1 fun q m => no q m (by have := (ya.good.each q m).1; omega)
  · rintro σ H' Q1 Q2 hQ ⟨v, hv, y, hy, p, C, dx, fs, u, e1, e2, e3, e4, e5, i, j, e6, e7, k, ek, h⟩
    exact ⟨v, hv, y, hy, p, C, dx, fs, u, e1, e2, e3, e4, e5, i, j, e6, e7, k, ek, by cases k <;> exact hQ _ _ (by simpa using h)⟩
end
/-! ### Yard(), give, take_back, resize -/
theorem Only.none {S : List Addr} {H H' : Hp} (h : Only S H H') {b : Addr} (e : H' b = none) (n : b ∉ S) : H b = none := by
  refine Classical.byContradiction fun z => ?_
  obtain ⟨o, ho⟩ := Option.ne_none_iff_exists'.mp z
  rw [h b o ho n] at e
  cases e
theorem PoolAt.other {a : Ad} {Y : YA} {d : Nat} {F : Nat → List Nat} {H : Hp} (h : PoolAt a Y d F H) {b C dx : Addr} {fs : List (Str × V)} {o : HO} (e : H b = some (.ins C dx fs)) (n : b ≠ Y.p) : PoolAt a Y d F (L2.upd H b o) := by
  refine ⟨by rw [upd_ne n.symm]; exact h.ob, ?_, fun j hj => ?_, h.inj, h.rise, h.len, h.d60⟩
  · rw [upd_ne (ne_of h.dk e (by intro z; cases z))]
    exact h.dk
  · rw [upd_ne (ne_of (h.at_ j hj) e (by intro z; cases z))]
    exact h.at_ j hj
/-- a yard at first: all is one free piece -/
theorem frl_first (d j : Nat) (h : j ≤ d) : setF (fun _ => []) d (ins 0 []) j = frl (Oc []) d j := by
  have no : ∀ k i, Fr (Oc []) k i := fun k i c _ ⟨q, m, _⟩ => by cases m
  unfold setF
  by_cases e : j = d
  · subst e
    rw [if_pos rfl]
    refine frl_ext (List.pairwise_singleton _ _) fun y => ?_
    constructor
    · intro z
      have z := List.mem_singleton.mp z
      exact ⟨0, by rw [z, Nat.zero_mul], Nat.le_refl _, Nat.pow_pos (by decide), no _ _, fun l => by omega⟩
    · rintro ⟨i, e, _, l, _⟩
      rw [Nat.sub_self, Nat.pow_zero] at l
      rw [e, show i = 0 by omega, Nat.zero_mul]
      exact List.mem_singleton.mpr rfl
  · rw [if_neg e]
    exact (frl_nil.mpr fun i z => z.2.2.2 (by omega) (no _ _)).symm
/-- the pieces out, one more -/
theorem out_put {os : List PN} {x k : Nat} (n : ∀ q ∈ os, q.1 ≠ x) : putK (os.map outI) (Sum.inl (x : Int)) (sI k) = (os ++ [(x, k)]).map outI := by
  rw [putK_new _ (valV_out_none fun q m z => n q m (by omega)), List.map_append]
  rfl
theorem out_drop {os : List PN} {x : Nat} : dropK (os.map outI) (Sum.inl (x : Int)) = (outs os x).map outI := by
  unfold dropK outs
  rw [List.filter_map]
  congr 1
  refine List.filter_congr fun q _ => ?_
  show decide (Sum.inl (q.1 : Int) ≠ (Sum.inl (x : Int) : Key)) = decide (q.1 ≠ x)
  rw [decide_eq_decide]
  constructor
  · intro h e
    exact h (by rw [e])
  · intro h e
    exact h (by have := Sum.inl.inj e; omega)
theorem out_again {os : List PN} {x k : Nat} (m : ∃ h, (x, h) ∈ os) : putK (os.map outI) (Sum.inl (x : Int)) (sI k) = (outr os x k).map outI := by
  unfold putK outr
  have any : ((os.map outI).any fun kv => decide (kv.1 = (Sum.inl (x : Int) : Key))) = true := by
    obtain ⟨h, m⟩ := m
    exact List.any_eq_true.mpr ⟨outI (x, h), List.mem_map.mpr ⟨_, m, rfl⟩, by simp [outI]⟩
  rw [if_pos any, List.map_map, List.map_map]
  refine List.map_congr_left fun q _ => ?_
  show (if (outI q).1 = (Sum.inl (x : Int) : Key) then ((outI q).1, sI k) else outI q) = outI (if q.1 = x then (x, k) else q)
  by_cases e : q.1 = x
  · rw [if_pos e, if_pos (by unfold outI; rw [e])]
    unfold outI
    rw [e]
  · rw [if_neg e, if_neg (fun z => e (by have := Sum.inl.inj (show (Sum.inl (q.1 : Int) : Key) = Sum.inl (x : Int) from z); omega))]
/-- the sizes' dict changes -/
theorem YardAt.put {a : Ad} {Y : YA} {d : Nat} {os os' : List PN} {H : Hp} (yo : YOb a Y d H) (so : H Y.sd = some (.dK (os.map outI))) (po : PoolAt a Y d (frl (Oc os') d) H) (n : Y.pd ≠ Y.sd) (g : Good d os') (f : os'.length ≤ 100000) : YardAt a Y d os' (L2.upd H Y.sd (.dK (os'.map outI))) := by
  refine ⟨?_, upd_same, ⟨?_, ?_, fun j hj => ?_, po.inj, po.rise, po.len, po.d60⟩, g, f, n⟩
  · show L2.upd H Y.sd _ Y.y = _
    rw [upd_ne (ne_of yo so (by intro z; cases z))]
    exact yo
  · rw [upd_ne (ne_of po.ob so (by intro z; cases z))]
    exact po.ob
  · rw [upd_ne n]
    exact po.dk
  · rw [upd_ne (ne_of (po.at_ j hj) so (by intro z; cases z))]
    exact po.at_ j hj
theorem best_or (os : List PN) (d k : Nat) : (∀ j i, k ≤ j → ¬ Mx (Oc os) d j i) ∨ ∃ m n, Best os d k m n := by
  by_cases h : ∃ j, k ≤ j ∧ ∃ i, Mx (Oc os) d j i
  · right
    -- the least exponent
    have least : ∀ b j, j ≤ b → k ≤ j → (∃ i, Mx (Oc os) d j i) → ∃ m, k ≤ m ∧ (∃ i, Mx (Oc os) d m i) ∧ ∀ j i, k ≤ j → j < m → ¬ Mx (Oc os) d j i := by
      intro b
      induction b with
      | zero => exact fun j h1 h2 h3 => ⟨j, h2, h3, fun j' i a1 a2 => by omega⟩
      | succ b ih =>
        intro j h1 h2 h3
        by_cases c : ∃ j', k ≤ j' ∧ j' < j ∧ ∃ i, Mx (Oc os) d j' i
        · obtain ⟨j', c1, c2, c3⟩ := c
          exact ih j' (by omega) c1 c3
        · exact ⟨j, h2, h3, fun j' i a1 a2 z => c ⟨j', a1, a2, i, z⟩⟩
    obtain ⟨j, h1, h2⟩ := h
    obtain ⟨m, km, ⟨i, hi⟩, small⟩ := least j j (Nat.le_refl _) h1 h2
    -- the least place
    have low : ∀ b i, i ≤ b → Mx (Oc os) d m i → ∃ i0, Mx (Oc os) d m i0 ∧ ∀ i', Mx (Oc os) d m i' → i0 ≤ i' := by
      intro b
      induction b with
      | zero => exact fun i h1 h2 => ⟨i, h2, fun i' _ => by omega⟩
      | succ b ih =>
        intro i h1 h2
        by_cases c : ∃ i', i' < i ∧ Mx (Oc os) d m i'
        · obtain ⟨i', c1, c2⟩ := c
          exact ih i' (by omega) c2
        · exact ⟨i, h2, fun i' z => by
            apply Classical.byContradiction
            intro w
            exact c ⟨i', by omega, z⟩⟩
    obtain ⟨i0, h3, h4⟩ := low i i (Nat.le_refl _) hi
    exact ⟨m, i0 * 2 ^ m, km, by rw [blk_of]; exact h3, by rw [blk_of], small, fun i' z => Nat.mul_le_mul_right _ (h4 i' z)⟩
  · left
    exact fun j i l z => h ⟨j, l, i, z⟩
theorem Best.head {os : List PN} {d k m n : Nat} (b : Best os d k m n) : ∃ r, frl (Oc os) d m = n :: r := by
  have hin : n ∈ frl (Oc os) d m := frl_mem.mpr ⟨_, b.al.symm, b.mx⟩
  cases e : frl (Oc os) d m with
  | nil => rw [e] at hin; cases hin
  | cons y r =>
    obtain ⟨i, e2, hi⟩ := frl_mem.mp (show y ∈ frl (Oc os) d m by rw [e]; exact List.mem_cons_self)
    have l1 := b.first i hi
    rw [← e2] at l1
    rw [e] at hin
    rcases List.mem_cons.mp hin with z | z
    · rw [z]
      exact ⟨r, rfl⟩
    · have r1 := frl_rise (Oc os) d m
      rw [e] at r1
      have := (List.pairwise_cons.mp r1).1 n z
      omega
/-- how many are out of a whole free piece: none begins there -/
theorem fr_key {os : List PN} {k n : Nat} (f : Fr (Oc os) k (n / 2 ^ k)) : ∀ q ∈ os, q.1 ≠ n := fun q m e => f n rfl ⟨q, m, by rw [e]⟩
theorem fits_iff {d : Nat} {os : List PN} {n h k : Nat} (g : Good d os) (m : (n, h) ∈ os) (hk : h ≤ k) (kd : k ≤ d) :
    (n % 2 ^ k = 0 ∧ ∀ j, h ≤ j → j < k → n + 2 ^ j ∈ frl (Oc os) d j) ↔ Fits os n k := by
  have e1 : n % 2 ^ k = 0 ↔ n / 2 ^ k * 2 ^ k = n := by
    have := Nat.div_add_mod n (2 ^ k)
    rw [Nat.mul_comm] at this
    omega
  unfold Fits
  rw [e1]
  refine and_congr_right fun al => ?_
  obtain ⟨K, hK, hM⟩ := out_mx g m
  have hO := fun c => Oc_outs (c := c) g m
  have inF : ∀ j, h ≤ j → j < k → (n + 2 ^ j ∈ frl (Oc os) d j ↔ Mx (Oc os) d j (sib (n / 2 ^ j))) := fun j _ jk => by rw [← sib_up al jk, frl_mem']
  constructor
  · intro z
    have kK : k ≤ K := by
      apply Classical.byContradiction
      intro w
      have := (inF K hK (by omega)).mp (z K hK (by omega))
      rw [mx_stop hK hM hO K hK (Nat.le_refl _)] at this
      omega
    exact fr_down hM.2.2.1 kK
  · intro f j hj jk
    rw [inF j hj jk]
    have kK : k ≤ K := mx_le hM kd f
    rw [mx_stop hK hM hO j hj (by omega)]
    omega
section
variable {P : Program} {w : World} {K : PySem.W.Frag} {mg : Str → Option Value} {base : Heap} {a : Ad}
theorem ok_Yard_init (T : Txt K mg a) : FnOk P w K mg base (L2.CX P w) 3 a.f_Yard_init a.d_Yard_init ["self", "cells"] (sp_Yard_init K a) := by
  have G_Pool_init : FnOk P w K mg base CX0 1 a.f_Pool_init a.d_Pool_init ["self", "cells"] (sp_Pool_init K a) := ok_Pool_init T
  have G_Pool_put : FnOk P w K mg base CX0 2 a.f_Pool_put a.d_Pool_put ["self", "at", "size"] (sp_Pool_put K a) := ok_Pool_put T
  have G_is_size : FnOk P w K mg base CX0 1 a.f_is_size a.d_is_size ["number"] (sp_is_size K a) := ok_is_size T
  refine T.Yard_init.okX sc_Yard_init (fun vs H Q E h => by first | (obtain ⟨rfl, _⟩ := h; rfl) | (obtain ⟨_, rfl, _⟩ := h; rfl) | (obtain ⟨_, _, rfl, _⟩ := h; rfl) | (obtain ⟨_, _, _, rfl, _⟩ := h; rfl) | (obtain ⟨_, _, _, _, rfl, _⟩ := h; rfl) | (obtain ⟨_, _, _, _, _, rfl, _⟩ := h; rfl) | (obtain ⟨_, _, _, _, _, _, rfl, _⟩ := h; rfl) | (obtain ⟨_, _, _, _, _, _, _, rfl, _⟩ := h; rfl) | (obtain ⟨_, _, _, _, _, _, _, _, rfl, _⟩ := h; rfl) | (obtain ⟨_, _, _, _, _, _, _, _, _, rfl, _⟩ := h; rfl) | (obtain ⟨_, _, _, _, _, _, _, _, _, _, rfl, _⟩ := h; rfl) | (obtain ⟨_, _, _, _, _, _, _, _, _, _, _, rfl, _⟩ := h; rfl)) (fun cdv A outer s H vs Q E hr h => ?_)
  refine ⟨_, pss_cons (ps_if (pt_not (pt_val (pe_call G_is_size (hr.mono (by decide)) rfl T.is_size.mg T.is_size.fn.kp T.is_size.bd .nil pass0 (pa_cons (pv 1) pa_nil)))) (pss_one (ps_raise rfl (takes_of rfl rfl rfl rfl) (pmk_own PySem.F.excBase_ValueError T.e_NoYard.x T.e_NoYard.g T.e_NoYard.k (raises_own T.e_NoYard.is.hs T.e_NoYard.t) (by exact rfl)))) pss_nil)
      (pss_cons (ps_fld (pv 0) (pv 1) rfl)
      (pss_cons (ps_fld (pv 0) pe_dnewK rfl)
      (pss_cons (ps_fld (pv 0) (pe_make T.m_Pool_init G_Pool_init (hr.mono (by decide)) rfl T.g_Pool T.b_Pool_init .nil pass0 (pa_cons (pv 1) pa_nil)) rfl)
      (pss_one (ps_expr (pe_meth (pe_fld (pv 0) rfl) T.cl_Pool T.m_Pool_put G_Pool_put (hr.mono (by decide)) T.b_Pool_put .nil pass0 (pa_cons pe_int (pa_cons (pv 1) pa_nil)))))))), ?_⟩
  obtain ⟨y, dy, x, rfl, hy, qE, qQ⟩ := h
  refine ⟨_, rfl, x, rfl, fun isz => ?_, fun nsz => ⟨_, rfl, iteT (qE nsz)⟩⟩
  obtain ⟨d, d60, rfl⟩ := isz
  refine ⟨_, rfl, iteF ?_⟩
  refine ⟨_, rfl, _, rfl, y, a.c_Yard, dy, [], rfl, hy, T.cl_Yard, T.n_Yard_cells, (by show 0 < 1000; decide), fun sd nsd => ?_⟩
  have ysd : y ≠ sd := fun z => by rw [← z, upd_same] at nsd; cases nsd
  refine ⟨_, rfl, y, a.c_Yard, dy, _, rfl, (by rw [upd_ne ysd]; exact upd_same), T.cl_Yard, T.n_Yard__sizes, (by show 1 < 1000; decide), ?_⟩
  refine ⟨_, rfl, fun p dp np ndp ne => ?_⟩
  have yp : y ≠ p := fun z => by rw [← z, upd_same] at np; cases np
  have ydp : y ≠ dp := fun z => by rw [← z, upd_same] at ndp; cases ndp
  refine ⟨p, dp, d, rfl, upd_same, d60, fun pd ls H3 po npd nls only => ⟨rfl, ?_⟩⟩
  have hy3 : H3 y = some (.ins a.c_Yard dy (putF "_sizes" (.ref sd) (putF "cells" (sI d) []))) := only _ _ (by rw [upd_ne yp, upd_ne ydp, upd_same]) (by simp [yp])
  have sdp : sd ≠ p := fun z => by rw [← z, upd_ne ysd.symm, upd_same] at np; cases np
  have sddp : sd ≠ dp := fun z => by rw [← z, upd_ne ysd.symm, upd_same] at ndp; cases ndp
  have hsd3 : H3 sd = some (.dK []) := only _ _ (by rw [upd_ne sdp, upd_ne sddp, upd_ne ysd.symm, upd_same]) (by simp [sdp])
  refine ⟨_, rfl, y, a.c_Yard, dy, _, rfl, hy3, T.cl_Yard, T.n_Yard__pool, (by show 2 < 1000; decide), ?_⟩
  have po3 := po y sd dy
  have po4 : PoolAt a ⟨y, sd, p, pd, dy, dp, ls⟩ d (fun _ => []) (L2.upd H3 y (.ins a.c_Yard dy (yFs ⟨y, sd, p, pd, dy, dp, ls⟩ d))) := po3.other hy3 yp
  refine ⟨_, rfl, y, a.c_Yard, dy, _, _, rfl, upd_same, T.cl_Yard, T.n_Yard__pool, yFs_pool ⟨y, sd, p, pd, dy, dp, ls⟩ d, p, dp, _, rfl, po4.ob, pFs_no _ (by decide +kernel), _, rfl, ⟨y, sd, p, pd, dy, dp, ls⟩, d, 0, d, _, rfl, po4, Nat.le_refl _, by simp, by simp, ?_⟩
  have po5 := (po4.upd (k := d) (l := ins 0 []) (Nat.le_refl _) (ins_rise List.Pairwise.nil) (by decide)).congr fun j hj => frl_first d j hj
  -- what was there is there
  have all : Only [y] H (L2.upd (L2.upd H3 y (.ins a.c_Yard dy (yFs ⟨y, sd, p, pd, dy, dp, ls⟩ d))) (ls d) (.lst ((ins 0 []).map nI))) := by
    intro b o e nb
    have nby : b ≠ y := fun z => nb (by simp [z])
    have bsd : b ≠ sd := fun z => by rw [← z, upd_ne nby, e] at nsd; cases nsd
    have e2 : L2.upd (L2.upd (L2.upd H y (.ins a.c_Yard dy (putF "cells" (sI d) []))) sd (.dK [])) y (.ins a.c_Yard dy (putF "_sizes" (.ref sd) (putF "cells" (sI d) []))) b = some o := by
      rw [upd_ne nby, upd_ne bsd, upd_ne nby]
      exact e
    have bp : b ≠ p := fun z => by rw [z, np] at e2; cases e2
    have bdp : b ≠ dp := fun z => by rw [z, ndp] at e2; cases e2
    have bl : b ≠ ls d := fun z => by
      have n := nls d (Nat.le_refl _)
      rw [← z, upd_ne bp, upd_ne bdp, e2] at n
      cases n
    rw [upd_ne bl, upd_ne nby]
    exact only _ _ (by rw [upd_ne bp, upd_ne bdp]; exact e2) (by simp [bp])
  have lat := po3.at_ d (Nat.le_refl _)
  have npdsd : pd ≠ sd := fun z => by
    rw [z, upd_ne sdp, upd_ne sddp, upd_ne ysd.symm, upd_same] at npd
    cases npd
  refine qQ d d60 rfl ⟨y, sd, p, pd, dy, dp, ls⟩ _ rfl ⟨?_, ?_, po5, Good.nil d, by simp, npdsd⟩ ?_ all
  · show L2.upd _ _ _ y = _
    rw [upd_ne (ne_of hy3 lat (by intro z; cases z))]
    exact upd_same
  · rw [upd_ne (ne_of hsd3 lat (by intro z; cases z)), upd_ne ysd.symm]
    exact hsd3
  · intro b hb
    rcases List.mem_cons.mp hb with rfl | hb
    · rw [upd_ne ysd.symm] at nsd
      exact nsd
    · obtain ⟨j, hj, rfl⟩ := List.mem_map.mp hb
      have hj : j ≤ d := by have := List.mem_range.mp hj; omega
      have n := nls j hj
      have nat : H3 (ls j) = some (.lst []) := po3.at_ j hj
      have n1 : ls j ≠ p := fun z => by
        have w : H3 p = some (.ins a.c_Pool dp (pFs ⟨y, sd, p, pd, dy, dp, ls⟩)) := po3.ob
        rw [← z, nat] at w
        cases w
      have n2 : ls j ≠ y := fun z => by rw [z, hy3] at nat; cases nat
      have n3 : ls j ≠ sd := fun z => by rw [z, hsd3] at nat; cases nat
      show H (ls j) = none
      have n4 : ls j ≠ dp := fun z => by
        rw [z, upd_ne ne, upd_same] at n
        cases n
      rw [upd_ne n1, upd_ne n4, upd_ne n2, upd_ne n3, upd_ne n2] at n
      exact n
theorem ok_Yard_give (T : Txt K mg a) : FnOk P w K mg base (L2.CX P w) 4 a.f_Yard_give a.d_Yard_give ["self", "want"] (sp_Yard_give K a) := by
  have G_Pool_best : FnOk P w K mg base CX0 1 a.f_Pool_best a.d_Pool_best ["self", "size"] (sp_Pool_best K a) := ok_Pool_best T
  have G_Pool_drop : FnOk P w K mg base CX0 2 a.f_Pool_drop a.d_Pool_drop ["self", "at", "size"] (sp_Pool_drop K a) := ok_Pool_drop T
  have G_Yard_cut : FnOk P w K mg base CX0 3 a.f_Yard_cut a.d_Yard_cut ["self", "at", "size", "least"] (sp_Yard_cut K a) := ok_Yard_cut T
  have G_Yard_fitting : FnOk P w K mg base (L2.CX P w) 2 a.f_Yard_fitting a.d_Yard_fitting ["self", "want"] (sp_Yard_fitting K a) := ok_Yard_fitting T
  refine T.Yard_give.okX sc_Yard_give (fun vs H Q E h => by first | (obtain ⟨rfl, _⟩ := h; rfl) | (obtain ⟨_, rfl, _⟩ := h; rfl) | (obtain ⟨_, _, rfl, _⟩ := h; rfl) | (obtain ⟨_, _, _, rfl, _⟩ := h; rfl) | (obtain ⟨_, _, _, _, rfl, _⟩ := h; rfl) | (obtain ⟨_, _, _, _, _, rfl, _⟩ := h; rfl) | (obtain ⟨_, _, _, _, _, _, rfl, _⟩ := h; rfl) | (obtain ⟨_, _, _, _, _, _, _, rfl, _⟩ := h; rfl) | (obtain ⟨_, _, _, _, _, _, _, _, rfl, _⟩ := h; rfl) | (obtain ⟨_, _, _, _, _, _, _, _, _, rfl, _⟩ := h; rfl) | (obtain ⟨_, _, _, _, _, _, _, _, _, _, rfl, _⟩ := h; rfl) | (obtain ⟨_, _, _, _, _, _, _, _, _, _, _, rfl, _⟩ := h; rfl)) (fun cdv A outer s H vs Q E hr h => ?_)
  refine ⟨_, pss_cons (ps_set (i := 2) sc_Yard_give.nd rfl (Or.inl rfl) (pe_meth (pv 0) T.cl_Yard T.m_Yard_fitting G_Yard_fitting (hr.mono (by decide)) T.b_Yard_fitting .nil (passX (takes_of rfl rfl rfl rfl)) (pa_cons (pv 1) pa_nil)))
      (pss_cons (ps_set (i := 3) sc_Yard_give.nd rfl (Or.inl rfl) (pe_meth (pe_fld (pv 0) rfl) T.cl_Pool T.m_Pool_best G_Pool_best (hr.mono (by decide)) T.b_Pool_best .nil pass0 (pa_cons (pv 2) pa_nil)))
      (pss_cons (ps_if (pt_cmpR op_isN (pv 3) pe_non (nomark _)) (pss_one (ps_raise rfl (takes_of rfl rfl rfl rfl) (pmk_own PySem.F.excBase_ValueError T.e_NoRoom.x T.e_NoRoom.g T.e_NoRoom.k (raises_own T.e_NoRoom.is.hs T.e_NoRoom.t) (by exact rfl)))) pss_nil)
      (pss_cons (ps_asg (pv 3) (pg_tup rfl (pgs_cons (pg_name (i := 4) sc_Yard_give.nd rfl (Or.inl rfl)) (pgs_cons (pg_name (i := 5) sc_Yard_give.nd rfl (Or.inl rfl)) pgs_nil))))
      (pss_cons (ps_expr (pe_meth (pe_fld (pv 0) rfl) T.cl_Pool T.m_Pool_drop G_Pool_drop (hr.mono (by decide)) T.b_Pool_drop .nil pass0 (pa_cons (pv 4) (pa_cons (pv 5) pa_nil))))
      (pss_cons (ps_expr (pe_meth (pv 0) T.cl_Yard T.m_Yard_cut G_Yard_cut (hr.mono (by decide)) T.b_Yard_cut .nil pass0 (pa_cons (pv 4) (pa_cons (pv 5) (pa_cons (pv 2) pa_nil)))))
      (pss_cons (ps_dput (hu_of hr) (pe_fld (pv 0) rfl) (pv 4) (pv 2) rfl)
      (pss_one (ps_ret (pv 4))))))))), ?_⟩
  obtain ⟨Y, d, os, x, rfl, ya, few, q1, q2, q3⟩ := h
  have d60 := ya.po.d60
  refine ⟨_, rfl, Y.y, Y.dy, _, rfl, ya.yo, yFs_no Y d (by decide +kernel) (by decide +kernel) (by decide +kernel), _, rfl, Y, d, x, rfl, ya.yo, d60, q1, fun c => q2 (by have := Nat.pow_pos (n := d) (show 0 < 2 by decide); omega) (.inl c) H fun b o e => e, fun h1 h2 => ?_⟩
  have fd := fit_le h1 h2 d60
  refine ⟨_, rfl, Y.y, a.c_Yard, Y.dy, _, _, rfl, ya.yo, T.cl_Yard, T.n_Yard__pool, yFs_pool Y d, Y.p, Y.dp, _, rfl, ya.po.ob, pFs_no Y (by decide +kernel), _, rfl, Y, d, fit x, _, rfl, ya.po, fun none H1 same => ?_, fun m n r km md small eF t H1 same ht => ?_⟩
  · refine ⟨_, rfl, rfl, _, rfl, iteT ?_⟩
    refine q2 h1 (.inr fun j i hj z => ?_) H1 same
    have := none j hj z.1
    exact frl_nil.mp this i z
  · refine ⟨_, rfl, rfl, _, rfl, iteF ?_⟩
    refine ⟨_, rfl, t, _, rfl, SqT.of ht, rfl, _, _, rfl, _, _, rfl, rfl, ?_⟩
    have po1 := ya.po.keep same
    have yo1 : YOb a Y d H1 := same _ _ ya.yo
    have nin : n ∈ frl (Oc os) d m := by rw [eF]; exact List.mem_cons_self
    obtain ⟨i0, en, hM⟩ := frl_mem.mp nin
    have enm : n / 2 ^ m = i0 := by rw [en, blk_of]
    have al : n / 2 ^ m * 2 ^ m = n := by rw [enm]; exact en.symm
    rw [← enm] at hM
    have best : Best os d (fit x) m n := ⟨km, hM, al, fun j i h1 h2 => frl_nil.mp (small j h1 h2) i, fun i hi => by
      have r1 := frl_rise (Oc os) d m
      have hin := frl_mem'.mpr hi
      rw [eF] at r1 hin
      rcases List.mem_cons.mp hin with z | z
      · omega
      · have := (List.pairwise_cons.mp r1).1 _ z
        omega⟩
    refine ⟨_, rfl, Y.y, a.c_Yard, Y.dy, _, _, rfl, yo1, T.cl_Yard, T.n_Yard__pool, yFs_pool Y d, Y.p, Y.dp, _, rfl, po1.ob, pFs_no Y (by decide +kernel), _, rfl, _, rfl, Y, d, n, m, _, rfl, po1, md, nin, ?_⟩
    have lm := frl_len (d := d) (j := m) (os := os)
    have po2 := po1.upd (k := m) md (del_rise (x := n) (frl_rise (Oc os) d m)) (by
      have := List.length_filter_le (fun y => decide (y ≠ n)) (frl (Oc os) d m)
      unfold del
      omega)
    have only2 : Only (lsA Y d) H1 (L2.upd H1 (Y.ls m) (.lst ((del n (frl (Oc os) d m)).map nI))) := Only.upd _ (lsA_mem md)
    have yo2 := only2 _ _ yo1 (po1.off yo1 (by intro xs z; cases z))
    have hO := fun c => Oc_snoc (os := os) (x := n) (k := fit x) (c := c)
    refine ⟨_, rfl, Y.y, Y.dy, _, rfl, yo2, yFs_no Y d (by decide +kernel) (by decide +kernel) (by decide +kernel), _, rfl, _, rfl, _, rfl, Y, d, n, fit x, m, _, rfl, yo2, po2, md, fun j h1 h2 => ?_, fun H3 po3 only3 => ?_⟩
    · have e : setF (frl (Oc os) d) m (del n (frl (Oc os) d m)) j = frl (Oc os) d j := by
        unfold setF
        rw [if_neg (by omega)]
      rw [e, small j h1 h2]
      exact ⟨by simp, by simp⟩
    · have f : Fr (Oc os) (fit x) (n / 2 ^ fit x) := fr_down hM.2.2.1 km
      have g2 := ya.good.snoc fd (al_down al km) best.lt f
      have po4 : PoolAt a Y d (frl (Oc (os ++ [(n, fit x)])) d) H3 := po3.congr fun j hj => by
        rw [← can_give km hM hO j, cutF_add al (Nat.le_refl m), al]
      have so1 : H3 Y.sd = some (.dK (os.map outI)) := only3 _ _ (only2 _ _ (same _ _ ya.so) (po1.off (same _ _ ya.so) (by intro xs z; cases z))) (po2.off (only2 _ _ (same _ _ ya.so) (po1.off (same _ _ ya.so) (by intro xs z; cases z))) (by intro xs z; cases z))
      have yo3 : YOb a Y d H3 := only3 _ _ yo2 (po2.off yo2 (by intro xs z; cases z))
      refine ⟨_, rfl, _, rfl, Y.y, a.c_Yard, Y.dy, _, _, rfl, yo3, T.cl_Yard, T.n_Yard__sizes, yFs_sizes Y d, _, rfl, Y.sd, _, rfl, DPut.k (k := Sum.inl (n : Int)) so1 (by rw [List.length_map, sizeLine_eq]; omega), ?_⟩
      rw [out_put (fr_key f)]
      refine ⟨_, rfl, ?_⟩
      refine q3 h1 h2 m n best _ (YardAt.put yo3 so1 po4 ya.ne g2 (by rw [List.length_append]; show os.length + 1 ≤ 100000; omega)) ?_
      refine Only.trans ((Only.same same).trans ((only2.trans only3).mono lsA_own)) (Only.upd _ List.mem_cons_self)
theorem ok_Yard_take_back (T : Txt K mg a) : FnOk P w K mg base (L2.CX P w) 4 a.f_Yard_take_back a.d_Yard_take_back ["self", "at"] (sp_Yard_take_back K a) := by
  have G_Yard_join : FnOk P w K mg base CX0 3 a.f_Yard_join a.d_Yard_join ["self", "at", "size"] (sp_Yard_join K a) := ok_Yard_join T
  have G_Yard_size_of : FnOk P w K mg base (L2.CX P w) 1 a.f_Yard_size_of a.d_Yard_size_of ["self", "at"] (sp_Yard_size_of K a) := ok_Yard_size_of T
  refine T.Yard_take_back.okX sc_Yard_take_back (fun vs H Q E h => by first | (obtain ⟨rfl, _⟩ := h; rfl) | (obtain ⟨_, rfl, _⟩ := h; rfl) | (obtain ⟨_, _, rfl, _⟩ := h; rfl) | (obtain ⟨_, _, _, rfl, _⟩ := h; rfl) | (obtain ⟨_, _, _, _, rfl, _⟩ := h; rfl) | (obtain ⟨_, _, _, _, _, rfl, _⟩ := h; rfl) | (obtain ⟨_, _, _, _, _, _, rfl, _⟩ := h; rfl) | (obtain ⟨_, _, _, _, _, _, _, rfl, _⟩ := h; rfl) | (obtain ⟨_, _, _, _, _, _, _, _, rfl, _⟩ := h; rfl) | (obtain ⟨_, _, _, _, _, _, _, _, _, rfl, _⟩ := h; rfl) | (obtain ⟨_, _, _, _, _, _, _, _, _, _, rfl, _⟩ := h; rfl) | (obtain ⟨_, _, _, _, _, _, _, _, _, _, _, rfl, _⟩ := h; rfl)) (fun cdv A outer s H vs Q E hr h => ?_)
  refine ⟨_, pss_cons (ps_set (i := 2) sc_Yard_take_back.nd rfl (Or.inl rfl) (pe_meth (pv 0) T.cl_Yard T.m_Yard_size_of G_Yard_size_of (hr.mono (by decide)) T.b_Yard_size_of .nil (passX (takes_of rfl rfl rfl rfl)) (pa_cons (pv 1) pa_nil)))
      (pss_cons (ps_ddel (pe_fld (pv 0) rfl) (pv 1))
      (pss_cons (ps_expr (pe_meth (pv 0) T.cl_Yard T.m_Yard_join G_Yard_join (hr.mono (by decide)) T.b_Yard_join .nil pass0 (pa_cons (pv 1) (pa_cons (pv 2) pa_nil))))
      (pss_one (ps_ret (pv 2))))), ?_⟩
  obtain ⟨Y, d, os, x, rfl, ya, q1, q2⟩ := h
  have d60 := ya.po.d60
  refine ⟨_, rfl, Y.y, Y.dy, _, rfl, ya.yo, yFs_no Y d (by decide +kernel) (by decide +kernel) (by decide +kernel), _, rfl, Y, d, os, x, rfl, ya.yo, ya.so, ya.good, q1, fun n k m e => ?_⟩
  subst e
  have ev := valV_out ya.good m
  refine ⟨_, rfl, Y.y, a.c_Yard, Y.dy, _, _, rfl, ya.yo, T.cl_Yard, T.n_Yard__sizes, yFs_sizes Y d, _, rfl, Y.sd, _, Sum.inl (n : Int), rfl, ya.so, rfl, by rw [ev]; rfl, ?_⟩
  rw [out_drop]
  obtain ⟨K0, hK, hM⟩ := out_mx ya.good m
  have hO := fun c => Oc_outs (c := c) ya.good m
  have al := (ya.good.each _ m).2.1
  have g2 : Good d (outs os n) := ya.good.sub List.filter_sublist
  -- the sizes' dict first
  have yo1 : YOb a Y d (L2.upd H Y.sd (.dK ((outs os n).map outI))) := by
    show L2.upd H Y.sd _ Y.y = _
    rw [upd_ne (ne_of ya.yo ya.so (by intro z; cases z))]
    exact ya.yo
  have po1 : PoolAt a Y d (frl (Oc os) d) (L2.upd H Y.sd (.dK ((outs os n).map outI))) := by
    refine ⟨?_, ?_, fun j hj => ?_, ya.po.inj, ya.po.rise, ya.po.len, ya.po.d60⟩
    · rw [upd_ne (ne_of ya.po.ob ya.so (by intro z; cases z))]
      exact ya.po.ob
    · rw [upd_ne ya.ne]
      exact ya.po.dk
    · rw [upd_ne (ne_of (ya.po.at_ j hj) ya.so (by intro z; cases z))]
      exact ya.po.at_ j hj
  have stop := fun j h1 h2 => mx_stop hK hM hO j h1 h2
  refine ⟨_, rfl, Y.y, Y.dy, _, rfl, yo1, yFs_no Y d (by decide +kernel) (by decide +kernel) (by decide +kernel), _, rfl, _, rfl, Y, d, n, k, K0, frl (Oc os) d, rfl, yo1, po1, hK, hM.1, al, fun j h1 h2 => ?_, fun z => ?_, fun z => ?_, ?_, fun H2 po2 only2 => ?_⟩
  · rw [frl_mem']
    exact (stop j h1 (by omega)).mpr h2
  · rw [frl_mem', stop K0 hK (Nat.le_refl _)] at z
    omega
  · rw [frl_mem'] at z
    exact z.2.2.1 n rfl ((hO n).mpr (.inr rfl))
  · have := frl_len (d := d) (j := K0) (os := os)
    have := ya.few
    omega
  · refine ⟨_, rfl, ?_⟩
    refine q2 n k m rfl H2 ⟨only2 _ _ yo1 (po1.off yo1 (by intro xs z; cases z)), only2 _ _ upd_same (po1.off upd_same (by intro xs z; cases z)), po2.congr fun j hj => ?_, g2, ?_, ya.ne⟩ ((Only.upd _ List.mem_cons_self).trans (only2.mono lsA_own))
    · rw [← can_back hK hM hO j, remF_at]
    · exact Nat.le_trans (List.length_filter_le _ _) ya.few
theorem ok_Yard_resize (T : Txt K mg a) : FnOk P w K mg base (L2.CX P w) 4 a.f_Yard_resize a.d_Yard_resize ["self", "at", "want"] (sp_Yard_resize K a) := by
  have G_Yard_cut : FnOk P w K mg base CX0 3 a.f_Yard_cut a.d_Yard_cut ["self", "at", "size", "least"] (sp_Yard_cut K a) := ok_Yard_cut T
  have G_Yard_fitting : FnOk P w K mg base (L2.CX P w) 2 a.f_Yard_fitting a.d_Yard_fitting ["self", "want"] (sp_Yard_fitting K a) := ok_Yard_fitting T
  have G_Yard_grow : FnOk P w K mg base (L2.CX P w) 3 a.f_Yard_grow a.d_Yard_grow ["self", "at", "had", "size"] (sp_Yard_grow K a) := ok_Yard_grow T
  have G_Yard_size_of : FnOk P w K mg base (L2.CX P w) 1 a.f_Yard_size_of a.d_Yard_size_of ["self", "at"] (sp_Yard_size_of K a) := ok_Yard_size_of T
  refine T.Yard_resize.okX sc_Yard_resize (fun vs H Q E h => by first | (obtain ⟨rfl, _⟩ := h; rfl) | (obtain ⟨_, rfl, _⟩ := h; rfl) | (obtain ⟨_, _, rfl, _⟩ := h; rfl) | (obtain ⟨_, _, _, rfl, _⟩ := h; rfl) | (obtain ⟨_, _, _, _, rfl, _⟩ := h; rfl) | (obtain ⟨_, _, _, _, _, rfl, _⟩ := h; rfl) | (obtain ⟨_, _, _, _, _, _, rfl, _⟩ := h; rfl) | (obtain ⟨_, _, _, _, _, _, _, rfl, _⟩ := h; rfl) | (obtain ⟨_, _, _, _, _, _, _, _, rfl, _⟩ := h; rfl) | (obtain ⟨_, _, _, _, _, _, _, _, _, rfl, _⟩ := h; rfl) | (obtain ⟨_, _, _, _, _, _, _, _, _, _, rfl, _⟩ := h; rfl) | (obtain ⟨_, _, _, _, _, _, _, _, _, _, _, rfl, _⟩ := h; rfl)) (fun cdv A outer s H vs Q E hr h => ?_)
  refine ⟨_, pss_cons (ps_set (i := 3) sc_Yard_resize.nd rfl (Or.inl rfl) (pe_meth (pv 0) T.cl_Yard T.m_Yard_size_of G_Yard_size_of (hr.mono (by decide)) T.b_Yard_size_of .nil (passX (takes_of rfl rfl rfl rfl)) (pa_cons (pv 1) pa_nil)))
      (pss_cons (ps_set (i := 4) sc_Yard_resize.nd rfl (Or.inl rfl) (pe_meth (pv 0) T.cl_Yard T.m_Yard_fitting G_Yard_fitting (hr.mono (by decide)) T.b_Yard_fitting .nil (passX (takes_of rfl rfl rfl rfl)) (pa_cons (pv 2) pa_nil)))
      (pss_cons (ps_if (pt_cmpR op_gt (pv 4) (pv 3) (nomark _)) (pss_one (ps_expr (pe_meth (pv 0) T.cl_Yard T.m_Yard_grow G_Yard_grow (hr.mono (by decide)) T.b_Yard_grow .nil (passX (takes_of rfl rfl rfl rfl)) (pa_cons (pv 1) (pa_cons (pv 3) (pa_cons (pv 4) pa_nil)))))) (pss_one (ps_expr (pe_meth (pv 0) T.cl_Yard T.m_Yard_cut G_Yard_cut (hr.mono (by decide)) T.b_Yard_cut .nil pass0 (pa_cons (pv 1) (pa_cons (pv 3) (pa_cons (pv 4) pa_nil)))))))
      (pss_cons (ps_dput (hu_of hr) (pe_fld (pv 0) rfl) (pv 1) (pv 4) rfl)
      (pss_one (ps_ret (pv 4)))))), ?_⟩
  obtain ⟨Y, d, os, x, x2, rfl, ya, q1, q2⟩ := h
  have d60 := ya.po.d60
  refine ⟨_, rfl, Y.y, Y.dy, _, rfl, ya.yo, yFs_no Y d (by decide +kernel) (by decide +kernel) (by decide +kernel), _, rfl, Y, d, os, x, rfl, ya.yo, ya.so, ya.good, q1, fun n h m e => ?_⟩
  subst e
  obtain ⟨q3, q4, q5⟩ := q2 n h m rfl
  refine ⟨_, rfl, Y.y, Y.dy, _, rfl, ya.yo, yFs_no Y d (by decide +kernel) (by decide +kernel) (by decide +kernel), _, rfl, Y, d, x2, rfl, ya.yo, d60, q3, fun c => q4 (by have := Nat.pow_pos (n := d) (show 0 < 2 by decide); omega) (.inl c) H fun b o e => e, fun h1 h2 => ?_⟩
  have fd := fit_le h1 h2 d60
  obtain ⟨K0, hK, hM⟩ := out_mx ya.good m
  have hO := fun c => Oc_outs (c := c) ya.good m
  have hO2 := fun c => Oc_outr (k := fit x2) (c := c) ya.good m
  have al := (ya.good.each _ m).2.1
  generalize hk : fit x2 = k at *
  -- the end of both ways
  have fin : ∀ H2, PoolAt a Y d (frl (Oc (outr os n k)) d) H2 → Only (lsA Y d) H H2 → Fits os n k → YardAt a Y d (outr os n k) (L2.upd H2 Y.sd (.dK ((outr os n k).map outI))) ∧ H2 Y.sd = some (.dK (os.map outI)) ∧ YOb a Y d H2 := by
    intro H2 po2 only2 ft
    have so2 := only2 _ _ ya.so ya.dne
    have yo2 : YOb a Y d H2 := only2 _ _ ya.yo (ya.po.off ya.yo (by intro xs z; cases z))
    refine ⟨YardAt.put yo2 so2 po2 ya.ne (Good.outr ya.good m fd ft.1 ft.2) ?_, so2, yo2⟩
    unfold outr
    rw [List.length_map]
    exact ya.few
  refine ⟨_, rfl, _, rfl, _, _, rfl, rfl, _, rfl, ?_⟩
  by_cases c : h < k
  · have plt : 2 ^ h < 2 ^ k := Nat.pow_lt_pow_right (by decide) c
    refine iteTof (decide_eq_true (show ((2 ^ k : Nat) : Int) > ((2 ^ h : Nat) : Int) by omega)) ?_
    have iff := fits_iff ya.good m (Nat.le_of_lt c) fd
    refine ⟨_, rfl, Y.y, Y.dy, _, rfl, ya.yo, yFs_no Y d (by decide +kernel) (by decide +kernel) (by decide +kernel), _, rfl, _, rfl, _, rfl, Y, d, n, h, k, _, rfl, ya.yo, ya.po, fd, fun nf H1 same => ?_, fun c0 c1 H2 po2 only2 => ?_⟩
    · exact q4 h1 (.inr fun ft => nf (iff.mpr ft)) H1 same
    · have ft := iff.mp ⟨c0, c1⟩
      have kK : k ≤ K0 := mx_le hM fd ft.2
      have sz := fun j i => mx_size (O1 := Oc (outr os n k)) (O2 := Oc os) kK hK hM hO2 hO (Nat.le_of_lt c) j i
      have po3 : PoolAt a Y d (frl (Oc (outr os n k)) d) H2 := po2.congr fun j hj => by
        rw [rmF_rem ft.1 (Nat.le_refl k)]
        exact can_grow (fun j i => (sz j i).1) (fun j h1 h2 => (sz j 0).2 h1 h2) j
      obtain ⟨ya2, so2, yo2⟩ := fin H2 po3 only2 ft
      refine ⟨_, rfl, _, rfl, Y.y, a.c_Yard, Y.dy, _, _, rfl, yo2, T.cl_Yard, T.n_Yard__sizes, yFs_sizes Y d, _, rfl, Y.sd, _, rfl, DPut.k (k := Sum.inl (n : Int)) so2 (by rw [List.length_map, sizeLine_eq]; have := ya.few; omega), ?_⟩
      rw [out_again ⟨h, m⟩]
      refine ⟨_, rfl, ?_⟩
      exact q5 h1 h2 ft _ ya2 ((only2.mono lsA_own).trans (Only.upd _ List.mem_cons_self))
  · have ple : 2 ^ k ≤ 2 ^ h := Nat.pow_le_pow_right (by decide) (by omega)
    refine iteFof (decide_eq_false (show ¬ ((2 ^ k : Nat) : Int) > ((2 ^ h : Nat) : Int) by omega)) ?_
    have ft : Fits os n k := ⟨al_down al (by omega), fr_down (fr_outs ya.good m) (by omega)⟩
    have sz := fun j i => mx_size (O1 := Oc os) (O2 := Oc (outr os n k)) hK (Nat.le_trans (Nat.not_lt.mp c) hK) hM hO hO2 (Nat.not_lt.mp c) j i
    have hd := (ya.good.each _ m).1
    refine ⟨_, rfl, Y.y, Y.dy, _, rfl, ya.yo, yFs_no Y d (by decide +kernel) (by decide +kernel) (by decide +kernel), _, rfl, _, rfl, _, rfl, Y, d, n, k, h, _, rfl, ya.yo, ya.po, hd, fun j h1 h2 => ⟨fun z => ?_, ?_⟩, fun H2 po2 only2 => ?_⟩
    · rw [← sib_up al h2, frl_mem'] at z
      exact (sz j 0).2 h1 h2 z
    · have := frl_len (d := d) (j := j) (os := os)
      have := ya.few
      omega
    · have po3 : PoolAt a Y d (frl (Oc (outr os n k)) d) H2 := po2.congr fun j hj => by
        rw [cutF_add al (Nat.le_refl h)]
        exact can_shrink (fun j i => (sz j i).1) j
      obtain ⟨ya2, so2, yo2⟩ := fin H2 po3 only2 ft
      refine ⟨_, rfl, _, rfl, Y.y, a.c_Yard, Y.dy, _, _, rfl, yo2, T.cl_Yard, T.n_Yard__sizes, yFs_sizes Y d, _, rfl, Y.sd, _, rfl, DPut.k (k := Sum.inl (n : Int)) so2 (by rw [List.length_map, sizeLine_eq]; have := ya.few; omega), ?_⟩
      rw [out_again ⟨h, m⟩]
      refine ⟨_, rfl, ?_⟩
      exact q5 h1 h2 ft _ ya2 ((only2.mono lsA_own).trans (Only.upd _ List.mem_cons_self))
end
/-! ### == of lists of pairs -/
def dP (q : PI2) : PyData := .tuple [.int q.1, .int q.2]
def dL (zs : List PI2) : PyData := .list (zs.map dP)
theorem dP_eqv (p q : PI2) : PyData.eqv (dP p) (dP q) = decide (p = q) := by
  unfold dP
  simp only [PyData.eqv, PyData.eqvAll, Bool.and_true]
  obtain ⟨a, b⟩ := p
  obtain ⟨c, d⟩ := q
  by_cases h1 : a = c <;> by_cases h2 : b = d <;> simp [h1, h2]
theorem dAll_eqv : ∀ zs ws : List PI2, PyData.eqvAll (zs.map dP) (ws.map dP) = decide (zs = ws)
  | [], [] => by simp [PyData.eqvAll]
  | [], w :: ws => by simp [PyData.eqvAll]
  | z :: zs, [] => by simp [PyData.eqvAll]
  | z :: zs, w :: ws => by
    rw [List.map_cons, List.map_cons, PyData.eqvAll, dP_eqv, dAll_eqv zs ws]
    by_cases h1 : z = w <;> by_cases h2 : zs = ws <;> simp [h1, h2]
theorem dL_eqv (zs ws : List PI2) : PyData.eqv (dL zs) (dL ws) = decide (zs = ws) := by
  unfold dL
  rw [PyData.eqv, dAll_eqv]
theorem dP_lay (q : PI2) : (dP q).canLay0 = true := by simp [dP, PyData.canLay0, PyData.canLayAll0]
theorem dP_depth (q : PI2) : (dP q).depth = 1 := by simp [dP, PyData.depth, PyData.depthAll]
theorem dP_shaped (q : PI2) : SeqAt.shaped (dP q) = true := by
  unfold SeqAt.shaped
  rw [dP_lay, dP_depth]
  rfl
theorem dAll_lay : ∀ zs : List PI2, PyData.canLayAll0 (zs.map dP) = true
  | [] => by simp [PyData.canLayAll0]
  | z :: zs => by rw [List.map_cons, PyData.canLayAll0, dP_lay, dAll_lay zs]; rfl
theorem dAll_depth : ∀ zs : List PI2, PyData.depthAll (zs.map dP) ≤ 1
  | [] => by simp [PyData.depthAll]
  | z :: zs => by
    have := dAll_depth zs
    rw [List.map_cons, PyData.depthAll, dP_depth]
    omega
theorem dL_lay (zs : List PI2) : (dL zs).canLay0 = true := by
  unfold dL
  rw [PyData.canLay0]
  exact dAll_lay zs
theorem dL_depth (zs : List PI2) : (dL zs).depth ≤ 2 := by
  unfold dL
  rw [PyData.depth]
  have := dAll_depth zs
  omega
theorem dL_shaped (zs : List PI2) : SeqAt.shaped (dL zs) = true := by
  unfold SeqAt.shaped
  rw [dL_lay, decide_eq_true (by have := dL_depth zs; omega)]
  rfl
theorem dp_pair {K : PySem.W.Frag} {H : Hp} {t : Addr} {q : PI2} (h : H t = some (.tup [.int q.1, .int q.2])) : Dp K H (.ref t) (dP q) := .tup (SqT.of h) (.cons (.int _) (.cons (.int _) .nil))
theorem dp_all {K : PySem.W.Frag} {H : Hp} : ∀ {ts : List Addr} {zs : List PI2}, Tups H ts zs → DpAll K H (ts.map V.ref) (zs.map dP)
  | _, _, .nil => .nil
  | _, _, .cons h r => .cons (dp_pair h) (dp_all r)
theorem dp_list {K : PySem.W.Frag} {H : Hp} {l : Addr} {ts : List Addr} {zs : List PI2} (h : H l = some (.lst (ts.map V.ref))) (t : Tups H ts zs) : Dp K H (.ref l) (dL zs) := .lst (SqL.of h) (dp_all t)
theorem dp_nil {K : PySem.W.Frag} {H : Hp} {l : Addr} (h : H l = some (.lst [])) : Dp K H (.ref l) (dL []) := .lst (SqL.of h) .nil
theorem srt_idem (l : List PI2) : srt (srt l) = srt l := srt_eq (srt_perm l)
theorem srt_nil : srt [] = [] := (srt_perm []).eq_nil
theorem srt_one (q : PI2) : srt [q] = [q] := List.perm_singleton.mp (srt_perm [q])
theorem outZ_nil : outZ [] = [] := srt_nil
/-- a yard at first -/
theorem frees_first (d : Nat) : frees [] d = [(0, ((2 ^ d : Nat) : Int))] := by
  unfold frees
  have e : allN (d + 1) (frl (Oc []) d) = [(0, ((2 ^ d : Nat) : Int))] := by
    rw [allN_succ]
    have e1 : allN d (frl (Oc []) d) = [] := by
      unfold allN
      refine List.flatMap_eq_nil_iff.mpr fun j hj => ?_
      have hj := List.mem_range.mp hj
      rw [← frl_first d j (by omega)]
      unfold setF
      rw [if_neg (by omega)]
      rfl
    have e2 : frl (Oc []) d d = [0] := by
      rw [← frl_first d d (Nat.le_refl _)]
      unfold setF
      rw [if_pos rfl]
      rfl
    rw [e1, e2]
    rfl
  rw [e, srt_one]
/-! ### the laws' common helpers -/
/-- the script's cell at k -/
def cell (ns : List Int) (k : Nat) : Int := ns.getD k 0
theorem emod_nat (x : Int) {n : Nat} (h : 0 < n) : ∃ m : Nat, x % (n : Int) = (m : Int) ∧ m < n := by
  have h1 := Int.emod_nonneg x (show (n : Int) ≠ 0 by omega)
  have h2 := Int.emod_lt_of_pos x (show (0 : Int) < n by omega)
  exact ⟨(x % (n : Int)).toNat, by omega, by omega⟩
theorem fit_gen {w : Int} (h1 : 1 ≤ w) : w ≤ ((2 ^ fit w : Nat) : Int) ∧ ((2 ^ fit w : Nat) : Int) < 2 * w := by
  obtain ⟨n, rfl⟩ : ∃ n : Nat, w = (n : Int) + 1 := ⟨(w - 1).toNat, by omega⟩
  have e0 : (n : Int) + 1 - 1 = (n : Int) := by omega
  unfold fit Builtin.Int.intBits
  rw [e0]
  by_cases hn : n = 0
  · subst hn
    decide
  · rw [if_neg (by simpa using hn), Int.natAbs_natCast]
    have hlt : n < 2 ^ (n.log2 + 1) := Nat.lt_log2_self
    have hle : 2 ^ n.log2 ≤ n := Nat.log2_self_le hn
    rw [Nat.pow_succ] at hlt ⊢
    omega
theorem fit_uniq {w : Int} {n : Nat} (h1 : 1 ≤ w) (h2 : w ≤ ((2 ^ n : Nat) : Int)) (h3 : ((2 ^ n : Nat) : Int) < 2 * w) : fit w = n := by
  obtain ⟨g1, g2⟩ := fit_gen h1
  apply Classical.byContradiction
  intro ne
  rcases Nat.lt_or_gt_of_ne ne with z | z
  · have : 2 ^ (fit w + 1) ≤ 2 ^ n := Nat.pow_le_pow_right (by decide) z
    rw [Nat.pow_succ] at this
    omega
  · have : 2 ^ (n + 1) ≤ 2 ^ fit w := Nat.pow_le_pow_right (by decide) z
    rw [Nat.pow_succ] at this
    omega
theorem fit_bound {w : Int} {N : Nat} (h1 : 1 ≤ w) (h2 : w ≤ ((2 ^ N : Nat) : Int)) : fit w ≤ N := by
  obtain ⟨g1, g2⟩ := fit_gen h1
  apply Classical.byContradiction
  intro z
  have : 2 ^ (N + 1) ≤ 2 ^ fit w := Nat.pow_le_pow_right (by decide) (by omega)
  rw [Nat.pow_succ] at this
  omega
def spLaw (K : PySem.W.Frag) : Sp := fun vs H Q _ => ∃ (a : Addr) (ns : List Int), vs = [.ref a] ∧ SqL K H a (ns.map V.int) ∧ ns.length ≤ 63 ∧ ∀ H', Q (.bl true) H'
abbrev sp_law (K : PySem.W.Frag) (_ : Ad) : Sp := spLaw K
def sp_law_cell_at (K : PySem.W.Frag) (_ : Ad) : Sp := fun vs H Q _ => ∃ (l : Addr) (ns : List Int) (k : Nat), vs = [.ref l, .int k] ∧ SqL K H l (ns.map V.int) ∧ ns.length ≤ 63 ∧ Q (.int (cell ns k)) H
def sp_law_whole (_ : PySem.W.Frag) (_ : Ad) : Sp := fun vs H Q _ => ∃ i : Int, vs = [.int i] ∧ Q (.bl true) H
def sp_law_doubled (_ : PySem.W.Frag) (_ : Ad) : Sp := fun vs H Q _ => ∃ n : Nat, vs = [.int n] ∧ n ≤ 1000 ∧ Q (sI n) H
def sp_law_fitting (_ : PySem.W.Frag) (_ : Ad) : Sp := fun vs H Q _ => ∃ x : Int, vs = [.int x] ∧ x ≤ ((2 ^ 200 : Nat) : Int) ∧ (x < 1 → Q (sI 0) H) ∧ (1 ≤ x → Q (sI (fit x)) H)
section
variable {P : Program} {w : World} {K : PySem.W.Frag} {mg : Str → Option Value} {base : Heap} {a : Ad}
theorem ok_law_cell_at (T : Txt K mg a) : FnOk P w K mg base CX0 1 a.f_law_cell_at a.d_law_cell_at ["_law_script", "_law_k"] (sp_law_cell_at K a) := by
  refine T.law_cell_at.fn.ok sc_law_cell_at (fun vs H Q E h => by first | (obtain ⟨rfl, _⟩ := h; rfl) | (obtain ⟨_, rfl, _⟩ := h; rfl) | (obtain ⟨_, _, rfl, _⟩ := h; rfl) | (obtain ⟨_, _, _, rfl, _⟩ := h; rfl) | (obtain ⟨_, _, _, _, rfl, _⟩ := h; rfl) | (obtain ⟨_, _, _, _, _, rfl, _⟩ := h; rfl) | (obtain ⟨_, _, _, _, _, _, rfl, _⟩ := h; rfl) | (obtain ⟨_, _, _, _, _, _, _, rfl, _⟩ := h; rfl) | (obtain ⟨_, _, _, _, _, _, _, _, rfl, _⟩ := h; rfl) | (obtain ⟨_, _, _, _, _, _, _, _, _, rfl, _⟩ := h; rfl) | (obtain ⟨_, _, _, _, _, _, _, _, _, _, rfl, _⟩ := h; rfl) | (obtain ⟨_, _, _, _, _, _, _, _, _, _, _, rfl, _⟩ := h; rfl)) (fun cdv A outer s H vs Q E hr h => ?_)
  refine ⟨_, pss_cons (ps_if (pt_cmpR op_lt (pv 1) (pe_callB call_len_seq (by rfl) T.z_len PySem.boot_len (pa_cons (pv 0) pa_nil)) (nomark _)) (pss_one (ps_ret (pe_ix ix_list (pv 0) (pv 1) (fun _ _ => rfl)))) pss_nil)
      (pss_one (ps_ret pe_int)), ?_⟩
  obtain ⟨l, ns, k, rfl, hS, hl, q⟩ := h
  refine ⟨_, rfl, _, rfl, l, _, rfl, .inl hS, _, _, rfl, rfl, _, rfl, ?_⟩
  by_cases h : k < ns.length
  · refine iteTof (decide_eq_true (by rw [List.length_map]; omega)) ?_
    refine ⟨_, rfl, _, rfl, l, _, _, _, rfl, rfl, hS, atI_nat (by rw [List.getElem?_map, List.getElem?_eq_getElem h]; rfl), ?_⟩
    have e : cell ns k = ns[k] := by simp [cell, List.getD, List.getElem?_eq_getElem h]
    rw [e] at q
    exact q
  · refine iteFof (decide_eq_false (by rw [List.length_map]; omega)) ?_
    have e : cell ns k = 0 := by simp [cell, List.getD, List.getElem?_eq_none (Nat.le_of_not_lt h)]
    rw [e] at q
    exact q
theorem ok_law_doubled (T : Txt K mg a) : FnOk P w K mg base CX0 1 a.f_law_doubled a.d_law_doubled ["_law_times"] (sp_law_doubled K a) := by
  refine T.law_doubled.fn.ok sc_law_doubled (fun vs H Q E h => by first | (obtain ⟨rfl, _⟩ := h; rfl) | (obtain ⟨_, rfl, _⟩ := h; rfl) | (obtain ⟨_, _, rfl, _⟩ := h; rfl) | (obtain ⟨_, _, _, rfl, _⟩ := h; rfl) | (obtain ⟨_, _, _, _, rfl, _⟩ := h; rfl) | (obtain ⟨_, _, _, _, _, rfl, _⟩ := h; rfl) | (obtain ⟨_, _, _, _, _, _, rfl, _⟩ := h; rfl) | (obtain ⟨_, _, _, _, _, _, _, rfl, _⟩ := h; rfl) | (obtain ⟨_, _, _, _, _, _, _, _, rfl, _⟩ := h; rfl) | (obtain ⟨_, _, _, _, _, _, _, _, _, rfl, _⟩ := h; rfl) | (obtain ⟨_, _, _, _, _, _, _, _, _, _, rfl, _⟩ := h; rfl) | (obtain ⟨_, _, _, _, _, _, _, _, _, _, _, rfl, _⟩ := h; rfl)) (fun cdv A outer s H vs Q E hr h => ?_)
  refine ⟨_, pss_cons (ps_set (i := 1) sc_law_doubled.nd rfl (Or.inl rfl) pe_int)
      (pss_cons (ps_for PassesOwn.never rfl (pi_range1 rfl T.z_range (pa_cons (pv 0) pa_nil)) (pg_name (i := 2) sc_law_doubled.nd rfl (Or.inl rfl)) (pss_one (ps_set (i := 1) sc_law_doubled.nd rfl (Or.inl rfl) (pe_op op_mulX (pv 1) pe_int))))
      (pss_one (ps_ret (pv 1)))), ?_⟩
  obtain ⟨n, rfl, hn, q⟩ := h
  refine ⟨_, rfl, n, rfl, by omega, by omega, ?_⟩
  refine for_range (n := n) (fun i σ H' => i ≤ n ∧ H' = H ∧ ∃ x, σ = [some (.int n), some (sI i), x]) ⟨Nat.zero_le _, rfl, none, rfl⟩ ?_ ?_
  · rintro i σ H' hi ⟨_, rfl, x, rfl⟩
    refine ⟨_, rfl, _, _, rfl, rfl, mulx_ok (a := i + 1) (b := 3) ?_ (by decide) (by omega), ?_⟩
    · rw [Int.natAbs_natCast]
      exact Nat.pow_lt_pow_right (by decide) (by omega)
    · refine ⟨hi, rfl, some (.int (0 + i)), ?_⟩
      have ez : ((2 ^ i : Nat) : Int) * 2 = ((2 ^ (i + 1) : Nat) : Int) := by rw [Nat.pow_succ, Int.natCast_mul]; rfl
      show [some (V.int n), some (V.int (((2 ^ i : Nat) : Int) * 2)), some (V.int (0 + i))] = _
      rw [ez]
  · rintro σ H' ⟨_, rfl, x, rfl⟩
    exact ⟨_, rfl, q⟩
theorem ok_law_fitting (T : Txt K mg a) : FnOk P w K mg base CX0 1 a.f_law_fitting a.d_law_fitting ["_law_want_here"] (sp_law_fitting K a) := by
  refine T.law_fitting.fn.ok sc_law_fitting (fun vs H Q E h => by first | (obtain ⟨rfl, _⟩ := h; rfl) | (obtain ⟨_, rfl, _⟩ := h; rfl) | (obtain ⟨_, _, rfl, _⟩ := h; rfl) | (obtain ⟨_, _, _, rfl, _⟩ := h; rfl) | (obtain ⟨_, _, _, _, rfl, _⟩ := h; rfl) | (obtain ⟨_, _, _, _, _, rfl, _⟩ := h; rfl) | (obtain ⟨_, _, _, _, _, _, rfl, _⟩ := h; rfl) | (obtain ⟨_, _, _, _, _, _, _, rfl, _⟩ := h; rfl) | (obtain ⟨_, _, _, _, _, _, _, _, rfl, _⟩ := h; rfl) | (obtain ⟨_, _, _, _, _, _, _, _, _, rfl, _⟩ := h; rfl) | (obtain ⟨_, _, _, _, _, _, _, _, _, _, rfl, _⟩ := h; rfl) | (obtain ⟨_, _, _, _, _, _, _, _, _, _, _, rfl, _⟩ := h; rfl)) (fun cdv A outer s H vs Q E hr h => ?_)
  refine ⟨_, pss_cons (ps_set (i := 1) sc_law_fitting.nd rfl (Or.inl rfl) pe_int)
      (pss_cons (ps_while PassesOwn.never (pt_cmpR op_lt (pv 1) (pv 0) (nomark _)) (pss_one (ps_set (i := 1) sc_law_fitting.nd rfl (Or.inl rfl) (pe_op op_mulX (pv 1) pe_int))))
      (pss_one (ps_ret (pv 1)))), ?_⟩
  obtain ⟨x, rfl, hx, q1, q2⟩ := h
  refine while_by (fun σ H' => H' = H ∧ ∃ n : Nat, σ = [some (.int x), some (sI n)] ∧ (n = 0 ∨ ((2 ^ n : Nat) : Int) < 2 * x)) (fun σ H' => match σ with | [_, some (.int j)] => (x - j).toNat | _ => 0) ⟨rfl, 0, rfl, .inl rfl⟩ ?_ ?_
  · rintro σ H' ⟨rfl, n, rfl, hn⟩
    have pn : 0 < 2 ^ n := Nat.pow_pos (by decide)
    refine ⟨_, rfl, _, rfl, _, _, rfl, rfl, _, rfl, ?_⟩
    by_cases c : ((2 ^ n : Nat) : Int) < x
    · refine iteTof (decide_eq_true c) ?_
      have n200 : n < 200 := by
        apply Classical.byContradiction
        intro z
        have : 2 ^ 200 ≤ 2 ^ n := Nat.pow_le_pow_right (by decide) (by omega)
        generalize 2 ^ n = p at *
        generalize 2 ^ 200 = p2 at *
        omega
      have ez : ((2 ^ n : Nat) : Int) * 2 = ((2 ^ (n + 1) : Nat) : Int) := by rw [Nat.pow_succ, Int.natCast_mul]; rfl
      refine ⟨_, rfl, _, _, rfl, rfl, mulx_ok (a := 201) (b := 3) (by rw [Int.natAbs_natCast]; exact Nat.pow_lt_pow_right (by decide) (by omega)) (by decide) (by decide), ?_⟩
      refine ⟨⟨rfl, n + 1, ?_, .inr ?_⟩, ?_⟩
      · show [some (V.int x), some (V.int (((2 ^ n : Nat) : Int) * 2))] = _
        rw [ez]
      · rw [← ez]
        omega
      · show (x - ((2 ^ n : Nat) : Int) * 2).toNat < (x - ((2 ^ n : Nat) : Int)).toNat
        omega
    · refine iteFof (decide_eq_false c) ?_
      refine ⟨_, rfl, ?_⟩
      by_cases h1 : 1 ≤ x
      · have e : fit x = n := by
          refine fit_uniq h1 (by omega) ?_
          rcases hn with z | z
          · subst z
            show ((1 : Nat) : Int) < 2 * x
            omega
          · exact z
        rw [← e]
        exact q2 h1
      · have e : n = 0 := by
          rcases hn with z | z
          · exact z
          · omega
        subst e
        exact q1 (by omega)
  · rintro σ H' Q1 Q2 hQ ⟨v, hv, y, hy, i, j, e1, e2, k, ek, h⟩
    exact ⟨v, hv, y, hy, i, j, e1, e2, k, ek, by cases k <;> exact hQ _ _ (by simpa using h)⟩
end
/-! ### the laws' yard: its size, the wishes, the deeds -/
theorem seq_keep {K : PySem.W.Frag} {H H' : Hp} {b : Addr} {xs : List V} (h : SqL K H b xs) (k : ∀ o, H b = some o → H' b = some o) : SqL K H' b xs := by
  rcases h with (h | ⟨o, h⟩) | h
  · exact .inl (.inl (k _ h))
  · exact .inl (.inr ⟨o, k _ h⟩)
  · exact .inr h
/-- the script stays -/
theorem seq_only {K : PySem.W.Frag} {S : List Addr} {H0 H H' : Hp} {b : Addr} {xs : List V} (h : SqL K H b xs) (o : Only S H H') (n : b ∉ S) : SqL K H' b xs := seq_keep h fun _ e => o _ _ e n
def HeldAt (S : List Addr) (H : Hp) (l : Addr) (held : List PN) : Prop := l ∉ S ∧ ∃ ts : List Addr, H l = some (.lst (ts.map V.ref)) ∧ Tups H ts (held.map toI)
theorem HeldAt.only {a : Ad} {Y : YA} {d : Nat} {os held : List PN} {H H' : Hp} {l : Addr} (h : HeldAt (own Y d) H l held) (ya : YardAt a Y d os H) (o : Only (own Y d) H H') : HeldAt (own Y d) H' l held := by
  obtain ⟨n, ts, h1, h2⟩ := h
  exact ⟨n, ts, o _ _ h1 n, h2.keep fun t xs e => o _ _ e (ya.off e (by intro xs z; cases z) (by intro xs z; cases z))⟩
theorem HeldAt.same {S : List Addr} {held : List PN} {H H' : Hp} {l : Addr} (h : HeldAt S H l held) (k : ∀ b o, H b = some o → H' b = some o) : HeldAt S H' l held := by
  obtain ⟨n, ts, h1, h2⟩ := h
  exact ⟨n, ts, k _ _ h1, h2.keep fun t xs e => k _ _ e⟩
theorem toI_inj {p q : PN} (h : toI p = toI q) : p = q := by
  have h1 : (p.1 : Int) = (q.1 : Int) := congrArg Prod.fst h
  have h2 : ((2 ^ p.2 : Nat) : Int) = ((2 ^ q.2 : Nat) : Int) := congrArg Prod.snd h
  exact Prod.ext (by omega) (pow_inj h2)
theorem Good.nodup {d : Nat} {os : List PN} (g : Good d os) : os.Nodup := g.disj.imp fun {p q} h e => h p.1 rfl (by rw [e])
theorem Best.perm {os os' : List PN} {d k m n : Nat} (b : Best os d k m n) (s : os'.Perm os) : Best os' d k m n := by
  have e := Oc.perm s
  exact ⟨b.le, by rw [e]; exact b.mx, b.al, by rw [e]; exact b.small, by rw [e]; exact b.first⟩
theorem Best.uniq {os : List PN} {d k m n m' n' : Nat} (b : Best os d k m n) (b' : Best os d k m' n') : m = m' ∧ n = n' := by
  have e : m = m' := by
    rcases Nat.lt_trichotomy m m' with z | z | z
    · exact absurd b.mx (b'.small m _ b.le z)
    · exact z
    · exact absurd b'.mx (b.small m' _ b'.le z)
  subst e
  refine ⟨rfl, Nat.le_antisymm ?_ ?_⟩
  · have := b.first _ b'.mx
    rw [b'.al] at this
    exact this
  · have := b'.first _ b.mx
    rw [b.al] at this
    exact this
theorem outs_perm {os os' : List PN} (s : os'.Perm os) (n : Nat) : (outs os' n).Perm (outs os n) := s.filter _
theorem Fits.perm {os os' : List PN} {n k : Nat} (f : Fits os n k) (s : os'.Perm os) : Fits os' n k := ⟨f.1, by rw [Oc.perm (outs_perm s n)]; exact f.2⟩
theorem outs_piece {d : Nat} {os : List PN} {n k : Nat} (g : Good d os) (m : (n, k) ∈ os) : os.filter (fun q => decide (q ≠ (n, k))) = outs os n := by
  unfold outs
  refine List.filter_congr fun q hq => ?_
  rw [decide_eq_decide]
  constructor
  · intro h e
    exact h (g.key hq m e)
  · intro h e
    exact h (by rw [e])
theorem outr_perm {d : Nat} {os : List PN} {n h k : Nat} (g : Good d os) (m : (n, h) ∈ os) (hk : k ≤ d) (f : Fits os n k) : (outs os n ++ [(n, k)]).Perm (outr os n k) := by
  have g2 := Good.outr g m hk f.1 f.2
  refine (List.perm_ext_iff_of_nodup ?_ g2.nodup).mpr fun q => ?_
  · refine List.nodup_append.mpr ⟨(g.sub List.filter_sublist).nodup, by simp, fun p hp q hq e => ?_⟩
    have := List.mem_singleton.mp hq
    subst this
    subst e
    have := (List.mem_filter.mp hp).2
    simp at this
  · rw [outr_mem g m, List.mem_append, List.mem_singleton]
theorem outr_len (os : List PN) (n k : Nat) : (outr os n k).length = os.length := by unfold outr; rw [List.length_map]
/-- the wish that a cell makes -/
def wantF (c : Int) (d : Nat) : Int :=
  if c % 8 < 3 then 1 + c / 8 % 9
  else if c % 8 < 6 then ((2 ^ d : Nat) : Int) / ((2 ^ (c / 8 % 7).toNat : Nat) : Int) + c / 8 / 7 % 3 - 1
  else if c % 8 < 7 then 1 + (c / 8).fmod ((2 ^ d : Nat) : Int)
  else ([0, -1 - c / 8 % 10 ^ 30, ((2 ^ d : Nat) : Int) + 1 + c / 8 % 10 ^ 20] : List Int).getD (c / 8 % 3).toNat 0
theorem wantF_le {c : Int} {d : Nat} (h : d ≤ 60) : wantF c d ≤ ((2 ^ 200 : Nat) : Int) := by
  have p := pow60 h
  have pd : 0 < 2 ^ d := Nat.pow_pos (by decide)
  have big : (1152921504606846976 : Int) + 1 + 100000000000000000000 ≤ ((2 ^ 200 : Nat) : Int) := by decide
  have e20 : (10 : Int) ^ 20 = 100000000000000000000 := by decide
  have e30 : (10 : Int) ^ 30 = 1000000000000000000000000000000 := by decide
  generalize ((2 ^ 200 : Nat) : Int) = B at big
  unfold wantF
  rw [e20, e30]
  have q1 : 0 < 2 ^ (c / 8 % 7).toNat := Nat.pow_pos (by decide)
  generalize 2 ^ (c / 8 % 7).toNat = t at q1
  generalize 2 ^ d = n at p pd
  have hdiv : (n : Int) / (t : Int) ≤ n := Int.ediv_le_self _ (by omega)
  split
  · omega
  · split
    · omega
    · split
      · rw [Int.fmod_eq_emod_of_nonneg _ (by omega)]
        have := Int.emod_lt_of_pos (c / 8) (show (0 : Int) < (n : Int) by omega)
        omega
      · have h3 : (c / 8 % 3).toNat < 3 := by omega
        generalize (c / 8 % 3).toNat = i at h3
        match i, h3 with
        | 0, _ => show (0 : Int) ≤ B; omega
        | 1, _ => show -1 - c / 8 % 1000000000000000000000000000000 ≤ B; omega
        | 2, _ => show (n : Int) + 1 + c / 8 % 100000000000000000000 ≤ B; omega
/-- where a wish is granted, if it is -/
noncomputable def giveF (d : Nat) (held : List PN) (x : Int) : Option Nat := by
  classical
  exact if h : 1 ≤ x ∧ x ≤ ((2 ^ d : Nat) : Int) ∧ ∃ n m, Best held d (fit x) m n then some (Classical.choose h.2.2) else none
theorem giveF_some {d : Nat} {held : List PN} {x : Int} {m n : Nat} (h1 : 1 ≤ x) (h2 : x ≤ ((2 ^ d : Nat) : Int)) (b : Best held d (fit x) m n) : giveF d held x = some n := by
  unfold giveF
  have h : 1 ≤ x ∧ x ≤ ((2 ^ d : Nat) : Int) ∧ ∃ n m, Best held d (fit x) m n := ⟨h1, h2, n, m, b⟩
  rw [dif_pos h]
  obtain ⟨m', b'⟩ := Classical.choose_spec h.2.2
  rw [(b'.uniq b).2]
theorem giveF_none {d : Nat} {held : List PN} {x : Int} (h : x < 1 ∨ x > ((2 ^ d : Nat) : Int) ∨ ∀ j i, fit x ≤ j → ¬ Mx (Oc held) d j i) : giveF d held x = none := by
  unfold giveF
  rw [dif_neg]
  rintro ⟨h1, h2, n, m, b⟩
  rcases h with z | z | z
  · omega
  · omega
  · exact z m _ b.le b.mx
/-- a deed -/
noncomputable def doneF (d : Nat) (held : List PN) (c : Int) : List PN := by
  classical
  exact
    if c % 4 < 2 ∨ held = [] then
      match giveF d held (wantF (c / 4) d) with
      | none => held
      | some n => held ++ [(n, fit (wantF (c / 4) d))]
    else
      let p := held.getD ((c / 4).fmod (held.length : Int)).toNat (0, 0)
      let left := held.filter fun q => decide (q ≠ p)
      if c % 4 = 2 then left
      else
        let x := wantF (c / 4 / (held.length : Int)) d
        if 1 ≤ x ∧ x ≤ ((2 ^ d : Nat) : Int) ∧ Fits held p.1 (fit x) then left ++ [(p.1, fit x)] else held
def sp_law_room (K : PySem.W.Frag) (_ : Ad) : Sp := fun vs H Q _ => ∃ (l : Addr) (ns : List Int) (i j : Int), vs = [.ref l, .int i, .int j] ∧ SqL K H l (ns.map V.int) ∧ ns.length ≤ 63 ∧ Q (.int i) H
def sp_law_yard_size (K : PySem.W.Frag) (_ : Ad) : Sp := fun vs H Q _ => ∃ (l : Addr) (ns : List Int), vs = [.ref l] ∧ SqL K H l (ns.map V.int) ∧ ns.length ≤ 63 ∧ ∀ d : Nat, d ≤ 60 → Q (sI d) H
def sp_law_want (_ : PySem.W.Frag) (_ : Ad) : Sp := fun vs H Q _ => ∃ (c : Int) (d : Nat), vs = [.int c, sI d] ∧ d ≤ 60 ∧ ∀ H', (∀ b o, H b = some o → H' b = some o) → Q (.int (wantF c d)) H'
def sp_law_done (_ : PySem.W.Frag) (a : Ad) : Sp := fun vs H Q _ => ∃ (Y : YA) (d : Nat) (os held : List PN) (l : Addr) (c : Int), vs = [.ref Y.y, .ref l, .int c, sI d] ∧ YardAt a Y d os H ∧ HeldAt (own Y d) H l held ∧ held.Perm os ∧ os.length < 50000 ∧
  ∀ (os' : List PN) (l' : Addr) (H' : Hp), YardAt a Y d os' H' → HeldAt (own Y d) H' l' (doneF d held c) → (doneF d held c).Perm os' → os'.length ≤ os.length + 1 → Only (own Y d) H H' → Q (.ref l') H'
section
variable {P : Program} {w : World} {K : PySem.W.Frag} {mg : Str → Option Value} {base : Heap} {a : Ad}
theorem ok_law_room (T : Txt K mg a) : FnOk P w K mg base CX0 1 a.f_law_room a.d_law_room ["_law_script", "_law_few", "_law_many_here"] (sp_law_room K a) := by
  refine T.law_room.fn.ok sc_law_room (fun vs H Q E h => by first | (obtain ⟨rfl, _⟩ := h; rfl) | (obtain ⟨_, rfl, _⟩ := h; rfl) | (obtain ⟨_, _, rfl, _⟩ := h; rfl) | (obtain ⟨_, _, _, rfl, _⟩ := h; rfl) | (obtain ⟨_, _, _, _, rfl, _⟩ := h; rfl) | (obtain ⟨_, _, _, _, _, rfl, _⟩ := h; rfl) | (obtain ⟨_, _, _, _, _, _, rfl, _⟩ := h; rfl) | (obtain ⟨_, _, _, _, _, _, _, rfl, _⟩ := h; rfl) | (obtain ⟨_, _, _, _, _, _, _, _, rfl, _⟩ := h; rfl) | (obtain ⟨_, _, _, _, _, _, _, _, _, rfl, _⟩ := h; rfl) | (obtain ⟨_, _, _, _, _, _, _, _, _, _, rfl, _⟩ := h; rfl) | (obtain ⟨_, _, _, _, _, _, _, _, _, _, _, rfl, _⟩ := h; rfl)) (fun cdv A outer s H vs Q E hr h => ?_)
  refine ⟨_, pss_cons (ps_if (pt_cmpR op_gt (pe_callB call_len_seq (by rfl) T.z_len PySem.boot_len (pa_cons (pv 0) pa_nil)) pe_int (nomark _)) (pss_one (ps_ret (pv 2))) pss_nil)
      (pss_one (ps_ret (pv 1))), ?_⟩
  obtain ⟨l, ns, i, j, rfl, hS, hl, q⟩ := h
  refine ⟨_, rfl, l, _, rfl, .inl hS, _, _, rfl, rfl, _, rfl, iteFof (decide_eq_false (by rw [List.length_map]; omega)) ?_⟩
  exact ⟨_, rfl, q⟩
theorem ok_law_yard_size (T : Txt K mg a) : FnOk P w K mg base CX0 2 a.f_law_yard_size a.d_law_yard_size ["_law_script"] (sp_law_yard_size K a) := by
  have G_law_cell_at : FnOk P w K mg base CX0 1 a.f_law_cell_at a.d_law_cell_at ["_law_script", "_law_k"] (sp_law_cell_at K a) := ok_law_cell_at T
  have G_law_doubled : FnOk P w K mg base CX0 1 a.f_law_doubled a.d_law_doubled ["_law_times"] (sp_law_doubled K a) := ok_law_doubled T
  refine T.law_yard_size.fn.ok sc_law_yard_size (fun vs H Q E h => by first | (obtain ⟨rfl, _⟩ := h; rfl) | (obtain ⟨_, rfl, _⟩ := h; rfl) | (obtain ⟨_, _, rfl, _⟩ := h; rfl) | (obtain ⟨_, _, _, rfl, _⟩ := h; rfl) | (obtain ⟨_, _, _, _, rfl, _⟩ := h; rfl) | (obtain ⟨_, _, _, _, _, rfl, _⟩ := h; rfl) | (obtain ⟨_, _, _, _, _, _, rfl, _⟩ := h; rfl) | (obtain ⟨_, _, _, _, _, _, _, rfl, _⟩ := h; rfl) | (obtain ⟨_, _, _, _, _, _, _, _, rfl, _⟩ := h; rfl) | (obtain ⟨_, _, _, _, _, _, _, _, _, rfl, _⟩ := h; rfl) | (obtain ⟨_, _, _, _, _, _, _, _, _, _, rfl, _⟩ := h; rfl) | (obtain ⟨_, _, _, _, _, _, _, _, _, _, _, rfl, _⟩ := h; rfl)) (fun cdv A outer s H vs Q E hr h => ?_)
  refine ⟨_, pss_cons (ps_set (i := 1) sc_law_yard_size.nd rfl (Or.inl rfl) (pe_op op_mod (pe_call G_law_cell_at (hr.mono (by decide)) rfl T.law_cell_at.mg T.law_cell_at.fn.kp T.law_cell_at.bd .nil pass0 (pa_cons (pv 0) (pa_cons pe_int pa_nil))) pe_int))
      (pss_cons (ps_set (i := 2) sc_law_yard_size.nd rfl (Or.inl rfl) (pe_call G_law_cell_at (hr.mono (by decide)) rfl T.law_cell_at.mg T.law_cell_at.fn.kp T.law_cell_at.bd .nil pass0 (pa_cons (pv 0) (pa_cons pe_int pa_nil))))
      (pss_cons (ps_if (pt_cmpR op_lt (pv 1) pe_int (nomark _)) (pss_one (ps_ret (pe_call G_law_doubled (hr.mono (by decide)) rfl T.law_doubled.mg T.law_doubled.fn.kp T.law_doubled.bd .nil pass0 (pa_cons (pe_op op_mod (pv 2) pe_int) pa_nil)))) pss_nil)
      (pss_cons (ps_if (pt_cmpR op_lt (pv 1) pe_int (nomark _)) (pss_one (ps_ret (pe_call G_law_doubled (hr.mono (by decide)) rfl T.law_doubled.mg T.law_doubled.fn.kp T.law_doubled.bd .nil pass0 (pa_cons (pe_op op_mod (pv 2) pe_int) pa_nil)))) pss_nil)
      (pss_cons (ps_if (pt_cmpR op_lt (pv 1) pe_int (nomark _)) (pss_one (ps_ret (pe_call G_law_doubled (hr.mono (by decide)) rfl T.law_doubled.mg T.law_doubled.fn.kp T.law_doubled.bd .nil pass0 (pa_cons (pe_op op_add pe_int (pe_op op_mod (pv 2) pe_int)) pa_nil)))) pss_nil)
      (pss_one (ps_ret (pe_op op_pow pe_int pe_int))))))), ?_⟩
  obtain ⟨l, ns, rfl, hS, hl, q⟩ := h
  refine ⟨_, rfl, l, ns, 0, rfl, hS, hl, _, _, rfl, rfl, by show (0 : Int) < 8; decide, ?_⟩
  refine ⟨_, rfl, l, ns, 1, rfl, hS, hl, ?_⟩
  obtain ⟨m8, e8, l8⟩ := emod_nat (cell ns 1) (n := 8) (by decide)
  obtain ⟨m61, e61, l61⟩ := emod_nat (cell ns 1) (n := 61) (by decide)
  obtain ⟨m21, e21, l21⟩ := emod_nat (cell ns 1) (n := 21) (by decide)
  refine ⟨_, rfl, _, _, rfl, rfl, _, rfl, ite2 (fun _ => ?_) (fun _ => ?_)⟩
  · refine ⟨_, rfl, _, _, rfl, rfl, by show (0 : Int) < 8; decide, m8, ?_, by omega, q m8 (by omega)⟩
    show [V.int (cell ns 1 % 8)] = [V.int (m8 : Int)]
    rw [show cell ns 1 % 8 = (m8 : Int) from e8]
  refine ⟨_, rfl, _, _, rfl, rfl, _, rfl, ite2 (fun _ => ?_) (fun _ => ?_)⟩
  · refine ⟨_, rfl, _, _, rfl, rfl, by show (0 : Int) < 61; decide, m61, ?_, by omega, q m61 (by omega)⟩
    show [V.int (cell ns 1 % 61)] = [V.int (m61 : Int)]
    rw [show cell ns 1 % 61 = (m61 : Int) from e61]
  refine ⟨_, rfl, _, _, rfl, rfl, _, rfl, ite2 (fun _ => ?_) (fun _ => ?_)⟩
  · refine ⟨_, rfl, _, _, rfl, rfl, by show (0 : Int) < 21; decide, _, _, rfl, rfl, 40 + m21, ?_, by omega, q (40 + m21) (by omega)⟩
    show [V.int (40 + cell ns 1 % 21)] = [V.int ((40 + m21 : Nat) : Int)]
    rw [show cell ns 1 % 21 = (m21 : Int) from e21]
    rfl
  · exact ⟨_, _, rfl, rfl, ⟨by decide, by decide, by decide⟩, q 60 (by omega)⟩
theorem ok_law_want (T : Txt K mg a) : FnOk P w K mg base CX0 2 a.f_law_want a.d_law_want ["_law_cell", "_law_cells"] (sp_law_want K a) := by
  have G_law_doubled : FnOk P w K mg base CX0 1 a.f_law_doubled a.d_law_doubled ["_law_times"] (sp_law_doubled K a) := ok_law_doubled T
  refine T.law_want.fn.ok sc_law_want (fun vs H Q E h => by first | (obtain ⟨rfl, _⟩ := h; rfl) | (obtain ⟨_, rfl, _⟩ := h; rfl) | (obtain ⟨_, _, rfl, _⟩ := h; rfl) | (obtain ⟨_, _, _, rfl, _⟩ := h; rfl) | (obtain ⟨_, _, _, _, rfl, _⟩ := h; rfl) | (obtain ⟨_, _, _, _, _, rfl, _⟩ := h; rfl) | (obtain ⟨_, _, _, _, _, _, rfl, _⟩ := h; rfl) | (obtain ⟨_, _, _, _, _, _, _, rfl, _⟩ := h; rfl) | (obtain ⟨_, _, _, _, _, _, _, _, rfl, _⟩ := h; rfl) | (obtain ⟨_, _, _, _, _, _, _, _, _, rfl, _⟩ := h; rfl) | (obtain ⟨_, _, _, _, _, _, _, _, _, _, rfl, _⟩ := h; rfl) | (obtain ⟨_, _, _, _, _, _, _, _, _, _, _, rfl, _⟩ := h; rfl)) (fun cdv A outer s H vs Q E hr h => ?_)
  refine ⟨_, pss_cons (ps_set (i := 2) sc_law_want.nd rfl (Or.inl rfl) (pe_op op_mod (pv 0) pe_int))
      (pss_cons (ps_set (i := 3) sc_law_want.nd rfl (Or.inl rfl) (pe_op op_fdiv (pv 0) pe_int))
      (pss_cons (ps_if (pt_cmpR op_lt (pv 2) pe_int (nomark _)) (pss_one (ps_ret (pe_op op_add pe_int (pe_op op_mod (pv 3) pe_int)))) pss_nil)
      (pss_cons (ps_if (pt_cmpR op_lt (pv 2) pe_int (nomark _)) (pss_one (ps_ret (pe_op op_sub (pe_op op_add (pe_op op_fdivW (pv 1) (pe_call G_law_doubled (hr.mono (by decide)) rfl T.law_doubled.mg T.law_doubled.fn.kp T.law_doubled.bd .nil pass0 (pa_cons (pe_op op_mod (pv 3) pe_int) pa_nil))) (pe_op op_mod (pe_op op_fdiv (pv 3) pe_int) pe_int)) pe_int))) pss_nil)
      (pss_cons (ps_if (pt_cmpR op_lt (pv 2) pe_int (nomark _)) (pss_one (ps_ret (pe_op op_add pe_int (pe_op op_modN (pv 3) (pv 1))))) pss_nil)
      (pss_one (ps_ret (pe_ix ix_list (pe_lst (pa_cons pe_int (pa_cons (pe_op op_sub (pe_un un_neg pe_int) (pe_op op_mod (pv 3) (pe_op op_pow pe_int pe_int))) (pa_cons (pe_op op_add (pe_op op_add (pv 1) pe_int) (pe_op op_mod (pv 3) (pe_op op_pow pe_int pe_int))) pa_nil)))) (pe_op op_mod (pv 3) pe_int) (fun _ _ => rfl)))))))), ?_⟩
  obtain ⟨c, d, rfl, d60, q⟩ := h
  have pd : 0 < 2 ^ d := Nat.pow_pos (by decide)
  have p60 := pow60 d60
  refine ⟨_, rfl, _, _, rfl, rfl, by show (0 : Int) < 8; decide, ?_⟩
  refine ⟨_, rfl, _, _, rfl, rfl, ⟨by decide, by decide⟩, ?_⟩
  have q0 := q H fun b o e => e
  obtain ⟨m7, e7, l7⟩ := emod_nat (c / 8) (n := 7) (by decide)
  obtain ⟨m3, e3, l3⟩ := emod_nat (c / 8) (n := 3) (by decide)
  have p7 : 0 < 2 ^ m7 := Nat.pow_pos (by decide)
  refine ⟨_, rfl, _, _, rfl, rfl, _, rfl, ite2 (fun h1 => ?_) (fun h1 => ?_)⟩
  · have h1 : c % 8 < 3 := of_decide_eq_true h1
    unfold wantF at q0
    rw [if_pos h1] at q0
    exact ⟨_, rfl, _, _, rfl, rfl, by show (0 : Int) < 9; decide, _, _, rfl, rfl, q0⟩
  have h1 : ¬ c % 8 < 3 := fun z => h1 (decide_eq_true z)
  refine ⟨_, rfl, _, _, rfl, rfl, _, rfl, ite2 (fun h2 => ?_) (fun h2 => ?_)⟩
  · have h2 : c % 8 < 6 := of_decide_eq_true h2
    unfold wantF at q0
    rw [if_neg h1, if_pos h2, show c / 8 % 7 = (m7 : Int) from e7, Int.toNat_natCast] at q0
    refine ⟨_, rfl, _, rfl, _, _, rfl, rfl, by show (0 : Int) < 7; decide, m7, ?_, by omega, _, _, rfl, rfl, wide_div (b := 8) (by omega) (by rw [Int.natAbs_natCast]; exact Nat.pow_lt_pow_right (by decide) (by omega)) (by decide) (by decide), ?_⟩
    · show [V.int (c / 8 % 7)] = [V.int (m7 : Int)]
      rw [show c / 8 % 7 = (m7 : Int) from e7]
    · exact ⟨_, rfl, _, _, rfl, rfl, ⟨by decide, by decide⟩, _, _, rfl, rfl, by show (0 : Int) < 3; decide, _, _, rfl, rfl, _, _, rfl, rfl, q0⟩
  have h2 : ¬ c % 8 < 6 := fun z => h2 (decide_eq_true z)
  refine ⟨_, rfl, _, _, rfl, rfl, _, rfl, ite2 (fun h3 => ?_) (fun h3 => ?_)⟩
  · have h3 : c % 8 < 7 := of_decide_eq_true h3
    unfold wantF at q0
    rw [if_neg h1, if_neg h2, if_pos h3] at q0
    exact ⟨_, rfl, _, rfl, _, _, rfl, rfl, by show ((2 ^ d : Nat) : Int) ≠ 0; omega, _, _, rfl, rfl, q0⟩
  have h3 : ¬ c % 8 < 7 := fun z => h3 (decide_eq_true z)
  refine ⟨_, rfl, _, rfl, _, _, rfl, rfl, ⟨by decide, by decide, by decide⟩, _, _, rfl, rfl, by show (0 : Int) < 10 ^ 30; decide, _, _, rfl, rfl, ?_⟩
  refine ⟨_, rfl, _, _, rfl, rfl, _, rfl, _, _, rfl, rfl, ⟨by decide, by decide, by decide⟩, _, _, rfl, rfl, by show (0 : Int) < 10 ^ 20; decide, _, _, rfl, rfl, by show 3 ≤ sizeLine; decide, fun p hp => ?_⟩
  have q1 := q (L2.upd H p (.lst [.int 0, .int (-1 - c / 8 % 10 ^ 30), .int (((2 ^ d : Nat) : Int) + 1 + c / 8 % 10 ^ 20)])) fun b o e => by rw [upd_ne (ne_of_none e hp)]; exact e
  unfold wantF at q1
  rw [if_neg h1, if_neg h2, if_neg h3, show c / 8 % 3 = (m3 : Int) from e3, Int.toNat_natCast] at q1
  refine ⟨_, rfl, _, _, rfl, rfl, by show (0 : Int) < 3; decide, p, _, _, .int (([0, -1 - c / 8 % 10 ^ 30, ((2 ^ d : Nat) : Int) + 1 + c / 8 % 10 ^ 20] : List Int).getD m3 0), rfl, rfl, SqL.of upd_same, at_of (j := m3) e3 ?_, q1⟩
  match m3, l3 with
  | 0, _ => rfl
  | 1, _ => rfl
  | 2, _ => rfl
end
/-! ### a deed, and what is out at first -/
theorem doneF_give {d : Nat} {held : List PN} {c : Int} (h : c % 4 < 2 ∨ held = []) : doneF d held c = match giveF d held (wantF (c / 4) d) with | none => held | some n => held ++ [(n, fit (wantF (c / 4) d))] := by
  unfold doneF
  rw [if_pos h]
  all_goals rfl
theorem doneF_back {d : Nat} {held : List PN} {c : Int} (h : ¬ (c % 4 < 2 ∨ held = [])) (h2 : c % 4 = 2) {i : Nat} (hi : (c / 4).fmod (held.length : Int) = (i : Int)) {p : PN} (e : held[i]? = some p) : doneF d held c = held.filter fun q => decide (q ≠ p) := by
  have ep : held.getD ((c / 4).fmod (held.length : Int)).toNat (0, 0) = p := by rw [hi, Int.toNat_natCast, List.getD, e]; rfl
  unfold doneF
  simp only []
  rw [if_neg h, if_pos h2, ep]
theorem doneF_size {d : Nat} {held : List PN} {c : Int} (h : ¬ (c % 4 < 2 ∨ held = [])) (h2 : ¬ c % 4 = 2) {i : Nat} (hi : (c / 4).fmod (held.length : Int) = (i : Int)) {p : PN} (e : held[i]? = some p) :
    ((1 ≤ wantF (c / 4 / (held.length : Int)) d ∧ wantF (c / 4 / (held.length : Int)) d ≤ ((2 ^ d : Nat) : Int) ∧ Fits held p.1 (fit (wantF (c / 4 / (held.length : Int)) d))) →
      doneF d held c = (held.filter fun q => decide (q ≠ p)) ++ [(p.1, fit (wantF (c / 4 / (held.length : Int)) d))]) ∧
    (¬ (1 ≤ wantF (c / 4 / (held.length : Int)) d ∧ wantF (c / 4 / (held.length : Int)) d ≤ ((2 ^ d : Nat) : Int) ∧ Fits held p.1 (fit (wantF (c / 4 / (held.length : Int)) d))) → doneF d held c = held) := by
  have ep : held.getD ((c / 4).fmod (held.length : Int)).toNat (0, 0) = p := by rw [hi, Int.toNat_natCast, List.getD, e]; rfl
  constructor
  · intro z
    unfold doneF
    simp only []
    rw [if_neg h, if_neg h2, ep, if_pos z]
  · intro z
    unfold doneF
    simp only []
    rw [if_neg h, if_neg h2, ep, if_neg z]
theorem filter_take {α : Type} {f : α → Bool} {l : List α} {i : Nat} {x : α} (h : l[i]? = some x) : (l.take (i + 1)).filter f = (l.take i).filter f ++ (if f x then [x] else []) := by
  rw [List.take_add_one, h, Option.toList_some, List.filter_append]
  congr 1
  by_cases e : f x = true
  · rw [List.filter_cons_of_pos e, if_pos e]; rfl
  · rw [List.filter_cons_of_neg e, if_neg e]; rfl
section
variable {P : Program} {w : World} {K : PySem.W.Frag} {mg : Str → Option Value} {base : Heap} {a : Ad}
theorem ok_law_done (T : Txt K mg a) : FnOk P w K mg base CX0 5 a.f_law_done a.d_law_done ["_law_yard", "_law_held", "_law_cell", "_law_cells"] (sp_law_done K a) := by
  have G_Yard_give : FnOk P w K mg base (L2.CX P w) 4 a.f_Yard_give a.d_Yard_give ["self", "want"] (sp_Yard_give K a) := ok_Yard_give T
  have G_Yard_resize : FnOk P w K mg base (L2.CX P w) 4 a.f_Yard_resize a.d_Yard_resize ["self", "at", "want"] (sp_Yard_resize K a) := ok_Yard_resize T
  have G_Yard_take_back : FnOk P w K mg base (L2.CX P w) 4 a.f_Yard_take_back a.d_Yard_take_back ["self", "at"] (sp_Yard_take_back K a) := ok_Yard_take_back T
  have G_law_fitting : FnOk P w K mg base CX0 1 a.f_law_fitting a.d_law_fitting ["_law_want_here"] (sp_law_fitting K a) := ok_law_fitting T
  have G_law_want : FnOk P w K mg base CX0 2 a.f_law_want a.d_law_want ["_law_cell", "_law_cells"] (sp_law_want K a) := ok_law_want T
  refine T.law_done.fn.ok sc_law_done (fun vs H Q E h => by first | (obtain ⟨rfl, _⟩ := h; rfl) | (obtain ⟨_, rfl, _⟩ := h; rfl) | (obtain ⟨_, _, rfl, _⟩ := h; rfl) | (obtain ⟨_, _, _, rfl, _⟩ := h; rfl) | (obtain ⟨_, _, _, _, rfl, _⟩ := h; rfl) | (obtain ⟨_, _, _, _, _, rfl, _⟩ := h; rfl) | (obtain ⟨_, _, _, _, _, _, rfl, _⟩ := h; rfl) | (obtain ⟨_, _, _, _, _, _, _, rfl, _⟩ := h; rfl) | (obtain ⟨_, _, _, _, _, _, _, _, rfl, _⟩ := h; rfl) | (obtain ⟨_, _, _, _, _, _, _, _, _, rfl, _⟩ := h; rfl) | (obtain ⟨_, _, _, _, _, _, _, _, _, _, rfl, _⟩ := h; rfl) | (obtain ⟨_, _, _, _, _, _, _, _, _, _, _, rfl, _⟩ := h; rfl)) (fun cdv A outer s H vs Q E hr h => ?_)
  refine ⟨_, pss_cons (ps_set (i := 4) sc_law_done.nd rfl (Or.inl rfl) (pe_op op_fdiv (pv 2) pe_int))
      (pss_cons (ps_if (PW.pt (pw_or (pt_cmpR op_lt (pe_op op_mod (pv 2) pe_int) pe_int (nomark _)) (pw_or1 (pt_cmpR (op_eqD hr.units) (pv 1) (pe_lst pa_nil) (nomark _))))) (pss_cons (ps_set (i := 5) sc_law_done.nd rfl (Or.inl rfl) (pe_call G_law_want (hr.mono (by decide)) rfl T.law_want.mg T.law_want.fn.kp T.law_want.bd .nil pass0 (pa_cons (pv 4) (pa_cons (pv 3) pa_nil))))
      (pss_cons (ps_try_only (tb := fun W => (tAsg (tMethS a.c_Yard "give" (sp_Yard_give K a) (WE W) (tVar 0) (tCons (tVar 5) tNil)) (gName 6))) (ts := fun _ _ _ => (tRet (tVar 1))) (Wout := fun _ _ _ _ => False) rfl rfl ⟨rfl, by decide, Or.inl T.e_YardError.g⟩ takes0 (fun W pn xe tk _ => (pss_one (ps_set (i := 6) sc_law_done.nd rfl (Or.inl rfl) (pe_methS (pv 0) T.cl_Yard T.m_Yard_give G_Yard_give (hr.mono (by decide)) T.b_Yard_give (fun σ => passAt tk σ) (by exact (pa_cons (pv 5) pa_nil)))))) (fun _ _ _ _ _ _ _ => (pss_one (ps_ret (pv 1)))))
      (pss_one (ps_ret (pe_op op_cat (pv 1) (pe_lst (pa_cons (pe_tup (pa_cons (pv 6) (pa_cons (pe_call G_law_fitting (hr.mono (by decide)) rfl T.law_fitting.mg T.law_fitting.fn.kp T.law_fitting.bd .nil pass0 (pa_cons (pv 5) pa_nil)) pa_nil))) pa_nil))))))) pss_nil)
      (pss_cons (ps_set (i := 7) sc_law_done.nd rfl (Or.inr rfl) (pe_ix ix_list (pv 1) (pe_op op_modN (pv 4) (pe_callB call_len_seq (by rfl) T.z_len PySem.boot_len (pa_cons (pv 1) pa_nil))) (fun _ _ => rfl)))
      (pss_cons (ps_setLc (i := 8) (own := [("_law_one", 10)]) (g := gName 10) (tt := (tTest (tOp (rNeD K) (tVar 10) (tVar 7)))) rfl sc_law_done.nd rfl rfl (sw_true rfl rfl rfl (by decide +kernel)) (pi_list (pv 1)) (blkOk_by (own := [("_law_one", 10)]) (N := ["_law_yard", "_law_held", "_law_cell", "_law_cells", "_law_rest", "_law_want_here", "_law_at", "_law_piece", "_law_left", "_law_size", "_law_one"]) (sc := defScope s_law_done) (by decide +kernel)) (fun _ _ _ _ _ => (pg_name (i := 10) sc_law_done.nd rfl (Or.inl rfl))) (fun _ _ _ _ _ => (pts_one (pt_cmpR (op_neD hr.units) (pv 10) (pv 7) (nomark _)))) (fun _ _ _ _ _ => (pv 10)))
      (pss_cons (ps_if (pt_cmpR op_eq (pe_op op_mod (pv 2) pe_int) pe_int (nomark _)) (pss_cons (ps_expr (pe_meth (pv 0) T.cl_Yard T.m_Yard_take_back G_Yard_take_back (hr.mono (by decide)) T.b_Yard_take_back .nil passL (pa_cons (pe_ix ix_tup (pv 7) pe_int (fun _ _ => rfl)) pa_nil)))
      (pss_one (ps_ret (pv 8)))) pss_nil)
      (pss_cons (ps_set (i := 5) sc_law_done.nd rfl (Or.inl rfl) (pe_call G_law_want (hr.mono (by decide)) rfl T.law_want.mg T.law_want.fn.kp T.law_want.bd .nil pass0 (pa_cons (pe_op op_fdivW (pv 4) (pe_callB call_len_seq (by rfl) T.z_len PySem.boot_len (pa_cons (pv 1) pa_nil))) (pa_cons (pv 3) pa_nil))))
      (pss_cons (ps_try_only (tb := fun W => (tAsg (tMethS a.c_Yard "resize" (sp_Yard_resize K a) (WE W) (tVar 0) (tCons (tOp (rIxT K) (tVar 7) (tC (.int 0))) (tCons (tVar 5) tNil))) (gName 9))) (ts := fun _ _ _ => (tRet (tVar 1))) (Wout := fun _ _ _ _ => False) rfl rfl ⟨rfl, by decide, Or.inl T.e_YardError.g⟩ takes0 (fun W pn xe tk _ => (pss_one (ps_set (i := 9) sc_law_done.nd rfl (Or.inl rfl) (pe_methS (pv 0) T.cl_Yard T.m_Yard_resize G_Yard_resize (hr.mono (by decide)) T.b_Yard_resize (fun σ => passAt tk σ) (by exact (pa_cons (pe_ix ix_tup (pv 7) pe_int (fun _ _ => rfl)) (pa_cons (pv 5) pa_nil))))))) (fun _ _ _ _ _ _ _ => (pss_one (ps_ret (pv 1)))))
      (pss_one (ps_ret (pe_op op_cat (pv 8) (pe_lst (pa_cons (pe_tup (pa_cons (pe_ix ix_tup (pv 7) pe_int (fun _ _ => rfl)) (pa_cons (pv 9) pa_nil))) pa_nil))))))))))), ?_⟩
  obtain ⟨Y, d, os, held, l, c, rfl, ya, ha, pm, few, q⟩ := h
  have d60 := ya.po.d60
  have gh : Good d held := ya.good.perm pm
  have lh := pm.length_eq
  obtain ⟨nl, ts, hat, tups⟩ := id ha
  have lts := tups.len
  rw [List.length_map] at lts
  refine ⟨_, rfl, _, _, rfl, rfl, ⟨by decide, by decide⟩, ?_⟩
  refine ⟨_, rfl, _, _, rfl, rfl, by show (0 : Int) < 4; decide, _, _, rfl, rfl, _, rfl, ?_⟩
  -- a wish
  have wish : ∀ (H1 : Hp), (∀ b o, H b = some o → H1 b = some o) → c % 4 < 2 ∨ held = [] → ∀ (H2 : Hp), (∀ b o, H1 b = some o → H2 b = some o) →
      (giveF d held (wantF (c / 4) d) = none → ∀ H3, (∀ b o, H2 b = some o → H3 b = some o) → Q (.ref l) H3) ∧
      (∀ n, giveF d held (wantF (c / 4) d) = some n → ∀ (l' : Addr) (H3 : Hp), YardAt a Y d (os ++ [(n, fit (wantF (c / 4) d))]) H3 → HeldAt (own Y d) H3 l' (held ++ [(n, fit (wantF (c / 4) d))]) → Only (own Y d) H2 H3 → Q (.ref l') H3) := by
    intro H1 s1 hc H2 s2
    have e := doneF_give (d := d) hc
    constructor
    · intro g H3 s3
      rw [g] at e
      have all : ∀ b o, H b = some o → H3 b = some o := fun b o z => s3 _ _ (s2 _ _ (s1 _ _ z))
      exact q os l H3 (ya.keep all) (by rw [e]; exact ha.same all) (by rw [e]; exact pm) (by omega) (Only.same all)
    · intro n g l' H3 y3 h3 o3
      rw [g] at e
      refine q _ l' H3 y3 (by rw [e]; exact h3) ?_ ?_ ((Only.same fun b o z => s2 _ _ (s1 _ _ z)).trans o3)
      · rw [e]
        exact pm.append_right _
      · rw [List.length_append]
        exact Nat.le_refl _
  by_cases hc : c % 4 < 2 ∨ held = []
  · by_cases c1 : c % 4 < 2
    · refine iteTof (decide_eq_true c1) ?_
      have s1 : ∀ b o, H b = some o → H b = some o := fun b o e => e
      refine ⟨_, rfl, _, rfl, c / 4, d, rfl, d60, fun H2 s2 => ?_⟩
      obtain ⟨w1, w2⟩ := wish _ s1 hc H2 s2
      have s12 : ∀ b o, H b = some o → H2 b = some o := fun b o z => s2 _ _ (s1 _ _ z)
      have ya2 := ya.keep s12
      have ha2 := ha.same s12
      refine ⟨_, rfl, Y.y, Y.dy, _, rfl, ya2.yo, yFs_no Y d (by decide +kernel) (by decide +kernel) (by decide +kernel), _, rfl, Y, d, os, _, rfl, ya2, by omega, fun lt => ?_, fun g1 g2 H3 s3 => ?_, fun g1 g2 m n best H3 y3 o3 => ?_⟩
      · exact ⟨true, T.x_NoWish_YardError, fun _ a0 _ => ⟨_, rfl, w1 (giveF_none (.inl lt)) _ fun b o e => e⟩, fun z => Bool.noConfusion z⟩
      · exact ⟨true, T.x_NoRoom_YardError, fun _ a0 _ => ⟨_, rfl, w1 (giveF_none (.inr (by rw [Oc.perm pm]; exact g2))) H3 s3⟩, fun z => Bool.noConfusion z⟩
      · have ha3 := ha2.only ya2 o3
        obtain ⟨_, ts3, hat3, tups3⟩ := id ha3
        have l3 := tups3.len
        rw [List.length_map] at l3
        refine ⟨_, rfl, _, rfl, _, rfl, wantF (c / 4) d, rfl, wantF_le d60, fun z => by omega, fun _ => ?_⟩
        refine ⟨by show 2 ≤ sizeLine; decide, fun t ht => ⟨by show 1 ≤ sizeLine; decide, fun p2 hp2 => ?_⟩⟩
        have k1 : ∀ b o, H3 b = some o → L2.upd H3 t (.tup [nI n, sI (fit (wantF (c / 4) d))]) b = some o := fun b o e => by rw [upd_ne (ne_of_none e ht)]; exact e
        have k2 : ∀ b o, H3 b = some o → L2.upd (L2.upd H3 t (.tup [nI n, sI (fit (wantF (c / 4) d))])) p2 (.lst [.ref t]) b = some o := fun b o e => by rw [upd_ne (ne_of_none (k1 _ _ e) hp2)]; exact k1 _ _ e
        have tp2 : t ≠ p2 := fun z => by rw [← z, upd_same] at hp2; cases hp2
        refine ⟨l, p2, _, _, rfl, rfl, k2 _ _ hat3, upd_same, ?_, fun p3 hp3 => ?_⟩
        · rw [List.length_map, l3, sizeLine_eq]
          show held.length + 1 ≤ _
          omega
        have k3 : ∀ b o, H3 b = some o → L2.upd (L2.upd (L2.upd H3 t (.tup [nI n, sI (fit (wantF (c / 4) d))])) p2 (.lst [.ref t])) p3 (.lst (ts3.map V.ref ++ [.ref t])) b = some o := fun b o e => by rw [upd_ne (ne_of_none (k2 _ _ e) hp3)]; exact k2 _ _ e
        have tp3 : t ≠ p3 := fun z => by rw [← z, upd_ne tp2, upd_same] at hp3; cases hp3
        refine w2 n (giveF_some g1 g2 (best.perm pm)) p3 _ (y3.keep k3) ⟨?_, ts3 ++ [t], by rw [upd_same, List.map_append]; rfl, ?_⟩ (o3.trans (Only.same k3))
        · exact (y3.keep k2).new hp3
        · rw [List.map_append]
          refine Tups.snoc ?_ (tups3.keep fun t xs e => k3 _ _ e)
          rw [upd_ne tp3, upd_ne tp2]
          exact upd_same
    · refine iteFof (decide_eq_false c1) ?_
      have en : held = [] := hc.resolve_left c1
      refine ⟨_, rfl, by show 0 ≤ sizeLine; omega, fun p hp => ?_⟩
      have s1 : ∀ b o, H b = some o → L2.upd H p (.lst []) b = some o := fun b o e => by rw [upd_ne (ne_of_none e hp)]; exact e
      refine ⟨_, _, dp_list (s1 _ _ hat) (tups.keep fun t xs e => s1 _ _ e), dp_nil upd_same, dL_shaped _, dL_shaped _, _, rfl, iteTof ?_ ?_⟩
      · rw [dL_eqv, en]
        exact decide_eq_true rfl
      refine ⟨_, rfl, _, rfl, c / 4, d, rfl, d60, fun H2 s2 => ?_⟩
      obtain ⟨w1, w2⟩ := wish _ s1 hc H2 s2
      have s12 : ∀ b o, H b = some o → H2 b = some o := fun b o z => s2 _ _ (s1 _ _ z)
      have ya2 := ya.keep s12
      have ha2 := ha.same s12
      refine ⟨_, rfl, Y.y, Y.dy, _, rfl, ya2.yo, yFs_no Y d (by decide +kernel) (by decide +kernel) (by decide +kernel), _, rfl, Y, d, os, _, rfl, ya2, by omega, fun lt => ?_, fun g1 g2 H3 s3 => ?_, fun g1 g2 m n best H3 y3 o3 => ?_⟩
      · exact ⟨true, T.x_NoWish_YardError, fun _ a0 _ => ⟨_, rfl, w1 (giveF_none (.inl lt)) _ fun b o e => e⟩, fun z => Bool.noConfusion z⟩
      · exact ⟨true, T.x_NoRoom_YardError, fun _ a0 _ => ⟨_, rfl, w1 (giveF_none (.inr (by rw [Oc.perm pm]; exact g2))) H3 s3⟩, fun z => Bool.noConfusion z⟩
      · have ha3 := ha2.only ya2 o3
        obtain ⟨_, ts3, hat3, tups3⟩ := id ha3
        have l3 := tups3.len
        rw [List.length_map] at l3
        refine ⟨_, rfl, _, rfl, _, rfl, wantF (c / 4) d, rfl, wantF_le d60, fun z => by omega, fun _ => ?_⟩
        refine ⟨by show 2 ≤ sizeLine; decide, fun t ht => ⟨by show 1 ≤ sizeLine; decide, fun p2 hp2 => ?_⟩⟩
        have k1 : ∀ b o, H3 b = some o → L2.upd H3 t (.tup [nI n, sI (fit (wantF (c / 4) d))]) b = some o := fun b o e => by rw [upd_ne (ne_of_none e ht)]; exact e
        have k2 : ∀ b o, H3 b = some o → L2.upd (L2.upd H3 t (.tup [nI n, sI (fit (wantF (c / 4) d))])) p2 (.lst [.ref t]) b = some o := fun b o e => by rw [upd_ne (ne_of_none (k1 _ _ e) hp2)]; exact k1 _ _ e
        have tp2 : t ≠ p2 := fun z => by rw [← z, upd_same] at hp2; cases hp2
        refine ⟨l, p2, _, _, rfl, rfl, k2 _ _ hat3, upd_same, ?_, fun p3 hp3 => ?_⟩
        · rw [List.length_map, l3, sizeLine_eq]
          show held.length + 1 ≤ _
          omega
        have k3 : ∀ b o, H3 b = some o → L2.upd (L2.upd (L2.upd H3 t (.tup [nI n, sI (fit (wantF (c / 4) d))])) p2 (.lst [.ref t])) p3 (.lst (ts3.map V.ref ++ [.ref t])) b = some o := fun b o e => by rw [upd_ne (ne_of_none (k2 _ _ e) hp3)]; exact k2 _ _ e
        have tp3 : t ≠ p3 := fun z => by rw [← z, upd_ne tp2, upd_same] at hp3; cases hp3
        refine w2 n (giveF_some g1 g2 (best.perm pm)) p3 _ (y3.keep k3) ⟨?_, ts3 ++ [t], by rw [upd_same, List.map_append]; rfl, ?_⟩ (o3.trans (Only.same k3))
        · exact (y3.keep k2).new hp3
        · rw [List.map_append]
          refine Tups.snoc ?_ (tups3.keep fun t xs e => k3 _ _ e)
          rw [upd_ne tp3, upd_ne tp2]
          exact upd_same
  · have c1 : ¬ c % 4 < 2 := fun z => hc (.inl z)
    have en : held ≠ [] := fun z => hc (.inr z)
    refine iteFof (decide_eq_false c1) ?_
    refine ⟨_, rfl, by show 0 ≤ sizeLine; omega, fun p0 hp0 => ?_⟩
    have s1 : ∀ b o, H b = some o → L2.upd H p0 (.lst []) b = some o := fun b o e => by rw [upd_ne (ne_of_none e hp0)]; exact e
    refine ⟨_, _, dp_list (s1 _ _ hat) (tups.keep fun t xs e => s1 _ _ e), dp_nil upd_same, dL_shaped _, dL_shaped _, _, rfl, iteFof ?_ ?_⟩
    · rw [dL_eqv]
      exact decide_eq_false fun z => en (List.map_eq_nil_iff.mp z)
    generalize hH1 : L2.upd H p0 (.lst []) = H1 at s1
    have ya1 := ya.keep s1
    have hat1 := s1 _ _ hat
    have tups1 := tups.keep fun t xs e => s1 _ _ e
    have L0 : 0 < held.length := List.length_pos_iff.mpr en
    have eL : ((ts.map V.ref).length : Int) = (held.length : Int) := by rw [List.length_map, lts]
    obtain ⟨i, ei, li⟩ : ∃ i : Nat, (c / 4).fmod (held.length : Int) = (i : Int) ∧ i < held.length := by
      rw [Int.fmod_eq_emod_of_nonneg _ (by omega)]
      exact emod_nat (c / 4) L0
    obtain ⟨pc, hpc⟩ : ∃ pc, held[i]? = some pc := ⟨_, List.getElem?_eq_getElem li⟩
    obtain ⟨n, k⟩ := pc
    obtain ⟨t, ht, hatt⟩ := tups1.get (i := i) (q := toI (n, k)) (by rw [List.getElem?_map, hpc]; rfl)
    have mh : (n, k) ∈ held := List.mem_of_getElem? hpc
    have mo : (n, k) ∈ os := pm.mem_iff.mp mh
    refine ⟨_, rfl, _, rfl, _, rfl, l, _, rfl, .inl (SqL.of hat1), _, _, rfl, rfl, by show ((ts.map V.ref).length : Int) ≠ 0; omega, l, _, _, V.ref t, rfl, rfl, SqL.of hat1, at_of (j := i) (by show (c / 4).fmod ((ts.map V.ref).length : Int) = _; rw [eL]; exact ei) (by rw [List.getElem?_map, ht]; rfl), ?_⟩
    refine ⟨_, rfl, l, rfl, ⟨_, SqL.of hat1⟩, fun D newD => ?_⟩
    refine lc_out walk_list (fun j H' => ∃ us : List Addr, H' D = some (.lst (us.map V.ref)) ∧ Tups H' us (((held.take j).filter fun q => decide (q ≠ (n, k))).map toI) ∧ (∀ b o, H1 b = some o → H' b = some o))
      ⟨[], upd_same, .nil, fun b o e => by rw [upd_ne (ne_of_none e newD)]; exact e⟩ (fun j H' _ ⟨_, _, _, p⟩ => SqL.of (p _ _ hat1)) ?_ ?_
    · rintro j v H2 H3 hj ⟨us, hD, tu, s2⟩ ⟨rfl, hv⟩
      rw [List.length_map, lts] at hj
      obtain ⟨qq, hq⟩ : ∃ qq, held[j]? = some qq := ⟨_, List.getElem?_eq_getElem hj⟩
      obtain ⟨t2, ht2, hatt2⟩ := tups1.get (i := j) (q := toI qq) (by rw [List.getElem?_map, hq]; rfl)
      rw [List.getElem?_map, ht2] at hv
      have hv := Option.some.inj hv
      subst hv
      refine ⟨rfl, ?_⟩
      refine ⟨_, rfl, _, rfl, dP (toI qq), dP (toI (n, k)), dp_pair (s2 _ _ hatt2), dp_pair (s2 _ _ hatt), dP_shaped _, dP_shaped _, _, rfl, ?_⟩
      rw [dP_eqv]
      by_cases e : qq = (n, k)
      · refine iteFof (by rw [e]; simp) ?_
        refine ⟨us, hD, ?_, s2⟩
        rw [filter_take hq, if_neg (by simp [e]), List.append_nil]
        exact tu
      · refine iteTof (by simp; exact fun z => e (toI_inj z)) ?_
        have l1 := tu.len
        rw [List.length_map] at l1
        have l2 := List.length_filter_le (fun q => decide (q ≠ (n, k))) (held.take j)
        rw [List.length_take] at l2
        refine ⟨_, rfl, us.map V.ref, hD, ?_, us ++ [t2], ?_, ?_, fun b o e2 => ?_⟩
        · rw [List.length_map, sizeLine_eq]
          omega
        · rw [List.map_append]
          exact upd_same
        · rw [filter_take hq, if_pos (by simpa using e), List.map_append]
          refine Tups.snoc ?_ (tu.keep fun t xs e2 => ?_)
          · rw [upd_ne (fun z => by rw [← z, s2 _ _ hatt2] at hD; cases hD)]
            exact s2 _ _ hatt2
          · rw [upd_ne (fun z => by rw [z, hD] at e2; cases e2)]
            exact e2
        · rw [upd_ne (fun z => by rw [z, newD] at e2; cases e2)]
          exact s2 _ _ e2
    rintro H2 ⟨us, hD, tu, s2⟩
    rw [List.length_map, lts, List.take_length, outs_piece gh mh] at tu
    have s12 : ∀ b o, H b = some o → H2 b = some o := fun b o z => s2 _ _ (s1 _ _ z)
    have ya2 := ya.keep s12
    have nD : D ∉ own Y d := ya1.new newD
    have eleft := outs_piece gh mh
    have hatt3 := s2 _ _ hatt
    have tno : ∀ {H3}, Only (own Y d) H2 H3 → H3 t = some (.tup [nI n, sI k]) := fun o3 => o3 _ _ hatt3 (ya2.off hatt3 (by intro xs z; cases z) (by intro xs z; cases z))
    refine ⟨_, rfl, _, _, rfl, rfl, by show (0 : Int) < 4; decide, rfl, _, rfl, ?_⟩
    by_cases c2 : c % 4 = 2
    · refine iteTof (by show decide (V.int (c % 4) = V.int 2) = true; rw [c2]; exact decide_eq_true rfl) ?_
      refine ⟨_, rfl, Y.y, Y.dy, _, rfl, ya2.yo, yFs_no Y d (by decide +kernel) (by decide +kernel) (by decide +kernel), _, rfl, t, _, _, nI n, rfl, rfl, SqT.of hatt3, at_of (j := 0) rfl rfl, Y, d, os, (n : Int), rfl, ya2, fun z => absurd rfl (z (n, k) mo), fun n' k' m' e H3 y3 o3 => ?_⟩
      have en' : n = n' := by omega
      subst en'
      refine ⟨_, rfl, ?_⟩
      have ed := doneF_back (d := d) hc c2 ei hpc
      rw [eleft] at ed
      refine q _ D H3 y3 ⟨nD, us, o3 _ _ hD nD, ?_⟩ (by rw [ed]; exact outs_perm pm n) (Nat.le_succ_of_le (List.length_filter_le _ _)) ((Only.same s12).trans o3)
      rw [ed]
      exact tu.keep fun t xs e2 => o3 _ _ e2 (ya2.off e2 (by intro xs z; cases z) (by intro xs z; cases z))
    · refine iteFof (by show decide (V.int (c % 4) = V.int 2) = false; exact decide_eq_false fun z => c2 (by injection z)) ?_
      obtain ⟨ds1, ds2⟩ := doneF_size (d := d) hc c2 ei hpc
      rw [eleft] at ds1
      refine ⟨_, rfl, _, rfl, l, _, rfl, .inl (SqL.of (s2 _ _ hat1)), _, _, rfl, rfl, wide_div (b := 16) (by show (0 : Int) < ((ts.map V.ref).length : Int); omega) (by rw [eL, Int.natAbs_natCast]; show held.length < 65536; omega) (by decide) (by decide), _, rfl, c / 4 / (held.length : Int), d, ?_, d60, fun H3 s3 => ?_⟩
      · show [V.int (c / 4 / ((ts.map V.ref).length : Int)), sI d] = _
        rw [eL]
      generalize hx : wantF (c / 4 / (held.length : Int)) d = x at ds1 ds2
      have s23 : ∀ b o, H b = some o → H3 b = some o := fun b o z => s3 _ _ (s12 _ _ z)
      have ya3 := ya.keep s23
      have same_again : (¬ (1 ≤ x ∧ x ≤ ((2 ^ d : Nat) : Int) ∧ Fits held n (fit x))) → ∀ H4, (∀ b o, H3 b = some o → H4 b = some o) → Q (.ref l) H4 := fun z H4 s4 => by
        have all : ∀ b o, H b = some o → H4 b = some o := fun b o w => s4 _ _ (s23 _ _ w)
        have ed := ds2 z
        exact q os l H4 (ya.keep all) (by rw [ed]; exact ha.same all) (by rw [ed]; exact pm) (Nat.le_succ _) (Only.same all)
      refine ⟨_, rfl, Y.y, Y.dy, _, rfl, ya3.yo, yFs_no Y d (by decide +kernel) (by decide +kernel) (by decide +kernel), _, rfl, t, _, _, nI n, rfl, rfl, SqT.of (s3 _ _ hatt3), at_of (j := 0) rfl rfl, _, rfl, Y, d, os, (n : Int), x, rfl, ya3, fun z => absurd rfl (z (n, k) mo), fun n' h' m' e => ?_⟩
      have en' : n = n' := by omega
      subst en'
      refine ⟨fun lt => ?_, fun g1 g2 H4 s4 => ?_, fun g1 g2 ft H4 y4 o4 => ?_⟩
      · exact ⟨true, T.x_NoWish_YardError, fun _ a0 _ => ⟨_, rfl, same_again (fun z => by omega) _ fun b o e => e⟩, fun z => Bool.noConfusion z⟩
      · refine ⟨true, T.x_NoRoom_YardError, fun _ a0 _ => ⟨_, rfl, same_again (fun z => ?_) H4 s4⟩, fun z => Bool.noConfusion z⟩
        rcases g2 with g2 | g2
        · omega
        · exact g2 (z.2.2.perm pm.symm)
      · have ed := ds1 ⟨g1, g2, ft.perm pm⟩
        have hat4 : H4 t = some (.tup [nI n, sI k]) := o4 _ _ (s3 _ _ hatt3) (ya3.off (s3 _ _ hatt3) (by intro xs z; cases z) (by intro xs z; cases z))
        have hD4 : H4 D = some (.lst (us.map V.ref)) := o4 _ _ (s3 _ _ hD) nD
        have tu4 : Tups H4 us ((outs held n).map toI) := tu.keep fun t xs e2 => o4 _ _ (s3 _ _ e2) (ya3.off (s3 _ _ e2) (by intro xs z; cases z) (by intro xs z; cases z))
        refine ⟨_, rfl, _, rfl, t, _, _, nI n, rfl, rfl, SqT.of hat4, at_of (j := 0) rfl rfl, _, rfl, by show 2 ≤ sizeLine; decide, fun t5 ht5 => ⟨by show 1 ≤ sizeLine; decide, fun p2 hp2 => ?_⟩⟩
        have k1 : ∀ b o, H4 b = some o → L2.upd H4 t5 (.tup [nI n, sI (fit x)]) b = some o := fun b o e => by rw [upd_ne (ne_of_none e ht5)]; exact e
        have k2 : ∀ b o, H4 b = some o → L2.upd (L2.upd H4 t5 (.tup [nI n, sI (fit x)])) p2 (.lst [.ref t5]) b = some o := fun b o e => by rw [upd_ne (ne_of_none (k1 _ _ e) hp2)]; exact k1 _ _ e
        have tp2 : t5 ≠ p2 := fun z => by rw [← z, upd_same] at hp2; cases hp2
        have l4 := tu4.len
        rw [List.length_map] at l4
        have l5 : (outs held n).length ≤ held.length := List.length_filter_le _ _
        refine ⟨D, p2, _, _, rfl, rfl, k2 _ _ hD4, upd_same, ?_, fun p3 hp3 => ?_⟩
        · rw [List.length_map, l4, sizeLine_eq]
          show (outs held n).length + 1 ≤ _
          omega
        have k3 : ∀ b o, H4 b = some o → L2.upd (L2.upd (L2.upd H4 t5 (.tup [nI n, sI (fit x)])) p2 (.lst [.ref t5])) p3 (.lst (us.map V.ref ++ [.ref t5])) b = some o := fun b o e => by rw [upd_ne (ne_of_none (k2 _ _ e) hp3)]; exact k2 _ _ e
        have tp3 : t5 ≠ p3 := fun z => by rw [← z, upd_ne tp2, upd_same] at hp3; cases hp3
        have fd := fit_le g1 g2 d60
        refine q _ p3 _ (y4.keep k3) ⟨(y4.keep k2).new hp3, us ++ [t5], by rw [upd_same, List.map_append]; rfl, ?_⟩ ?_ (by rw [outr_len]; exact Nat.le_succ _) ((Only.same s23).trans (o4.trans (Only.same k3)))
        · rw [ed, List.map_append]
          refine Tups.snoc ?_ (tu4.keep fun t xs e => k3 _ _ e)
          rw [upd_ne tp3, upd_ne tp2]
          exact upd_same
        · rw [ed]
          exact ((outs_perm pm n).append_right _).trans (outr_perm ya.good mo fd ft)
end
/-- only pieces of one cell, fewer than the yard has: one more can be given -/
theorem one_more {d : Nat} {os : List PN} (h : ∀ q ∈ os, q.2 = 0) (l : os.length < 2 ^ d) : ¬ ∀ j i, 0 ≤ j → ¬ Mx (Oc os) d j i := by
  intro z
  have all : ∀ c, c < 2 ^ d → ∃ q ∈ os, q.1 = c := by
    intro c hc
    apply Classical.byContradiction
    intro no
    have f : Fr (Oc os) 0 (c / 2 ^ 0) := by
      rintro c' e ⟨q, m, e2⟩
      rw [h q m] at e2
      rw [Nat.pow_zero, Nat.div_one, Nat.div_one] at e e2
      exact no ⟨q, m, by omega⟩
    obtain ⟨m, _, hm⟩ := mx_exists hc _ 0 rfl (Nat.zero_le _) f
    exact z m _ (Nat.zero_le _) hm
  have := nodup_le (R := fun c (q : PN) => q.1 = c) (l := List.range (2 ^ d)) (m := os) List.nodup_range (fun c hc => all c (List.mem_range.mp hc)) (fun c c' q _ _ e e' => e.symm.trans e')
  rw [List.length_range] at this
  omega
theorem fit_one : fit 1 = 0 := by decide
/-- what is left when of the pieces every second of the first ones is back -/
def LeftOf (held os : List PN) (j : Nat) : Prop := ∀ q, q ∈ os ↔ ∃ i, held[i]? = some q ∧ ¬ (i % 2 = 1 ∧ i < 2 * j)
theorem left_next {d : Nat} {held os : List PN} {j n k : Nat} (g : Good d held) (h : LeftOf held os j) (e : held[2 * j + 1]? = some (n, k)) : LeftOf held (outs os n) (j + 1) := by
  intro q
  unfold outs
  rw [List.mem_filter, h q]
  constructor
  · rintro ⟨⟨i, e1, n1⟩, n2⟩
    refine ⟨i, e1, fun z => ?_⟩
    have : i = 2 * j + 1 := by omega
    subst this
    rw [e] at e1
    have e1 := Option.some.inj e1
    subst e1
    simp at n2
  · rintro ⟨i, e1, n1⟩
    refine ⟨⟨i, e1, fun z => n1 ⟨z.1, by omega⟩⟩, decide_eq_true fun z => ?_⟩
    have e3 := g.key (List.mem_of_getElem? e1) (List.mem_of_getElem? e) z
    rw [e3] at e1
    have l1 := (List.getElem?_eq_some_iff.mp e1).1
    have := (List.getElem?_inj l1 g.nodup).mp (e1.trans e.symm)
    exact n1 ⟨by omega, by omega⟩
/-- every second one, from the first on -/
def seconds (held : List PN) (n : Nat) : List PN := ((List.range n).filter fun i => decide (i % 2 = 0)).map fun i => held.getD i (0, 0)
theorem seconds_mem {held : List PN} {q : PN} : q ∈ seconds held held.length ↔ ∃ i, held[i]? = some q ∧ i % 2 = 0 := by
  unfold seconds
  constructor
  · intro z
    obtain ⟨i, hi, e⟩ := List.mem_map.mp z
    obtain ⟨h1, h2⟩ := List.mem_filter.mp hi
    have h1 := List.mem_range.mp h1
    refine ⟨i, ?_, of_decide_eq_true h2⟩
    rw [List.getElem?_eq_getElem h1]
    rw [List.getD, List.getElem?_eq_getElem h1] at e
    exact congrArg some e
  · rintro ⟨i, e, h2⟩
    obtain ⟨h1, e1⟩ := List.getElem?_eq_some_iff.mp e
    refine List.mem_map.mpr ⟨i, List.mem_filter.mpr ⟨List.mem_range.mpr h1, decide_eq_true h2⟩, ?_⟩
    rw [List.getD, e]
    rfl
theorem seconds_succ (held : List PN) (i : Nat) : seconds held (i + 1) = seconds held i ++ (if i % 2 = 0 then [held.getD i (0, 0)] else []) := by
  unfold seconds
  rw [List.range_succ, List.filter_append, List.map_append]
  congr 1
  by_cases e : i % 2 = 0
  · simp [e]
  · simp [e]
theorem seconds_nodup {d : Nat} {held : List PN} (g : Good d held) : (seconds held held.length).Nodup := by
  unfold seconds
  refine (List.pairwise_map).mpr ((List.nodup_range.filter _).imp_of_mem fun {i j} hi hj ne e => ne ?_)
  have h1 := List.mem_range.mp (List.mem_filter.mp hi).1
  have h2 := List.mem_range.mp (List.mem_filter.mp hj).1
  rw [List.getD, List.getD, List.getElem?_eq_getElem h1, List.getElem?_eq_getElem h2] at e
  exact (List.getElem?_inj h1 g.nodup).mp (by rw [List.getElem?_eq_getElem h1, List.getElem?_eq_getElem h2]; exact congrArg some e)
def sp_law_begun (_ : PySem.W.Frag) (a : Ad) : Sp := fun vs H Q _ => ∃ (Y : YA) (d : Nat) (c : Int), vs = [.ref Y.y, .int c, sI d] ∧ YardAt a Y d [] H ∧
  ∀ (os held : List PN) (l : Addr) (H' : Hp), YardAt a Y d os H' → HeldAt (own Y d) H' l held → held.Perm os → os.length ≤ 131 → Only (own Y d) H H' → Q (.ref l) H'
section
variable {P : Program} {w : World} {K : PySem.W.Frag} {mg : Str → Option Value} {base : Heap} {a : Ad}
theorem ok_law_begun (T : Txt K mg a) : FnOk P w K mg base CX0 5 a.f_law_begun a.d_law_begun ["_law_yard", "_law_cell", "_law_cells"] (sp_law_begun K a) := by
  have G_Yard_give : FnOk P w K mg base (L2.CX P w) 4 a.f_Yard_give a.d_Yard_give ["self", "want"] (sp_Yard_give K a) := ok_Yard_give T
  have G_Yard_take_back : FnOk P w K mg base (L2.CX P w) 4 a.f_Yard_take_back a.d_Yard_take_back ["self", "at"] (sp_Yard_take_back K a) := ok_Yard_take_back T
  refine T.law_begun.fn.ok sc_law_begun (fun vs H Q E h => by first | (obtain ⟨rfl, _⟩ := h; rfl) | (obtain ⟨_, rfl, _⟩ := h; rfl) | (obtain ⟨_, _, rfl, _⟩ := h; rfl) | (obtain ⟨_, _, _, rfl, _⟩ := h; rfl) | (obtain ⟨_, _, _, _, rfl, _⟩ := h; rfl) | (obtain ⟨_, _, _, _, _, rfl, _⟩ := h; rfl) | (obtain ⟨_, _, _, _, _, _, rfl, _⟩ := h; rfl) | (obtain ⟨_, _, _, _, _, _, _, rfl, _⟩ := h; rfl) | (obtain ⟨_, _, _, _, _, _, _, _, rfl, _⟩ := h; rfl) | (obtain ⟨_, _, _, _, _, _, _, _, _, rfl, _⟩ := h; rfl) | (obtain ⟨_, _, _, _, _, _, _, _, _, _, rfl, _⟩ := h; rfl) | (obtain ⟨_, _, _, _, _, _, _, _, _, _, _, rfl, _⟩ := h; rfl)) (fun cdv A outer s H vs Q E hr h => ?_)
  refine ⟨_, pss_cons (ps_set (i := 3) sc_law_begun.nd rfl (Or.inr rfl) (pe_lst pa_nil))
      (pss_cons (ps_set (i := 4) sc_law_begun.nd rfl (Or.inl rfl) pe_int)
      (pss_cons (ps_if (pt_cmpR op_eq (pe_op op_mod (pv 1) pe_int) pe_int (nomark _)) (pss_one (ps_set (i := 4) sc_law_begun.nd rfl (Or.inl rfl) (pe_callB (call_min2 rfl) (by rfl) T.z_min PyProof.Rows.boot_min (pa_cons (pv 2) (pa_cons (pe_op op_mod (pe_op op_fdiv (pv 1) pe_int) pe_int) pa_nil))))) pss_nil)
      (pss_cons (ps_if (pt_cmpR op_eq (pe_op op_mod (pv 1) pe_int) pe_int (nomark _)) (pss_one (ps_set (i := 4) sc_law_begun.nd rfl (Or.inl rfl) (pe_callB (call_min2 rfl) (by rfl) T.z_min PyProof.Rows.boot_min (pa_cons (pv 2) (pa_cons (pe_op op_mod (pe_op op_fdiv (pv 1) pe_int) pe_int) pa_nil))))) pss_nil)
      (pss_cons (ps_for PassesOwn.never rfl (pi_range1 rfl T.z_range (pa_cons (pv 4) pa_nil)) (pg_name (i := 5) sc_law_begun.nd rfl (Or.inl rfl)) (pss_one (ps_expr (pe_bm PySem.F.plainAttrs_list PySem.F.slot_list_append PySem.F.type_list_append mt_append (pv 3) (pa_cons (pe_tup (pa_cons (pe_meth (pv 0) T.cl_Yard T.m_Yard_give G_Yard_give (hr.mono (by decide)) T.b_Yard_give .nil passL (pa_cons pe_int pa_nil)) (pa_cons pe_int pa_nil))) pa_nil)))))
      (pss_cons (ps_if (pt_cmpR op_eq (pe_op op_mod (pv 1) pe_int) pe_int (nomark _)) (pss_cons (ps_for PassesOwn.never rfl (pi_range1 rfl T.z_range (pa_cons (pe_op op_fdiv (pv 4) pe_int) pa_nil)) (pg_name (i := 5) sc_law_begun.nd rfl (Or.inl rfl)) (pss_one (ps_expr (pe_meth (pv 0) T.cl_Yard T.m_Yard_take_back G_Yard_take_back (hr.mono (by decide)) T.b_Yard_take_back .nil passL (pa_cons (pe_ix ix_tup (pe_ix ix_list (pv 3) (pe_op op_add (pe_op op_mulX pe_int (pv 5)) pe_int) (fun _ _ => rfl)) pe_int (fun _ _ => rfl)) pa_nil)))))
      (pss_one (ps_set (i := 3) sc_law_begun.nd rfl (Or.inr rfl) (pe_lc (own := [("_law_k", 5)]) (g := gName 5) (te := (tOp (rIxL K) (tVar 3) (tVar 5))) rfl sc_law_begun.nd (pi_range1 rfl T.z_range (pa_cons (pv 4) pa_nil)) (blkOk_by (own := [("_law_k", 5)]) (N := ["_law_yard", "_law_cell", "_law_cells", "_law_held", "_law_many_here", "_law_k"]) (sc := defScope s_law_begun) (by decide +kernel)) (fun _ _ _ _ _ => (pg_name (i := 5) sc_law_begun.nd rfl (Or.inl rfl))) (fun _ _ _ _ _ => (pts_one (pt_cmpR op_eq (pe_op op_mod (pv 5) pe_int) pe_int (nomark _)))) (fun _ _ _ _ _ => (pe_ix ix_list (pv 3) (pv 5) (fun _ _ => rfl))))))) pss_nil)
      (pss_one (ps_ret (pv 3)))))))), ?_⟩
  obtain ⟨Y, d, c, rfl, ya, q⟩ := h
  have d60 := ya.po.d60
  have pd : 0 < 2 ^ d := Nat.pow_pos (by decide)
  refine ⟨by show 0 ≤ sizeLine; omega, fun l hl => ?_⟩
  -- how many
  obtain ⟨n1, e1, l1⟩ := emod_nat (c / 4) (n := 71) (by decide)
  obtain ⟨n3, e3, l3⟩ := emod_nat (c / 4) (n := 131) (by decide)
  have sl : ∀ b o, H b = some o → L2.upd H l (.lst []) b = some o := fun b o e => by rw [upd_ne (ne_of_none e hl)]; exact e
  have nl := ya.new hl
  refine ⟨_, rfl, _, _, rfl, rfl, by show (0 : Int) < 4; decide, rfl, _, rfl, ?_⟩
  by_cases c1 : c % 4 = 1
  · refine iteTof (by show decide (V.int (c % 4) = V.int 1) = true; rw [c1]; exact decide_eq_true rfl) ?_
    refine ⟨_, rfl, _, rfl, _, _, rfl, rfl, ⟨by decide, by decide⟩, _, _, rfl, rfl, by show (0 : Int) < 71; decide, _, _, rfl, ?_⟩
    refine ⟨_, rfl, _, _, rfl, rfl, by show (0 : Int) < 4; decide, rfl, _, rfl, ?_⟩
    refine iteFof (by show decide (V.int (c % 4) = V.int 3) = false; exact decide_eq_false fun z => by have : c % 4 = 3 := (by injection z); omega) ?_
    obtain ⟨M, eM, M1, M2⟩ : ∃ M : Nat, (if c / 4 % 71 < ((2 ^ d : Nat) : Int) then c / 4 % 71 else ((2 ^ d : Nat) : Int)) = (M : Int) ∧ M ≤ 2 ^ d ∧ M ≤ 130 := by
      rw [show c / 4 % 71 = (n1 : Int) from e1]
      by_cases z : (n1 : Int) < ((2 ^ d : Nat) : Int)
      · exact ⟨n1, if_pos z, by omega, by omega⟩
      · exact ⟨2 ^ d, if_neg z, by omega, by omega⟩
    rw [eM]
    -- the pieces of one cell
    refine ⟨_, rfl, (M : Int), rfl, by omega, by omega, ?_⟩
    refine for_range (n := M) (fun k σ H' => k ≤ M ∧ ∃ (os : List PN) (ts : List Addr) (x5 : Option V), σ = [some (.ref Y.y), some (.int c), some (sI d), some (.ref l), some (nI M), x5] ∧ YardAt a Y d os H' ∧ os.length = k ∧ (∀ q ∈ os, q.2 = 0) ∧
        H' l = some (.lst (ts.map V.ref)) ∧ Tups H' ts (os.map toI) ∧ Only (own Y d) H H') ⟨Nat.zero_le _, [], [], none, rfl, ya.keep sl, rfl, fun q h => absurd h (by simp), upd_same, .nil, Only.same sl⟩ ?_ ?_
    · rintro k σ H1 hk ⟨_, os, ts, x5, rfl, y1, len, ones, hat, tups, o1⟩
      refine ⟨_, rfl, .inl ⟨rfl, _, SqL.of hat⟩, _, rfl, Y.y, Y.dy, _, rfl, y1.yo, yFs_no Y d (by decide +kernel) (by decide +kernel) (by decide +kernel), Y, d, os, 1, rfl, y1, by omega, fun z => absurd z (by omega), fun _ g H3 _ => ?_, fun g1 g2 m n best H3 y3 o3 => ?_⟩
      · exfalso
        rcases g with g | g
        · omega
        · exact one_more ones (by omega) (fun j i _ => g j i (by rw [fit_one]; omega))
      · rw [fit_one] at y3
        have hat3 := o3 _ _ hat nl
        have tups3 : Tups H3 ts (os.map toI) := tups.keep fun t xs e => o3 _ _ e (y1.off e (by intro xs z; cases z) (by intro xs z; cases z))
        have l3 := tups3.len
        rw [List.length_map, len] at l3
        refine ⟨by show 2 ≤ sizeLine; decide, fun t ht => ⟨l, _, _, rfl, rfl, by rw [upd_ne (ne_of_none hat3 ht)]; exact hat3, by rw [List.length_map, l3, sizeLine_eq]; omega, ?_⟩⟩
        have k2 : ∀ b o, H3 b = some o → b ≠ l → L2.upd (L2.upd H3 t (.tup [nI n, .int 1])) l (.lst (ts.map V.ref ++ [.ref t])) b = some o := fun b o e nb => by rw [upd_ne nb, upd_ne (ne_of_none e ht)]; exact e
        have tl : t ≠ l := fun z => by rw [z, hat3] at ht; cases ht
        refine ⟨hk, os ++ [(n, 0)], ts ++ [t], _, rfl, ?_, by rw [List.length_append, len]; rfl, fun q hq => ?_, by rw [upd_same, List.map_append]; rfl, ?_, ?_⟩
        · have lat : ∀ {b o}, H3 b = some o → (∀ xs, o ≠ .lst xs) → b ≠ l := fun {b o} e n z => by rw [z, hat3] at e; exact n _ (Option.some.inj e).symm
          refine ⟨k2 _ _ y3.yo (lat y3.yo (by intro xs z; cases z)), k2 _ _ y3.so (lat y3.so (by intro xs z; cases z)), ⟨k2 _ _ y3.po.ob (lat y3.po.ob (by intro xs z; cases z)), k2 _ _ y3.po.dk (lat y3.po.dk (by intro xs z; cases z)), fun j hj => k2 _ _ (y3.po.at_ j hj) fun z => nl (by rw [← z]; exact lsA_own _ (lsA_mem hj)), y3.po.inj, y3.po.rise, y3.po.len, y3.po.d60⟩, y3.good, y3.few, y3.ne⟩
        · rcases List.mem_append.mp hq with hq | hq
          · exact ones q hq
          · rw [List.mem_singleton.mp hq]
        · rw [List.map_append]
          refine Tups.snoc ?_ (tups3.keep fun t' xs e => k2 _ _ e fun z => by rw [z, hat3] at e; cases e)
          rw [upd_ne tl]
          exact upd_same
        · intro b o e nb
          have e3 := o3 _ _ (o1 _ _ e nb) nb
          exact k2 _ _ e3 fun z => by rw [z, hl] at e; cases e
    · rintro σ H1 ⟨_, held, ts, x5, rfl, y1, len, ones, hat, tups, o1⟩
      have lts := tups.len
      rw [List.length_map, len] at lts
      refine ⟨_, rfl, _, _, rfl, rfl, by show (0 : Int) < 4; decide, rfl, _, rfl, ?_⟩
      by_cases c3 : c % 4 = 3
      · refine iteTof (by show decide (V.int (c % 4) = V.int 3) = true; rw [c3]; exact decide_eq_true rfl) ?_
        refine ⟨_, rfl, _, _, rfl, rfl, ⟨by decide, by decide⟩, ((M / 2 : Nat) : Int), rfl, by omega, by omega, ?_⟩
        refine for_range (n := M / 2) (fun j σ H' => j ≤ M / 2 ∧ ∃ (os : List PN) (x5 : Option V), σ = [some (.ref Y.y), some (.int c), some (sI d), some (.ref l), some (nI M), x5] ∧ YardAt a Y d os H' ∧ os.length ≤ M ∧ LeftOf held os j ∧ Only (own Y d) H1 H')
          ⟨Nat.zero_le _, held, _, rfl, y1, by omega, fun q => ⟨fun z => by obtain ⟨i, e⟩ := List.mem_iff_getElem?.mp z; exact ⟨i, e, by omega⟩, fun ⟨i, e, _⟩ => List.mem_of_getElem? e⟩, Only.refl _ _⟩ ?_ ?_
        · rintro j σ H2 hj ⟨_, os, x, rfl, y2, len2, lo, o2⟩
          have hlt : 2 * j + 1 < held.length := by omega
          obtain ⟨pc, hpc⟩ : ∃ pc, held[2 * j + 1]? = some pc := ⟨_, List.getElem?_eq_getElem hlt⟩
          obtain ⟨n, k⟩ := pc
          obtain ⟨t, ht, hatt⟩ := tups.get (i := 2 * j + 1) (q := toI (n, k)) (by rw [List.getElem?_map, hpc]; rfl)
          have mo : (n, k) ∈ os := (lo (n, k)).mpr ⟨2 * j + 1, hpc, by omega⟩
          have hat2 := o2 _ _ hat nl
          have hatt2 := o2 _ _ hatt (y1.off hatt (by intro xs z; cases z) (by intro xs z; cases z))
          refine ⟨_, rfl, Y.y, Y.dy, _, rfl, y2.yo, yFs_no Y d (by decide +kernel) (by decide +kernel) (by decide +kernel), _, rfl, _, rfl, _, _, rfl, rfl, mulx_ok (a := 3) (b := 64) (by decide) (by show (0 + (j : Int)).natAbs < 2 ^ 64; omega) (by decide), _, _, rfl, rfl, l, _, _, V.ref t, rfl, rfl, SqL.of hat2, at_of (j := 2 * j + 1) (by show 2 * (0 + (j : Int)) + 1 = _; omega) (by rw [List.getElem?_map, ht]; rfl), t, _, _, nI n, rfl, rfl, SqT.of hatt2, at_of (j := 0) rfl rfl, Y, d, os, (n : Int), rfl, y2, fun z => absurd rfl (z (n, k) mo), fun n' k' m' e H3 y3 o3 => ?_⟩
          have en' : n = n' := by omega
          subst en'
          exact ⟨hj, outs os n, _, rfl, y3, Nat.le_trans (List.length_filter_le _ _) len2, left_next (y1.good) lo hpc, o2.trans o3⟩
        · rintro σ H2 ⟨_, os, x, rfl, y2, len2, lo, o2⟩
          have hat2 := o2 _ _ hat nl
          have tups2 : Tups H2 ts (held.map toI) := tups.keep fun t xs e => o2 _ _ e (y1.off e (by intro xs z; cases z) (by intro xs z; cases z))
          refine ⟨_, rfl, (M : Int), rfl, by omega, by omega, fun D newD => ?_⟩
          refine lc_out walk_range (fun i H' => ∃ us : List Addr, H' D = some (.lst (us.map V.ref)) ∧ us.length ≤ i ∧ Tups H' us ((seconds held i).map toI) ∧ (∀ b o, H2 b = some o → H' b = some o))
            ⟨[], upd_same, Nat.le_refl _, .nil, fun b o e => by rw [upd_ne (ne_of_none e newD)]; exact e⟩ (fun i H' _ _ => True.intro) ?_ ?_
          · rintro i v H3 H4 hi ⟨us, hD, lus, tu, s3⟩ ⟨rfl, rfl⟩
            have hi : i < M := hi
            have sec := seconds_succ held i
            refine ⟨rfl, ?_⟩
            refine ⟨_, rfl, _, _, rfl, rfl, by show (0 : Int) < 2; decide, rfl, _, rfl, ?_⟩
            by_cases e : i % 2 = 0
            · refine iteTof (by show decide (V.int ((0 + (i : Int)) % 2) = V.int 0) = true; rw [show (0 + (i : Int)) % 2 = 0 by omega]; exact decide_eq_true rfl) ?_
              obtain ⟨qq, hq⟩ : ∃ qq, held[i]? = some qq := ⟨_, List.getElem?_eq_getElem (by omega)⟩
              obtain ⟨t2, ht2, hatt2⟩ := tups2.get (i := i) (q := toI qq) (by rw [List.getElem?_map, hq]; rfl)
              refine ⟨_, rfl, _, rfl, l, _, _, V.ref t2, rfl, rfl, SqL.of (s3 _ _ hat2), at_of (j := i) (by show (0 + (i : Int)) = _; omega) (by rw [List.getElem?_map, ht2]; rfl), us.map V.ref, hD, ?_, us ++ [t2], ?_, ?_, ?_, fun b o e2 => ?_⟩
              · rw [List.length_map, sizeLine_eq]
                omega
              · rw [List.map_append]
                exact upd_same
              · rw [List.length_append]
                show us.length + 1 ≤ i + 1
                omega
              · rw [sec, if_pos e, List.map_append, List.getD, hq]
                refine Tups.snoc ?_ (tu.keep fun t xs e2 => ?_)
                · rw [upd_ne (fun z => by rw [← z, s3 _ _ hatt2] at hD; cases hD)]
                  exact s3 _ _ hatt2
                · rw [upd_ne (fun z => by rw [z, hD] at e2; cases e2)]
                  exact e2
              · rw [upd_ne (fun z => by rw [z, newD] at e2; cases e2)]
                exact s3 _ _ e2
            · refine iteFof (by show decide (V.int ((0 + (i : Int)) % 2) = V.int 0) = false; exact decide_eq_false fun z => e (by have : (0 + (i : Int)) % 2 = 0 := (by injection z); omega)) ?_
              exact ⟨us, hD, by omega, by rw [sec, if_neg e, List.append_nil]; exact tu, s3⟩
          · rintro H3 ⟨us, hD, lus, tu, s3⟩
            have tu : Tups H3 us ((seconds held M).map toI) := tu
            refine ⟨_, rfl, ?_⟩
            refine q os (seconds held M) D H3 (y2.keep s3) ⟨(y2.new newD), us, hD, tu⟩ ?_ (by omega) (o1.trans (o2.trans (Only.same s3)))
            rw [← len]
            refine (List.perm_ext_iff_of_nodup (seconds_nodup y1.good) y2.good.nodup).mpr fun p => ?_
            rw [seconds_mem, lo p]
            constructor
            · rintro ⟨i, h1, h2⟩
              exact ⟨i, h1, by omega⟩
            · rintro ⟨i, h1, h2⟩
              have := (List.getElem?_eq_some_iff.mp h1).1
              exact ⟨i, h1, by omega⟩
      · refine iteFof (by show decide (V.int (c % 4) = V.int 3) = false; exact decide_eq_false fun z => c3 (by injection z)) ?_
        exact ⟨_, rfl, q held held l H1 y1 ⟨nl, ts, hat, tups⟩ (List.Perm.refl _) (by omega) o1⟩
  refine iteFof (by show decide (V.int (c % 4) = V.int 1) = false; exact decide_eq_false fun z => c1 (by injection z)) ?_
  refine ⟨_, rfl, _, _, rfl, rfl, by show (0 : Int) < 4; decide, rfl, _, rfl, ?_⟩
  by_cases c0 : c % 4 = 3
  · refine iteTof (by show decide (V.int (c % 4) = V.int 3) = true; rw [c0]; exact decide_eq_true rfl) ?_
    refine ⟨_, rfl, _, rfl, _, _, rfl, rfl, ⟨by decide, by decide⟩, _, _, rfl, rfl, by show (0 : Int) < 131; decide, _, _, rfl, ?_⟩
    obtain ⟨M, eM, M1, M2⟩ : ∃ M : Nat, (if c / 4 % 131 < ((2 ^ d : Nat) : Int) then c / 4 % 131 else ((2 ^ d : Nat) : Int)) = (M : Int) ∧ M ≤ 2 ^ d ∧ M ≤ 130 := by
      rw [show c / 4 % 131 = (n3 : Int) from e3]
      by_cases z : (n3 : Int) < ((2 ^ d : Nat) : Int)
      · exact ⟨n3, if_pos z, by omega, by omega⟩
      · exact ⟨2 ^ d, if_neg z, by omega, by omega⟩
    rw [eM]
    -- the pieces of one cell
    refine ⟨_, rfl, (M : Int), rfl, by omega, by omega, ?_⟩
    refine for_range (n := M) (fun k σ H' => k ≤ M ∧ ∃ (os : List PN) (ts : List Addr) (x5 : Option V), σ = [some (.ref Y.y), some (.int c), some (sI d), some (.ref l), some (nI M), x5] ∧ YardAt a Y d os H' ∧ os.length = k ∧ (∀ q ∈ os, q.2 = 0) ∧
        H' l = some (.lst (ts.map V.ref)) ∧ Tups H' ts (os.map toI) ∧ Only (own Y d) H H') ⟨Nat.zero_le _, [], [], none, rfl, ya.keep sl, rfl, fun q h => absurd h (by simp), upd_same, .nil, Only.same sl⟩ ?_ ?_
    · rintro k σ H1 hk ⟨_, os, ts, x5, rfl, y1, len, ones, hat, tups, o1⟩
      refine ⟨_, rfl, .inl ⟨rfl, _, SqL.of hat⟩, _, rfl, Y.y, Y.dy, _, rfl, y1.yo, yFs_no Y d (by decide +kernel) (by decide +kernel) (by decide +kernel), Y, d, os, 1, rfl, y1, by omega, fun z => absurd z (by omega), fun _ g H3 _ => ?_, fun g1 g2 m n best H3 y3 o3 => ?_⟩
      · exfalso
        rcases g with g | g
        · omega
        · exact one_more ones (by omega) (fun j i _ => g j i (by rw [fit_one]; omega))
      · rw [fit_one] at y3
        have hat3 := o3 _ _ hat nl
        have tups3 : Tups H3 ts (os.map toI) := tups.keep fun t xs e => o3 _ _ e (y1.off e (by intro xs z; cases z) (by intro xs z; cases z))
        have l3 := tups3.len
        rw [List.length_map, len] at l3
        refine ⟨by show 2 ≤ sizeLine; decide, fun t ht => ⟨l, _, _, rfl, rfl, by rw [upd_ne (ne_of_none hat3 ht)]; exact hat3, by rw [List.length_map, l3, sizeLine_eq]; omega, ?_⟩⟩
        have k2 : ∀ b o, H3 b = some o → b ≠ l → L2.upd (L2.upd H3 t (.tup [nI n, .int 1])) l (.lst (ts.map V.ref ++ [.ref t])) b = some o := fun b o e nb => by rw [upd_ne nb, upd_ne (ne_of_none e ht)]; exact e
        have tl : t ≠ l := fun z => by rw [z, hat3] at ht; cases ht
        refine ⟨hk, os ++ [(n, 0)], ts ++ [t], _, rfl, ?_, by rw [List.length_append, len]; rfl, fun q hq => ?_, by rw [upd_same, List.map_append]; rfl, ?_, ?_⟩
        · have lat : ∀ {b o}, H3 b = some o → (∀ xs, o ≠ .lst xs) → b ≠ l := fun {b o} e n z => by rw [z, hat3] at e; exact n _ (Option.some.inj e).symm
          refine ⟨k2 _ _ y3.yo (lat y3.yo (by intro xs z; cases z)), k2 _ _ y3.so (lat y3.so (by intro xs z; cases z)), ⟨k2 _ _ y3.po.ob (lat y3.po.ob (by intro xs z; cases z)), k2 _ _ y3.po.dk (lat y3.po.dk (by intro xs z; cases z)), fun j hj => k2 _ _ (y3.po.at_ j hj) fun z => nl (by rw [← z]; exact lsA_own _ (lsA_mem hj)), y3.po.inj, y3.po.rise, y3.po.len, y3.po.d60⟩, y3.good, y3.few, y3.ne⟩
        · rcases List.mem_append.mp hq with hq | hq
          · exact ones q hq
          · rw [List.mem_singleton.mp hq]
        · rw [List.map_append]
          refine Tups.snoc ?_ (tups3.keep fun t' xs e => k2 _ _ e fun z => by rw [z, hat3] at e; cases e)
          rw [upd_ne tl]
          exact upd_same
        · intro b o e nb
          have e3 := o3 _ _ (o1 _ _ e nb) nb
          exact k2 _ _ e3 fun z => by rw [z, hl] at e; cases e
    · rintro σ H1 ⟨_, held, ts, x5, rfl, y1, len, ones, hat, tups, o1⟩
      have lts := tups.len
      rw [List.length_map, len] at lts
      refine ⟨_, rfl, _, _, rfl, rfl, by show (0 : Int) < 4; decide, rfl, _, rfl, ?_⟩
      by_cases c3 : c % 4 = 3
      · refine iteTof (by show decide (V.int (c % 4) = V.int 3) = true; rw [c3]; exact decide_eq_true rfl) ?_
        refine ⟨_, rfl, _, _, rfl, rfl, ⟨by decide, by decide⟩, ((M / 2 : Nat) : Int), rfl, by omega, by omega, ?_⟩
        refine for_range (n := M / 2) (fun j σ H' => j ≤ M / 2 ∧ ∃ (os : List PN) (x5 : Option V), σ = [some (.ref Y.y), some (.int c), some (sI d), some (.ref l), some (nI M), x5] ∧ YardAt a Y d os H' ∧ os.length ≤ M ∧ LeftOf held os j ∧ Only (own Y d) H1 H')
          ⟨Nat.zero_le _, held, _, rfl, y1, by omega, fun q => ⟨fun z => by obtain ⟨i, e⟩ := List.mem_iff_getElem?.mp z; exact ⟨i, e, by omega⟩, fun ⟨i, e, _⟩ => List.mem_of_getElem? e⟩, Only.refl _ _⟩ ?_ ?_
        · rintro j σ H2 hj ⟨_, os, x, rfl, y2, len2, lo, o2⟩
          have hlt : 2 * j + 1 < held.length := by omega
          obtain ⟨pc, hpc⟩ : ∃ pc, held[2 * j + 1]? = some pc := ⟨_, List.getElem?_eq_getElem hlt⟩
          obtain ⟨n, k⟩ := pc
          obtain ⟨t, ht, hatt⟩ := tups.get (i := 2 * j + 1) (q := toI (n, k)) (by rw [List.getElem?_map, hpc]; rfl)
          have mo : (n, k) ∈ os := (lo (n, k)).mpr ⟨2 * j + 1, hpc, by omega⟩
          have hat2 := o2 _ _ hat nl
          have hatt2 := o2 _ _ hatt (y1.off hatt (by intro xs z; cases z) (by intro xs z; cases z))
          refine ⟨_, rfl, Y.y, Y.dy, _, rfl, y2.yo, yFs_no Y d (by decide +kernel) (by decide +kernel) (by decide +kernel), _, rfl, _, rfl, _, _, rfl, rfl, mulx_ok (a := 3) (b := 64) (by decide) (by show (0 + (j : Int)).natAbs < 2 ^ 64; omega) (by decide), _, _, rfl, rfl, l, _, _, V.ref t, rfl, rfl, SqL.of hat2, at_of (j := 2 * j + 1) (by show 2 * (0 + (j : Int)) + 1 = _; omega) (by rw [List.getElem?_map, ht]; rfl), t, _, _, nI n, rfl, rfl, SqT.of hatt2, at_of (j := 0) rfl rfl, Y, d, os, (n : Int), rfl, y2, fun z => absurd rfl (z (n, k) mo), fun n' k' m' e H3 y3 o3 => ?_⟩
          have en' : n = n' := by omega
          subst en'
          exact ⟨hj, outs os n, _, rfl, y3, Nat.le_trans (List.length_filter_le _ _) len2, left_next (y1.good) lo hpc, o2.trans o3⟩
        · rintro σ H2 ⟨_, os, x, rfl, y2, len2, lo, o2⟩
          have hat2 := o2 _ _ hat nl
          have tups2 : Tups H2 ts (held.map toI) := tups.keep fun t xs e => o2 _ _ e (y1.off e (by intro xs z; cases z) (by intro xs z; cases z))
          refine ⟨_, rfl, (M : Int), rfl, by omega, by omega, fun D newD => ?_⟩
          refine lc_out walk_range (fun i H' => ∃ us : List Addr, H' D = some (.lst (us.map V.ref)) ∧ us.length ≤ i ∧ Tups H' us ((seconds held i).map toI) ∧ (∀ b o, H2 b = some o → H' b = some o))
            ⟨[], upd_same, Nat.le_refl _, .nil, fun b o e => by rw [upd_ne (ne_of_none e newD)]; exact e⟩ (fun i H' _ _ => True.intro) ?_ ?_
          · rintro i v H3 H4 hi ⟨us, hD, lus, tu, s3⟩ ⟨rfl, rfl⟩
            have hi : i < M := hi
            have sec := seconds_succ held i
            refine ⟨rfl, ?_⟩
            refine ⟨_, rfl, _, _, rfl, rfl, by show (0 : Int) < 2; decide, rfl, _, rfl, ?_⟩
            by_cases e : i % 2 = 0
            · refine iteTof (by show decide (V.int ((0 + (i : Int)) % 2) = V.int 0) = true; rw [show (0 + (i : Int)) % 2 = 0 by omega]; exact decide_eq_true rfl) ?_
              obtain ⟨qq, hq⟩ : ∃ qq, held[i]? = some qq := ⟨_, List.getElem?_eq_getElem (by omega)⟩
              obtain ⟨t2, ht2, hatt2⟩ := tups2.get (i := i) (q := toI qq) (by rw [List.getElem?_map, hq]; rfl)
              refine ⟨_, rfl, _, rfl, l, _, _, V.ref t2, rfl, rfl, SqL.of (s3 _ _ hat2), at_of (j := i) (by show (0 + (i : Int)) = _; omega) (by rw [List.getElem?_map, ht2]; rfl), us.map V.ref, hD, ?_, us ++ [t2], ?_, ?_, ?_, fun b o e2 => ?_⟩
              · rw [List.length_map, sizeLine_eq]
                omega
              · rw [List.map_append]
                exact upd_same
              · rw [List.length_append]
                show us.length + 1 ≤ i + 1
                omega
              · rw [sec, if_pos e, List.map_append, List.getD, hq]
                refine Tups.snoc ?_ (tu.keep fun t xs e2 => ?_)
                · rw [upd_ne (fun z => by rw [← z, s3 _ _ hatt2] at hD; cases hD)]
                  exact s3 _ _ hatt2
                · rw [upd_ne (fun z => by rw [z, hD] at e2; cases e2)]
                  exact e2
              · rw [upd_ne (fun z => by rw [z, newD] at e2; cases e2)]
                exact s3 _ _ e2
            · refine iteFof (by show decide (V.int ((0 + (i : Int)) % 2) = V.int 0) = false; exact decide_eq_false fun z => e (by have : (0 + (i : Int)) % 2 = 0 := (by injection z); omega)) ?_
              exact ⟨us, hD, by omega, by rw [sec, if_neg e, List.append_nil]; exact tu, s3⟩
          · rintro H3 ⟨us, hD, lus, tu, s3⟩
            have tu : Tups H3 us ((seconds held M).map toI) := tu
            refine ⟨_, rfl, ?_⟩
            refine q os (seconds held M) D H3 (y2.keep s3) ⟨(y2.new newD), us, hD, tu⟩ ?_ (by omega) (o1.trans (o2.trans (Only.same s3)))
            rw [← len]
            refine (List.perm_ext_iff_of_nodup (seconds_nodup y1.good) y2.good.nodup).mpr fun p => ?_
            rw [seconds_mem, lo p]
            constructor
            · rintro ⟨i, h1, h2⟩
              exact ⟨i, h1, by omega⟩
            · rintro ⟨i, h1, h2⟩
              have := (List.getElem?_eq_some_iff.mp h1).1
              exact ⟨i, h1, by omega⟩
      · refine iteFof (by show decide (V.int (c % 4) = V.int 3) = false; exact decide_eq_false fun z => c3 (by injection z)) ?_
        exact ⟨_, rfl, q held held l H1 y1 ⟨nl, ts, hat, tups⟩ (List.Perm.refl _) (by omega) o1⟩
  refine iteFof (by show decide (V.int (c % 4) = V.int 3) = false; exact decide_eq_false fun z => c0 (by injection z)) ?_
  refine ⟨_, rfl, 0, rfl, by omega, by omega, ?_⟩
  refine for_range (n := 0) (fun k σ H' => H' = L2.upd H l (.lst []) ∧ σ = [some (.ref Y.y), some (.int c), some (sI d), some (.ref l), some (.int 0), none]) ⟨rfl, rfl⟩ (fun i σ H' hi _ => absurd hi (by omega)) ?_
  rintro σ H1 ⟨rfl, rfl⟩
  refine ⟨_, rfl, _, _, rfl, rfl, by show (0 : Int) < 4; decide, rfl, _, rfl, ?_⟩
  refine iteFof (by show decide (V.int (c % 4) = V.int 3) = false; exact decide_eq_false fun z => c0 (by injection z)) ?_
  exact ⟨_, rfl, q [] [] l _ (ya.keep sl) ⟨nl, [], upd_same, .nil⟩ (List.Perm.refl _) (by simp) (Only.same sl)⟩
end
/-! ### the pieces, out and free, side by side -/
noncomputable def freeN (os : List PN) (d n : Nat) : List PN := (List.range n).flatMap fun j => (frl (Oc os) d j).map fun x => (x, j)
noncomputable def freeP (os : List PN) (d : Nat) : List PN := freeN os d (d + 1)
theorem freeN_map (os : List PN) (d n : Nat) : (freeN os d n).map toI = allN n (frl (Oc os) d) := by
  unfold freeN allN
  rw [List.map_flatMap]
  congr 1
  funext j
  rw [List.map_map]
  rfl
theorem frees_eq (os : List PN) (d : Nat) : frees os d = srt ((freeP os d).map toI) := by
  unfold frees freeP
  rw [freeN_map]
theorem freeP_mem {os : List PN} {d : Nat} {q : PN} : q ∈ freeP os d ↔ Mx (Oc os) d q.2 (q.1 / 2 ^ q.2) ∧ q.1 / 2 ^ q.2 * 2 ^ q.2 = q.1 := by
  unfold freeP freeN
  rw [List.mem_flatMap]
  constructor
  · rintro ⟨j, hj, hq⟩
    obtain ⟨x, hx, rfl⟩ := List.mem_map.mp hq
    obtain ⟨i, e, h⟩ := frl_mem.mp hx
    subst e
    show Mx (Oc os) d j (i * 2 ^ j / 2 ^ j) ∧ i * 2 ^ j / 2 ^ j * 2 ^ j = i * 2 ^ j
    rw [blk_of]
    exact ⟨h, rfl⟩
  · rintro ⟨h, e⟩
    refine ⟨q.2, List.mem_range.mpr (by have := h.1; omega), List.mem_map.mpr ⟨q.1, frl_mem.mpr ⟨_, e.symm, h⟩, rfl⟩⟩
theorem mx_lt {O : Nat → Prop} {d j c : Nat} (h : Mx O d j (c / 2 ^ j)) (e : c / 2 ^ j * 2 ^ j = c) : c < 2 ^ d := by
  have h1 := h.2.1
  have p : 0 < 2 ^ j := Nat.pow_pos (by decide)
  have e2 : 2 ^ d = 2 ^ (d - j) * 2 ^ j := by rw [← Nat.pow_add, show d - j + j = d by have := h.1; omega]
  rw [← e, e2]
  exact Nat.mul_lt_mul_of_pos_right h1 p
theorem freeP_nodup (os : List PN) (d : Nat) : (freeP os d).Nodup := by
  unfold freeP freeN
  rw [List.Nodup, List.pairwise_flatMap]
  constructor
  · intro j _
    exact List.pairwise_map.mpr ((frl_rise _ _ _).imp fun l e => by
      have := congrArg Prod.fst e
      simp at this
      omega)
  · refine List.pairwise_lt_range.imp fun {i j} l p hp q hq e => ?_
    obtain ⟨x, _, rfl⟩ := List.mem_map.mp hp
    obtain ⟨y, _, rfl⟩ := List.mem_map.mp hq
    have := congrArg Prod.snd e
    simp at this
    omega
theorem good_all {d : Nat} {os : List PN} (g : Good d os) : Good d (os ++ freeP os d) := by
  refine ⟨fun q m => ?_, List.pairwise_append.mpr ⟨g.disj, ?_, fun p hp q hq c e1 e2 => ?_⟩⟩
  · rcases List.mem_append.mp m with m | m
    · exact g.each q m
    · obtain ⟨h, e⟩ := freeP_mem.mp m
      exact ⟨h.1, e, mx_lt h e⟩
  · refine (freeP_nodup os d).imp_of_mem fun {p q} hp hq ne c e1 e2 => ne ?_
    obtain ⟨h1, a1⟩ := freeP_mem.mp hp
    obtain ⟨h2, a2⟩ := freeP_mem.mp hq
    rw [← e1] at h1
    rw [← e2] at h2
    have ej := mx_uniq h1 h2
    have ex : p.1 = q.1 := by rw [← a1, ← a2, ← e1, ← e2, ej]
    exact Prod.ext ex ej
  · obtain ⟨h2, a2⟩ := freeP_mem.mp hq
    exact h2.2.2.1 c e2 ⟨p, hp, e1⟩
theorem cover_all {d c : Nat} {os : List PN} (hc : c < 2 ^ d) : ∃ q ∈ os ++ freeP os d, c / 2 ^ q.2 = q.1 / 2 ^ q.2 := by
  by_cases h : Oc os c
  · obtain ⟨q, m, e⟩ := h
    exact ⟨q, List.mem_append.mpr (.inl m), e⟩
  · have f : Fr (Oc os) 0 (c / 2 ^ 0) := by
      intro c' e z
      rw [Nat.pow_zero, Nat.div_one, Nat.div_one] at e
      rw [e] at z
      exact h z
    obtain ⟨m, _, hm⟩ := mx_exists hc _ 0 rfl (Nat.zero_le _) f
    have e1 : c / 2 ^ m * 2 ^ m / 2 ^ m = c / 2 ^ m := blk_of _ _
    refine ⟨(c / 2 ^ m * 2 ^ m, m), List.mem_append.mpr (.inr (freeP_mem.mpr ⟨by show Mx (Oc os) d m (c / 2 ^ m * 2 ^ m / 2 ^ m); rw [e1]; exact hm, by show c / 2 ^ m * 2 ^ m / 2 ^ m * 2 ^ m = c / 2 ^ m * 2 ^ m; rw [e1]⟩)), ?_⟩
    show c / 2 ^ m = c / 2 ^ m * 2 ^ m / 2 ^ m
    rw [e1]
def Chain : Nat → List PN → Nat → Prop
  | b, [], e => b = e
  | b, q :: l, e => q.1 = b ∧ Chain (q.1 + 2 ^ q.2) l e
theorem chain_of {d : Nat} : ∀ {l : List PN} {b : Nat}, l.Pairwise (fun p q => p.1 < q.1) → Good d l → b ≤ 2 ^ d → (∀ q ∈ l, b ≤ q.1) → (∀ c, b ≤ c → c < 2 ^ d → ∃ q ∈ l, c / 2 ^ q.2 = q.1 / 2 ^ q.2) → Chain b l (2 ^ d)
  | [], b, _, _, hb, _, cov => by
    show b = 2 ^ d
    apply Classical.byContradiction
    intro z
    obtain ⟨q, m, _⟩ := cov b (Nat.le_refl _) (by omega)
    cases m
  | q :: l, b, srtd, g, hb, low, cov => by
    obtain ⟨s1, s2⟩ := List.pairwise_cons.mp srtd
    have gq := g.each q List.mem_cons_self
    have pq : 0 < 2 ^ q.2 := Nat.pow_pos (by decide)
    have start : ∀ p ∈ q :: l, ∀ c, c / 2 ^ p.2 = p.1 / 2 ^ p.2 → p.1 ≤ c := fun p hp c e => by
      have a := (g.each p hp).2.1
      rw [← a, ← e]
      exact Nat.div_mul_le_self c _
    have eb : q.1 = b := by
      apply Classical.byContradiction
      intro z
      have lq := low q List.mem_cons_self
      obtain ⟨p, hp, e⟩ := cov b (Nat.le_refl _) (by omega)
      have h1 := start p hp b e
      rcases List.mem_cons.mp hp with rfl | hp
      · omega
      · have := s1 p hp
        omega
    have fits : q.1 + 2 ^ q.2 ≤ 2 ^ d := by
      obtain ⟨a1, a2, a3⟩ := gq
      have e2 : 2 ^ d = 2 ^ (d - q.2) * 2 ^ q.2 := by rw [← Nat.pow_add, show d - q.2 + q.2 = d by omega]
      have lt : q.1 / 2 ^ q.2 < 2 ^ (d - q.2) := blk_lt a3 a1
      rw [← a2, e2, ← Nat.succ_mul]
      exact Nat.mul_le_mul_right _ lt
    have inq : ∀ c, q.1 ≤ c → c < q.1 + 2 ^ q.2 → c / 2 ^ q.2 = q.1 / 2 ^ q.2 := fun c h1 h2 => by
      have a := gq.2.1
      generalize q.1 / 2 ^ q.2 = i at a
      refine Nat.div_eq_of_lt_le (by omega) ?_
      rw [Nat.succ_mul]
      omega
    have g2 : Good d l := g.sub (List.sublist_cons_self q l)
    refine ⟨eb, chain_of s2 g2 fits (fun p hp => ?_) (fun c h1 h2 => ?_)⟩
    · apply Classical.byContradiction
      intro z
      have l1 := s1 p hp
      have := (List.pairwise_cons.mp g.disj).1 p hp p.1 (inq p.1 (by omega) (by omega))
      exact this rfl
    · obtain ⟨p, hp, e⟩ := cov c (by omega) h2
      rcases List.mem_cons.mp hp with rfl | hp
      · exfalso
        have a := gq.2.1
        have h3 := Nat.lt_div_mul_add (a := c) pq
        rw [e, a] at h3
        omega
      · exact ⟨p, hp, e⟩
theorem chain_sum : ∀ {l : List PN} {b e : Nat}, Chain b l e → b + (l.map fun q => 2 ^ q.2).sum = e
  | [], b, e, h => h
  | q :: l, b, e, h => by
    obtain ⟨h1, h2⟩ := h
    have := chain_sum h2
    rw [List.map_cons, List.sum_cons]
    omega
theorem tile {d : Nat} {os : List PN} (g : Good d os) : ∃ L : List PN, L.Perm (os ++ freeP os d) ∧ srt ((os ++ freeP os d).map toI) = L.map toI ∧ Chain 0 L (2 ^ d) := by
  have ga := good_all g
  let le : PN → PN → Bool := fun p q => decide (p.1 ≤ q.1)
  have perm := List.mergeSort_perm (os ++ freeP os d) le
  have gL := ga.perm perm
  have sorted : ((os ++ freeP os d).mergeSort le).Pairwise fun p q => le p q = true := List.pairwise_mergeSort (fun x y z h1 h2 => by simp [le] at *; omega) (fun x y => by simp [le]; omega) _
  have strict : ((os ++ freeP os d).mergeSort le).Pairwise fun p q => p.1 < q.1 := by
    refine (sorted.and gL.disj).imp_of_mem fun {p q} hp hq h => ?_
    have h1 : p.1 ≤ q.1 := of_decide_eq_true h.1
    have h2 : p.1 ≠ q.1 := fun e => h.2 p.1 rfl (by rw [e])
    omega
  refine ⟨_, perm, ?_, chain_of strict gL (Nat.zero_le _) (fun _ _ => Nat.zero_le _) fun c _ hc => ?_⟩
  · refine (srt_of (perm.map toI) (List.pairwise_map.mpr (strict.imp fun {p q} l => ?_))).symm
    rw [SrtO.lexB_no]
    show ¬ ((q.1 : Int) < (p.1 : Int) ∨ _)
    unfold toI
    show ¬ ((q.1 : Int) < (p.1 : Int) ∨ ((q.1 : Int) = (p.1 : Int) ∧ _))
    omega
  · obtain ⟨q, m, e⟩ := cover_all (os := os) hc
    exact ⟨q, perm.mem_iff.mpr m, e⟩
theorem sum_cast (l : List PN) : ((l.map toI).map (·.2)).sum = (((l.map fun q => 2 ^ q.2).sum : Nat) : Int) := by
  induction l with
  | nil => rfl
  | cons q l ih =>
    rw [List.map_cons, List.map_cons, List.sum_cons, ih, List.map_cons, List.sum_cons, Int.natCast_add]
    rfl
theorem sum_perm {l m : List Int} (p : l.Perm m) : l.sum = m.sum := by
  induction p with
  | nil => rfl
  | cons x _ ih => rw [List.sum_cons, List.sum_cons, ih]
  | swap x y l => rw [List.sum_cons, List.sum_cons, List.sum_cons, List.sum_cons]; omega
  | trans _ _ h1 h2 => rw [h1, h2]
/-- as many cells are free as are not out -/
theorem free_sum {d : Nat} {os held : List PN} (g : Good d os) (p : held.Perm os) : ((frees os d).map (·.2)).sum = ((2 ^ d : Nat) : Int) - ((held.map toI).map (·.2)).sum := by
  obtain ⟨L, pL, _, ch⟩ := tile g
  have s := chain_sum ch
  have e1 : ((L.map toI).map (·.2)).sum = (((held.map toI).map (·.2)).sum) + ((frees os d).map (·.2)).sum := by
    have q := ((pL.trans (p.symm.append_right (freeP os d))).map toI).map (fun z : PI2 => z.2)
    rw [sum_perm q, List.map_append, List.map_append, List.sum_append]
    congr 1
    rw [frees_eq]
    exact sum_perm ((srt_perm _).symm.map _)
  rw [sum_cast L] at e1
  omega
/-- no two twins are both free -/
theorem no_twins {d : Nat} {os : List PN} {q : PN} (m : q ∈ freeP os d) : (sib (q.1 / 2 ^ q.2) * 2 ^ q.2, q.2) ∉ freeP os d := by
  intro z
  obtain ⟨h1, _⟩ := freeP_mem.mp m
  obtain ⟨h2, _⟩ := freeP_mem.mp z
  have e : sib (q.1 / 2 ^ q.2) * 2 ^ q.2 / 2 ^ q.2 = sib (q.1 / 2 ^ q.2) := blk_of _ _
  have h2 : Mx (Oc os) d q.2 (sib (q.1 / 2 ^ q.2)) := by
    have h3 : Mx (Oc os) d q.2 (sib (q.1 / 2 ^ q.2) * 2 ^ q.2 / 2 ^ q.2) := h2
    rw [e] at h3
    exact h3
  by_cases l : q.2 < d
  · exact h1.2.2.2 l (fr_half h1.2.2.1 h2.2.2.1)
  · have a1 := h1.2.1
    have a2 := h2.2.1
    rw [show d - q.2 = 0 by omega, Nat.pow_zero] at a1 a2
    have a3 := sib_ne (q.1 / 2 ^ q.2)
    generalize q.1 / 2 ^ q.2 = z at a1 a2 a3
    omega
/-! ### sorted(range(n), key=lambda k: -sizes[k]) -/
section
open PySem PySem.Spec PyProof PyProof.Rows
abbrev lamPar (p : Pos) : Arguments := { posonlyargs := [], args := [{ arg := "k", annotation := none, pos := p }], vararg := none, kwonlyargs := [], kw_defaults := [], kwarg := none, defaults := [] }
abbrev lamBody (p1 p2 p3 p4 : Pos) : Expr := .UnaryOp .USub (.Subscript (.Name "sizes" p1) (.Name "k" p2) p3) p4
abbrev lamScope : Scope := { kind := .function, names := [(Str.ofString "k", .local), (Str.ofString "sizes", .free)], isGenerator := false, isCoroutine := false, more := [] }
variable {prog : Program} {w : World} {A : Around} {E : Value → Shared → Prop} {s : Shared}
/-- the key of k -/
theorem lam_call {f c' cs L : Addr} {q : Str} {pp p1 p2 p3 p4 : Pos} {pm ctv : Value} {items : Array Value} {k : Nat} {n : Int} {t0 t : Tok} (room : A.depth < recursionLimit)
    (hf : s.heap.get? f = some (PySem.W.kla_obj "<lambda>" q (lamPar pp) (lamBody p1 p2 p3 p4) lamScope [(Str.ofString "sizes", cs)] pm c' ctv)) (rec : s.heap.CodeRec (.ref c') q) (lim : s.heap.NoLimit)
    (hc : s.heap.IsCell cs (some (.ref L))) (hl : s.heap.IsList L items) (hk : items[k]? = some (.int n t0)) (few : items.size ≤ sizeLine) :
    wpAny (model prog w) A (call (.ref f) [.int k t]) (fun v s2 => ∃ g tk t', s2 = { s with heap := g, toks := tk } ∧ (∀ b o, s.heap.get? b = some o → g.get? b = some o) ∧ v = .int (-n) t') E s := by
  refine wpAny_call (PySem.W.kla_callFunE room hf rfl rfl rfl rfl rec ?_)
  have hb : bindArgs (PySem.W.kla_fn "<lambda>" q (lamPar pp) (lamBody p1 p2 p3 p4) lamScope [(Str.ofString "sizes", cs)] pm (.ref c') ctv) ⟨[.int k t], []⟩ = pure [(Str.ofString "k", .int k t)] := rfl
  rw [hb]
  refine wpAny_pure (wpAny_newFunctionEnv (fun y hy => ?_) (fun y hy => ?_) (fun g hns sb => ⟨lim.fresh _ sb, ?_⟩) rfl)
  · rcases List.mem_cons.mp hy with rfl | hy
    · decide
    · rw [List.mem_singleton.mp hy]
      decide
  · rw [List.mem_singleton.mp hy]
    rfl
  · have kp : ∀ b o, s.heap.get? b = some o → g.get? b = some o := fun b o e => sb.extBut b o (Nat.ne_of_lt (Heap.lt_size e)) (Heap.get?_push_of_some _ e)
    refine PySem.W.kla_codeExpr (UnaryOp_ (Subscript_ ?_))
    refine wpAny_Name (wpAny_loadName_free rfl (by rfl) (c := cs) (by rfl) (hc.keeps kp) ?_)
    refine wpAny_Name (wpAny_loadName_local rfl (by rfl) hns (v := .int k t) (by rfl) ?_)
    have lt := (Array.getElem?_eq_some_iff.mp hk).1
    have l63 := line63
    refine item_listR (hl.at fun o e => kp _ _ e) (by omega) (by omega) (x := .int n t0) (by rw [Int.toNat_natCast]; exact hk) ?_
    exact neg_int ⟨g, _, _, rfl, kp, rfl⟩
end
section
open PySem PySem.Spec PySem.Calls PyProof PyProof.Rows PySem.W
variable {prog : Program} {w : World} {A : Around} {E : Value → Shared → Prop} {s : Shared}
def IntAt (v : Value) (x : Nat) : Prop := ∃ t, v = .int (x : Int) t
theorem each_range : ∀ (us : List Value) (d : Nat), (∀ i v, us[i]? = some v → IntAt v (d + i)) → EachIs IntAt us ((List.range us.length).map (d + ·))
  | [], _, _ => .nil
  | u :: r, d, h => by
    rw [List.length_cons, List.range_succ_eq_map, List.map_cons, List.map_map]
    refine .cons (h 0 u rfl) ?_
    have e := each_range r (d + 1) fun i v hi => by
      have z := h (i + 1) v hi
      rwa [show d + (i + 1) = d + 1 + i by omega] at z
    have e2 : (List.range r.length).map ((d + ·) ∘ Nat.succ) = (List.range r.length).map (d + 1 + ·) := by
      refine List.map_congr_left fun x _ => ?_
      show d + (x + 1) = d + 1 + x
      omega
    rw [e2]
    exact e
/-- sorted(range(n), key=f) -/
theorem sorted_rng {r f : Addr} {n : Nat} {t u v : Tok} {Q : Value → Shared → Prop} (k : Nat → PyData) (hh : A.handled = none) (hr : IsRange s.heap r 0 n 1 t u v) (few : n ≤ 2 ^ 24) (hal : AllAlike ((List.range n).map k)) (hsk : Sortable ((List.range n).map k))
    (hu : ∀ x, A.units + 2 + (k x).depth < cLine)
    (turn : ∀ (x : Nat) (t : Tok), x < n → ∀ (h : Heap) (tk : Nat), (∀ b o, s.heap.get? b = some o → h.get? b = some o) →
      wpAny (model prog w) A.in1.in1 (call (.ref f) [.int x t]) (KeyPure (k x) { s with heap := h, toks := tk }) (fun _ _ => False) { s with heap := h, toks := tk })
    (h : ∀ (g1 : Heap) (out : List Value) (c : Nat) (h' : Heap) (tk : Nat), (∀ b o, s.heap.get? b = some o → g1.get? b = some o) → (∀ b o, g1.get? b = some o → h'.get? b = some o) → h'.get? g1.objs.size = some (seqObj "list" (List.toArray out) c) → out.length = n → EachIs IntAt out ((List.range n).mergeSort (dataLe false k)) →
      Q (.ref g1.objs.size) { s with heap := h', toks := tk }) :
    wpAny (model prog w) A (call (.builtin "sorted") [.ref r] [(Str.ofString "key", .ref f)]) Q E s := by
  refine call_function_entry_kw kind_sorted plain_sorted entry_sorted (ksk_s1 _ _) ?_
  unfold Builtin.«sorted»
  refine wpAny_bind (m := checkCount "sorted" 1 1 _) (wpAny_pure ?_)
  refine wpAny_bind (collect_range (A := A.in1) (s := s) (n := n) hh hr (small_one (by omega) (by omega) (by omega) (by omega)) (by rw [rangeSize_nat]; omega) few fun h1 tk1 acc kp1 its => ?_)
  have hl : acc.toList.length = n := by rw [Array.length_toList]; exact its.1
  have hz : acc.toList.length ≤ sizeLine := by rw [hl, sizeLine_eq]; omega
  have eR : EachIs IntAt acc.toList (List.range n) := by
    have e := each_range acc.toList 0 fun i v hi => by
      rw [Array.getElem?_toList] at hi
      obtain ⟨t, rfl⟩ := its.2 i v hi
      exact ⟨t, by congr 1; omega⟩
    rw [hl] at e
    have e2 : (List.range n).map (0 + ·) = List.range n := by
      rw [show ((fun x => 0 + x) : Nat → Nat) = id from funext fun x => Nat.zero_add x, List.map_id]
    rwa [e2] at e
  refine wpAny_bind (wpAny_newList ?_ hz)
  have hA : (h1.push { cls := .type "list", data := .seq acc.toList.toArray }).get? h1.objs.size = some (seqObj "list" acc.toList.toArray 0) := Heap.get?_push_size _ rfl
  refine wpAny_bind (wpAny_holding (wpAny_call_entry_kw slot_list_sort ⟨_, hA, rfl⟩ entry_list_sort ?body (ksk_l1 _ _)))
  case body =>
    rw [ksk_t1]
    refine keyH_tree (kz := (List.range n).map k) (s := { s with heap := h1.push { cls := .type "list", data := .seq acc.toList.toArray }, toks := tk1 }) hA (by rw [List.length_map, List.length_range, hl]) hz hal hsk (fun d hd => ?_)
      (keyH_turns (s := { s with heap := h1.push { cls := .type "list", data := .seq acc.toList.toArray }, toks := tk1 }) eR fun v x hR hx g tk kp => ?_) fun g tk out c kp hD ko => ?_
    · obtain ⟨x, _, rfl⟩ := List.mem_map.mp hd
      exact hu x
    · obtain ⟨t, rfl⟩ := hR
      exact turn x t (List.mem_range.mp hx) g tk fun b o e => kp b o (Nat.ne_of_lt (Heap.lt_size (kp1 b o e))) (Heap.get?_push_of_some _ (kp1 b o e))
    · exact ⟨_, rfl, wpAny_pure ⟨_, rfl, h h1 out c g tk kp1 (fun b o e => kp b o (Nat.ne_of_lt (Heap.lt_size e)) (Heap.get?_push_of_some _ e)) hD ((ko.length (by rw [List.length_map, List.length_range, hl])).trans hl) (keyedOut_each k ko eR)⟩⟩
end
section
open PySem PySem.Spec PySem.Calls PyProof PyProof.Rows L2 RT
variable {X : Cx}
/-- by falling size, of equal ones as they stand -/
def byFall (zs : List Int) : List Nat := (List.range zs.length).mergeSort (PySem.W.dataLe false fun k => .int (-(zs.getD k 0)))
theorem cr_range1 : CallR X (.type "range") (fun vs H Q => ∃ i, vs = [V.int i] ∧ ∀ p, H p = none → Q (.ref p) (upd H p (.rng 0 i))) := by
  intro pins s σ H vs us Q I r h
  obtain ⟨i, rfl, q⟩ := h
  obtain ⟨u, rfl, ri⟩ := vals1 r
  obtain ⟨t, rfl⟩ := ri
  refine call_range_1 ⟨.ref s.heap.objs.size, upd H s.heap.objs.size (.rng 0 i), I.laid (t' := s.toks + 1 + 1) (fun b o e => Heap.get?_push_of_some _ e) (Nat.le_refl _) ?_, rfl, q _ (I.hok.fresh (Nat.le_refl _))⟩
  exact ⟨_, _, _, Heap.get?_push_size _ rfl⟩
def tSortLam (K : PySem.W.Frag) (P : Addr) (q : Str) (i : Nat) (te : TE) : TE := fun σ H Q => te σ H fun v H1 =>
  ∃ (r L : Addr) (zs : List Int), v = .ref r ∧ H1 r = some (.rng 0 (zs.length : Int)) ∧ zs.length ≤ 16777216 ∧ LamX.Tabs [(P, q)] H1 ∧ σ[i]? = some (some (.ref L)) ∧ SqL K H1 L (zs.map V.int) ∧
    ∀ (H2 : Hp) (p : Addr), LamX.ExtN H1 H2 → LamX.Tabs [(P, q)] H2 → H2 p = none → Q (.ref p) (upd H2 p (.lst ((byFall zs).map fun (k : Nat) => V.int (k : Int))))
theorem seq_keepN {K : PySem.W.Frag} {H H' : Hp} {b : Addr} {xs : List V} (h : SqL K H b xs) (k : LamX.ExtN H H') : SqL K H' b xs := by
  rcases h with (h | ⟨o, h⟩) | h
  · exact .inl (.inl (k _ _ h fun _ z => by cases z))
  · exact .inl (.inr ⟨o, k _ _ h fun _ z => by cases z⟩)
  · exact .inr h
theorem each_ints : ∀ {us : List Value} {bs : List Nat}, PySem.W.EachIs IntAt us bs → Vals (bs.map fun (k : Nat) => V.int (k : Int)) us
  | _, _, .nil => .nil
  | _, _, .cons ⟨t, e⟩ r => .cons ⟨t, e⟩ (each_ints r)
theorem pe_sortLam {cc P : Addr} {i : Nat} {e : Expr} {te : TE} {k : Nat} {p p1 p2 p3 p4 p5 p6 p7 pos : Pos} (hc : X.calm = true) (hg : Gl X "sorted") (hm : X.mg "sorted" = none) (he : PE X e te)
    (TB : LamX.TabB X.base X.mg cc P) (hcode : X.env.code = .ref cc) (hr : Room (k + 2) X.A) (hN : X.N[i]? = some "sizes") (hv : X.env.scope.names.lookup (Str.ofString "sizes") = some NameKind.cell)
    (na : starEach [e] X.env = (false, eval e X.env) :: starEach [] X.env := by rfl) (hb : backTo pos (starEach [e] X.env) = (false, eval e X.env) :: backTo pos (starEach [] X.env) := by rfl) (hpl : (backTo pos (starEach [e] X.env)).any (·.1) = false := by rfl) :
    PE X (.Call (.Name "sorted" p) [e] [{ arg := some "key", value := .Lambda (lamPar p1) (lamBody p2 p3 p4 p5) lamScope p6, pos := p7 }] pos) (tSortLam X.K P (X.env.qual ++ "<lambda>") i te) := by
  refine ⟨fun pins s σ H Q I h => ?_⟩
  refine wpAny_Call_Name_kw (ld_blt I hg hm PyProof.Rows.boot_sorted ?_ (by decide) (by decide))
  refine PyProof.Rows.callWith_kw (args_cons (thn (he.run pins s σ H _ I h) fun u s1 ⟨v, H1, I1, r1, q1⟩ => args_nil ?_) na) hb hpl
  obtain ⟨r, L, zs, rfl, hrg, few, hT, hσ, hL, q⟩ := q1
  obtain rfl : u = Value.ref r := r1
  have hfree : ∀ y ∈ lamScope.names, y.2 = .free → ∃ c, X.env.cells.lookup y.1 = some c := fun y hy z => by
    rcases List.mem_cons.mp hy with rfl | hy
    · cases z
    · rw [List.mem_singleton.mp hy]
      exact I1.ok.has _ (.inl hv)
  show wpAny _ _ (evalAll [do let v ← eval (.Lambda (lamPar p1) (lamBody p2 p3 p4 p5) lamScope p6) X.env; standAt pos; pure v]) _ _ s1
  refine wpAny_evalAll_cons (wpAny_bind (LamX.lam_make2 I1 TB hcode (List.mem_singleton.mpr rfl) (fun x hx _ => by rw [List.mem_singleton.mp hx]) hT rfl hfree fun f c' pm ctv H2 s2 I2 eN T2 hf hfn hfr hco => wpAny_bind (wpAny_standAt (wpAny_pure (wpAny_evalAll_nil ?_)))))
  show wpAny _ _ (call (.builtin "sorted") [.ref r] [(Str.ofString "key", .ref f)]) _ _ s2
  have hrg2 : H2 r = some (.rng 0 (zs.length : Int)) := eN _ _ hrg (fun ps z => by cases z)
  obtain ⟨t, u, v, hro⟩ := I2.hok r _ hrg2
  have hL2 : SqL X.K H2 L (zs.map V.int) := seq_keepN hL eN
  obtain ⟨its, rv, pl, hz⟩ := I2.list hL2
  have hI := rv.ints
  obtain ⟨m, hn, hl⟩ := I2.loc
  obtain ⟨w', rw', lk⟩ := hl i "sizes" (.ref L) hN hσ (.inr (.inl hv))
  obtain rfl : w' = Value.ref L := rw'
  obtain ⟨cs, hcs, hcell⟩ : ∃ c, X.env.cells.lookup (Str.ofString "sizes") = some c ∧ s2.heap.IsCell c (some (.ref L)) := by
    rcases lk with ⟨z, _⟩ | ⟨_, z⟩
    · have z' : X.env.scope.names.lookup (Str.ofString "sizes") = some .local := z
      rw [hv] at z'
      cases z'
    · exact z
  have hclo : cloFrom X.env.cells lamScope.names [] = [(Str.ofString "sizes", cs)] := by
    show [(Str.ofString "sizes", (X.env.cells.lookup (Str.ofString "sizes")).getD 0)] = _
    rw [hcs]
    rfl
  rw [hclo] at hf
  obtain ⟨⟨oc, vsc, tc, hoc, hdc, hvc⟩, _, _⟩ := I2.hok c' _ hco
  have un := hr.un
  have dp := hr.dp
  refine sorted_rng (fun k => .int (-(zs.getD k 0))) (I2.ok.hd hc) hro (by omega) (PySem.W.AllAlike.of fun _ _ => by simp [PySem.W.alike]) (PySem.W.Sortable.others fun _ => ⟨(fun z => by cases z), fun _ z => by cases z⟩) (fun x => ?_) (fun x t hx g tk kp => ?_) fun g1 out c h' tk k1 k2 hS hlen hE => ?_
  · show X.A.units + 2 + PyData.depth (.int _) < cLine
    rw [show ∀ i : Int, PyData.depth (.int i) = 0 from fun i => by simp [PyData.depth]]
    omega
  · obtain ⟨u0, hu0, t0, hw⟩ := rv.get (i := x) (x := V.int (zs.getD x 0)) (by rw [List.getElem?_map, List.getElem?_eq_getElem hx]; simp [List.getD, hx])
    refine wpAny_mono (lam_call (A := X.A.in1.in1) (s := { s2 with heap := g, toks := tk }) (k := x) (n := zs.getD x 0) (t0 := t0) (by show X.A.depth < _; omega) (kp _ _ hf) ⟨c', oc, vsc, tc, rfl, kp _ _ hoc, hdc, hvc⟩ (I2.nolimit.keeps kp) (hcell.keeps kp)
      (pl.isList.at fun o e => kp _ _ e) (by rw [List.getElem?_toArray, hu0, hw]) (by rw [List.size_toArray, ← rv.length]; exact hz)) (fun v s3 ⟨g', tk', t', e1, e2, e3⟩ => ?_) fun _ _ z => z
    rw [e1, e3]
    exact ⟨g', tk', rfl, e2, .int _ _⟩
  · have I3 : L2.Inv X pins σ H2 { s2 with heap := g1, toks := s2.toks } := I2.kept k1
    refine ⟨.ref g1.objs.size, upd H2 g1.objs.size (.lst ((byFall zs).map fun (k : Nat) => V.int (k : Int))), I3.laid (t' := tk) k2 (Nat.le_refl _) (show ObjOk X.prog X.w _ _ _ (.lst _) from ⟨?_, out, c, each_ints hE, hS⟩), rfl, q H2 _ eN T2 (I3.hok.fresh (Nat.le_refl _))⟩
    rw [List.length_map, byFall, List.length_mergeSort, List.length_range, sizeLine_eq]
    omega
end
section
open PySem PySem.Spec PyProof PyProof.Rows L2
variable {P : Program} {w : World} {K : PySem.W.Frag} {mg : Str → Option Value} {base : Heap}
/-- THE RULE for a def whose code object is known -/
theorem FunAt.okX {x qual : Str} {st : Stmt} {f q : Addr} {fd : FuncData} {N ps : List Str} {k : Nat} {sp : Sp} (F : FunAt K x qual st f fd q) (S : FnScope N ps (defScope st)) (len : ∀ vs H Q E, sp vs H Q E → vs.length = ps.length)
    (hbody : ∀ (A : Around) (outer : List Env) (s : Shared) (H : Hp) (vs : List V) (Q : VK) (E : XK), Room k (A.deeper (envOfC qual (defScope st) s.heap.objs.size f (.ref q))) → sp vs H Q E →
      ∃ t, PSs (cxOf (L2.CX P w) P w K mg base N qual (defScope st) f (.ref q) A outer s H E) (defBody st) t ∧ t { nx := fun _ H' => Q .non H', rt := Q } (L2.start N vs) H) : FnOk P w K mg base (L2.CX P w) (k + 1) f fd ps sp := by
  obtain ⟨oc, od, kV, doc, pm, an, ct, osl, rfl, lk, hcd⟩ := F.ex
  exact fn_of lk hcd S len fun A outer s H vs Q E hr hsp => hbody A outer s H vs Q E hr hsp
end
section
open PySem L2
theorem newK {H : Hp} {p : Addr} {o : HO} (hp : H p = none) : ∀ b u, H b = some u → L2.upd H p o b = some u := fun b u e => by
  rw [upd_ne (fun z => by rw [z, hp] at e; cases e)]
  exact e
end
/-! ### the first piece of a yard -/
theorem mx_first {d j i : Nat} : Mx (Oc []) d j i ↔ j = d ∧ i = 0 := by
  have no : ∀ k i, Fr (Oc []) k i := fun k i c _ ⟨q, m, _⟩ => by cases m
  constructor
  · rintro ⟨h1, h2, _, h4⟩
    have : j = d := by
      apply Classical.byContradiction
      intro z
      exact h4 (by omega) (no _ _)
    subst this
    rw [Nat.sub_self, Nat.pow_zero] at h2
    omega
  · rintro ⟨rfl, rfl⟩
    exact ⟨Nat.le_refl _, Nat.pow_pos (by decide), no _ _, fun l => by omega⟩
theorem best_first {d k : Nat} (h : k ≤ d) : Best [] d k d 0 := by
  refine ⟨h, ?_, by rw [Nat.zero_div, Nat.zero_mul], fun j i _ l z => ?_, fun i _ => Nat.zero_le _⟩
  · rw [Nat.zero_div]
    exact mx_first.mpr ⟨rfl, rfl⟩
  · have := (mx_first.mp z).1
    omega
/-- the upper halves of the whole yard, from the least on -/
def ups (k n : Nat) : List PI2 := (List.range n).map fun i => (((2 ^ (k + i) : Nat) : Int), ((2 ^ (k + i) : Nat) : Int))
theorem ups_succ (k n : Nat) : ups k (n + 1) = ups k n ++ [(((2 ^ (k + n) : Nat) : Int), ((2 ^ (k + n) : Nat) : Int))] := by
  unfold ups
  rw [List.range_succ, List.map_append]
  rfl
theorem ups_sorted (k n : Nat) : srt (ups k n) = ups k n := by
  refine (srt_of (List.Perm.refl _) ?_).symm
  unfold ups
  refine List.pairwise_map.mpr ((List.pairwise_lt_range).imp fun {i j} l => ?_)
  rw [SrtO.lexB_no]
  have : 2 ^ (k + i) < 2 ^ (k + j) := Nat.pow_lt_pow_right (by decide) (by omega)
  show ¬ (((2 ^ (k + j) : Nat) : Int) < ((2 ^ (k + i) : Nat) : Int) ∨ _)
  omega
theorem frees_one {d k : Nat} (h : k ≤ d) : frees [(0, k)] d = ups k (d - k) := by
  have hM : Mx (Oc []) d d (0 / 2 ^ d) := by rw [Nat.zero_div]; exact mx_first.mpr ⟨rfl, rfl⟩
  have hO : ∀ c, Oc [(0, k)] c ↔ Oc [] c ∨ c / 2 ^ k = 0 / 2 ^ k := fun c => Oc_snoc (os := []) (x := 0) (k := k)
  have lev : ∀ j, j ≤ d → frl (Oc [(0, k)]) d j = if k ≤ j ∧ j < d then [2 ^ j] else [] := by
    intro j hj
    rw [← can_give h hM hO j]
    have e0 : setF (frl (Oc []) d) d (del (0 / 2 ^ d * 2 ^ d) (frl (Oc []) d d)) j = [] := by
      unfold setF
      by_cases e : j = d
      · subst e
        rw [if_pos rfl, ← frl_first j j (Nat.le_refl _)]
        unfold setF
        rw [if_pos rfl, Nat.zero_div, Nat.zero_mul]
        rfl
      · rw [if_neg e]
        exact frl_nil.mpr fun i z => e (mx_first.mp z).1
    unfold addF
    rw [e0]
    by_cases c : k ≤ j ∧ j < d
    · rw [if_pos c, if_pos c, Nat.zero_div]
      show ins (1 * 2 ^ j) [] = [2 ^ j]
      rw [Nat.one_mul]
      rfl
    · rw [if_neg c, if_neg c]
  have all : ∀ n, n ≤ d + 1 → allN n (frl (Oc [(0, k)]) d) = ups k (min n d - k) := by
    intro n
    induction n with
    | zero =>
      intro _
      rw [Nat.zero_min, Nat.zero_sub]
      rfl
    | succ n ih =>
      intro hn
      rw [allN_succ, ih (by omega), lev n (by omega)]
      by_cases c : k ≤ n ∧ n < d
      · rw [if_pos c, Nat.min_eq_left (by omega), Nat.min_eq_left (by omega), show n + 1 - k = n - k + 1 by omega, ups_succ, show k + (n - k) = n by omega]
        rfl
      · rw [if_neg c, List.map_nil, List.append_nil]
        by_cases c1 : n < d
        · rw [show min n d - k = 0 by omega, show min (n + 1) d - k = 0 by omega]
        · rw [show min (n + 1) d = min n d by omega]
  unfold frees
  rw [all (d + 1) (Nat.le_refl _), Nat.min_eq_right (by omega), ups_sorted]
theorem cut_int {ns : List Int} {lo hi : Option Int} {v : V} {i : Nat} (h : (cutV (ns.map V.int) lo hi)[i]? = some v) : ∃ c : Int, v = .int c := by
  have m := List.mem_of_getElem? h
  unfold cutV at m
  have m2 := List.mem_of_mem_drop (List.mem_of_mem_take m)
  obtain ⟨c, _, e⟩ := List.mem_map.mp m2
  exact ⟨c, e.symm⟩
theorem fit_two {e : Nat} (h : e ≤ 60) : fit ((2 ^ e : Nat) : Int) = e := by
  have p60 := pow60 h
  have pe : 0 < 2 ^ e := Nat.pow_pos (by decide)
  obtain ⟨_, h2, h3⟩ := fit_spec (w := ((2 ^ e : Nat) : Int)) (by omega) (by omega)
  generalize fit ((2 ^ e : Nat) : Int) = f at h2 h3
  have a : 2 ^ e ≤ 2 ^ f := by omega
  have b : 2 ^ f < 2 ^ (e + 1) := by rw [Nat.pow_succ]; omega
  have a := (Nat.pow_le_pow_iff_right (by decide)).mp a
  have b := (Nat.pow_lt_pow_iff_right (by decide)).mp b
  omega
def dLL (zss : List (List PI2)) : PyData := .list (zss.map dL)
theorem dLAll_eqv : ∀ zs ws : List (List PI2), PyData.eqvAll (zs.map dL) (ws.map dL) = decide (zs = ws)
  | [], [] => by simp [PyData.eqvAll]
  | [], w :: ws => by simp [PyData.eqvAll]
  | z :: zs, [] => by simp [PyData.eqvAll]
  | z :: zs, w :: ws => by
    rw [List.map_cons, List.map_cons, PyData.eqvAll, dL_eqv, dLAll_eqv zs ws]
    by_cases h1 : z = w <;> by_cases h2 : zs = ws <;> simp [h1, h2]
theorem dLL_eqv (zs ws : List (List PI2)) : PyData.eqv (dLL zs) (dLL ws) = decide (zs = ws) := by
  unfold dLL
  rw [PyData.eqv, dLAll_eqv]
theorem dLAll_lay : ∀ zs : List (List PI2), PyData.canLayAll0 (zs.map dL) = true
  | [] => by simp [PyData.canLayAll0]
  | z :: zs => by rw [List.map_cons, PyData.canLayAll0, dL_lay, dLAll_lay zs]; rfl
theorem dLAll_depth : ∀ zs : List (List PI2), PyData.depthAll (zs.map dL) ≤ 2
  | [] => by simp [PyData.depthAll]
  | z :: zs => by
    have := dLAll_depth zs
    have := dL_depth z
    rw [List.map_cons, PyData.depthAll]
    omega
theorem dLL_shaped (zs : List (List PI2)) : SeqAt.shaped (dLL zs) = true := by
  have h : (dLL zs).depth ≤ 3 := by
    unfold dLL
    rw [PyData.depth]
    have := dLAll_depth zs
    omega
  unfold SeqAt.shaped
  rw [show (dLL zs).canLay0 = true by unfold dLL; rw [PyData.canLay0]; exact dLAll_lay zs, decide_eq_true (by omega)]
  rfl
/-- two yards do not share -/
theorem YardAt.two {a : Ad} {Y Z : YA} {d e : Nat} {os us : List PN} {H H' : Hp} (h2 : YardAt a Z e us H) (h1 : YardAt a Y d os H) (n : ∀ b ∈ own Z e, b ∉ own Y d) (o : Only (own Y d) H H') : YardAt a Z e us H' := by
  have pdn : Z.pd ∉ own Y d := fun z => by
    rcases List.mem_cons.mp z with z | z
    · have x := h2.po.dk
      rw [z, h1.so] at x
      have x : os.map outI = pdK e Z.ls := HO.dK.inj (Option.some.inj x)
      have m : ((Sum.inl ((2 ^ 0 : Nat) : Int) : Key), V.ref (Z.ls 0)) ∈ pdK e Z.ls := List.mem_map.mpr ⟨0, List.mem_range.mpr (by omega), rfl⟩
      rw [← x] at m
      obtain ⟨q, _, eq⟩ := List.mem_map.mp m
      cases congrArg Prod.snd eq
    · exact h1.po.off h2.po.dk (by intro xs z; cases z) z
  exact ⟨o _ _ h2.yo (h1.off h2.yo (by intro xs z; cases z) (by intro xs z; cases z)), o _ _ h2.so (n _ List.mem_cons_self), ⟨o _ _ h2.po.ob (h1.off h2.po.ob (by intro xs z; cases z) (by intro xs z; cases z)), o _ _ h2.po.dk pdn, fun j hj => o _ _ (h2.po.at_ j hj) (n _ (lsA_own _ (lsA_mem hj))), h2.po.inj, h2.po.rise, h2.po.len, h2.po.d60⟩, h2.good, h2.few, h2.ne⟩
/-- two lists kept -/
def BefAt (S : List Addr) (H : Hp) (b : Addr) (zs ws : List PI2) : Prop := b ∉ S ∧ ∃ (c1 c2 : Addr) (u1 u2 : List Addr), c1 ∉ S ∧ c2 ∉ S ∧ H b = some (.lst [.ref c1, .ref c2]) ∧ H c1 = some (.lst (u1.map V.ref)) ∧ H c2 = some (.lst (u2.map V.ref)) ∧ Tups H u1 zs ∧ Tups H u2 ws
theorem BefAt.only {S : List Addr} {H H' : Hp} {b : Addr} {zs ws : List PI2} (h : BefAt S H b zs ws) (o : Only S H H') (n : ∀ t xs, H t = some (.tup xs) → t ∉ S) : BefAt S H' b zs ws := by
  obtain ⟨n0, c1, c2, u1, u2, n1, n2, e0, e1, e2, t1, t2⟩ := h
  exact ⟨n0, c1, c2, u1, u2, n1, n2, o _ _ e0 n0, o _ _ e1 n1, o _ _ e2 n2, t1.keep fun t xs e => o _ _ e (n t _ e), t2.keep fun t xs e => o _ _ e (n t _ e)⟩
theorem BefAt.dp {S : List Addr} {K : PySem.W.Frag} {H : Hp} {b : Addr} {zs ws : List PI2} (h : BefAt S H b zs ws) : Dp K H (.ref b) (dLL [zs, ws]) := by
  obtain ⟨n0, c1, c2, u1, u2, n1, n2, e0, e1, e2, t1, t2⟩ := h
  exact .lst (SqL.of e0) (.cons (dp_list e1 t1) (.cons (dp_list e2 t2) .nil))
theorem _root_.L2.Room.units65 {k : Nat} {A : Around} (r : L2.Room k A) : A.units + 65 < cLine := by
  have := r.un
  omega
theorem nm {i : Nat} {v : V} {σ : St} {H : Hp} {D : St → Hp → Prop} (h : D (σ.set i (some v)) H) : gName i v σ H D := h
theorem split_seq {t : TT} {a b B : TS} {D : Ends} {σ : St} {H : Hp} (C : St → Hp → Prop) (main : (∀ σ' H', C σ' H' → B D σ' H') → tSeq (tIfS t a b) B D σ H) (tail : ∀ σ' H', C σ' H' → B D σ' H') : tSeq (tIfS t a b) B D σ H := main tail
/-! ### the ends of iterators where an exception is handled -/
section
open PySem PySem.Spec PyProof PyProof.Rows HotX
variable {prog : Program} {w : World} {A : Around} {E : Value → Shared → Prop} {s : Shared}
/-- StopIteration is made and raised there -/
theorem stop_hot {α : Type} {x1 : Addr} {R : Value → Shared → Prop} (hot : HotAt A x1 s.heap) (hR : ∀ a h', (∀ b o, s.heap.get? b = some o → h'.get? b = some o) → ({ s with heap := h' } : Shared).TypeIs (.ref a) "StopIteration" → R (.ref a) { s with heap := h' }) :
    wpAny (model prog w) A (newExc (.type "StopIteration") []) (fun e s1 => wpAny (model prog w) A (raiseNew e : Sem α) (fun _ _ => False) R s1) E s := by
  obtain ⟨hh, o1, vs1, h1, d1, c1⟩ := hot
  simp only [newExc, newTuple]
  refine wpAny_bind (wpAny_newObj_type ?_ (by size_fits))
  refine wpAny_bind (m := firstArgMember _ _) (wpAny_of_eq (a := Value.none) (by first | rfl | (simp only [firstArgMember]; rfl)) ?_)
  refine wpAny_newObj_type ?_ (by size_fits)
  refine raiseNew_hot ⟨hh, o1, vs1, Heap.get?_push_of_some _ (Heap.get?_push_of_some _ h1), d1, c1⟩ (Nat.ne_of_lt (Heap.lt_size (Heap.get?_push_of_some _ h1))) (Heap.get?_push_size _ rfl) rfl (by first | (simp; done) | (simp; omega) | (simp only [Array.size_append]; simp; omega)) ?_
  refine hR _ _ (fun b o e => ?_) ⟨_, Heap.get?_update_self _ (Heap.get?_push_size _ rfl) rfl, rfl⟩
  rw [Heap.get?_update_other _ _ (Nat.ne_of_gt (Heap.lt_size (Heap.get?_push_of_some _ e)))]
  exact Heap.get?_push_of_some _ (Heap.get?_push_of_some _ e)
theorem tuple_end_hot {it t x1 : Addr} {i : Nat} {items : Array Value} {Q : Option Value → Shared → Prop} (hot : HotAt A x1 s.heap) (ne : x1 ≠ it) (hit : s.heap.IsTupleIter it t i) (ht : s.heap.IsTuple t items) (hx : items[i]? = none)
    (hQ : ∀ h', Heap.ExtBut it s.heap h' → Q none { s with heap := h' }) : wpAny (model prog w) A (pyNext (.ref it)) Q E s := by
  obtain ⟨o, ho, hc, hd⟩ := id hit
  obtain ⟨ol, hol, _, nl, hdl⟩ := ht
  obtain ⟨hh, o1, vs1, h1, d1, c1⟩ := hot
  unfold pyNext
  refine wpAny_bind (wpAny_attempt (wpAny_callSpecial?_slot (name := Str.ofString "__next__") hit.typeIs F.slot_tuple_iterator_next
    (wpAny_call_entry F.slot_tuple_iterator_next hit.typeIs F.entry_tuple_iterator_next ?_ (F.args_tuple_iterator_next_1 _))))
  show wpAny _ _ (field (.ref it) 0 >>= _) _ _ s
  refine wpAny_bind (wpAny_field ho hd (x := .ref t) rfl ?_)
  show wpAny _ _ (if (Value.ref t == Value.none) = true then _ else _) _ _ s
  rw [if_neg (show ¬ ((Value.ref t == Value.none) = true) from Bool.false_ne_true)]
  show wpAny _ _ (field (.ref it) 1 >>= _) _ _ s
  refine wpAny_bind (wpAny_field ho hd (x := .int i 0) rfl ?_)
  show wpAny _ _ (seqItems? (.ref t) >>= _) _ _ s
  refine wpAny_bind (wpAny_seqItems hol hdl ?_)
  simp only [Int.toNat_natCast, hx]
  refine wpAny_bind (wpAny_rule (wpAny_bind (wpAny_setField ho hd (by simp) ?_)))
  show wpAny _ _ (newExc (.type "StopIteration") [] >>= _) _ _ _
  refine wpAny_bind ?_
  refine wpAny_mono (stop_hot (A := A.in1) ⟨hh, o1, vs1, (Heap.get?_update_other _ _ (Ne.symm ne)).trans h1, d1, c1⟩ fun a h' k ty => ?_) (fun e s1 h => wpAny_mono h (fun _ _ z => z.elim) fun _ _ z => z) fun _ _ x => x
  refine wpAny_bind (wpAny_isInstance (T := "StopIteration") (b := true) ty isSubtype_stop ?_)
  exact wpAny_pure (hQ _ fun b o hb e => k b o ((Heap.get?_update_other _ _ (Ne.symm hb)).trans e))
theorem values_end_hot {K : Type} [DecidableEq K] {knd : KeyKind prog w K} {it d x1 : Addr} {i ep : Nat} {kvs : List (K × Value)} {Q : Option Value → Shared → Prop} (hot : HotAt A x1 s.heap) (ne : x1 ≠ it) (hit : s.heap.IsValIter it d i kvs.length ep)
    (hm : s.heap.DictAt knd d kvs ep) (hx : kvs[i]? = none)
    (hQ : ∀ h', Heap.ExtBut it s.heap h' → Q none { s with heap := h' }) : wpAny (model prog w) A (pyNext (.ref it)) Q E s := by
  obtain ⟨o, ho, hc, hd⟩ := id hit
  obtain ⟨od, es, hod, hcd, hdd, hk, hp, hn⟩ := id hm
  obtain ⟨hh, o1, vs1, h1, d1, c1⟩ := hot
  unfold pyNext
  refine wpAny_bind (wpAny_attempt (wpAny_callSpecial?_slot (name := Str.ofString "__next__") hit.typeIs F.slot_dict_valueiterator_next
    (wpAny_call_entry F.slot_dict_valueiterator_next hit.typeIs F.entry_dict_valueiterator_next ?_ (F.args_dict_valueiterator_next_1 _))))
  refine wpAny_bind (wpAny_pure ?_)
  refine wpAny_bind ?_
  refine wpAny_bind ?_
  first | refine wpAny_bind (wpAny_typeNameOfWhole_valiter hit.typeIs (wpAny_pure ?_)) | refine wpAny_bind (wpAny_typeNameOf_valiter hit.typeIs (wpAny_pure ?_))
  refine wpAny_bind (wpAny_fieldsOf ho hd ?_)
  have hown : Builtin.Dict_items.ownsTuple "dict_valueiterator" = false := by decide
  simp only [hown, Bool.false_eq_true, if_false]
  show wpAny _ _ (if (Value.ref d == Value.none) = true then _ else _) _ _ s
  rw [if_neg (show ¬ ((Value.ref d == Value.none) = true) from Bool.false_ne_true)]
  refine wpAny_bind (wpAny_pure ?_)
  refine wpAny_bind (wpAny_dictEntries hod hdd ?_)
  have hsz : es.size = kvs.length := by rw [← hp.length]; simp
  rw [if_neg (by rw [hsz]; simp)]
  refine wpAny_bind (wpAny_pure ?_)
  refine wpAny_bind (wpAny_dictEpoch hod hdd ?_)
  rw [if_neg (by simp)]
  refine wpAny_pure ?_
  have hge : es.size ≤ i := by rw [hsz]; simpa using hx
  simp only [show ¬ ((i : Int) < 0) from by omega, if_false, Int.toNat_natCast, Array.getElem?_eq_none hge]
  refine wpAny_bind ?_
  first | refine wpAny_bind (wpAny_typeNameOfWhole_valiter hit.typeIs (wpAny_pure ?_)) | refine wpAny_bind (wpAny_typeNameOf_valiter hit.typeIs (wpAny_pure ?_))
  show wpAny _ _ (setField (.ref it) 0 .none >>= _) _ _ s
  refine wpAny_bind (wpAny_setField ho hd (by simp) ?_)
  show wpAny _ _ (newExc (.type "StopIteration") [] >>= _) _ _ _
  refine wpAny_bind ?_
  refine wpAny_mono (stop_hot (A := A.in1) ⟨hh, o1, vs1, (Heap.get?_update_other _ _ (Ne.symm ne)).trans h1, d1, c1⟩ fun a h' k ty => ?_) (fun e s1 h => wpAny_mono h (fun _ _ z => z.elim) fun _ _ z => z) fun _ _ x => x
  refine wpAny_bind (wpAny_isInstance (T := "StopIteration") (b := true) ty isSubtype_stop ?_)
  exact wpAny_pure (hQ _ fun b o hb e => k b o ((Heap.get?_update_other _ _ (Ne.symm hb)).trans e))
end
section
open PySem PySem.Spec PyProof PyProof.Rows HotX
theorem walks_tuple_hot {prog : Program} {w : World} {A : Around} (x1 I ax : Addr) (hne : ax ≠ I) (nx : x1 ≠ I) (items : Array Value) :
    Walks prog w A I [I, ax, x1] [I] items.size (fun i v => items[i]? = some v) (fun i h => (h.IsTupleIter I ax i ∧ h.IsTuple ax items) ∧ HotAt A x1 h) where
  sub := fun b hb => by simp at hb; simp [hb]
  frame := fun _ _ _ st hk => ⟨⟨st.1.1.at fun o e => hk I (by simp) o e, st.1.2.at fun o e => hk ax (by simp) o e⟩, st.2.1, let ⟨o, vs, e, r⟩ := st.2.2; ⟨o, vs, hk x1 (by simp) o e, r⟩⟩
  item := fun i s Q E hi st hQ => by
    refine wpAny_pyNext_tuple_item st.1.1 st.1.2 (x := items[i]) (by simp [hi]) fun h' hit' hs' => ?_
    refine hQ _ h' s.toks (by simp [hi]) ⟨⟨hit', st.1.2.extBut hs'.extBut hne⟩, st.2.1, ?_⟩ fun b o hb e => hs'.extBut b o (fun h => hb (by simp [h])) e
    obtain ⟨o, vs, e, r⟩ := st.2.2
    exact ⟨o, vs, hs'.extBut x1 o nx e, r⟩
  done := fun s Q E st hQ => tuple_end_hot st.2 nx st.1.1 st.1.2 (by simp) fun h' he' => hQ h' s.toks fun b o hb e => he' b o (fun h => hb (by simp [h])) e
  self := fun _ _ _ _ st hQ => wpAny_pyIter_tupleiter st.1.1 hQ
variable {prog : Program} {w : World} {A : Around} {E : Value → Shared → Prop} {s : Shared}
theorem min_two_hot {a b : Int} {t u : Tok} {x1 : Addr} {Q : Value → Shared → Prop} (hot : HotAt A x1 s.heap)
    (h : ∀ h' tk, (∀ c o, s.heap.get? c = some o → h'.get? c = some o) → Q (if b < a then .int b u else .int a t) { s with heap := h', toks := tk }) :
    wpAny (model prog w) A (call (.builtin "min") [.int a t, .int b u]) Q E s := by
  obtain ⟨hh, o1, vs1, h1, d1, c1⟩ := hot
  have l1 := Heap.lt_size h1
  have hT : (s.heap.push { cls := .type "tuple", data := .seq #[.int a t, .int b u] }).IsTuple s.heap.objs.size (intItems #[(a, t), (b, u)]) := ⟨_, Heap.get?_push_size _ rfl, rfl, 0, by simp [intItems]⟩
  refine call_min_two (wpAny_pyIter_tuple hT ?_)
  have hsz : (s.heap.push { cls := .type "tuple", data := .seq #[.int a t, .int b u] }).objs.size = s.heap.objs.size + 1 := Heap.size_push ..
  refine ⟨_, [_, s.heap.objs.size, x1], [_], _, _, _, _, rfl, walks_tuple_hot (A := A.in1) x1 _ s.heap.objs.size (by rw [hsz]; exact Nat.ne_of_lt (Nat.lt_succ_self _)) (by rw [hsz]; exact Nat.ne_of_lt (Nat.lt_succ_of_lt l1)) (intItems #[(a, t), (b, u)]),
    ⟨⟨⟨_, Heap.get?_push_size _ rfl, rfl, rfl⟩, hT.push _⟩, hh, o1, vs1, Heap.get?_push_of_some _ (Heap.get?_push_of_some _ h1), d1, c1⟩, fun c hc => ?_, by simp [intItems], CmpOf.ints_lt (numAt #[(a, t), (b, u)]) (fun _ _ => intItems_at), fun v h' tk hP hk => ?_⟩
  · show c < ((s.heap.push _).push _).objs.size
    rw [Heap.size_push, hsz]
    simp only [List.mem_cons, List.not_mem_nil, or_false] at hc
    rcases hc with rfl | rfl | rfl
    · rw [hsz]; exact Nat.lt_succ_self _
    · exact Nat.lt_succ_of_lt (Nat.lt_succ_self _)
    · exact Nat.lt_succ_of_lt (Nat.lt_succ_of_lt l1)
  · have hold : ∀ c o, s.heap.get? c = some o → h'.get? c = some o := fun c o e => by
      refine hk c o (fun hm => ?_) (Heap.get?_push_of_some _ (Heap.get?_push_of_some _ e))
      have e1 := List.mem_singleton.mp hm
      have := Heap.lt_size e
      rw [e1, hsz] at this
      exact Nat.lt_irrefl _ (Nat.lt_of_succ_lt this)
    have := h h' tk hold
    have hv : v = if b < a then Value.int b u else Value.int a t := by
      have hP' : (intItems #[(a, t), (b, u)])[argBest (fun i j => decide (numAt #[(a, t), (b, u)] i < numAt #[(a, t), (b, u)] j)) 1]? = some v := by
        have hsz2 : (intItems #[(a, t), (b, u)]).size - 1 = 1 := by simp [intItems]
        rw [← hsz2]; exact hP
      by_cases hba : b < a
      · have e : argBest (fun i j => decide (numAt #[(a, t), (b, u)] i < numAt #[(a, t), (b, u)] j)) 1 = 1 := by simp [argBest, numAt, hba]
        rw [e] at hP'
        simpa [intItems, hba] using hP'.symm
      · have e : argBest (fun i j => decide (numAt #[(a, t), (b, u)] i < numAt #[(a, t), (b, u)] j)) 1 = 0 := by simp [argBest, numAt, hba]
        rw [e] at hP'
        simpa [intItems, hba] using hP'.symm
    rw [hv]; exact this
end
section
open PySem PySem.Spec PyProof PyProof.Rows L2 L2H
variable {X : Cx}
theorem call_min2H (hc : HotC X) : CallR X (.builtin "min") (fun xs H Q => ∃ i j, xs = [.int i, .int j] ∧ Q (.int (if j < i then j else i)) H) := by
  intro pins s σ H xs us Q I r h
  obtain ⟨i, j, rfl, q⟩ := h
  obtain ⟨u, w', rfl, ⟨t, rfl⟩, ⟨t', rfl⟩⟩ := vals2 r
  obtain ⟨x1, hot⟩ := hc.at I
  refine min_two_hot hot fun h' tk k => ⟨_, H, I.kept k, ?_, q⟩
  by_cases hj : j < i
  · rw [if_pos hj, if_pos hj]; exact ⟨_, rfl⟩
  · rw [if_neg hj, if_neg hj]; exact ⟨_, rfl⟩
end
section
open PySem PySem.Spec PyProof PyProof.Rows L2 L2H
variable {P : Program} {w : World} {K : PySem.W.Frag} {tg : Expr} {d : Addr} {o : Obj} {es : Array DictEntry} {ep : Nat}
theorem turn_valsH {kvs : List (L2.Key × V)} (it : Addr) (hod : o.data = .dict es ep) : TurnH P w K tg (Itd d o kvs) [it] it (fun i h => h.IsValIter it d i kvs.length ep) where
  mem := by simp
  obj := fun i h st b hb => by
    have e : b = it := by simpa using hb
    subst e
    obtain ⟨oi, e, c, dd⟩ := st
    exact ⟨oi, e, fun v z => by rw [dd] at z; cases z⟩
  keep := fun i h h' st k => st.at fun oi e => k it (by simp) oi e
  item := by
    intro X hP hw hK hc i pins s σ H E I hf st hg
    subst hP hw hK
    obtain ⟨hd, hi⟩ := hg
    obtain ⟨f0, f1, f2, f3, f4, f5⟩ := hf it (by simp)
    obtain ⟨hs, hgd, hx, es', ep', vs, hdt, hsz, kv, hm⟩ := I.frzK hd
    obtain ⟨rfl, rfl⟩ := dict_ep hod hdt
    obtain ⟨⟨k, v⟩, hkv⟩ : ∃ p, kvs[i]? = some p := ⟨kvs[i], List.getElem?_eq_getElem hi⟩
    obtain ⟨u, hu, ru⟩ := kv_get kv hkv
    have hl : kvs.length = vs.length := Paired.length kv
    rw [hl] at st
    refine wpAny_pyNext_values_item st hm hu fun h' st' sb => ?_
    have I1 : Inv X pins σ H { s with heap := h' } := I.turned (t' := s.toks) (fun b ob hb e => (sb.2 b hb).trans e) f0 f1 f3 f4 f5
    obtain ⟨oi, e, c, dd⟩ := id st'
    refine ⟨u, rfl, go_of (s := { s with heap := h' }) e c dd (by decide) ⟨v, H, I1, ru, ⟨rfl, k, hkv⟩, ?_, fun b hb => (hf b hb).1⟩⟩
    show h'.IsValIter it d (i + 1) kvs.length _
    rw [hl]
    exact st'
  done := by
    intro X hP hw hK hc i pins s σ H E I hf st hg
    subst hP hw hK
    obtain ⟨hd, hi⟩ := hg
    obtain ⟨f0, f1, f2, f3, f4, f5⟩ := hf it (by simp)
    obtain ⟨hs, hgd, hx, es', ep', vs, hdt, hsz, kv, hm⟩ := I.frzK hd
    obtain ⟨rfl, rfl⟩ := dict_ep hod hdt
    have hl : kvs.length = vs.length := Paired.length kv
    rw [hl] at st
    obtain ⟨p, ⟨hh, v1, e1, c1⟩, hp⟩ := hc
    exact values_end_hot ⟨hh, p.2, v1, (I.pin p (List.mem_append_left _ hp)).1, e1, c1⟩ (f5 p (List.mem_append_left _ hp)) st hm (List.getElem?_eq_none (by omega)) fun h' eb => ⟨rfl, I.turned (t' := s.toks) (fun b ob hb e => eb b ob hb e) f0 f1 f3 f4 f5⟩
  self := fun A i s Q E st h => wpAny_pyIter_valiter st h
variable {X : Cx} {e : Expr} {td : TE} {apos cpos : Pos}
theorem pi_valuesH (he : PE X e td) (hbase : attributeBase e "values" X.env (eval e X.env) = eval e X.env := by rfl) (hline : (apos.endLine == cpos.line) = true := by rfl) : PIH X tg (.Call (.Attribute e "values" apos) [] [] cpos) (iVals td) := by
  refine ⟨fun pins s σ H R I h => ?_⟩
  refine wpAny_Call_method (T := "dict") (id := "dict.values") hbase rfl hline F.plainAttrs_dict F.slot_dict_values F.type_dict_values (thn (he.run pins s σ H _ I h) fun u s1 ⟨x, H1, I1, rx, d, o, kvs, ex, hd, q⟩ => ?_)
  subst ex
  obtain rfl : u = Value.ref d := rx
  obtain ⟨hs, hgd, hx, es, ep, vs, hdt, hsz, kv, hm⟩ := I1.frzK hd
  have hl : kvs.length = vs.length := Paired.length kv
  refine ⟨hm.dictOf.typeIs, hm.dictOf.mapOf.noDict, ?_⟩
  have I2 : Inv X pins σ H1 { s1 with heap := s1.heap.push { cls := .type "dict_values", data := .fields #[.ref d] } } := I1.kept (t' := s1.toks) fun b ob q => Heap.get?_push_of_some _ q
  have fin : wpAny (model X.prog X.w) X.A (pyIter (.ref s1.heap.objs.size)) (PIEH X pins σ tg R) X.xe { s1 with heap := s1.heap.push { cls := .type "dict_values", data := .fields #[.ref d] } } := by
    refine wpAny_pyIter_values (d := d) (knd := mixKind X.prog X.w) ⟨_, Heap.get?_push_size _ rfl, rfl, rfl⟩ (hm.push _) ?_
    refine ⟨(s1.heap.push { cls := .type "dict_values", data := .fields #[.ref d] }).objs.size, [(s1.heap.push { cls := .type "dict_values", data := .fields #[.ref d] }).objs.size], _, _, H1, rfl,
      I2.kept (t' := s1.toks) fun b o e => Heap.get?_push_of_some _ e, turn_valsH _ hdt, ⟨_, Heap.get?_push_size _ rfl, rfl, ?_⟩, fun b hb => ?_, q⟩
    · rw [hl] <;> rfl
    · have e : b = (s1.heap.push { cls := .type "dict_values", data := .fields #[.ref d] }).objs.size := by simpa using hb
      subst e
      exact I2.fpOk (Nat.le_refl _) (I2.hok.fresh (Nat.le_refl _))
  show wpAny _ _ (callWith cpos (.builtin "dict.values") [.ref d] [] []) _ X.xe s1
  exact method_meetsIn F.slot_dict_values F.entry_dict_values rfl (PySem.evalArgs_none ⟨rfl, hm.dictOf.typeIs, F.args_dict_values_1 _, _, meets_dict_values (mixKind X.prog X.w) d hs, ⟨vs, hm.dictOf⟩, fin⟩)
end
/-! ### try: body / except x: one statement, raise -/
section
open PySem PySem.Spec PyProof PyProof.Rows L2
variable {X : Cx} {pins : List (Addr × Obj)} {σ : L2.St} {H : Hp} {s : Shared}
/-- the heap without some objects that nothing knows of -/
theorem inv_hide {L : List Addr} (I : Inv X pins σ H s) (n : ∀ b ∈ L, H b = none ∧ b ≠ X.env.locals ∧ X.s_0.heap.get? b = none ∧ (∀ x c, X.env.cells.lookup x = some c → c ≠ b) ∧ ∀ p ∈ X.pn ++ pins, p.1 ≠ b) : Inv X pins σ H { s with heap := PySem.W.hideAll s.heap L } := by
  have get : ∀ b o, b ∉ L → s.heap.get? b = some o → (PySem.W.hideAll s.heap L).get? b = some o := fun b o hb e => PySem.W.hideAll_get _ e hb
  have n0 : ∀ b o, X.s_0.heap.get? b = some o → b ∉ L := fun b o e z => by
    rw [(n b z).2.2.1] at e
    cases e
  have nH : ∀ b o, H b = some o → b ∉ L := fun b o e z => by
    rw [(n b z).1] at e
    cases e
  have nC : ∀ x c, X.env.cells.lookup x = some c → c ∉ L := fun x c e z => (n c z).2.2.2.1 x c e rfl
  have cellK : ∀ x c, X.env.cells.lookup x = some c → ∀ v, s.heap.IsCell c v → (PySem.W.hideAll s.heap L).IsCell c v := fun x c e v ⟨o, ho, hd⟩ => ⟨o, get c o (nC x c e) ho, hd⟩
  refine ⟨I.ok, I.os, I.bare, ⟨fun b o e h1 h2 h3 => get b o (n0 b o e) (I.base.keep b o e h1 h2 h3), fun b o e h1 h2 h3 => ?_, I.base.free, fun b o e h1 => ?_, I.base.tups, I.base.frzs, I.base.tbls⟩, ?_, fun x c e => ?_, I.free, I.freeC, fun p hp => ?_, fun b u e => ?_, I.len⟩
  · obtain ⟨sl, q⟩ := I.base.slot b o e h1 h2 h3
    exact ⟨sl, get b _ (n0 b o e) q⟩
  · obtain ⟨o', q⟩ := I.base.there b o e h1
    exact ⟨o', get b o' (n0 b o e) q⟩
  · obtain ⟨m, hn, hl⟩ := I.loc
    have nL : X.env.locals ∉ L := fun z => (n _ z).2.1 rfl
    refine ⟨m, hn.at' fun o e => get _ o nL e, fun i x v e1 e2 e3 => ?_⟩
    obtain ⟨u, r, q⟩ := hl i x v e1 e2 e3
    refine ⟨u, r, ?_⟩
    rcases q with q | ⟨k, c, e, z⟩
    · exact .inl q
    · exact .inr ⟨k, c, e, cellK x c e _ z⟩
  · obtain ⟨v, z⟩ := I.cell x c e
    exact ⟨v, cellK x c e v z⟩
  · obtain ⟨h1, h2⟩ := I.pin p hp
    exact ⟨get _ _ (fun z => (n _ z).2.2.2.2 p hp rfl) h1, h2⟩
  · refine (I.hok b u e).stay (fun c v hc q => get c v ?_ q) (fun _ q => q) fun _ _ q => q
    rcases hc with z | z
    · rw [z]
      exact nH b u e
    · exact nH c _ z
/-- two objects are pinned for the suite -/
theorem inv_suite2 (I : Inv X pins σ H s) {a T : Addr} {oe oT : Obj} {vs ts : Array Value} (ha : s.heap.get? a = some oe) (hd : oe.data = .fields vs) (na : H a = none) (nL : a ≠ X.env.locals) (nF : a ∉ X.fs)
    (hT : s.heap.get? T = some oT) (hdT : oT.data = .fields ts) (nT : H T = none) (nTL : T ≠ X.env.locals) (nTF : T ∉ X.fs) :
    Inv (X.suite a ((a, oe) :: (T, oT) :: (X.pn ++ pins))) [] σ H s :=
  ⟨I.ok.suite _ _, I.os, I.bare, I.base, I.loc, I.cell, I.free, I.freeC, fun p hp => by
    have hp' : p ∈ (a, oe) :: (T, oT) :: (X.pn ++ pins) := by rw [List.append_nil] at hp; exact hp
    rcases List.mem_cons.mp hp' with e | h
    · rw [e]; exact ⟨ha, na, nL, nF, fun v z => by have z' : oe.data = .cell v := z; rw [hd] at z'; cases z'⟩
    · rcases List.mem_cons.mp h with e | h
      · rw [e]; exact ⟨hT, nT, nTL, nTF, fun v z => by have z' : oT.data = .cell v := z; rw [hdT] at z'; cases z'⟩
      · exact I.pin p h, I.hok, I.len⟩
theorem inv_unsuite2 {a : Addr} {q q2 : Addr × Obj} {pn' : List (Addr × Obj)} (I : Inv (X.suite a (q :: q2 :: (X.pn ++ pins))) pn' σ H s) (ok : X.Ok) : Inv X pins σ H s :=
  ⟨ok, I.os, I.bare, I.base, I.loc, I.cell, I.free, I.freeC, fun p hp => I.pin p (List.mem_append_left _ (List.mem_cons_of_mem _ (List.mem_cons_of_mem _ hp))), I.hok, I.len⟩
end
/-- what flies: named, the statement and out again; else out -/
def wRe (K : PySem.W.Frag) (c : Value) (ts : Addr → Value → Option Addr → TS) (Wout : WX) : WX := fun cls d σ H => ∃ b, PySem.W.exmOne K cls c = some b ∧
  (b = true → ∀ a, H a = none → ts a cls d { nx := fun σ' H' => Wout cls d σ' H', rt := fun _ _ => False, bk := fun _ _ => False, ct := fun _ _ => False } σ H) ∧ (b = false → Wout cls d σ H)
section
open PySem PySem.Spec PyProof PyProof.Rows L2 L2H
variable {X : Cx} {x : Str} {c : Value} {body : List Stmt} {b₀ : Stmt} {np rp pos pos' : Pos} {tb : WX → TS} {ts : Addr → Value → Option Addr → TS} {Wout : WX}
theorem ps_try_re (hs : X.stack = X.env :: X.outer) (hf : X.env.frame = some X.env.locals) (hx : X.ex = []) (hc : Names X x c) (hpa : ∀ hd : Option Value, PassesOwnAt (model X.prog X.w) (X.A.mark hd) X.A X.env X.xe) (tk : L2.Takes X Wout)
    (hb : ∀ (W : WX) (pn : List (Addr × Obj)) (xe : Value → Shared → Prop), L2N.Takes (X.tr pn xe) W → PassesOwn (model X.prog X.w) X.A X.env xe → PSs (X.tr pn xe) body (tb W))
    (hsu : ∀ (a : Addr) (oe : Obj) (cls : Value) (d : Option Addr) (pn : List (Addr × Obj)), L2N.Zn cls d oe → (∃ vs, oe.data = .fields vs) → HotC (X.suite a ((a, oe) :: pn)) → PS (X.suite a ((a, oe) :: pn)) b₀ (ts a cls d)) :
    PS X (.Try body [.ExceptHandler (some (.Name x np)) none [b₀, .Raise none none rp] pos'] [] [] pos) (fun D σ H => tb (wRe X.K c ts Wout) D σ H) := by
  refine ⟨fun pins s σ H D I h => ?_⟩
  have ok := I.ok
  have hfr : X.A.frames = some (X.env :: X.outer) := by rw [ok.frames, hs]
  have notFr : ∀ {B h : Heap} {a : Addr} {o : Obj} {vs : Array Value}, h.FunFrames B (X.env :: X.outer) → h.get? a = some o → o.data = .fields vs → a ∉ frs (X.env :: X.outer) := fun {B h a o vs} ff e dd hm => by
    obtain ⟨_, o', e', hnf⟩ := ff.mem hm
    rw [e] at e'; cases e'
    exact hnf _ dd
  refine wpAny_Try_except ?_
  refine wpAny_mono ((hb (wRe X.K c ts Wout) (X.pn ++ pins) (fun e s₁ => wpAny (model X.prog X.w) X.A (noteFrame e X.env) (fun _ s₂ => wpAny (model X.prog X.w) X.A (setFlight e none) (fun _ s₃ =>
    wpAny (model X.prog X.w) X.A (handleBy e X.env [.ExceptHandler (some (.Name x np)) none [b₀, .Raise none none rp] pos']) (SP X pins D) X.xe s₃) X.xe s₂) X.xe s₁) (fun u s' xx => ?_) PassesOwn.looking).run [] s σ H D (I.toTry _) h) (fun f s1 hsp => ?_) (fun e s1 he => he)
  · obtain ⟨a, B, sI, pins', σ', H', cls, d, rfl, J', nb, up, sky, na, os, ag, b, hb1, hyes, hno⟩ := xx
    have J : Inv X pins σ' H' sI := J'.ofTry ok
    have sky' : Sky B (X.env :: X.outer) a (L2N.Zn cls d) X.env.locals s'.heap := by rw [← hs]; exact sky
    show wpAny (model X.prog X.w) X.A (noteFrame (.ref a) X.env) _ _ _
    refine L2N.Sky.land L2N.Zn.steady hfr hf sky' fun h3 fl3 up3 => ?_
    have J3 : Inv X pins σ' H' { s' with heap := h3 } := J.landed nb fl3.1 (up.trans up3) os ag
    obtain ⟨oe3, vs3, he3, hz3, hd3⟩ := fl3.there
    have nfr : a ∉ frs (X.env :: X.outer) := notFr fl3.2.2.1 he3 hd3
    have nL : a ≠ X.env.locals := fun z => nfr (List.mem_filterMap.mpr ⟨X.env, List.mem_cons_self, by rw [hf, z]⟩)
    have nF : a ∉ X.fs := fun hm => by
      obtain ⟨e, he, q⟩ := List.mem_filterMap.mp hm
      exact nfr (List.mem_filterMap.mpr ⟨e, List.mem_cons_of_mem _ he, q⟩)
    have S3 := J3.suite he3 hd3 na nL nF
    refine wpAny_handleBy_cons (codeAny_handlers_test ?_) (by intro q; cases q)
    have LT : PySem.W.Looks (model X.prog X.w) h3 (typeOf (.ref a)) cls := fun A Q E s k q => wpAny_typeOf_ref (k _ _ he3) (by rw [hz3.1]; exact q)
    have LM := PySem.W.exm_one (M := model X.prog X.w) (J3.kIn) LT hb1
    have test : ∀ {Q : Value → Shared → Prop} {E : Value → Shared → Prop}, Q c { s' with heap := h3 } → wpAny (model X.prog X.w) (X.A.mark (some (.ref a))) (eval (.Name x np) X.env) Q E { s' with heap := h3 } := fun {Q E} q => by
      obtain ⟨hg, hdbg, hm | ⟨hm, hv, hnn⟩⟩ := hc
      · exact ld_glob (X := X.suite a ((a, oe3) :: (X.pn ++ pins))) S3 hg hm q hdbg
      · exact ld_blt (X := X.suite a ((a, oe3) :: (X.pn ++ pins))) S3 hg hm hv q hnn hdbg
    refine test (LM.here ?_)
    -- what is behind it again, from a state with it in the air
    have out : ∀ {A' : Around} {B6 : Heap} {sJ s6 : Shared} {σ6 : L2.St} {H6 : Hp} {Q : Flow → Shared → Prop}, Inv X pins σ6 H6 sJ → (∀ b o, sJ.heap.get? b = some o → b ∉ frs X.stack → B6.get? b = some o) → sJ.heap.UpToSlots s6.heap →
        HandSPX.FlyingZ B6 (X.env :: X.outer) a (Zc cls d) s6.heap → H6 a = none → s6.os = sJ.os → AllBare s6.gens → Wout cls d σ6 H6 →
        wpAny (model X.prog X.w) A' (setFlight (.ref a) X.env.frame) (fun _ s7 => wpAny (model X.prog X.w) A' (throw (.ref a) : Sem Flow) Q X.xe s7) X.xe s6 := by
      intro A' B6 sJ s6 σ6 H6 Q J6 nb6 up6 fl6 na6 os6 ag6 w6
      rw [hf]
      refine HandSPX.setFlight_upZ fl6 fun h4 hh4 up4 => wpAny_throw (tk _ _ ?_)
      exact ⟨a, B6, sJ, pins, σ6, H6, cls, d, rfl, J6, nb6, up6.trans up4, .inr (.inr (by rw [hs]; exact hh4)), na6, os6, ag6, w6⟩
    cases b with
    | true =>
      refine codeAny_handlers_suite ?_
      refine HandSPX.lands_againZ fl3 fun h4 fl4 up4 => ?_
      have J4 : Inv X pins σ' H' { s' with heap := h4 } := J.landed nb fl4.1 ((up.trans up3).trans up4) os ag
      obtain ⟨B1, B2, B3, oe4, vs4, T, oT4, ts4, he4, hz4, hd4, h14, hBT, hTa, hT4, hdT4, h34⟩ := id fl4
      -- the traceback is as new as the exception
      have nfT : T ∉ frs (X.env :: X.outer) := notFr B3 hT4 hdT4
      have nTL : T ≠ X.env.locals := fun z => nfT (List.mem_filterMap.mpr ⟨X.env, List.mem_cons_self, by rw [hf, z]⟩)
      have nTF : T ∉ X.fs := fun hm => by
        obtain ⟨e, he, q⟩ := List.mem_filterMap.mp hm
        exact nfT (List.mem_filterMap.mpr ⟨e, List.mem_cons_of_mem _ he, q⟩)
      have goneI : ∀ b, b ∉ frs (X.env :: X.outer) → B.get? b = none → sI.heap.get? b = none := fun b h1 h2 => by
        cases q : sI.heap.get? b with
        | none => rfl
        | some o =>
          rw [nb b o q (by rw [hs]; exact h1)] at h2
          cases h2
      have nTH : H' T = none := J.hok.gone (goneI T nfT hBT)
      have S4 := inv_suite2 J4 he4 hd4 na nL nF hT4 hdT4 nTH nTL nTF
      have hot : HotC (X.suite a ((a, oe4) :: (T, oT4) :: (X.pn ++ pins))) := ⟨(a, oe4), ⟨rfl, vs4, hd4, hz4.2.2 vs4 hd4⟩, List.mem_cons_self⟩
      have hrun := (hsu a oe4 cls d ((T, oT4) :: (X.pn ++ pins)) hz4 ⟨_, hd4⟩ hot).run [] _ _ H' _ S4 (hyes rfl a na)
      refine wpAny_execs_cons (wpAny_mono hrun (fun f s6 hsp => ?_) (fun _ _ z => False.elim z))
      cases f with
      | next =>
        obtain ⟨σ6, H6, S6, q6⟩ := hsp
        have P1 := S6.pin (a, oe4) (List.mem_append_left _ List.mem_cons_self)
        have P2 := S6.pin (T, oT4) (List.mem_append_left _ (List.mem_cons_of_mem _ List.mem_cons_self))
        have J6 : Inv X pins σ6 H6 s6 := inv_unsuite2 S6 ok
        have hst : X.stack = (X.suite a ((a, oe4) :: (T, oT4) :: (X.pn ++ pins))).stack := rfl
        have ff : s6.heap.FunFrames (PySem.W.hideAll s6.heap (frs X.stack ++ [a, T])) (X.env :: X.outer) := by
          rw [← hs]
          exact funFrames_none J6.stack fun b hb => PySem.W.hideAll_none _ (List.mem_append_left _ hb)
        have fl6 : HandSPX.FlyingZ (PySem.W.hideAll s6.heap (frs X.stack ++ [a, T])) (X.env :: X.outer) a (Zc cls d) s6.heap :=
          ⟨fun b o e => PySem.W.of_hideAll _ e, PySem.W.hideAll_none _ (List.mem_append_right _ List.mem_cons_self), ff, oe4, vs4, T, oT4, ts4, P1.1, hz4.zc, hd4, h14, PySem.W.hideAll_none _ (List.mem_append_right _ (List.mem_cons_of_mem _ List.mem_cons_self)), hTa, P2.1, hdT4, h34⟩
        have hid : ∀ b, b ∈ [a, T] → H6 b = none ∧ b ≠ X.env.locals ∧ X.s_0.heap.get? b = none ∧ (∀ x c, X.env.cells.lookup x = some c → c ≠ b) ∧ ∀ p ∈ X.pn ++ pins, p.1 ≠ b := by
          have one : ∀ b ob, sI.heap.get? b = none → (s6.heap.get? b = some ob ∧ H6 b = none ∧ b ≠ X.env.locals ∧ b ∉ X.fs ∧ ∀ v, ob.data ≠ .cell v) → H6 b = none ∧ b ≠ X.env.locals ∧ X.s_0.heap.get? b = none ∧ (∀ x c, X.env.cells.lookup x = some c → c ≠ b) ∧ ∀ p ∈ X.pn ++ pins, p.1 ≠ b := by
            intro b ob g ⟨p1, p2, p3, p4, p5⟩
            refine ⟨p2, p3, ?_, fun x c e z => ?_, fun p hp z => ?_⟩
            · cases q : X.s_0.heap.get? b with
              | none => rfl
              | some o =>
                obtain ⟨o', q'⟩ := J.base.there b o q (by rw [hx]; exact fun z => nomatch z)
                rw [g] at q'
                cases q'
            · obtain ⟨v, o, ho, hd⟩ := S6.cell x c e
              rw [z, p1] at ho
              cases ho
              exact p5 _ hd
            · have := (J.pin p hp).1
              rw [z, g] at this
              cases this
          intro b hb
          rcases List.mem_cons.mp hb with z | hb
          · rw [z]
            exact one a oe4 (goneI a nfr B2) P1
          · rw [List.mem_singleton.mp hb]
            exact one T oT4 (goneI T nfT hBT) P2
        have JH := inv_hide (L := [a, T]) J6 hid
        refine wpAny_mono (E := X.xe) ?_ (fun _ _ z => z) (fun e6 s6 z => hpa (some (.ref a)) e6 s6 z)
        refine wpAny_execs_cons ?_
        show wpAny _ _ (do standAt rp; raiseStmt X.env none none) _ _ _
        refine wpAny_bind (wpAny_standAt ?_)
        unfold raiseStmt
        refine wpAny_bind (wpAny_handled ?_)
        show wpAny _ _ (do rule "raise.bare"; _) _ _ _
        refine wpAny_bind (wpAny_rule ?_)
        refine wpAny_bind (wpAny_field P1.1 hd4 h14 ?_)
        rw [if_neg (show ¬ ((Value.ref T == Value.none) = true) from by simp)]
        have hn : ∀ b o, (PySem.W.hideAll s6.heap [a, T]).get? b = some o → b ∉ frs X.stack → (PySem.W.hideAll s6.heap (frs X.stack ++ [a, T])).get? b = some o := fun b o e hb => by
          refine PySem.W.hideAll_get _ (PySem.W.of_hideAll _ e) fun z => ?_
          rcases List.mem_append.mp z with z | z
          · exact hb z
          · rw [PySem.W.hideAll_none _ z] at e
            cases e
        first
          | exact wpAny_bind (wpAny_pure (wpAny_bind (out JH hn (fun b o e _ => ⟨o.slots, PySem.W.of_hideAll _ e⟩) fl6 P1.2.1 rfl J6.bare q6)))
          | exact wpAny_bind (out JH hn (fun b o e _ => ⟨o.slots, PySem.W.of_hideAll _ e⟩) fl6 P1.2.1 rfl J6.bare q6)
      | brk =>
        obtain ⟨σ6, H6, S6, q6⟩ := hsp
        exact False.elim q6
      | cont =>
        obtain ⟨σ6, H6, S6, q6⟩ := hsp
        exact False.elim q6
      | ret u =>
        obtain ⟨v6, σ6, H6, S6, r6, q6⟩ := hsp
        exact False.elim q6
    | false =>
      show wpAny _ X.A (handleBy (.ref a) X.env []) _ _ _
      refine wpAny_handleBy_nil ?_
      obtain ⟨k1, k2, k3, oe, vs, T, oT, ts', he, hz, hd, h1, hr⟩ := id fl3
      unfold PySem.passOn
      refine wpAny_bind (wpAny_field he hd h1 ?_)
      rw [if_neg (show ¬ ((Value.ref T == Value.none) = true) from by simp)]
      have fin := out (A' := X.A) (Q := SP X pins D) (s6 := { s' with heap := h3 }) J nb (up.trans up3) (flyingZ_imp (fun o z => z.zc) fl3) na os ag (hno rfl)
      first
        | exact wpAny_bind (wpAny_pure (wpAny_bind fin))
        | exact wpAny_bind fin
  · cases f with
    | next =>
      obtain ⟨σ', H', J', q⟩ := hsp
      exact wpAny_execs_nil ⟨σ', H', J'.ofTry ok, q⟩
    | brk =>
      obtain ⟨σ', H', J', q⟩ := hsp
      exact ⟨σ', H', J'.ofTry ok, q⟩
    | cont =>
      obtain ⟨σ', H', J', q⟩ := hsp
      exact ⟨σ', H', J'.ofTry ok, q⟩
    | ret u =>
      obtain ⟨v, σ', H', J', r, q⟩ := hsp
      exact ⟨v, σ', H', J'.ofTry ok, r, q⟩
end
/-! ### defs where an exception is handled, defs whose exceptions bear no context -/
section
open PySem PySem.Spec PyProof PyProof.Rows L2 L2H
variable {P : Program} {w : World} {K : PySem.W.Frag} {mg : Str → Option Value} {base : Heap}
theorem Fun_okH {x qual : Str} {st : Stmt} {f : Addr} {fd : FuncData} {N ps : List Str} {k : Nat} {sp : Sp} (F : Fun K x qual st f fd) (S : FnScope N ps (defScope st)) (len : ∀ vs H Q E, sp vs H Q E → vs.length = ps.length)
    (hbody : ∀ (cdv : Value) (A : Around) (outer : List Env) (s : Shared) (H : Hp) (vs : List V) (Q : VK) (E : XK) (p : Addr × Obj), Hot1 A p → RoomH k (A.deeper (envOfC qual (defScope st) s.heap.objs.size f cdv)) → sp vs H Q E →
      ∃ t, PSs (cxH CX0 P w K mg base N qual (defScope st) f cdv A outer s H E p).nox (defBody st) t ∧ t { nx := fun _ H' => Q .non H', rt := Q } (L2.start N vs) H) : FnH P w K mg base CX0 (k + 1) f fd ps sp := by
  obtain ⟨oc, od, kV, doc, pm, an, cdv, ct, osl, rfl, lk, hcd⟩ := F.ex
  refine fn_ofH lk hcd S len fun A outer s H vs Q E p hot hr hsp => ?_
  obtain ⟨t, h, q⟩ := hbody cdv A outer s H vs Q E p hot hr hsp
  exact ⟨t, h.nox, q⟩
theorem Fun_okHX {x qual : Str} {st : Stmt} {f : Addr} {fd : FuncData} {N ps : List Str} {k : Nat} {sp : Sp} (F : Fun K x qual st f fd) (S : FnScope N ps (defScope st)) (len : ∀ vs H Q E, sp vs H Q E → vs.length = ps.length)
    (hbody : ∀ (cdv : Value) (A : Around) (outer : List Env) (s : Shared) (H : Hp) (vs : List V) (Q : VK) (E : XK) (p : Addr × Obj), Hot1 A p → RoomH k (A.deeper (envOfC qual (defScope st) s.heap.objs.size f cdv)) → sp vs H Q E →
      ∃ t, PSs (cxH (L2.CX P w) P w K mg base N qual (defScope st) f cdv A outer s H E p) (defBody st) t ∧ t { nx := fun _ H' => Q .non H', rt := Q } (L2.start N vs) H) : FnH P w K mg base (L2.CX P w) (k + 1) f fd ps sp := by
  obtain ⟨oc, od, kV, doc, pm, an, cdv, ct, osl, rfl, lk, hcd⟩ := F.ex
  exact fn_ofH lk hcd S len fun A outer s H vs Q E p hot hr hsp => hbody cdv A outer s H vs Q E p hot hr hsp
theorem Fun_okN {x qual : Str} {st : Stmt} {f : Addr} {fd : FuncData} {N ps : List Str} {k : Nat} {sp : Sp} (F : Fun K x qual st f fd) (S : FnScope N ps (defScope st)) (len : ∀ vs H Q E, sp vs H Q E → vs.length = ps.length)
    (hbody : ∀ (cdv : Value) (A : Around) (outer : List Env) (s : Shared) (H : Hp) (vs : List V) (Q : VK) (E : XK), Room k (A.deeper (envOfC qual (defScope st) s.heap.objs.size f cdv)) → sp vs H Q E →
      ∃ t, PSs (cxOf (L2N.CX P w) P w K mg base N qual (defScope st) f cdv A outer s H E) (defBody st) t ∧ t { nx := fun _ H' => Q .non H', rt := Q } (L2.start N vs) H) : FnOk P w K mg base (L2N.CX P w) (k + 1) f fd ps sp := by
  obtain ⟨oc, od, kV, doc, pm, an, cdv, ct, osl, rfl, lk, hcd⟩ := F.ex
  exact fn_of lk hcd S len fun A outer s H vs Q E hr hsp => hbody cdv A outer s H vs Q E hr hsp
theorem hu_ofH {A : Around} {k : Nat} (hr : RoomH k A) : A.units + 1 < cLine := by
  have := hr.un
  omega
theorem passH0 {X : Cx} (σ : L2.St) : PassesAt CX0 X σ ((fun _ => E0) σ) := fun _ _ _ _ _ _ h => h.elim
theorem passHX {X : Cx} {E : XK} (tk : L2.Takes X (fun cls d _ H => E cls d H)) (σ : L2.St) : PassesAt (L2.CX X.prog X.w) X σ ((fun _ => E) σ) := fun pins H s e s' I h => passX tk pins σ H s e s' I h
theorem passNX {X : Cx} {E : XK} (tk : L2N.Takes X (fun cls d _ H => E cls d H)) : Passes (L2N.CX X.prog X.w) X E := L2N.passes_call tk fun _ _ _ _ h => h
end
section
open PySem PySem.Spec PyProof PyProof.Rows L2 L2H
variable {X : Cx}
theorem passesAt_of {K : Value → Shared → Prop} {E₁ : Value → Shared → Prop} (hx : X.xe = fun e s' => wpAny (model X.prog X.w) X.A (leaving X.env e) (fun _ s'' => K e s'') E₁ s') : ∀ hd : Option Value, PassesOwnAt (model X.prog X.w) (X.A.mark hd) X.A X.env X.xe := by
  rw [hx]
  exact fun hd => PassesOwnAt.leaving
theorem room_mark {k : Nat} {A : Around} {hd : Option Value} (hr : Room k A) : RoomH k (A.mark hd) := ⟨hr.dp, hr.un⟩
theorem passHL (σ : L2.St) : PassesAt (L2.CX X.prog X.w) X σ ((fun _ => E0) σ) := fun pins H s e s' I h => passL pins σ H s e s' I h
end
section
open PySem PySem.Spec PyProof.Rows L2H
variable {P : Program} {w : World} {K : PySem.W.Frag} {mg : Str → Option Value} {base : Heap} {a : Ad}
theorem okH_rank (T : Txt K mg a) : FnH P w K mg base CX0 1 a.f_rank a.d_rank ["places", "at"] (sp_rank K a) := by
  refine Fun_okH T.rank.fn sc_rank (fun vs H Q E h => by first | (obtain ⟨rfl, _⟩ := h; rfl) | (obtain ⟨_, rfl, _⟩ := h; rfl) | (obtain ⟨_, _, rfl, _⟩ := h; rfl) | (obtain ⟨_, _, _, rfl, _⟩ := h; rfl) | (obtain ⟨_, _, _, _, rfl, _⟩ := h; rfl) | (obtain ⟨_, _, _, _, _, rfl, _⟩ := h; rfl) | (obtain ⟨_, _, _, _, _, _, rfl, _⟩ := h; rfl) | (obtain ⟨_, _, _, _, _, _, _, rfl, _⟩ := h; rfl) | (obtain ⟨_, _, _, _, _, _, _, _, rfl, _⟩ := h; rfl) | (obtain ⟨_, _, _, _, _, _, _, _, _, rfl, _⟩ := h; rfl) | (obtain ⟨_, _, _, _, _, _, _, _, _, _, rfl, _⟩ := h; rfl) | (obtain ⟨_, _, _, _, _, _, _, _, _, _, _, rfl, _⟩ := h; rfl)) (fun cdv A outer s H vs Q E p hot hr h => ?_)
  refine ⟨_, pss_cons (ps_set (i := 2) sc_rank.nd rfl (Or.inl rfl) pe_int)
      (pss_cons (ps_set (i := 3) sc_rank.nd rfl (Or.inl rfl) (pe_callB call_len_seq (by rfl) T.z_len PySem.boot_len (pa_cons (pv 0) pa_nil)))
      (pss_cons (ps_while PassesOwn.never (pt_cmpR op_lt (pv 2) (pv 3) (nomark _)) (pss_cons (ps_set (i := 4) sc_rank.nd rfl (Or.inl rfl) (pe_op op_fdiv (pe_op op_add (pv 2) (pv 3)) pe_int))
      (pss_one (ps_if (pt_cmpR op_lt (pe_ix ix_list (pv 0) (pv 4) (fun _ _ => rfl)) (pv 1) (nomark _)) (pss_one (ps_set (i := 2) sc_rank.nd rfl (Or.inl rfl) (pe_op op_add (pv 4) pe_int))) (pss_one (ps_set (i := 3) sc_rank.nd rfl (Or.inl rfl) (pv 4)))))))
      (pss_one (ps_ret (pv 2))))), ?_⟩
  obtain ⟨l, x, ns, rfl, hS, rise, hz, q⟩ := h
  refine ⟨_, rfl, l, _, rfl, .inl hS, ?_⟩
  refine while_by (fun σ H' => H' = H ∧ ∃ (lo hi : Nat) (m : Option V), lo ≤ rk x ns ∧ rk x ns ≤ hi ∧ hi ≤ ns.length ∧ σ = [some (.ref l), some (nI x), some (nI lo), some (nI hi), m])
    (fun σ H' => match σ with | [_, _, some (.int lo), some (.int hi), _] => (hi - lo).toNat | _ => 0) ⟨rfl, 0, ns.length, none, Nat.zero_le _, rk_le _ _, Nat.le_refl _, ?_⟩ ?_ ?_
  · rw [List.length_map]
    rfl
  · rintro σ H' ⟨rfl, lo, hi, m, h1, h2, h3, rfl⟩
    refine ⟨_, rfl, _, rfl, _, _, rfl, rfl, _, rfl, ?_⟩
    by_cases c : lo < hi
    · refine iteTof (decide_eq_true (by omega)) ?_
      refine ⟨_, rfl, _, rfl, _, _, rfl, rfl, _, _, rfl, rfl, ⟨by decide, by decide⟩, ?_⟩
      have em : ((lo : Int) + (hi : Int)) / 2 = (((lo + hi) / 2 : Nat) : Int) := by omega
      generalize hmid : (lo + hi) / 2 = mid at em
      have mlt : mid < ns.length := by omega
      obtain ⟨v, hv⟩ : ∃ v, ns[mid]? = some v := ⟨_, List.getElem?_eq_getElem mlt⟩
      refine ⟨_, rfl, _, rfl, l, _, _, nI v, rfl, rfl, hS, at_of (j := mid) em (map_nI_get hv), _, rfl, _, _, rfl, rfl, _, rfl, ?_⟩
      have cmp := rk_lt (x := x) rise hv
      by_cases c2 : v < x
      · refine iteTof (decide_eq_true (by omega)) ?_
        have := cmp.mp c2
        refine ⟨_, rfl, _, _, rfl, rfl, ?_⟩
        refine ⟨⟨rfl, mid + 1, hi, some (.int (((lo : Int) + (hi : Int)) / 2)), by omega, h2, h3, ?_⟩, ?_⟩
        · show [some (V.ref l), some (nI x), some (V.int (((lo : Int) + (hi : Int)) / 2 + 1)), some (nI hi), some (V.int (((lo : Int) + (hi : Int)) / 2))] = _
          rw [em]
          rfl
        · show ((hi : Int) - (((lo : Int) + (hi : Int)) / 2 + 1)).toNat < ((hi : Int) - (lo : Int)).toNat
          omega
      · refine iteFof (decide_eq_false (by omega)) ?_
        have : ¬ mid < rk x ns := fun z => c2 (cmp.mpr z)
        refine ⟨_, rfl, ?_⟩
        refine ⟨⟨rfl, lo, mid, some (.int (((lo : Int) + (hi : Int)) / 2)), h1, by omega, by omega, ?_⟩, ?_⟩
        · show [some (V.ref l), some (nI x), some (nI lo), some (V.int (((lo : Int) + (hi : Int)) / 2)), some (V.int (((lo : Int) + (hi : Int)) / 2))] = _
          rw [em]
          rfl
        · show ((((lo : Int) + (hi : Int)) / 2) - (lo : Int)).toNat < ((hi : Int) - (lo : Int)).toNat
          omega
    · refine iteFof (decide_eq_false (by omega)) ?_
      have e : lo = rk x ns := by omega
      subst e
      exact ⟨_, rfl, q⟩
  · rintro σ H' Q1 Q2 hQ ⟨v, hv, y, hy, i, j, e1, e2, k, ek, h⟩
    exact ⟨v, hv, y, hy, i, j, e1, e2, k, ek, by cases k <;> exact hQ _ _ (by simpa using h)⟩
theorem okH_Pool_has (T : Txt K mg a) : FnH P w K mg base CX0 2 a.f_Pool_has a.d_Pool_has ["self", "at", "size"] (sp_Pool_has K a) := by
  have G_rank : FnH P w K mg base CX0 1 a.f_rank a.d_rank ["places", "at"] (sp_rank K a) := okH_rank T
  refine Fun_okH T.Pool_has sc_Pool_has (fun vs H Q E h => by first | (obtain ⟨rfl, _⟩ := h; rfl) | (obtain ⟨_, rfl, _⟩ := h; rfl) | (obtain ⟨_, _, rfl, _⟩ := h; rfl) | (obtain ⟨_, _, _, rfl, _⟩ := h; rfl) | (obtain ⟨_, _, _, _, rfl, _⟩ := h; rfl) | (obtain ⟨_, _, _, _, _, rfl, _⟩ := h; rfl) | (obtain ⟨_, _, _, _, _, _, rfl, _⟩ := h; rfl) | (obtain ⟨_, _, _, _, _, _, _, rfl, _⟩ := h; rfl) | (obtain ⟨_, _, _, _, _, _, _, _, rfl, _⟩ := h; rfl) | (obtain ⟨_, _, _, _, _, _, _, _, _, rfl, _⟩ := h; rfl) | (obtain ⟨_, _, _, _, _, _, _, _, _, _, rfl, _⟩ := h; rfl) | (obtain ⟨_, _, _, _, _, _, _, _, _, _, _, rfl, _⟩ := h; rfl)) (fun cdv A outer s H vs Q E p hot hr h => ?_)
  refine ⟨_, pss_cons (ps_set (i := 3) sc_Pool_has.nd rfl (Or.inl rfl) (pe_dget (hu_ofH hr) (pe_fld (pv 0) rfl) (pv 2) (fun _ _ => rfl)))
      (pss_cons (ps_set (i := 4) sc_Pool_has.nd rfl (Or.inl rfl) (pe_callH G_rank (hr.mono (by decide)) ⟨p, hot, List.mem_cons_self⟩ rfl T.rank.mg T.rank.fn.kp T.rank.bd passH0 (pa_cons (pv 3) (pa_cons (pv 1) pa_nil))))
      (pss_one (ps_ret (pe_and (pe_cmpR op_lt (pv 4) (pe_callB call_len_seq (by rfl) T.z_len PySem.boot_len (pa_cons (pv 3) pa_nil)) (nomark _)) (pe_one (pe_cmpR op_eq (pe_ix ix_list (pv 3) (pv 4) (fun _ _ => rfl)) (pv 1) (nomark _))))))), ?_⟩
  obtain ⟨Y, d, x, k, F, rfl, po, hk, q⟩ := h
  have hl := po.at_ k hk
  have lm := po.len k hk
  refine ⟨_, rfl, Y.p, a.c_Pool, Y.dp, _, _, rfl, po.ob, T.cl_Pool, T.n_Pool__places, pFs_at Y, _, rfl, Y.pd, _, rfl, dget_of po.dk (pdK_get hk), ?_⟩
  refine ⟨_, rfl, _, rfl, Y.ls k, x, F k, rfl, SqL.of hl, po.rise k hk, lm, ?_⟩
  refine ⟨_, rfl, _, rfl, Y.ls k, _, rfl, .inl (SqL.of hl), _, _, rfl, rfl, _, rfl, ?_⟩
  rw [List.length_map]
  by_cases c : rk x (F k) < (F k).length
  · refine iteTof (decide_eq_true (by omega)) ?_
    obtain ⟨v, hv⟩ : ∃ v, (F k)[rk x (F k)]? = some v := ⟨_, List.getElem?_eq_getElem c⟩
    refine ⟨_, rfl, _, rfl, Y.ls k, _, _, nI v, rfl, rfl, SqL.of hl, atI_nat (map_nI_get hv), _, rfl, rfl, ?_⟩
    have e : decide (nI v = nI x) = decide (x ∈ F k) := by
      rw [decide_eq_decide, ← rk_at (po.rise k hk), hv]
      constructor
      · intro z
        have z2 : (v : Int) = (x : Int) := by injection z
        have : v = x := by omega
        rw [this]
      · intro z
        rw [Option.some.inj z]
    show Q (.bl (decide (nI v = nI x))) _
    rw [e]
    exact q
  · refine iteFof (decide_eq_false (by omega)) ?_
    have e : decide (x ∈ F k) = false := by
      rw [decide_eq_false_iff_not, ← rk_at (po.rise k hk)]
      intro z
      exact c (List.getElem?_eq_some_iff.mp z).1
    rw [e] at q
    exact q
theorem okH_Pool_drop (T : Txt K mg a) : FnH P w K mg base CX0 2 a.f_Pool_drop a.d_Pool_drop ["self", "at", "size"] (sp_Pool_drop K a) := by
  have G_rank : FnH P w K mg base CX0 1 a.f_rank a.d_rank ["places", "at"] (sp_rank K a) := okH_rank T
  refine Fun_okH T.Pool_drop sc_Pool_drop (fun vs H Q E h => by first | (obtain ⟨rfl, _⟩ := h; rfl) | (obtain ⟨_, rfl, _⟩ := h; rfl) | (obtain ⟨_, _, rfl, _⟩ := h; rfl) | (obtain ⟨_, _, _, rfl, _⟩ := h; rfl) | (obtain ⟨_, _, _, _, rfl, _⟩ := h; rfl) | (obtain ⟨_, _, _, _, _, rfl, _⟩ := h; rfl) | (obtain ⟨_, _, _, _, _, _, rfl, _⟩ := h; rfl) | (obtain ⟨_, _, _, _, _, _, _, rfl, _⟩ := h; rfl) | (obtain ⟨_, _, _, _, _, _, _, _, rfl, _⟩ := h; rfl) | (obtain ⟨_, _, _, _, _, _, _, _, _, rfl, _⟩ := h; rfl) | (obtain ⟨_, _, _, _, _, _, _, _, _, _, rfl, _⟩ := h; rfl) | (obtain ⟨_, _, _, _, _, _, _, _, _, _, _, rfl, _⟩ := h; rfl)) (fun cdv A outer s H vs Q E p hot hr h => ?_)
  refine ⟨_, pss_cons (ps_set (i := 3) sc_Pool_drop.nd rfl (Or.inl rfl) (pe_dget (hu_ofH hr) (pe_fld (pv 0) rfl) (pv 2) (fun _ _ => rfl)))
      (pss_one (ps_delL (pv 3) (pe_callH G_rank (hr.mono (by decide)) ⟨p, hot, List.mem_cons_self⟩ rfl T.rank.mg T.rank.fn.kp T.rank.bd passH0 (pa_cons (pv 3) (pa_cons (pv 1) pa_nil))))), ?_⟩
  obtain ⟨Y, d, x, k, F, rfl, po, hk, hx, q⟩ := h
  have hl := po.at_ k hk
  have rl : rk x (F k) < (F k).length := (List.getElem?_eq_some_iff.mp ((rk_at (po.rise k hk)).mpr hx)).1
  have lm := po.len k hk
  refine ⟨_, rfl, Y.p, a.c_Pool, Y.dp, _, _, rfl, po.ob, T.cl_Pool, T.n_Pool__places, pFs_at Y, _, rfl, Y.pd, _, rfl, dget_of po.dk (pdK_get hk), ?_⟩
  refine ⟨_, rfl, _, rfl, _, rfl, Y.ls k, x, F k, rfl, SqL.of hl, po.rise k hk, lm, Y.ls k, _, _, rk x (F k), rfl, rfl, hl, ?_, ?_, ?_, ?_⟩
  · show -9223372036854775808 ≤ (rk x (F k) : Int)
    omega
  · show (rk x (F k) : Int) < 9223372036854775808
    omega
  · rw [List.length_map]
    unfold seqIndex?
    simp
    omega
  · rw [← del_eq (po.rise k hk) hx, DT.map_erase] at q
    exact q
theorem okH_Pool_put (T : Txt K mg a) : FnH P w K mg base CX0 2 a.f_Pool_put a.d_Pool_put ["self", "at", "size"] (sp_Pool_put K a) := by
  have G_rank : FnH P w K mg base CX0 1 a.f_rank a.d_rank ["places", "at"] (sp_rank K a) := okH_rank T
  refine Fun_okH T.Pool_put sc_Pool_put (fun vs H Q E h => by first | (obtain ⟨rfl, _⟩ := h; rfl) | (obtain ⟨_, rfl, _⟩ := h; rfl) | (obtain ⟨_, _, rfl, _⟩ := h; rfl) | (obtain ⟨_, _, _, rfl, _⟩ := h; rfl) | (obtain ⟨_, _, _, _, rfl, _⟩ := h; rfl) | (obtain ⟨_, _, _, _, _, rfl, _⟩ := h; rfl) | (obtain ⟨_, _, _, _, _, _, rfl, _⟩ := h; rfl) | (obtain ⟨_, _, _, _, _, _, _, rfl, _⟩ := h; rfl) | (obtain ⟨_, _, _, _, _, _, _, _, rfl, _⟩ := h; rfl) | (obtain ⟨_, _, _, _, _, _, _, _, _, rfl, _⟩ := h; rfl) | (obtain ⟨_, _, _, _, _, _, _, _, _, _, rfl, _⟩ := h; rfl) | (obtain ⟨_, _, _, _, _, _, _, _, _, _, _, rfl, _⟩ := h; rfl)) (fun cdv A outer s H vs Q E p hot hr h => ?_)
  refine ⟨_, pss_cons (ps_set (i := 3) sc_Pool_put.nd rfl (Or.inl rfl) (pe_dget (hu_ofH hr) (pe_fld (pv 0) rfl) (pv 2) (fun _ _ => rfl)))
      (pss_one (ps_expr (pe_bm PySem.F.plainAttrs_list PySem.F.slot_list_insert PySem.F.type_list_insert mt_insert (pv 3) (pa_cons (pe_callH G_rank (hr.mono (by decide)) ⟨p, hot, List.mem_cons_self⟩ rfl T.rank.mg T.rank.fn.kp T.rank.bd passH0 (pa_cons (pv 3) (pa_cons (pv 1) pa_nil))) (pa_cons (pv 1) pa_nil))))), ?_⟩
  obtain ⟨Y, d, x, k, F, rfl, po, hk, hx, hlen, q⟩ := h
  have hl := po.at_ k hk
  have lk : ((F k).map nI).length < sizeLine := by
    rw [List.length_map, sizeLine_eq]
    omega
  refine ⟨_, rfl, Y.p, a.c_Pool, Y.dp, _, _, rfl, po.ob, T.cl_Pool, T.n_Pool__places, pFs_at Y, _, rfl, Y.pd, _, rfl, dget_of po.dk (pdK_get hk), ?_⟩
  refine ⟨_, rfl, .inl ⟨rfl, _, SqL.of hl⟩, _, rfl, _, rfl, Y.ls k, x, F k, rfl, SqL.of hl, po.rise k hk, by omega, _, rfl, Y.ls k, _, _, _, rfl, rfl, hl, lk, by omega, ?_, ?_⟩
  · have := rk_le x (F k)
    have : (rk x (F k) : Int) < 2 ^ 63 := by
      show (rk x (F k) : Int) < 9223372036854775808
      omega
    exact this
  · rw [Int.toNat_natCast, ← List.map_take, ← List.map_drop]
    rw [← ins_eq (po.rise k hk) hx, List.map_append, List.map_append] at q
    exact q
theorem okH_twin_of (T : Txt K mg a) : FnH P w K mg base CX0 1 a.f_twin_of a.d_twin_of ["at", "size"] (sp_twin_of K a) := by
  refine Fun_okH T.twin_of.fn sc_twin_of (fun vs H Q E h => by first | (obtain ⟨rfl, _⟩ := h; rfl) | (obtain ⟨_, rfl, _⟩ := h; rfl) | (obtain ⟨_, _, rfl, _⟩ := h; rfl) | (obtain ⟨_, _, _, rfl, _⟩ := h; rfl) | (obtain ⟨_, _, _, _, rfl, _⟩ := h; rfl) | (obtain ⟨_, _, _, _, _, rfl, _⟩ := h; rfl) | (obtain ⟨_, _, _, _, _, _, rfl, _⟩ := h; rfl) | (obtain ⟨_, _, _, _, _, _, _, rfl, _⟩ := h; rfl) | (obtain ⟨_, _, _, _, _, _, _, _, rfl, _⟩ := h; rfl) | (obtain ⟨_, _, _, _, _, _, _, _, _, rfl, _⟩ := h; rfl) | (obtain ⟨_, _, _, _, _, _, _, _, _, _, rfl, _⟩ := h; rfl) | (obtain ⟨_, _, _, _, _, _, _, _, _, _, _, rfl, _⟩ := h; rfl)) (fun cdv A outer s H vs Q E p hot hr h => ?_)
  refine ⟨_, pss_one (ps_ret (pe_op op_xor (pv 0) (pv 1))), ?_⟩
  obtain ⟨i, k, rfl, q⟩ := h
  refine ⟨_, rfl, _, rfl, _, _, rfl, rfl, ?_⟩
  have e := Bits.bitXor_pp (x := ((i * 2 ^ k : Nat) : Int)) (y := ((2 ^ k : Nat) : Int)) (Int.natCast_nonneg _) (Int.natCast_nonneg _)
  rw [Int.toNat_natCast, Int.toNat_natCast, xor_pow] at e
  show Q (.int (Builtin.bitXor ((i * 2 ^ k : Nat) : Int) ((2 ^ k : Nat) : Int))) H
  rw [e]
  exact q
theorem okH_Yard_join (T : Txt K mg a) : FnH P w K mg base CX0 3 a.f_Yard_join a.d_Yard_join ["self", "at", "size"] (sp_Yard_join K a) := by
  have G_Pool_drop : FnH P w K mg base CX0 2 a.f_Pool_drop a.d_Pool_drop ["self", "at", "size"] (sp_Pool_drop K a) := okH_Pool_drop T
  have G_Pool_has : FnH P w K mg base CX0 2 a.f_Pool_has a.d_Pool_has ["self", "at", "size"] (sp_Pool_has K a) := okH_Pool_has T
  have G_Pool_put : FnH P w K mg base CX0 2 a.f_Pool_put a.d_Pool_put ["self", "at", "size"] (sp_Pool_put K a) := okH_Pool_put T
  have G_twin_of : FnH P w K mg base CX0 1 a.f_twin_of a.d_twin_of ["at", "size"] (sp_twin_of K a) := okH_twin_of T
  refine Fun_okH T.Yard_join sc_Yard_join (fun vs H Q E h => by first | (obtain ⟨rfl, _⟩ := h; rfl) | (obtain ⟨_, rfl, _⟩ := h; rfl) | (obtain ⟨_, _, rfl, _⟩ := h; rfl) | (obtain ⟨_, _, _, rfl, _⟩ := h; rfl) | (obtain ⟨_, _, _, _, rfl, _⟩ := h; rfl) | (obtain ⟨_, _, _, _, _, rfl, _⟩ := h; rfl) | (obtain ⟨_, _, _, _, _, _, rfl, _⟩ := h; rfl) | (obtain ⟨_, _, _, _, _, _, _, rfl, _⟩ := h; rfl) | (obtain ⟨_, _, _, _, _, _, _, _, rfl, _⟩ := h; rfl) | (obtain ⟨_, _, _, _, _, _, _, _, _, rfl, _⟩ := h; rfl) | (obtain ⟨_, _, _, _, _, _, _, _, _, _, rfl, _⟩ := h; rfl) | (obtain ⟨_, _, _, _, _, _, _, _, _, _, _, rfl, _⟩ := h; rfl)) (fun cdv A outer s H vs Q E p hot hr h => ?_)
  refine ⟨_, pss_cons (ps_set (i := 3) sc_Yard_join.nd rfl (Or.inl rfl) (pe_callH G_twin_of (hr.mono (by decide)) ⟨p, hot, List.mem_cons_self⟩ rfl T.twin_of.mg T.twin_of.fn.kp T.twin_of.bd passH0 (pa_cons (pv 1) (pa_cons (pv 2) pa_nil))))
      (pss_cons (ps_while PassesOwn.never (pt_val (pe_methH (pe_fld (pv 0) rfl) T.cl_Pool T.m_Pool_has G_Pool_has (hr.mono (by decide)) ⟨p, hot, List.mem_cons_self⟩ T.b_Pool_has passH0 (pa_cons (pv 3) (pa_cons (pv 2) pa_nil)))) (pss_cons (ps_expr (pe_methH (pe_fld (pv 0) rfl) T.cl_Pool T.m_Pool_drop G_Pool_drop (hr.mono (by decide)) ⟨p, hot, List.mem_cons_self⟩ T.b_Pool_drop passH0 (pa_cons (pv 3) (pa_cons (pv 2) pa_nil))))
      (pss_cons (ps_set (i := 1) sc_Yard_join.nd rfl (Or.inl rfl) (pe_callB (call_min2H ⟨p, hot, List.mem_cons_self⟩) (by rfl) T.z_min PyProof.Rows.boot_min (pa_cons (pv 1) (pa_cons (pv 3) pa_nil))))
      (pss_cons (ps_aug (i := 2) sc_Yard_join.nd rfl (Or.inl rfl) pe_int ip_mulX)
      (pss_one (ps_set (i := 3) sc_Yard_join.nd rfl (Or.inl rfl) (pe_callH G_twin_of (hr.mono (by decide)) ⟨p, hot, List.mem_cons_self⟩ rfl T.twin_of.mg T.twin_of.fn.kp T.twin_of.bd passH0 (pa_cons (pv 1) (pa_cons (pv 2) pa_nil)))))))))
      (pss_one (ps_expr (pe_methH (pe_fld (pv 0) rfl) T.cl_Pool T.m_Pool_put G_Pool_put (hr.mono (by decide)) ⟨p, hot, List.mem_cons_self⟩ T.b_Pool_put passH0 (pa_cons (pv 1) (pa_cons (pv 2) pa_nil)))))), ?_⟩
  obtain ⟨Y, d, x, k, m, F, rfl, yo, po, hk, hm, ha, hF, h1, h2, h3, q⟩ := h
  have d60 := po.d60
  have keep : ∀ {H'}, Only (lsA Y d) H H' → YOb a Y d H' := fun o => o _ _ yo (po.off yo (by intro xs z; cases z))
  refine ⟨_, rfl, _, rfl, x / 2 ^ k, k, by first | (rw [ha]; done) | (rw [ha]; rfl), ?_⟩
  refine while_by (fun σ H' => ∃ j : Nat, k ≤ j ∧ j ≤ m ∧ σ = [some (.ref Y.y), some (nI (x / 2 ^ j * 2 ^ j)), some (sI j), some (nI (sib (x / 2 ^ j) * 2 ^ j))] ∧ PoolAt a Y d (remF F x k j) H' ∧ Only (lsA Y d) H H')
    (fun σ H' => match σ with | [_, _, some (.int j), _] => (((2 ^ m : Nat) : Int) - j).toNat | _ => 0) ⟨k, Nat.le_refl _, hk, by first | (rw [ha]; done) | (rw [ha]; rfl), po.congr fun j hj => ?_, Only.refl _ _⟩ ?_ ?_
  · unfold remF
    rw [if_neg (by omega)]
  · rintro σ H' ⟨j, kj, jm, rfl, po', only⟩
    refine ⟨_, rfl, Y.y, a.c_Yard, Y.dy, _, _, rfl, keep only, T.cl_Yard, T.n_Yard__pool, yFs_pool Y d, Y.p, Y.dp, _, rfl, po'.ob, pFs_no Y (by decide +kernel), _, rfl, _, rfl, Y, d, sib (x / 2 ^ j) * 2 ^ j, j, _, rfl, po', by omega, ?_⟩
    rw [remF_at]
    by_cases c : j < m
    · have hin := hF j kj c
      rw [decide_eq_true hin]
      refine ⟨_, rfl, ?_⟩
      refine iteT ?_
      refine ⟨_, rfl, Y.y, a.c_Yard, Y.dy, _, _, rfl, keep only, T.cl_Yard, T.n_Yard__pool, yFs_pool Y d, Y.p, Y.dp, _, rfl, po'.ob, pFs_no Y (by decide +kernel), _, rfl, _, rfl, Y, d, sib (x / 2 ^ j) * 2 ^ j, j, _, rfl, po', by omega, by rw [remF_at]; exact hin, ?_⟩
      rw [remF_at]
      have r := po'.rise j (by omega)
      have le := po'.len j (by omega)
      rw [remF_at] at r le
      have po2 := (po'.upd (k := j) (by omega) (del_rise (x := sib (x / 2 ^ j) * 2 ^ j) r) (by have := List.length_filter_le (fun y => decide (y ≠ sib (x / 2 ^ j) * 2 ^ j)) (F j); unfold del; omega)).congr fun i hi => remF_step kj i
      have p1 : 0 < 2 ^ j := Nat.pow_pos (by decide)
      refine ⟨_, rfl, _, rfl, _, _, rfl, ?_⟩
      have pj := pow60 (show j ≤ 60 by omega)
      refine ⟨_, rfl, _, _, rfl, rfl, mulx_ok (a := 61) (b := 3) (by rw [Int.natAbs_natCast]; exact Nat.lt_of_le_of_lt pj (by decide)) (by decide) (by decide), ?_⟩
      have em : (if ((sib (x / 2 ^ j) * 2 ^ j : Nat) : Int) < ((x / 2 ^ j * 2 ^ j : Nat) : Int) then ((sib (x / 2 ^ j) * 2 ^ j : Nat) : Int) else ((x / 2 ^ j * 2 ^ j : Nat) : Int)) = ((x / 2 ^ (j + 1) * 2 ^ (j + 1) : Nat) : Int) := by
        rw [← min_sib]
        by_cases z : sib (x / 2 ^ j) * 2 ^ j < x / 2 ^ j * 2 ^ j
        · rw [if_pos (by omega), Nat.min_eq_right (by omega)]
        · rw [if_neg (by omega), Nat.min_eq_left (by omega)]
      have ez : ((2 ^ j : Nat) : Int) * 2 = ((2 ^ (j + 1) : Nat) : Int) := by rw [Nat.pow_succ, Int.natCast_mul]; rfl
      have only2 : Only (lsA Y d) H (L2.upd H' (Y.ls j) (.lst ((del (sib (x / 2 ^ j) * 2 ^ j) (F j)).map nI))) := only.trans (Only.upd _ (lsA_mem (by omega)))
      refine ⟨_, rfl, _, rfl, x / 2 ^ (j + 1), j + 1, ?_, ?_⟩
      · show [V.int (if ((sib (x / 2 ^ j) * 2 ^ j : Nat) : Int) < ((x / 2 ^ j * 2 ^ j : Nat) : Int) then ((sib (x / 2 ^ j) * 2 ^ j : Nat) : Int) else ((x / 2 ^ j * 2 ^ j : Nat) : Int)), V.int (((2 ^ j : Nat) : Int) * 2)] = [V.int ((x / 2 ^ (j + 1) * 2 ^ (j + 1) : Nat) : Int), sI (j + 1)]
        rw [em, ez]
      · refine ⟨⟨j + 1, by omega, by omega, ?_, po2, only2⟩, ?_⟩
        · show [some (V.ref Y.y), some (V.int (if ((sib (x / 2 ^ j) * 2 ^ j : Nat) : Int) < ((x / 2 ^ j * 2 ^ j : Nat) : Int) then ((sib (x / 2 ^ j) * 2 ^ j : Nat) : Int) else ((x / 2 ^ j * 2 ^ j : Nat) : Int))), some (V.int (((2 ^ j : Nat) : Int) * 2)), some (nI (sib (x / 2 ^ (j + 1)) * 2 ^ (j + 1)))] = _
          rw [em, ez]
          rfl
        · show (((2 ^ m : Nat) : Int) - ((2 ^ j : Nat) : Int) * 2).toNat < (((2 ^ m : Nat) : Int) - ((2 ^ j : Nat) : Int)).toNat
          have : 2 ^ j < 2 ^ m := Nat.pow_lt_pow_right (by decide) c
          omega
    · have e : j = m := by omega
      subst e
      rw [decide_eq_false h1]
      refine ⟨_, rfl, ?_⟩
      refine iteF ?_
      have r := po'.rise j (by omega)
      rw [remF_at] at r
      refine ⟨_, rfl, Y.y, a.c_Yard, Y.dy, _, _, rfl, keep only, T.cl_Yard, T.n_Yard__pool, yFs_pool Y d, Y.p, Y.dp, _, rfl, po'.ob, pFs_no Y (by decide +kernel), _, rfl, _, rfl, Y, d, x / 2 ^ j * 2 ^ j, j, _, rfl, po', by omega, by rw [remF_at]; exact h2, by rw [remF_at]; exact h3, ?_⟩
      rw [remF_at]
      refine q _ (po'.upd (by omega) (ins_rise r) ?_) (only.trans (Only.upd _ (lsA_mem (by omega))))
      have : (ins (x / 2 ^ j * 2 ^ j) (F j)).length = (F j).length + 1 := by
        rw [← ins_eq r h2]
        simp
        have := rk_le (x / 2 ^ j * 2 ^ j) (F j)
        omega
      omega
  · rintro σ H' Q1 Q2 hQ ⟨v, hv, y, C, dx, fs, u, e1, e2, e3, e4, e5, p, dp, gs, e6, e7, e8, v2, hv2, v3, hv3, Z, d2, x2, k2, F2, e9, e10, e11, b, e12, e13⟩
    exact ⟨v, hv, y, C, dx, fs, u, e1, e2, e3, e4, e5, p, dp, gs, e6, e7, e8, v2, hv2, v3, hv3, Z, d2, x2, k2, F2, e9, e10, e11, b, e12, hQ _ _ e13⟩
theorem okH_Yard_size_of (T : Txt K mg a) : FnH P w K mg base (L2.CX P w) 1 a.f_Yard_size_of a.d_Yard_size_of ["self", "at"] (sp_Yard_size_of K a) := by
  refine Fun_okHX T.Yard_size_of sc_Yard_size_of (fun vs H Q E h => by first | (obtain ⟨rfl, _⟩ := h; rfl) | (obtain ⟨_, rfl, _⟩ := h; rfl) | (obtain ⟨_, _, rfl, _⟩ := h; rfl) | (obtain ⟨_, _, _, rfl, _⟩ := h; rfl) | (obtain ⟨_, _, _, _, rfl, _⟩ := h; rfl) | (obtain ⟨_, _, _, _, _, rfl, _⟩ := h; rfl) | (obtain ⟨_, _, _, _, _, _, rfl, _⟩ := h; rfl) | (obtain ⟨_, _, _, _, _, _, _, rfl, _⟩ := h; rfl) | (obtain ⟨_, _, _, _, _, _, _, _, rfl, _⟩ := h; rfl) | (obtain ⟨_, _, _, _, _, _, _, _, _, rfl, _⟩ := h; rfl) | (obtain ⟨_, _, _, _, _, _, _, _, _, _, rfl, _⟩ := h; rfl) | (obtain ⟨_, _, _, _, _, _, _, _, _, _, _, rfl, _⟩ := h; rfl)) (fun cdv A outer s H vs Q E p hot hr h => ?_)
  refine ⟨_, pss_cons (ps_if (pt_cmp (pc_dnotin (hu_ofH hr) (pv 1) (pe_fld (pv 0) rfl))) (pss_one (ps_raiseH ⟨p, hot, List.mem_cons_self⟩ (takes_of rfl rfl rfl rfl) (L2N.pmk_own PySem.F.excBase_ValueError T.e_NotOut.x T.e_NotOut.g T.e_NotOut.k (raises_own T.e_NotOut.is.hs T.e_NotOut.t) (by exact rfl)))) pss_nil)
      (pss_one (ps_ret (pe_dget (hu_ofH hr) (pe_fld (pv 0) rfl) (pv 1) (fun _ _ => rfl)))), ?_⟩
  obtain ⟨Y, d, os, x, rfl, yo, so, g, q1, q2⟩ := h
  refine ⟨_, rfl, _, rfl, Y.y, a.c_Yard, Y.dy, _, _, rfl, yo, T.cl_Yard, T.n_Yard__sizes, yFs_sizes Y d, Y.sd, _, rfl, DGet.k (k := Sum.inl x) so, ?_⟩
  by_cases c : ∃ n k : Nat, (n, k) ∈ os ∧ x = (n : Int)
  · obtain ⟨n, k, m, rfl⟩ := c
    have e := valV_out g m
    rw [e]
    refine ⟨_, rfl, iteFof rfl ?_⟩
    exact ⟨_, rfl, Y.y, a.c_Yard, Y.dy, _, _, rfl, yo, T.cl_Yard, T.n_Yard__sizes, yFs_sizes Y d, _, rfl, Y.sd, _, rfl, dget_of so e, q2 n k m rfl⟩
  · have e : valV (os.map outI) (Sum.inl x) = none := valV_out_none fun q m z => c ⟨q.1, q.2, m, z.symm⟩
    rw [e]
    exact ⟨_, rfl, iteTof rfl (q1 fun q m z => c ⟨q.1, q.2, m, z.symm⟩)⟩
theorem okH_Yard_take_back (T : Txt K mg a) : FnH P w K mg base (L2.CX P w) 4 a.f_Yard_take_back a.d_Yard_take_back ["self", "at"] (sp_Yard_take_back K a) := by
  have G_Yard_join : FnH P w K mg base CX0 3 a.f_Yard_join a.d_Yard_join ["self", "at", "size"] (sp_Yard_join K a) := okH_Yard_join T
  have G_Yard_size_of : FnH P w K mg base (L2.CX P w) 1 a.f_Yard_size_of a.d_Yard_size_of ["self", "at"] (sp_Yard_size_of K a) := okH_Yard_size_of T
  refine Fun_okHX T.Yard_take_back sc_Yard_take_back (fun vs H Q E h => by first | (obtain ⟨rfl, _⟩ := h; rfl) | (obtain ⟨_, rfl, _⟩ := h; rfl) | (obtain ⟨_, _, rfl, _⟩ := h; rfl) | (obtain ⟨_, _, _, rfl, _⟩ := h; rfl) | (obtain ⟨_, _, _, _, rfl, _⟩ := h; rfl) | (obtain ⟨_, _, _, _, _, rfl, _⟩ := h; rfl) | (obtain ⟨_, _, _, _, _, _, rfl, _⟩ := h; rfl) | (obtain ⟨_, _, _, _, _, _, _, rfl, _⟩ := h; rfl) | (obtain ⟨_, _, _, _, _, _, _, _, rfl, _⟩ := h; rfl) | (obtain ⟨_, _, _, _, _, _, _, _, _, rfl, _⟩ := h; rfl) | (obtain ⟨_, _, _, _, _, _, _, _, _, _, rfl, _⟩ := h; rfl) | (obtain ⟨_, _, _, _, _, _, _, _, _, _, _, rfl, _⟩ := h; rfl)) (fun cdv A outer s H vs Q E p hot hr h => ?_)
  refine ⟨_, pss_cons (ps_set (i := 2) sc_Yard_take_back.nd rfl (Or.inl rfl) (pe_methH (pv 0) T.cl_Yard T.m_Yard_size_of G_Yard_size_of (hr.mono (by decide)) ⟨p, hot, List.mem_cons_self⟩ T.b_Yard_size_of (passHX (takes_of rfl rfl rfl rfl)) (pa_cons (pv 1) pa_nil)))
      (pss_cons (ps_ddel (pe_fld (pv 0) rfl) (pv 1))
      (pss_cons (ps_expr (pe_methH (pv 0) T.cl_Yard T.m_Yard_join G_Yard_join (hr.mono (by decide)) ⟨p, hot, List.mem_cons_self⟩ T.b_Yard_join passH0 (pa_cons (pv 1) (pa_cons (pv 2) pa_nil))))
      (pss_one (ps_ret (pv 2))))), ?_⟩
  obtain ⟨Y, d, os, x, rfl, ya, q1, q2⟩ := h
  have d60 := ya.po.d60
  refine ⟨_, rfl, Y.y, Y.dy, _, rfl, ya.yo, yFs_no Y d (by decide +kernel) (by decide +kernel) (by decide +kernel), _, rfl, Y, d, os, x, rfl, ya.yo, ya.so, ya.good, q1, fun n k m e => ?_⟩
  subst e
  have ev := valV_out ya.good m
  refine ⟨_, rfl, Y.y, a.c_Yard, Y.dy, _, _, rfl, ya.yo, T.cl_Yard, T.n_Yard__sizes, yFs_sizes Y d, _, rfl, Y.sd, _, Sum.inl (n : Int), rfl, ya.so, rfl, by rw [ev]; rfl, ?_⟩
  rw [out_drop]
  obtain ⟨K0, hK, hM⟩ := out_mx ya.good m
  have hO := fun c => Oc_outs (c := c) ya.good m
  have al := (ya.good.each _ m).2.1
  have g2 : Good d (outs os n) := ya.good.sub List.filter_sublist
  -- the sizes' dict first
  have yo1 : YOb a Y d (L2.upd H Y.sd (.dK ((outs os n).map outI))) := by
    show L2.upd H Y.sd _ Y.y = _
    rw [upd_ne (ne_of ya.yo ya.so (by intro z; cases z))]
    exact ya.yo
  have po1 : PoolAt a Y d (frl (Oc os) d) (L2.upd H Y.sd (.dK ((outs os n).map outI))) := by
    refine ⟨?_, ?_, fun j hj => ?_, ya.po.inj, ya.po.rise, ya.po.len, ya.po.d60⟩
    · rw [upd_ne (ne_of ya.po.ob ya.so (by intro z; cases z))]
      exact ya.po.ob
    · rw [upd_ne ya.ne]
      exact ya.po.dk
    · rw [upd_ne (ne_of (ya.po.at_ j hj) ya.so (by intro z; cases z))]
      exact ya.po.at_ j hj
  have stop := fun j h1 h2 => mx_stop hK hM hO j h1 h2
  refine ⟨_, rfl, Y.y, Y.dy, _, rfl, yo1, yFs_no Y d (by decide +kernel) (by decide +kernel) (by decide +kernel), _, rfl, _, rfl, Y, d, n, k, K0, frl (Oc os) d, rfl, yo1, po1, hK, hM.1, al, fun j h1 h2 => ?_, fun z => ?_, fun z => ?_, ?_, fun H2 po2 only2 => ?_⟩
  · rw [frl_mem']
    exact (stop j h1 (by omega)).mpr h2
  · rw [frl_mem', stop K0 hK (Nat.le_refl _)] at z
    omega
  · rw [frl_mem'] at z
    exact z.2.2.1 n rfl ((hO n).mpr (.inr rfl))
  · have := frl_len (d := d) (j := K0) (os := os)
    have := ya.few
    omega
  · refine ⟨_, rfl, ?_⟩
    refine q2 n k m rfl H2 ⟨only2 _ _ yo1 (po1.off yo1 (by intro xs z; cases z)), only2 _ _ upd_same (po1.off upd_same (by intro xs z; cases z)), po2.congr fun j hj => ?_, g2, ?_, ya.ne⟩ ((Only.upd _ List.mem_cons_self).trans (only2.mono lsA_own))
    · rw [← can_back hK hM hO j, remF_at]
    · exact Nat.le_trans (List.length_filter_le _ _) ya.few
theorem okN_size_for (T : Txt K mg a) : FnOk P w K mg base (L2N.CX P w) 1 a.f_size_for a.d_size_for ["want"] (sp_size_for K a) := by
  obtain ⟨tM, mM⟩ := T.v_MOST
  refine Fun_okN T.size_for.fn sc_size_for (fun vs H Q E h => by first | (obtain ⟨rfl, _⟩ := h; rfl) | (obtain ⟨_, rfl, _⟩ := h; rfl) | (obtain ⟨_, _, rfl, _⟩ := h; rfl) | (obtain ⟨_, _, _, rfl, _⟩ := h; rfl) | (obtain ⟨_, _, _, _, rfl, _⟩ := h; rfl) | (obtain ⟨_, _, _, _, _, rfl, _⟩ := h; rfl) | (obtain ⟨_, _, _, _, _, _, rfl, _⟩ := h; rfl) | (obtain ⟨_, _, _, _, _, _, _, rfl, _⟩ := h; rfl) | (obtain ⟨_, _, _, _, _, _, _, _, rfl, _⟩ := h; rfl) | (obtain ⟨_, _, _, _, _, _, _, _, _, rfl, _⟩ := h; rfl) | (obtain ⟨_, _, _, _, _, _, _, _, _, _, rfl, _⟩ := h; rfl) | (obtain ⟨_, _, _, _, _, _, _, _, _, _, _, rfl, _⟩ := h; rfl)) (fun cdv A outer s H vs Q E hr h => ?_)
  refine ⟨_, pss_cons (ps_if (PW.pt (pw_or (pt_cmpR op_lt (pv 0) pe_int (nomark _)) (pw_or1 (pt_cmpR op_gt (pv 0) (pe_glob (v := .int 1152921504606846976) rfl mM ⟨_, rfl⟩) (nomark _))))) (pss_one (L2N.ps_raise rfl (L2N.takes_of rfl rfl rfl rfl) (L2N.pmk_own PySem.F.excBase_ValueError T.e_NoWish.x T.e_NoWish.g T.e_NoWish.k (raises_own T.e_NoWish.is.hs T.e_NoWish.t) (by exact rfl)))) pss_nil)
      (pss_one (ps_ret (pe_op op_shlN pe_int (pe_bits (pe_op op_sub (pv 0) pe_int))))), ?_⟩
  obtain ⟨x, rfl, kE, kQ⟩ := h
  refine ⟨_, rfl, _, _, rfl, rfl, _, rfl, ?_⟩
  by_cases h1 : x < 1
  · exact iteTof (decide_eq_true h1) (iteTof rfl (kE (.inl h1)))
  · refine iteFof (decide_eq_false h1) ?_
    refine ⟨_, rfl, _, _, rfl, rfl, _, rfl, ?_⟩
    by_cases h2 : x > 1152921504606846976
    · exact iteTof (decide_eq_true h2) (kE (.inr h2))
    · refine iteFof (decide_eq_false h2) ?_
      have f := fit_spec (w := x) (by omega) (by omega)
      refine ⟨_, rfl, _, _, rfl, rfl, _, rfl, 1, fit x, rfl, rfl, shl_ok (n := 1) (by decide) (by omega), ?_⟩
      have e : (1 : Int) * 2 ^ fit x = ((2 ^ fit x : Nat) : Int) := by
        rw [Int.one_mul]
        exact PySem.W.kbt_cast _
      rw [e]
      exact kQ (by omega) (by omega)
theorem okN_Yard_fitting (T : Txt K mg a) : FnOk P w K mg base (L2N.CX P w) 2 a.f_Yard_fitting a.d_Yard_fitting ["self", "want"] (sp_Yard_fitting K a) := by
  have G_size_for : FnOk P w K mg base (L2N.CX P w) 1 a.f_size_for a.d_size_for ["want"] (sp_size_for K a) := okN_size_for T
  refine Fun_okN T.Yard_fitting sc_Yard_fitting (fun vs H Q E h => by first | (obtain ⟨rfl, _⟩ := h; rfl) | (obtain ⟨_, rfl, _⟩ := h; rfl) | (obtain ⟨_, _, rfl, _⟩ := h; rfl) | (obtain ⟨_, _, _, rfl, _⟩ := h; rfl) | (obtain ⟨_, _, _, _, rfl, _⟩ := h; rfl) | (obtain ⟨_, _, _, _, _, rfl, _⟩ := h; rfl) | (obtain ⟨_, _, _, _, _, _, rfl, _⟩ := h; rfl) | (obtain ⟨_, _, _, _, _, _, _, rfl, _⟩ := h; rfl) | (obtain ⟨_, _, _, _, _, _, _, _, rfl, _⟩ := h; rfl) | (obtain ⟨_, _, _, _, _, _, _, _, _, rfl, _⟩ := h; rfl) | (obtain ⟨_, _, _, _, _, _, _, _, _, _, rfl, _⟩ := h; rfl) | (obtain ⟨_, _, _, _, _, _, _, _, _, _, _, rfl, _⟩ := h; rfl)) (fun cdv A outer s H vs Q E hr h => ?_)
  refine ⟨_, pss_cons (ps_if (pt_cmpR op_gt (pv 1) (pe_fld (pv 0) rfl) (nomark _)) (pss_one (L2N.ps_raise rfl (L2N.takes_of rfl rfl rfl rfl) (L2N.pmk_own PySem.F.excBase_ValueError T.e_NoRoom.x T.e_NoRoom.g T.e_NoRoom.k (raises_own T.e_NoRoom.is.hs T.e_NoRoom.t) (by exact rfl)))) pss_nil)
      (pss_one (ps_ret (pe_call G_size_for (hr.mono (by decide)) rfl T.size_for.mg T.size_for.fn.kp T.size_for.bd .nil (passNX (L2N.takes_of rfl rfl rfl rfl)) (pa_cons (pv 1) pa_nil)))), ?_⟩
  obtain ⟨Y, d, x, rfl, yo, d60, q1, q2, q3⟩ := h
  have p60 := pow60 d60
  refine ⟨_, rfl, _, rfl, Y.y, a.c_Yard, Y.dy, _, _, rfl, yo, T.cl_Yard, T.n_Yard_cells, yFs_cells Y d, _, _, rfl, rfl, _, rfl, ?_⟩
  by_cases c : x > ((2 ^ d : Nat) : Int)
  · exact iteTof (decide_eq_true c) (q2 c)
  · refine iteFof (decide_eq_false c) ?_
    refine ⟨_, rfl, x, rfl, fun z => ?_, fun z1 z2 => q3 z1 (by omega)⟩
    rcases z with z | z
    · exact q1 z
    · omega
theorem okN_Yard_give (T : Txt K mg a) : FnOk P w K mg base (L2N.CX P w) 4 a.f_Yard_give a.d_Yard_give ["self", "want"] (sp_Yard_give K a) := by
  have G_Pool_best : FnOk P w K mg base CX0 1 a.f_Pool_best a.d_Pool_best ["self", "size"] (sp_Pool_best K a) := ok_Pool_best T
  have G_Pool_drop : FnOk P w K mg base CX0 2 a.f_Pool_drop a.d_Pool_drop ["self", "at", "size"] (sp_Pool_drop K a) := ok_Pool_drop T
  have G_Yard_cut : FnOk P w K mg base CX0 3 a.f_Yard_cut a.d_Yard_cut ["self", "at", "size", "least"] (sp_Yard_cut K a) := ok_Yard_cut T
  have G_Yard_fitting : FnOk P w K mg base (L2N.CX P w) 2 a.f_Yard_fitting a.d_Yard_fitting ["self", "want"] (sp_Yard_fitting K a) := okN_Yard_fitting T
  refine Fun_okN T.Yard_give sc_Yard_give (fun vs H Q E h => by first | (obtain ⟨rfl, _⟩ := h; rfl) | (obtain ⟨_, rfl, _⟩ := h; rfl) | (obtain ⟨_, _, rfl, _⟩ := h; rfl) | (obtain ⟨_, _, _, rfl, _⟩ := h; rfl) | (obtain ⟨_, _, _, _, rfl, _⟩ := h; rfl) | (obtain ⟨_, _, _, _, _, rfl, _⟩ := h; rfl) | (obtain ⟨_, _, _, _, _, _, rfl, _⟩ := h; rfl) | (obtain ⟨_, _, _, _, _, _, _, rfl, _⟩ := h; rfl) | (obtain ⟨_, _, _, _, _, _, _, _, rfl, _⟩ := h; rfl) | (obtain ⟨_, _, _, _, _, _, _, _, _, rfl, _⟩ := h; rfl) | (obtain ⟨_, _, _, _, _, _, _, _, _, _, rfl, _⟩ := h; rfl) | (obtain ⟨_, _, _, _, _, _, _, _, _, _, _, rfl, _⟩ := h; rfl)) (fun cdv A outer s H vs Q E hr h => ?_)
  refine ⟨_, pss_cons (ps_set (i := 2) sc_Yard_give.nd rfl (Or.inl rfl) (pe_meth (pv 0) T.cl_Yard T.m_Yard_fitting G_Yard_fitting (hr.mono (by decide)) T.b_Yard_fitting .nil (passNX (L2N.takes_of rfl rfl rfl rfl)) (pa_cons (pv 1) pa_nil)))
      (pss_cons (ps_set (i := 3) sc_Yard_give.nd rfl (Or.inl rfl) (pe_meth (pe_fld (pv 0) rfl) T.cl_Pool T.m_Pool_best G_Pool_best (hr.mono (by decide)) T.b_Pool_best .nil pass0 (pa_cons (pv 2) pa_nil)))
      (pss_cons (ps_if (pt_cmpR op_isN (pv 3) pe_non (nomark _)) (pss_one (L2N.ps_raise rfl (L2N.takes_of rfl rfl rfl rfl) (L2N.pmk_own PySem.F.excBase_ValueError T.e_NoRoom.x T.e_NoRoom.g T.e_NoRoom.k (raises_own T.e_NoRoom.is.hs T.e_NoRoom.t) (by exact rfl)))) pss_nil)
      (pss_cons (ps_asg (pv 3) (pg_tup rfl (pgs_cons (pg_name (i := 4) sc_Yard_give.nd rfl (Or.inl rfl)) (pgs_cons (pg_name (i := 5) sc_Yard_give.nd rfl (Or.inl rfl)) pgs_nil))))
      (pss_cons (ps_expr (pe_meth (pe_fld (pv 0) rfl) T.cl_Pool T.m_Pool_drop G_Pool_drop (hr.mono (by decide)) T.b_Pool_drop .nil pass0 (pa_cons (pv 4) (pa_cons (pv 5) pa_nil))))
      (pss_cons (ps_expr (pe_meth (pv 0) T.cl_Yard T.m_Yard_cut G_Yard_cut (hr.mono (by decide)) T.b_Yard_cut .nil pass0 (pa_cons (pv 4) (pa_cons (pv 5) (pa_cons (pv 2) pa_nil)))))
      (pss_cons (ps_dput (hu_of hr) (pe_fld (pv 0) rfl) (pv 4) (pv 2) rfl)
      (pss_one (ps_ret (pv 4))))))))), ?_⟩
  obtain ⟨Y, d, os, x, rfl, ya, few, q1, q2, q3⟩ := h
  have d60 := ya.po.d60
  refine ⟨_, rfl, Y.y, Y.dy, _, rfl, ya.yo, yFs_no Y d (by decide +kernel) (by decide +kernel) (by decide +kernel), _, rfl, Y, d, x, rfl, ya.yo, d60, q1, fun c => q2 (by have := Nat.pow_pos (n := d) (show 0 < 2 by decide); omega) (.inl c) H fun b o e => e, fun h1 h2 => ?_⟩
  have fd := fit_le h1 h2 d60
  refine ⟨_, rfl, Y.y, a.c_Yard, Y.dy, _, _, rfl, ya.yo, T.cl_Yard, T.n_Yard__pool, yFs_pool Y d, Y.p, Y.dp, _, rfl, ya.po.ob, pFs_no Y (by decide +kernel), _, rfl, Y, d, fit x, _, rfl, ya.po, fun none H1 same => ?_, fun m n r km md small eF t H1 same ht => ?_⟩
  · refine ⟨_, rfl, rfl, _, rfl, iteT ?_⟩
    refine q2 h1 (.inr fun j i hj z => ?_) H1 same
    have := none j hj z.1
    exact frl_nil.mp this i z
  · refine ⟨_, rfl, rfl, _, rfl, iteF ?_⟩
    refine ⟨_, rfl, t, _, rfl, SqT.of ht, rfl, _, _, rfl, _, _, rfl, rfl, ?_⟩
    have po1 := ya.po.keep same
    have yo1 : YOb a Y d H1 := same _ _ ya.yo
    have nin : n ∈ frl (Oc os) d m := by rw [eF]; exact List.mem_cons_self
    obtain ⟨i0, en, hM⟩ := frl_mem.mp nin
    have enm : n / 2 ^ m = i0 := by rw [en, blk_of]
    have al : n / 2 ^ m * 2 ^ m = n := by rw [enm]; exact en.symm
    rw [← enm] at hM
    have best : Best os d (fit x) m n := ⟨km, hM, al, fun j i h1 h2 => frl_nil.mp (small j h1 h2) i, fun i hi => by
      have r1 := frl_rise (Oc os) d m
      have hin := frl_mem'.mpr hi
      rw [eF] at r1 hin
      rcases List.mem_cons.mp hin with z | z
      · omega
      · have := (List.pairwise_cons.mp r1).1 _ z
        omega⟩
    refine ⟨_, rfl, Y.y, a.c_Yard, Y.dy, _, _, rfl, yo1, T.cl_Yard, T.n_Yard__pool, yFs_pool Y d, Y.p, Y.dp, _, rfl, po1.ob, pFs_no Y (by decide +kernel), _, rfl, _, rfl, Y, d, n, m, _, rfl, po1, md, nin, ?_⟩
    have lm := frl_len (d := d) (j := m) (os := os)
    have po2 := po1.upd (k := m) md (del_rise (x := n) (frl_rise (Oc os) d m)) (by
      have := List.length_filter_le (fun y => decide (y ≠ n)) (frl (Oc os) d m)
      unfold del
      omega)
    have only2 : Only (lsA Y d) H1 (L2.upd H1 (Y.ls m) (.lst ((del n (frl (Oc os) d m)).map nI))) := Only.upd _ (lsA_mem md)
    have yo2 := only2 _ _ yo1 (po1.off yo1 (by intro xs z; cases z))
    have hO := fun c => Oc_snoc (os := os) (x := n) (k := fit x) (c := c)
    refine ⟨_, rfl, Y.y, Y.dy, _, rfl, yo2, yFs_no Y d (by decide +kernel) (by decide +kernel) (by decide +kernel), _, rfl, _, rfl, _, rfl, Y, d, n, fit x, m, _, rfl, yo2, po2, md, fun j h1 h2 => ?_, fun H3 po3 only3 => ?_⟩
    · have e : setF (frl (Oc os) d) m (del n (frl (Oc os) d m)) j = frl (Oc os) d j := by
        unfold setF
        rw [if_neg (by omega)]
      rw [e, small j h1 h2]
      exact ⟨by simp, by simp⟩
    · have f : Fr (Oc os) (fit x) (n / 2 ^ fit x) := fr_down hM.2.2.1 km
      have g2 := ya.good.snoc fd (al_down al km) best.lt f
      have po4 : PoolAt a Y d (frl (Oc (os ++ [(n, fit x)])) d) H3 := po3.congr fun j hj => by
        rw [← can_give km hM hO j, cutF_add al (Nat.le_refl m), al]
      have so1 : H3 Y.sd = some (.dK (os.map outI)) := only3 _ _ (only2 _ _ (same _ _ ya.so) (po1.off (same _ _ ya.so) (by intro xs z; cases z))) (po2.off (only2 _ _ (same _ _ ya.so) (po1.off (same _ _ ya.so) (by intro xs z; cases z))) (by intro xs z; cases z))
      have yo3 : YOb a Y d H3 := only3 _ _ yo2 (po2.off yo2 (by intro xs z; cases z))
      refine ⟨_, rfl, _, rfl, Y.y, a.c_Yard, Y.dy, _, _, rfl, yo3, T.cl_Yard, T.n_Yard__sizes, yFs_sizes Y d, _, rfl, Y.sd, _, rfl, DPut.k (k := Sum.inl (n : Int)) so1 (by rw [List.length_map, sizeLine_eq]; omega), ?_⟩
      rw [out_put (fr_key f)]
      refine ⟨_, rfl, ?_⟩
      refine q3 h1 h2 m n best _ (YardAt.put yo3 so1 po4 ya.ne g2 (by rw [List.length_append]; show os.length + 1 ≤ 100000; omega)) ?_
      refine Only.trans ((Only.same same).trans ((only2.trans only3).mono lsA_own)) (Only.upd _ List.mem_cons_self)
end
/-! ### fitting_sizes -/
theorem take_snoc {α : Type} {xs : List α} {j : Nat} {x : α} (h : xs[j]? = some x) : xs.take (j + 1) = xs.take j ++ [x] := by
  rw [List.take_add_one, h]
  rfl
theorem none_back {H H' : Hp} {b : Addr} (k : ∀ b o, H b = some o → H' b = some o) (n : H' b = none) : H b = none := by
  cases e : H b with
  | none => rfl
  | some o =>
    rw [k _ _ e] at n
    cases n
def fits (ns : List Int) : List Int := ns.map fun x => ((2 ^ fit x : Nat) : Int)
theorem fits_snoc (xs : List Int) (x : Int) : fits (xs ++ [x]) = fits xs ++ [((2 ^ fit x : Nat) : Int)] := by
  unfold fits
  rw [List.map_append]
  rfl
def sp_fitting_sizes (K : PySem.W.Frag) (a : Ad) : Sp := fun vs H Q E => ∃ (Y : YA) (d : Nat) (os : List PN) (b : Addr) (ns : List Int), vs = [.ref Y.y, .ref b] ∧ YardAt a Y d os H ∧ SqL K H b (ns.map V.int) ∧ ns.length ≤ 4000 ∧
  ((∃ x ∈ ns, x < 1) → ∀ H', (∀ b o, H b = some o → H' b = some o) → E (.ref a.c_NoWish) none H') ∧
  ((∀ x ∈ ns, 1 ≤ x) → (∃ x ∈ ns, x > ((2 ^ d : Nat) : Int)) → ∀ H', (∀ b o, H b = some o → H' b = some o) → E (.ref a.c_NoRoom) none H') ∧
  ((∀ x ∈ ns, 1 ≤ x ∧ x ≤ ((2 ^ d : Nat) : Int)) → ∀ (l : Addr) (H' : Hp), (∀ b o, H b = some o → H' b = some o) → H l = none → H' l = some (.lst ((fits ns).map V.int)) → Q (.ref l) H')
section
variable {P : Program} {w : World} {K : PySem.W.Frag} {mg : Str → Option Value} {base : Heap} {a : Ad}
theorem ok_fitting_sizes (T : Txt K mg a) : FnOk P w K mg base (L2.CX P w) 2 a.f_fitting_sizes a.d_fitting_sizes ["yard", "wants"] (sp_fitting_sizes K a) := by
  have G_size_for : FnOk P w K mg base (L2.CX P w) 1 a.f_size_for a.d_size_for ["want"] (sp_size_for K a) := ok_size_for T
  refine T.fitting_sizes.fn.okX sc_fitting_sizes (fun vs H Q E h => by first | (obtain ⟨rfl, _⟩ := h; rfl) | (obtain ⟨_, rfl, _⟩ := h; rfl) | (obtain ⟨_, _, rfl, _⟩ := h; rfl) | (obtain ⟨_, _, _, rfl, _⟩ := h; rfl) | (obtain ⟨_, _, _, _, rfl, _⟩ := h; rfl) | (obtain ⟨_, _, _, _, _, rfl, _⟩ := h; rfl) | (obtain ⟨_, _, _, _, _, _, rfl, _⟩ := h; rfl) | (obtain ⟨_, _, _, _, _, _, _, rfl, _⟩ := h; rfl) | (obtain ⟨_, _, _, _, _, _, _, _, rfl, _⟩ := h; rfl) | (obtain ⟨_, _, _, _, _, _, _, _, _, rfl, _⟩ := h; rfl) | (obtain ⟨_, _, _, _, _, _, _, _, _, _, rfl, _⟩ := h; rfl) | (obtain ⟨_, _, _, _, _, _, _, _, _, _, _, rfl, _⟩ := h; rfl)) (fun cdv A outer s H vs Q E hr h => ?_)
  refine ⟨_, pss_cons (ps_if (pt_val (pe_callB (cr_any rfl) (by rfl) T.z_any (by decide +kernel) (pa_cons (pe_lc (own := [("want", 2)]) (g := gName 2) rfl sc_fitting_sizes.nd (pi_list (pv 1)) (blkOk_by (own := [("want", 2)]) (N := ["yard", "wants", "want"]) (sc := defScope s_fitting_sizes) (by decide +kernel)) (fun _ _ _ _ _ => (pg_name (i := 2) sc_fitting_sizes.nd rfl (Or.inl rfl))) (fun _ _ _ _ _ => pts_nil) (fun _ _ _ _ _ => (pe_cmpR op_lt (pv 2) pe_int (nomark _)))) pa_nil))) (pss_one (ps_raise rfl (takes_of rfl rfl rfl rfl) (pmk_own PySem.F.excBase_ValueError T.e_NoWish.x T.e_NoWish.g T.e_NoWish.k (raises_own T.e_NoWish.is.hs T.e_NoWish.t) (by exact rfl)))) pss_nil)
      (pss_cons (ps_if (pt_val (pe_callB (cr_any rfl) (by rfl) T.z_any (by decide +kernel) (pa_cons (pe_lc (own := [("want", 2)]) (g := gName 2) (te := (tOp (rI0 fun i j => .bl (decide (j < i))) (tVar 2) (tFld K (tVar 0) "cells"))) rfl sc_fitting_sizes.nd (pi_list (pv 1)) (blkOk_by (own := [("want", 2)]) (N := ["yard", "wants", "want"]) (sc := defScope s_fitting_sizes) (by decide +kernel)) (fun _ _ _ _ _ => (pg_name (i := 2) sc_fitting_sizes.nd rfl (Or.inl rfl))) (fun _ _ _ _ _ => pts_nil) (fun _ _ _ _ _ => (pe_cmpR op_gt (pv 2) (pe_fld (pv 0) rfl) (nomark _)))) pa_nil))) (pss_one (ps_raise rfl (takes_of rfl rfl rfl rfl) (pmk_own PySem.F.excBase_ValueError T.e_NoRoom.x T.e_NoRoom.g T.e_NoRoom.k (raises_own T.e_NoRoom.is.hs T.e_NoRoom.t) (by exact rfl)))) pss_nil)
      (pss_one (ps_ret (pe_lc (own := [("want", 2)]) (g := gName 2) (te := (tCall (sp_size_for K a) [] E0 (tCons (tVar 2) tNil))) rfl sc_fitting_sizes.nd (pi_list (pv 1)) (blkOk_by (own := [("want", 2)]) (N := ["yard", "wants", "want"]) (sc := defScope s_fitting_sizes) (by decide +kernel)) (fun _ _ _ _ _ => (pg_name (i := 2) sc_fitting_sizes.nd rfl (Or.inl rfl))) (fun _ _ _ _ _ => pts_nil) (fun _ _ _ _ _ => (pe_call G_size_for (hr.mono (by decide)) rfl T.size_for.mg T.size_for.fn.kp T.size_for.bd .nil passL (pa_cons (pv 2) pa_nil))))))), ?_⟩
  obtain ⟨Y, d, os, b, ns, rfl, ya, hS, few, q1, q2, q3⟩ := h
  have d60 := ya.po.d60
  refine ⟨_, rfl, b, rfl, ⟨_, hS⟩, fun D newD => ?_⟩
  refine lc_out walk_list (fun j H' => H' D = some (.lst (((ns.take j).map fun x => decide (x < 1)).map V.bl)) ∧ (∀ b o, H b = some o → H' b = some o))
    ⟨upd_same, fun b o e => by rw [upd_ne (ne_of_none e newD)]; exact e⟩ (fun j H' _ p => seq_keep hS fun o e => p.2 _ _ e) ?_ ?_
  · rintro j v H3 H4 hj ⟨hD, s2⟩ ⟨rfl, hv⟩
    rw [List.length_map] at hj
    obtain ⟨x, hx⟩ : ∃ x, ns[j]? = some x := ⟨_, List.getElem?_eq_getElem hj⟩
    rw [List.getElem?_map, hx] at hv
    have hv := Option.some.inj hv
    subst hv
    refine ⟨rfl, ?_⟩
    refine ⟨_, rfl, _, _, rfl, rfl, _, hD, ?_, ?_, fun b o e2 => ?_⟩
    · rw [List.length_map, List.length_map, sizeLine_eq, List.length_take]
      omega
    · rw [take_snoc hx, List.map_append, List.map_append]
      exact upd_same
    · rw [upd_ne (fun z => by rw [z, newD] at e2; cases e2)]
      exact s2 _ _ e2
  rintro H1 ⟨hD, s1⟩
  rw [List.length_map, List.take_length] at hD
  refine ⟨D, _, rfl, SqL.of hD, ?_⟩
  by_cases c1 : ∃ x ∈ ns, x < 1
  · exact ⟨_, rfl, iteTof (by rw [List.any_map, List.any_eq_true]; obtain ⟨x, hx, h1⟩ := c1; exact ⟨x, hx, decide_eq_true h1⟩) (q1 c1 H1 s1)⟩
  refine ⟨_, rfl, iteFof (by rw [List.any_map, List.any_eq_false]; exact fun x hx h1 => c1 ⟨x, hx, of_decide_eq_true h1⟩) ?_⟩
  have pos : ∀ x ∈ ns, 1 ≤ x := fun x hx => by
    have : ¬ x < 1 := fun z => c1 ⟨x, hx, z⟩
    omega
  have y1 := ya.keep s1
  refine ⟨_, rfl, b, rfl, ⟨_, seq_keep hS fun o e => s1 _ _ e⟩, fun D2 newD2 => ?_⟩
  refine lc_out walk_list (fun j H' => H' D2 = some (.lst (((ns.take j).map fun x => decide (((2 ^ d : Nat) : Int) < x)).map V.bl)) ∧ (∀ b o, H1 b = some o → H' b = some o))
    ⟨upd_same, fun b o e => by rw [upd_ne (ne_of_none e newD2)]; exact e⟩ (fun j H' _ p => seq_keep hS fun o e => p.2 _ _ (s1 _ _ e)) ?_ ?_
  · rintro j v H3 H4 hj ⟨hD, s2⟩ ⟨rfl, hv⟩
    rw [List.length_map] at hj
    obtain ⟨x, hx⟩ : ∃ x, ns[j]? = some x := ⟨_, List.getElem?_eq_getElem hj⟩
    rw [List.getElem?_map, hx] at hv
    have hv := Option.some.inj hv
    subst hv
    refine ⟨rfl, ?_⟩
    refine ⟨_, rfl, _, rfl, Y.y, a.c_Yard, Y.dy, _, _, rfl, s2 _ _ y1.yo, T.cl_Yard, T.n_Yard_cells, yFs_cells Y d, _, _, rfl, rfl, _, hD, ?_, ?_, fun b o e2 => ?_⟩
    · rw [List.length_map, List.length_map, sizeLine_eq, List.length_take]
      omega
    · rw [take_snoc hx, List.map_append, List.map_append]
      exact upd_same
    · rw [upd_ne (fun z => by rw [z, newD2] at e2; cases e2)]
      exact s2 _ _ e2
  rintro H2 ⟨hD2, s2⟩
  rw [List.length_map, List.take_length] at hD2
  have s12 : ∀ b o, H b = some o → H2 b = some o := fun b o e => s2 _ _ (s1 _ _ e)
  refine ⟨D2, _, rfl, SqL.of hD2, ?_⟩
  by_cases c2 : ∃ x ∈ ns, x > ((2 ^ d : Nat) : Int)
  · exact ⟨_, rfl, iteTof (by rw [List.any_map, List.any_eq_true]; obtain ⟨x, hx, h1⟩ := c2; exact ⟨x, hx, decide_eq_true h1⟩) (q2 pos c2 H2 s12)⟩
  refine ⟨_, rfl, iteFof (by rw [List.any_map, List.any_eq_false]; exact fun x hx h1 => c2 ⟨x, hx, of_decide_eq_true h1⟩) ?_⟩
  have top : ∀ x ∈ ns, x ≤ ((2 ^ d : Nat) : Int) := fun x hx => by
    have : ¬ x > ((2 ^ d : Nat) : Int) := fun z => c2 ⟨x, hx, z⟩
    omega
  have p60 := pow60 d60
  refine ⟨_, rfl, b, rfl, ⟨_, seq_keep hS fun o e => s12 _ _ e⟩, fun l newl => ?_⟩
  refine lc_out walk_list (fun j H' => H' l = some (.lst ((fits (ns.take j)).map V.int)) ∧ (∀ b o, H2 b = some o → H' b = some o))
    ⟨upd_same, fun b o e => by rw [upd_ne (ne_of_none e newl)]; exact e⟩ (fun j H' _ p => seq_keep hS fun o e => p.2 _ _ (s12 _ _ e)) ?_ ?_
  · rintro j v H3 H4 hj ⟨hD, s3⟩ ⟨rfl, hv⟩
    rw [List.length_map] at hj
    obtain ⟨x, hx⟩ : ∃ x, ns[j]? = some x := ⟨_, List.getElem?_eq_getElem hj⟩
    rw [List.getElem?_map, hx] at hv
    have hv := Option.some.inj hv
    subst hv
    have h1 := pos x (List.mem_of_getElem? hx)
    have h2 := top x (List.mem_of_getElem? hx)
    refine ⟨rfl, ?_⟩
    refine ⟨_, rfl, x, rfl, fun z => ?_, fun _ _ => ⟨_, hD, ?_, ?_, fun b o e2 => ?_⟩⟩
    · exfalso
      omega
    · rw [fits, List.length_map, List.length_map, sizeLine_eq, List.length_take]
      omega
    · rw [take_snoc hx, fits_snoc, List.map_append]
      exact upd_same
    · rw [upd_ne (fun z => by rw [z, newl] at e2; cases e2)]
      exact s3 _ _ e2
  rintro H5 ⟨hl, s5⟩
  rw [List.length_map, List.take_length] at hl
  exact q3 (fun x hx => ⟨pos x hx, top x hx⟩) l H5 (fun b o e => s5 _ _ (s12 _ _ e)) (none_back s12 newl) hl
end
/-! ### give_all, where all is granted -/
/-- the wishes, by their exponents, granted one behind the other: the places -/
inductive Gv (d : Nat) : List PN → List Nat → List Nat → Prop
  | nil {os : List PN} : Gv d os [] []
  | cons {os : List PN} {k m n : Nat} {ks ns : List Nat} : Best os d k m n → Gv d (os ++ [(n, k)]) ks ns → Gv d os (k :: ks) (n :: ns)
theorem Gv.len {d : Nat} {os : List PN} {ks ns : List Nat} (h : Gv d os ks ns) : ns.length = ks.length := by
  induction h with
  | nil => rfl
  | cons _ _ ih => rw [List.length_cons, List.length_cons, ih]
/-- all but the tables stays, and what is not in S -/
def OnlyN (S : List Addr) (H H' : Hp) : Prop := ∀ b o, H b = some o → (∀ ps, o ≠ .tbl ps) → b ∉ S → H' b = some o
theorem OnlyN.of {S : List Addr} {H H' : Hp} (h : Only S H H') : OnlyN S H H' := fun b o e _ n => h b o e n
theorem OnlyN.ext {S : List Addr} {H H' : Hp} (h : LamX.ExtN H H') : OnlyN S H H' := fun b o e n _ => h b o e n
theorem OnlyN.trans {S : List Addr} {H H1 H2 : Hp} (h : OnlyN S H H1) (g : OnlyN S H1 H2) : OnlyN S H H2 := fun b o e n m => g b o (h b o e n m) n m
theorem YardAt.keepN {a : Ad} {Y : YA} {d : Nat} {os : List PN} {H H' : Hp} (h : YardAt a Y d os H) (k : LamX.ExtN H H') : YardAt a Y d os H' :=
  ⟨k _ _ h.yo (fun _ z => by cases z), k _ _ h.so (fun _ z => by cases z), ⟨k _ _ h.po.ob (fun _ z => by cases z), k _ _ h.po.dk (fun _ z => by cases z), fun j hj => k _ _ (h.po.at_ j hj) (fun _ z => by cases z), h.po.inj, h.po.rise, h.po.len, h.po.d60⟩, h.good, h.few, h.ne⟩
theorem YardAt.wr {a : Ad} {Y : YA} {d : Nat} {os : List PN} {H : Hp} {b : Addr} {o : HO} (h : YardAt a Y d os H) (n0 : b ≠ Y.y) (n1 : b ≠ Y.p) (n2 : b ≠ Y.pd) (n3 : b ∉ own Y d) : YardAt a Y d os (L2.upd H b o) :=
  ⟨(upd_ne (Ne.symm n0)).trans h.yo, (upd_ne (fun z => n3 (List.mem_cons.mpr (.inl z.symm)))).trans h.so, ⟨(upd_ne (Ne.symm n1)).trans h.po.ob, (upd_ne (Ne.symm n2)).trans h.po.dk, fun j hj => (upd_ne (fun z : Y.ls j = b => n3 (List.mem_cons.mpr (.inr (by rw [← z]; exact lsA_mem hj))))).trans (h.po.at_ j hj), h.po.inj, h.po.rise, h.po.len, h.po.d60⟩, h.good, h.few, h.ne⟩
/-- the code table of give_all -/
def gaQ : Str := Str.ofString "give_all.<locals>.<lambda>"
def TabsG (a : Ad) (H : Hp) : Prop := LamX.Tabs [(a.p_give_all, gaQ)] H
theorem TabsG.only {a : Ad} {Y : YA} {d : Nat} {os : List PN} {H H' : Hp} (t : TabsG a H) (ya : YardAt a Y d os H) (o : Only (own Y d) H H') : TabsG a H' := fun p hp => by
  obtain ⟨ps, h1, h2, h3⟩ := t p hp
  refine ⟨ps, o _ _ h1 (ya.off h1 (fun _ z => by cases z) fun _ z => by cases z), h2, fun pos cv hc => ?_⟩
  obtain ⟨c, e1, e2⟩ := h3 pos cv hc
  exact ⟨c, e1, o _ _ e2 (ya.off e2 (fun _ z => by unfold LamX.CodeO at z; cases z) fun _ z => by unfold LamX.CodeO at z; cases z)⟩
theorem TabsG.keep {a : Ad} {H H' : Hp} (t : TabsG a H) (k : ∀ b o, H b = some o → H' b = some o) : TabsG a H' := LamX.Tabs.ext t k
theorem TabsG.wr {a : Ad} {H : Hp} {b : Addr} {o : HO} {kvs : List (L2.Key × V)} (t : TabsG a H) (e : H b = some (.dK kvs)) : TabsG a (L2.upd H b o) := fun p hp => by
  obtain ⟨ps, h1, h2, h3⟩ := t p hp
  refine ⟨ps, (upd_ne (ne_of h1 e (by intro z; cases z))).trans h1, h2, fun pos cv hc => ?_⟩
  obtain ⟨c, e1, e2⟩ := h3 pos cv hc
  exact ⟨c, e1, (upd_ne (ne_of e2 e (by intro z; unfold LamX.CodeO at z; cases z))).trans e2⟩
/-- which exponents are wished, in the order of the granting -/
def wishK (xs : List Int) : List Nat := (byFall (fits xs)).map fun k => fit (xs.getD k 0)
def placeOf (ord ns : List Nat) (k : Nat) : Nat := ((ord.zip ns).lookup k).getD 0
theorem ord_perm (zs : List Int) : (byFall zs).Perm (List.range zs.length) := List.mergeSort_perm _ _
theorem ord_nodup (zs : List Int) : (byFall zs).Nodup := (ord_perm zs).nodup_iff.mpr List.nodup_range
theorem ord_len (zs : List Int) : (byFall zs).length = zs.length := by rw [(ord_perm zs).length_eq, List.length_range]
theorem ord_lt {zs : List Int} {k : Nat} (h : k ∈ byFall zs) : k < zs.length := List.mem_range.mp ((ord_perm zs).mem_iff.mp h)
theorem wishK_len (xs : List Int) : (wishK xs).length = xs.length := by rw [wishK, List.length_map, ord_len, fits, List.length_map]
def kvP (q : Nat × Nat) : L2.Key × V := (Sum.inl (q.1 : Int), nI q.2)
theorem valP {k : Nat} : ∀ {ord ns : List Nat}, ns.length = ord.length → k ∈ ord → valV ((ord.zip ns).map kvP) (Sum.inl (k : Int)) = some (nI (placeOf ord ns k))
  | [], _, _, h => by cases h
  | c :: ord, [], e, _ => by cases e
  | c :: ord, n :: ns, e, h => by
    show valV (kvP (c, n) :: (ord.zip ns).map kvP) _ = some (nI ((((c, n) :: ord.zip ns).lookup k).getD 0))
    by_cases z : c = k
    · subst z
      rw [valV_pos (p := kvP (c, n)) (k := Sum.inl (c : Int)) rfl, List.lookup_cons_self]
      rfl
    · rw [valV_neg (p := kvP (c, n)) (k := Sum.inl (k : Int)) (fun e => z (by have e' : (Sum.inl (c : Int) : L2.Key) = Sum.inl (k : Int) := e; injection e' with e'; omega)), valP (by simpa using e) (by simpa [Ne.symm z] using h)]
      rw [List.lookup_cons, show (k == c) = false from beq_eq_false_iff_ne.mpr (Ne.symm z)]
      rfl
theorem valP_none {k : Nat} {l : List (Nat × Nat)} (h : ∀ q ∈ l, q.1 ≠ k) : valV (l.map kvP) (Sum.inl (k : Int)) = none := by
  unfold valV
  rw [Option.map_eq_none_iff, List.find?_eq_none]
  intro q hq z
  obtain ⟨p, hp, rfl⟩ := List.mem_map.mp hq
  have e : (Sum.inl (p.1 : Int) : L2.Key) = Sum.inl (k : Int) := of_decide_eq_true z
  injection e with e
  exact h p hp (by omega)
theorem Gv.at_ {d : Nat} : ∀ {j : Nat} {os : List PN} {ks ns : List Nat} {k n : Nat}, Gv d os ks ns → ks[j]? = some k → ns[j]? = some n → ∃ m, Best (os ++ (ns.zip ks).take j) d k m n
  | 0, os, _, _, k, n, .cons b _, e1, e2 => by
    cases e1
    cases e2
    exact ⟨_, by rw [List.take_zero, List.append_nil]; exact b⟩
  | j + 1, os, _, _, k, n, .cons (k := k0) (n := n0) b r, e1, e2 => by
    obtain ⟨m, h⟩ := Gv.at_ (j := j) r e1 e2
    refine ⟨m, ?_⟩
    rw [List.zip_cons_cons, List.take_succ_cons, ← List.singleton_append, ← List.append_assoc]
    exact h
/-! ### rows that stand side by side -/
structure Row where
  n : Nat
  k : Nat
  free : Bool
def Row.pn (r : Row) : PN := (r.n, r.k)
def Row.st (r : Row) : Str := if r.free then "free" else "out"
def Row.v (r : Row) : List V := [nI r.n, sI r.k, .str r.st]
inductive Rws (H : Hp) : List Addr → List Row → Prop
  | nil : Rws H [] []
  | cons {t : Addr} {r : Row} {ts : List Addr} {rs : List Row} : H t = some (.tup r.v) → Rws H ts rs → Rws H (t :: ts) (r :: rs)
theorem Rws.len {H : Hp} : ∀ {ts : List Addr} {rs : List Row}, Rws H ts rs → ts.length = rs.length
  | _, _, .nil => rfl
  | _, _, .cons _ h => congrArg (· + 1) h.len
theorem Rws.keep {H H' : Hp} : ∀ {ts : List Addr} {rs : List Row}, Rws H ts rs → (∀ t xs, H t = some (.tup xs) → H' t = some (.tup xs)) → Rws H' ts rs
  | _, _, .nil, _ => .nil
  | _, _, .cons a h, k => .cons (k _ _ a) (h.keep k)
theorem Rws.get {H : Hp} : ∀ {ts : List Addr} {rs : List Row}, Rws H ts rs → ∀ {i : Nat} {r : Row}, rs[i]? = some r → ∃ t, ts[i]? = some t ∧ H t = some (.tup r.v)
  | _, _, .nil, i, r, h => by cases h
  | _, _, .cons a h, 0, r, e => by
    cases e
    exact ⟨_, rfl, a⟩
  | _, _, .cons a h, i + 1, r, e => h.get (i := i) e
theorem Rws.snoc {H : Hp} {t : Addr} {r : Row} (ht : H t = some (.tup r.v)) : ∀ {ts : List Addr} {rs : List Row}, Rws H ts rs → Rws H (ts ++ [t]) (rs ++ [r])
  | _, _, .nil => .cons ht .nil
  | _, _, .cons a h => .cons a (h.snoc ht)
/-- what the rows' beginnings cover -/
theorem chain_cover : ∀ {L : List PN} {b e : Nat}, Chain b L e → (∀ q ∈ L, q.1 / 2 ^ q.2 * 2 ^ q.2 = q.1) → ∀ c, Oc L c ↔ b ≤ c ∧ c < e
  | [], b, e, h, _, c => by
    have h : b = e := h
    constructor
    · rintro ⟨q, m, _⟩
      cases m
    · omega
  | q :: L, b, e, ⟨h1, h2⟩, al, c => by
    have ih := chain_cover h2 (fun p hp => al p (List.mem_cons_of_mem _ hp)) c
    have aq := al q List.mem_cons_self
    have pq : 0 < 2 ^ q.2 := Nat.pow_pos (by decide)
    have le : q.1 + 2 ^ q.2 ≤ e := by
      have := chain_sum h2
      omega
    have iq : c / 2 ^ q.2 = q.1 / 2 ^ q.2 ↔ q.1 ≤ c ∧ c < q.1 + 2 ^ q.2 := by
      constructor
      · intro z
        have a1 := Nat.div_mul_le_self c (2 ^ q.2)
        have a2 := Nat.lt_div_mul_add (a := c) pq
        rw [z, aq] at a1 a2
        exact ⟨a1, a2⟩
      · rintro ⟨a1, a2⟩
        generalize q.1 / 2 ^ q.2 = i at aq
        refine Nat.div_eq_of_lt_le (by omega) ?_
        rw [Nat.succ_mul]
        omega
    have oc : Oc (q :: L) c ↔ c / 2 ^ q.2 = q.1 / 2 ^ q.2 ∨ Oc L c := by
      constructor
      · rintro ⟨p, hp, ep⟩
        rcases List.mem_cons.mp hp with rfl | hp
        · exact .inl ep
        · exact .inr ⟨p, hp, ep⟩
      · rintro (z | ⟨p, hp, ep⟩)
        · exact ⟨q, List.mem_cons_self, z⟩
        · exact ⟨p, List.mem_cons_of_mem _ hp, ep⟩
    rw [oc, iq, ih]
    omega
theorem chain_take : ∀ {L : List PN} {b e i : Nat} {q : PN}, Chain b L e → L[i]? = some q → Chain b (L.take i) q.1 ∧ q.1 + 2 ^ q.2 ≤ e
  | [], b, e, i, q, _, h => by cases h
  | p :: L, b, e, 0, q, ⟨h1, h2⟩, h => by
    cases h
    have := chain_sum h2
    exact ⟨h1.symm, by omega⟩
  | p :: L, b, e, i + 1, q, ⟨h1, h2⟩, h => by
    obtain ⟨a1, a2⟩ := chain_take (i := i) h2 h
    exact ⟨⟨h1, a1⟩, a2⟩
/-- where all before p is out and nothing behind it, a wish that fits at p is given there -/
theorem best_side {os : List PN} {d k p : Nat} (oc : ∀ c, Oc os c ↔ c < p) (al : p / 2 ^ k * 2 ^ k = p) (fits : p + 2 ^ k ≤ 2 ^ d) : ∃ m, Best os d k m p := by
  have pk : 0 < 2 ^ k := Nat.pow_pos (by decide)
  have lt : p < 2 ^ d := by omega
  have kd : k ≤ d := by
    refine Classical.byContradiction fun z => ?_
    have : 2 ^ d < 2 ^ k := Nat.pow_lt_pow_right (by decide) (by omega)
    omega
  have fr : Fr (Oc os) k (p / 2 ^ k) := fun c ec o => by
    have h1 := Nat.div_mul_le_self c (2 ^ k)
    rw [ec, al] at h1
    have := (oc c).mp o
    omega
  obtain ⟨m, km, hM⟩ := mx_exists lt _ k rfl kd fr
  have pm : 0 < 2 ^ m := Nat.pow_pos (by decide)
  have am : p / 2 ^ m * 2 ^ m = p := by
    have h1 := Nat.div_mul_le_self p (2 ^ m)
    refine Nat.le_antisymm h1 (Nat.le_of_not_lt fun z => ?_)
    refine hM.2.2.1 (p / 2 ^ m * 2 ^ m) (Nat.mul_div_cancel _ pm) ((oc _).mpr z)
  have notlow : ∀ {j i : Nat}, Mx (Oc os) d j i → p ≤ i * 2 ^ j := fun {j i} h => by
    have pj : 0 < 2 ^ j := Nat.pow_pos (by decide)
    refine Nat.le_of_not_lt fun z => ?_
    exact h.2.2.1 (i * 2 ^ j) (Nat.mul_div_cancel _ pj) ((oc _).mpr z)
  refine ⟨m, km, hM, am, fun j i _ jm h => ?_, fun i h => notlow h⟩
  have pj : 0 < 2 ^ j := Nat.pow_pos (by decide)
  have low := notlow h
  have jd : j < d := Nat.lt_of_lt_of_le jm hM.1
  obtain ⟨c, ec, o⟩ : ∃ c, c / 2 ^ (j + 1) = i / 2 ∧ Oc os c := Classical.byContradiction fun z => h.2.2.2 jd fun c ec o => z ⟨c, ec, o⟩
  have cp := (oc c).mp o
  have es : i * 2 ^ j / 2 ^ (j + 1) = i / 2 := by rw [blk_succ, Nat.mul_div_cancel _ pj]
  by_cases far : i * 2 ^ j < p + 2 ^ m
  · have e1 : i * 2 ^ j / 2 ^ m = p / 2 ^ m := by
      generalize p / 2 ^ m = t at am
      refine Nat.div_eq_of_lt_le (by omega) ?_
      rw [Nat.succ_mul]
      omega
    have e2 : c / 2 ^ m = i * 2 ^ j / 2 ^ m := blk_mono (by omega) (ec.trans es.symm)
    exact hM.2.2.1 c (e2.trans e1) o
  · have pj1 : 0 < 2 ^ (j + 1) := Nat.pow_pos (by decide)
    have a1 := Nat.lt_div_mul_add (a := i * 2 ^ j) pj1
    have a2 := Nat.div_mul_le_self c (2 ^ (j + 1))
    rw [es] at a1
    rw [ec] at a2
    have a3 : 2 ^ (j + 1) ≤ 2 ^ m := Nat.pow_le_pow_right (by decide) (by omega)
    omega
/-! ### name = {..} by a comprehension whose names the def bears too -/
section
open PySem PySem.Spec PyProof PyProof.Rows L2
variable {X : Cx}
theorem sw_trueD {kx vx : Expr} {gs : List Comprehension} {scope : Scope} {pos py : Pos} {y : Str} {l : Nat} {env : Env} (hk : env.scope.kind = .function) (hy : env.scope.names.lookup y = some .local) (hl : (py.line == pos.line) = true)
    (ha : (scope.names.any fun (n, k) => n == y && (k == .local || k == .cell)) = false) : swapsWith (.DictComp kx vx gs scope pos) (some (.Name y py)) l env = pure true := by
  have ky : env.kindOf y = some .local := hy
  have hb : env.blockKind = .function := by unfold Env.blockKind; rw [hk]; rfl
  unfold swapsWith
  simp only [hb, ky, ha, Expr.pos, hl]
  rfl
theorem ps_setDc {i : Nat} {y : Str} {py : Pos} {kx vx tg iter : Expr} {ifs : List Expr} {scope : Scope} {own : List (Str × Nat)} {pos spos : Pos} {wi : TI} {g : TG} {tt : TT} {tk tv : TE} (hc : X.calm = true) (hN : X.N.Nodup) (hy : X.N[i]? = some y) (hyl : X.env.scope.names.lookup y = some .local)
    (hsw : swapsWith (.DictComp kx vx [⟨tg, iter, ifs, 0⟩] scope pos) (some (.Name y py)) spos.line X.env = pure true) (hi : PI X tg iter wi) (ok : BlkOk X.N X.env.scope scope own)
    (hg : ∀ (s : Shared) (H : Hp) (C : Addr) (cl : List (Str × Addr)) (fp : List Addr), PG (X.blk s H scope (compEnvC scope cl C X.env) fp) tg g) (ht : ∀ (s : Shared) (H : Hp) (C : Addr) (cl : List (Str × Addr)) (fp : List Addr), PTs (X.blk s H scope (compEnvC scope cl C X.env) fp) ifs tt)
    (hk : ∀ (s : Shared) (H : Hp) (C : Addr) (cl : List (Str × Addr)) (fp : List Addr), PE (X.blk s H scope (compEnvC scope cl C X.env) fp) kx tk)
    (he : ∀ (s : Shared) (H : Hp) (C : Addr) (cl : List (Str × Addr)) (fp : List Addr), PE (X.blk s H scope (compEnvC scope cl C X.env) fp) vx tv) (hs : ∀ x, foldedSetIterable iter X.env x = pure x := by intro _; rfl) :
    PS X (.Assign [.Name y py] (.DictComp kx vx [⟨tg, iter, ifs, 0⟩] scope pos) spos) (tAsg (tDc wi g tt tk tv (own.map (·.2))) (gName i)) := by
  refine ⟨fun pins s σ H D I h => ?_⟩
  rw [exec_Assign_Name_used _ _ _ _ hsw]
  refine wpAny_bind (wpAny_standAt (wpAny_bind ?_))
  show wpAny _ X.A (do let _ ← comprehension (.DictComp kx vx [⟨tg, iter, ifs, 0⟩] scope pos) scope X.env (firstIterPos [⟨tg, iter, ifs, 0⟩] pos) newDict false (eval iter X.env) (some (assign (.Name y py) X.env))) _ _ s
  have h : tDc wi g tt tk tv (own.map (·.2)) σ H (fun x H1 => gName i x σ H1 D.nx) := h
  refine wpAny_bind (thn (dc_core (Qf := fun _ s' => SP X pins D .next s') hc hN I hi ok hg ht hk he hs h fun L C s' m H' I' q hn f => ?_) fun _ s' hq => wpAny_pure (wpAny_pure hq))
  show wpAny _ _ (assign (.Name y py) X.env (.ref L)) _ _ _
  refine wpAny_assign_Name (store_ok2 (v := V.ref L) I' hN hy (.inl hyl) rfl (fun s2 I2 ⟨a, sb, ha⟩ => ?_) (.inr hyl))
  obtain ⟨f0, f1, f2, f3, f4, f5⟩ := f
  have haC : C ≠ a := by
    rcases ha with z | z
    · rw [z]; exact f1
    · exact fun e => f4 y a z e.symm
  refine ⟨m, hn.sameBut sb haC, fun h3 sb3 => ?_⟩
  exact ⟨_, H', I2.turned (t' := s2.toks) (fun b o hb e => (sb3.2 b hb).trans e) f0 f1 f3 f4 f5, q⟩
end
theorem uniqN : ∀ {rows : List Row}, rows.Pairwise (fun r s => r.n ≠ s.n) → ∀ {r s : Row}, r ∈ rows → s ∈ rows → r.n = s.n → r = s
  | [], _, _, _, hr, _, _ => by cases hr
  | x :: l, h, r, s, hr, hs, e => by
    obtain ⟨h1, h2⟩ := List.pairwise_cons.mp h
    rcases List.mem_cons.mp hr with rfl | hr' <;> rcases List.mem_cons.mp hs with rfl | hs'
    · rfl
    · exact absurd e (h1 s hs')
    · exact absurd e.symm (h1 r hr')
    · exact uniqN h2 hr' hs' e
def outPn (rows : List Row) : List PN := (rows.filter fun r => !r.free).map Row.pn
def freeR (rows : List Row) : List Row := rows.filter fun r => r.free
theorem rows_ne {d : Nat} {rows : List Row} (g : Good d (rows.map Row.pn)) : rows.Pairwise fun r s => r.n ≠ s.n :=
  (List.pairwise_map.mp g.disj).imp fun {r s} h e => h r.n rfl (by show r.n / 2 ^ s.k = s.n / 2 ^ s.k; rw [e])
def sp_yard_of (_ : PySem.W.Frag) (a : Ad) : Sp := fun vs H Q _ => ∃ (l : Addr) (ts : List Addr) (rows : List Row) (d : Nat), vs = [sI d, .ref l] ∧ H l = some (.lst (ts.map V.ref)) ∧ Rws H ts rows ∧ Chain 0 (rows.map Row.pn) (2 ^ d) ∧ (∀ r ∈ rows, r.n / 2 ^ r.k * 2 ^ r.k = r.n) ∧ rows.length ≤ 20000 ∧ d ≤ 60 ∧
  ∀ (Y : YA) (H' : Hp), YardAt a Y d (outPn rows) H' → (∀ b ∈ own Y d, H b = none) → (∀ b o, H b = some o → H' b = some o) → Q (.ref Y.y) H'
theorem updB {a : Ad} {Y : YA} {d : Nat} {os : List PN} {H : Hp} (h : YardAt a Y d os H) {b : Addr} {xs : List V} {o : HO} (e : H b = some (.lst xs)) (n : b ∉ own Y d) : YardAt a Y d os (L2.upd H b o) := by
  have k : ∀ {c u}, H c = some u → (∀ xs, u ≠ .lst xs) → L2.upd H b o c = some u := fun {c u} ec nu => by
    rw [upd_ne (fun z => by rw [z, e] at ec; exact nu _ (Option.some.inj ec).symm)]
    exact ec
  refine ⟨k h.yo (by intro xs z; cases z), k h.so (by intro xs z; cases z), ⟨k h.po.ob (by intro xs z; cases z), k h.po.dk (by intro xs z; cases z), fun j hj => ?_, h.po.inj, h.po.rise, h.po.len, h.po.d60⟩, h.good, h.few, h.ne⟩
  rw [upd_ne (fun z => n (by rw [← z]; exact lsA_own _ (lsA_mem hj)))]
  exact h.po.at_ j hj
section
variable {P : Program} {w : World} {K : PySem.W.Frag} {mg : Str → Option Value} {base : Heap} {a : Ad}
theorem ok_yard_of (T : Txt K mg a) : FnOk P w K mg base CX0 5 a.f_yard_of a.d_yard_of ["cells", "rows"] (sp_yard_of K a) := by
  have G_Yard_init : FnOk P w K mg base (L2.CX P w) 3 a.f_Yard_init a.d_Yard_init ["self", "cells"] (sp_Yard_init K a) := ok_Yard_init T
  have G_Yard_give : FnOk P w K mg base (L2.CX P w) 4 a.f_Yard_give a.d_Yard_give ["self", "want"] (sp_Yard_give K a) := ok_Yard_give T
  have G_Yard_take_back : FnOk P w K mg base (L2.CX P w) 4 a.f_Yard_take_back a.d_Yard_take_back ["self", "at"] (sp_Yard_take_back K a) := ok_Yard_take_back T
  obtain ⟨tFREE, mFREE⟩ := T.v_FREE
  refine T.yard_of.fn.ok sc_yard_of (fun vs H Q E h => by first | (obtain ⟨rfl, _⟩ := h; rfl) | (obtain ⟨_, rfl, _⟩ := h; rfl) | (obtain ⟨_, _, rfl, _⟩ := h; rfl) | (obtain ⟨_, _, _, rfl, _⟩ := h; rfl) | (obtain ⟨_, _, _, _, rfl, _⟩ := h; rfl) | (obtain ⟨_, _, _, _, _, rfl, _⟩ := h; rfl) | (obtain ⟨_, _, _, _, _, _, rfl, _⟩ := h; rfl) | (obtain ⟨_, _, _, _, _, _, _, rfl, _⟩ := h; rfl) | (obtain ⟨_, _, _, _, _, _, _, _, rfl, _⟩ := h; rfl) | (obtain ⟨_, _, _, _, _, _, _, _, _, rfl, _⟩ := h; rfl) | (obtain ⟨_, _, _, _, _, _, _, _, _, _, rfl, _⟩ := h; rfl) | (obtain ⟨_, _, _, _, _, _, _, _, _, _, _, rfl, _⟩ := h; rfl)) (fun cdv A outer s H vs Q E hr h => ?_)
  refine ⟨_, pss_cons (ps_set (i := 2) sc_yard_of.nd rfl (Or.inl rfl) (pe_make T.m_Yard_init G_Yard_init (hr.mono (by decide)) rfl T.g_Yard T.b_Yard_init .nil passL (pa_cons (pv 0) pa_nil)))
      (pss_cons (ps_set (i := 3) sc_yard_of.nd rfl (Or.inl rfl) (pe_lst pa_nil))
      (pss_cons (ps_for PassesOwn.never rfl (pi_list (pv 1)) (pg_tup rfl (pgs_cons (pg_name (i := 4) sc_yard_of.nd rfl (Or.inl rfl)) (pgs_cons (pg_name (i := 5) sc_yard_of.nd rfl (Or.inl rfl)) (pgs_cons (pg_name (i := 6) sc_yard_of.nd rfl (Or.inl rfl)) pgs_nil)))) (pss_cons (ps_expr (pe_meth (pv 2) T.cl_Yard T.m_Yard_give G_Yard_give (hr.mono (by decide)) T.b_Yard_give .nil passL (pa_cons (pv 5) pa_nil)))
      (pss_one (ps_if (pt_cmpR op_eq (pv 6) (pe_glob (v := .str "free") rfl mFREE ⟨_, rfl⟩) (nomark _)) (pss_one (ps_expr (pe_bm PySem.F.plainAttrs_list PySem.F.slot_list_append PySem.F.type_list_append mt_append (pv 3) (pa_cons (pv 4) pa_nil)))) pss_nil))))
      (pss_cons (ps_for PassesOwn.never rfl (pi_list (pv 3)) (pg_name (i := 4) sc_yard_of.nd rfl (Or.inl rfl)) (pss_one (ps_expr (pe_meth (pv 2) T.cl_Yard T.m_Yard_take_back G_Yard_take_back (hr.mono (by decide)) T.b_Yard_take_back .nil passL (pa_cons (pv 4) pa_nil)))))
      (pss_one (ps_ret (pv 2)))))), ?_⟩
  obtain ⟨l, ts, rows, d, rfl, hat, rws, ch, al, few, d60, q⟩ := h
  have lts := rws.len
  have pd : 0 < 2 ^ d := Nat.pow_pos (by decide)
  refine ⟨_, rfl, fun y dy n1 n2 n3 => ⟨y, dy, _, rfl, upd_same, fun z => absurd ⟨d, d60, rfl⟩ z, fun d' d60' e Y H2 ey ya fr only => ⟨rfl, ?_⟩⟩⟩
  have ed := pow_inj e
  subst ed
  subst ey
  have k1 : ∀ b o, H b = some o → L2.upd (L2.upd H dy (.own Y.y)) Y.y (.ins a.c_Yard dy []) b = some o := fun b o eo => by
    have b1 : b ≠ Y.y := fun z => by rw [z, n1] at eo; cases eo
    have b2 : b ≠ dy := fun z => by rw [z, n2] at eo; cases eo
    rw [upd_ne b1, upd_ne b2]
    exact eo
  have k2 : ∀ b o, H b = some o → H2 b = some o := fun b o eo => only _ _ (k1 b o eo) (by
    have b1 : b ≠ Y.y := fun z => by rw [z, n1] at eo; cases eo
    simp [b1])
  have fresh : ∀ b ∈ own Y d, H b = none := fun b hb => Classical.byContradiction fun z => by
    obtain ⟨o, ho⟩ := Option.ne_none_iff_exists'.mp z
    have := k1 b o ho
    rw [fr b hb] at this
    cases this
  refine ⟨by show 0 ≤ sizeLine; omega, fun lb hlb => ?_⟩
  have nlb : lb ∉ own Y d := ya.new hlb
  have k3 : ∀ b o, H2 b = some o → L2.upd H2 lb (.lst []) b = some o := fun b o e => by rw [upd_ne (ne_of_none e hlb)]; exact e
  have hlb0 : H lb = none := Classical.byContradiction fun z => by
    obtain ⟨o, ho⟩ := Option.ne_none_iff_exists'.mp z
    rw [k2 _ _ ho] at hlb
    cases hlb
  -- all out
  refine ⟨_, rfl, l, rfl, ⟨_, SqL.of (k3 _ _ (k2 _ _ hat))⟩, ?_⟩
  refine for_list (xs := ts.map V.ref) (fun i σ H' => ∃ x4 x5 x6, σ = [some (sI d), some (.ref l), some (.ref Y.y), some (.ref lb), x4, x5, x6] ∧ YardAt a Y d ((rows.take i).map Row.pn) H' ∧ H' lb = some (.lst ((freeR (rows.take i)).map fun r => nI r.n)) ∧ (∀ b o, H b = some o → H' b = some o))
    ⟨_, _, _, rfl, ya.keep k3, upd_same, fun b o e => k3 _ _ (k2 _ _ e)⟩ (fun i σ H' _ p => by obtain ⟨_, _, _, _, _, _, p⟩ := p; exact SqL.of (p _ _ hat)) ?_ ?_
  · rintro i v σ H4 hv ⟨x4, x5, x6, rfl, y4, hb4, s4⟩
    have hi := (List.getElem?_eq_some_iff.mp hv).1
    rw [List.length_map, lts] at hi
    obtain ⟨r, hr⟩ : ∃ r, rows[i]? = some r := ⟨_, List.getElem?_eq_getElem hi⟩
    obtain ⟨t, ht, hatt⟩ := rws.get hr
    rw [List.getElem?_map, ht] at hv
    have hv := Option.some.inj hv
    subst hv
    have hatt4 := s4 _ _ hatt
    have pk : 0 < 2 ^ r.k := Nat.pow_pos (by decide)
    obtain ⟨c1, c2⟩ := chain_take (i := i) (q := r.pn) ch (by rw [List.getElem?_map, hr]; rfl)
    rw [← List.map_take] at c1
    have c2 : r.n + 2 ^ r.k ≤ 2 ^ d := c2
    have oc : ∀ c, Oc ((rows.take i).map Row.pn) c ↔ c < r.n := fun c => by
      rw [chain_cover c1 (fun q hq => by
        obtain ⟨s, hs, rfl⟩ := List.mem_map.mp hq
        exact al s (List.mem_of_mem_take hs)) c]
      show 0 ≤ c ∧ c < r.n ↔ _
      omega
    have ar := al r (List.mem_of_getElem? hr)
    obtain ⟨m0, best0⟩ := best_side oc ar c2
    have kd : r.k ≤ d := Nat.le_trans best0.le best0.mx.1
    have ft : fit ((2 ^ r.k : Nat) : Int) = r.k := fit_two (by omega)
    have et : rows.take (i + 1) = rows.take i ++ [r] := by rw [List.take_add_one, hr]; rfl
    refine ⟨t, _, rfl, SqT.of hatt4, rfl, ?_⟩
    refine ⟨_, _, rfl, _, _, rfl, _, _, rfl, rfl, ?_⟩
    refine ⟨_, rfl, Y.y, Y.dy, _, rfl, y4.yo, yFs_no Y d (by decide +kernel) (by decide +kernel) (by decide +kernel), _, rfl, Y, d, (rows.take i).map Row.pn, ((2 ^ r.k : Nat) : Int), rfl, y4, by rw [List.length_map, List.length_take]; omega, fun z => by omega, fun _ g H5 _ => ?_, fun g1 g2 m n best H5 y5 o5 => ?_⟩
    · exfalso
      rw [ft] at g
      rcases g with g | g
      · have : 2 ^ r.k ≤ 2 ^ d := Nat.pow_le_pow_right (by decide) kd
        omega
      · exact g _ _ best0.le best0.mx
    rw [ft] at best y5
    obtain ⟨em, en⟩ := best.uniq best0
    subst en
    have y5 : YardAt a Y d ((rows.take (i + 1)).map Row.pn) H5 := by
      rw [et, List.map_append]
      exact y5
    have hb5 := o5 _ _ hb4 nlb
    have s5 : ∀ b o, H b = some o → H5 b = some o := fun b o e => o5 _ _ (s4 _ _ e) fun z => by rw [fresh b z] at e; cases e
    refine ⟨_, rfl, rfl, _, rfl, ?_⟩
    cases hf : r.free with
    | true =>
      have es : r.st = "free" := by unfold Row.st; rw [hf]; rfl
      refine iteTof (by show decide (V.str r.st = V.str "free") = true; rw [es]; exact decide_eq_true rfl) ?_
      refine ⟨_, rfl, .inl ⟨rfl, _, SqL.of hb5⟩, _, rfl, lb, _, _, rfl, rfl, hb5, ?_, ?_⟩
      · rw [List.length_map, sizeLine_eq]
        have : (freeR (rows.take i)).length ≤ (rows.take i).length := List.length_filter_le _ _
        rw [List.length_take] at this
        omega
      · refine ⟨_, _, _, rfl, updB y5 hb5 nlb, ?_, fun b o e => ?_⟩
        · rw [upd_same, et]
          unfold freeR
          rw [List.filter_append, List.map_append, List.filter_cons_of_pos (by simpa using hf)]
          rfl
        · rw [upd_ne (fun z => by rw [z, hlb0] at e; cases e)]
          exact s5 _ _ e
    | false =>
      have es : r.st = "out" := by unfold Row.st; rw [hf]; rfl
      refine iteFof (by show decide (V.str r.st = V.str "free") = false; rw [es]; decide) ?_
      refine ⟨_, _, _, rfl, y5, ?_, s5⟩
      rw [hb5, et]
      unfold freeR
      rw [List.filter_append, List.filter_cons_of_neg (by simpa using hf)]
      simp
  · rintro σ H4 ⟨x4, x5, x6, rfl, y4, hb4, s4⟩
    rw [List.length_map, lts, List.take_length] at y4 hb4
    have gR := y4.good
    have ne := rows_ne gR
    have nb4 : lb ∉ own Y d := nlb
    generalize hF : freeR rows = F at hb4
    have ndF : F.Pairwise fun r s => r.n ≠ s.n := by rw [← hF]; exact ne.sublist List.filter_sublist
    have inF : ∀ r ∈ F, r ∈ rows := fun r hr => by rw [← hF] at hr; exact (List.mem_filter.mp hr).1
    have lF : F.length ≤ rows.length := by rw [← hF]; exact List.length_filter_le _ _
    refine ⟨_, rfl, lb, rfl, ⟨_, SqL.of hb4⟩, ?_⟩
    refine for_list (xs := F.map fun r => nI r.n) (fun j σ H' => ∃ x4 x5 x6, σ = [some (sI d), some (.ref l), some (.ref Y.y), some (.ref lb), x4, x5, x6] ∧ YardAt a Y d ((rows.map Row.pn).filter fun q => !((F.take j).map Row.n).contains q.1) H' ∧ H' lb = some (.lst (F.map fun r => nI r.n)) ∧ (∀ b o, H b = some o → H' b = some o))
      ⟨_, _, _, rfl, ?_, hb4, s4⟩ (fun j σ H' _ p => by obtain ⟨_, _, _, _, _, p, _⟩ := p; exact SqL.of p) ?_ ?_
    · have e0 : (rows.map Row.pn).filter (fun q => !(([] : List Row).map Row.n).contains q.1) = rows.map Row.pn := List.filter_eq_self.mpr fun q _ => rfl
      rw [List.take_zero, e0]
      exact y4
    · rintro j v σ H5 hv ⟨x4, x5, x6, rfl, y5, hb5, s5⟩
      have hj := (List.getElem?_eq_some_iff.mp hv).1
      rw [List.length_map] at hj
      obtain ⟨r, hr⟩ : ∃ r, F[j]? = some r := ⟨_, List.getElem?_eq_getElem hj⟩
      rw [List.getElem?_map, hr] at hv
      have hv := Option.some.inj hv
      subst hv
      have mr : r ∈ F := List.mem_of_getElem? hr
      have notT : r.n ∉ (F.take j).map Row.n := fun z => by
        obtain ⟨s, hs, e⟩ := List.mem_map.mp z
        obtain ⟨i, hi⟩ := List.mem_iff_getElem?.mp hs
        have il := (List.getElem?_eq_some_iff.mp hi).1
        rw [List.length_take] at il
        rw [List.getElem?_take, if_pos (by omega)] at hi
        obtain ⟨a1, a2⟩ := List.getElem?_eq_some_iff.mp hi
        obtain ⟨b1, b2⟩ := List.getElem?_eq_some_iff.mp hr
        have := List.pairwise_iff_getElem.mp ndF i j a1 b1 (by omega)
        rw [a2, b2] at this
        exact this e
      have mo : (r.n, r.k) ∈ (rows.map Row.pn).filter fun q => !((F.take j).map Row.n).contains q.1 := by
        refine List.mem_filter.mpr ⟨List.mem_map.mpr ⟨r, inF r mr, rfl⟩, ?_⟩
        show (!((F.take j).map Row.n).contains r.n) = true
        rw [Bool.not_eq_true', List.contains_eq_mem, decide_eq_false notT]
      refine ⟨_, rfl, Y.y, Y.dy, _, rfl, y5.yo, yFs_no Y d (by decide +kernel) (by decide +kernel) (by decide +kernel), _, rfl, Y, d, _, (r.n : Int), rfl, y5, fun z => absurd rfl (z _ mo), fun n' k' m' e H6 y6 o6 => ?_⟩
      have en : n' = r.n := by omega
      subst en
      refine ⟨_, _, _, rfl, ?_, o6 _ _ hb5 nlb, fun b o e => o6 _ _ (s5 _ _ e) fun z => by rw [fresh b z] at e; cases e⟩
      have et : F.take (j + 1) = F.take j ++ [r] := by rw [List.take_add_one, hr]; rfl
      have eo : (rows.map Row.pn).filter (fun q => !((F.take (j + 1)).map Row.n).contains q.1) = outs ((rows.map Row.pn).filter fun q => !((F.take j).map Row.n).contains q.1) r.n := by
        unfold outs
        rw [List.filter_filter, et, List.map_append]
        refine List.filter_congr fun q _ => ?_
        rw [List.contains_eq_mem, List.contains_eq_mem, ← decide_not, ← decide_not]
        by_cases e1 : q.1 = r.n <;> by_cases e2 : q.1 ∈ (F.take j).map Row.n <;> simp [e1, e2]
      rw [eo]
      exact y6
    · rintro σ H5 ⟨x4, x5, x6, rfl, y5, hb5, s5⟩
      rw [List.length_map, List.take_length] at y5
      refine ⟨_, rfl, q Y H5 ?_ fresh s5⟩
      have eo : (rows.map Row.pn).filter (fun q => !(F.map Row.n).contains q.1) = outPn rows := by
        unfold outPn
        rw [List.filter_map]
        congr 1
        refine List.filter_congr fun r hr => ?_
        show (!(F.map Row.n).contains r.n) = !r.free
        congr 1
        rw [List.contains_eq_mem]
        cases hf : r.free with
        | true =>
          refine decide_eq_true (List.mem_map.mpr ⟨r, ?_, rfl⟩)
          rw [← hF]
          exact List.mem_filter.mpr ⟨hr, hf⟩
        | false =>
          refine decide_eq_false fun z => ?_
          obtain ⟨s, hs, e⟩ := List.mem_map.mp z
          have es := uniqN ne (inF s hs) hr e
          subst es
          rw [← hF] at hs
          have := (List.mem_filter.mp hs).2
          rw [hf] at this
          cases this
      rw [← eo]
      exact y5
end
/-! ### a word that is a number -/
def Ascii (s : Str) : Prop := ∀ c ∈ s.cps.toList, c < 128
def numS (n : Nat) : Str := Str.ofString (toString ((n : Nat) : Int))
def Num (w : Str) (n : Nat) : Prop := w = numS n ∧ w.length ≤ 19
theorem dec_digit : ∀ c, c < 128 → PySem.Unicode.isDecimal c = true → 48 ≤ c ∧ c ≤ 57 := by decide +kernel
theorem digit_dec : ∀ c, c < 128 → 48 ≤ c ∧ c ≤ 57 → PySem.Unicode.isDecimal c = true := by decide +kernel
theorem numS_digits (n : Nat) : PySem.NumText.AllDigits (numS n).cps.toList := by
  intro c hc
  unfold numS at hc
  rw [PySem.W.KIN.signs_num] at hc
  obtain ⟨ch, hch, e⟩ := List.mem_map.mp hc
  have r := Nat.isDigit_of_mem_toDigits (by decide) (by decide) hch
  unfold Char.isDigit at r
  rw [Bool.and_eq_true, decide_eq_true_iff, decide_eq_true_iff] at r
  rw [← e]
  exact ⟨UInt32.le_iff_toNat_le.mp r.1, UInt32.le_iff_toNat_le.mp r.2⟩
theorem numS_ne (n : Nat) : (numS n).cps.toList ≠ [] := by
  unfold numS
  rw [PySem.W.KIN.signs_num]
  intro e
  have h := PySem.toDigits_len_ge 10 n
  rw [List.map_eq_nil_iff.mp e] at h
  exact absurd h (by decide)
theorem numS_inj {n m : Nat} (h : numS n = numS m) : n = m := by
  have e : (numS n).cps.toList = (numS m).cps.toList := by rw [h]
  unfold numS at e
  rw [PySem.W.KIN.signs_num, PySem.W.KIN.signs_num] at e
  have := congrArg PySem.NumText.digitsVal e
  rwa [PySem.W.KIN.val_back, PySem.W.KIN.val_back] at this
theorem isdec_digits {w : Str} (as : Ascii w) (h : Txt.isdecimal w = true) : PySem.NumText.AllDigits w.cps.toList ∧ w.cps.toList ≠ [] := by
  unfold Txt.isdecimal at h
  rw [Bool.and_eq_true, decide_eq_true_iff] at h
  obtain ⟨h1, h2⟩ := h
  refine ⟨fun c hc => dec_digit c (as c hc) ?_, fun e => ?_⟩
  · rw [← Array.all_toList, List.all_eq_true] at h2
    exact h2 c hc
  · have : w.cps.toList.length = w.length := Array.length_toList
    rw [e] at this
    have : w.length = 0 := this.symm
    omega
theorem num_isdec (n : Nat) : Txt.isdecimal (numS n) = true := by
  unfold Txt.isdecimal
  rw [Bool.and_eq_true, decide_eq_true_iff]
  refine ⟨?_, ?_⟩
  · have h := numS_ne n
    have : (numS n).cps.toList.length = (numS n).length := Array.length_toList
    have := List.length_pos_iff.mpr h
    omega
  · rw [← Array.all_toList, List.all_eq_true]
    intro c hc
    have := numS_digits n c hc
    exact digit_dec c (by omega) this
theorem num_int {n : Nat} (h : (numS n).length ≤ 19) : PySem.intText? (numS n) = some ((n : Nat) : Int) := by
  have e := PySem.intText_digits (numS_digits n) (numS_ne n) (by omega)
  unfold numS at e ⊢
  rw [PySem.W.KIN.signs_num, PySem.W.KIN.val_back] at e
  exact e
theorem val_lt : ∀ (cs : List Nat) (acc : Nat), PySem.NumText.AllDigits cs → cs.foldl (fun acc c => acc * 10 + (c - 48)) acc < (acc + 1) * 10 ^ cs.length
  | [], acc, _ => by
    show acc < (acc + 1) * 10 ^ 0
    omega
  | c :: cs, acc, h => by
    have hc := h.head
    have ih := val_lt cs (acc * 10 + (c - 48)) h.tail
    refine Nat.lt_of_lt_of_le ih ?_
    rw [List.length_cons, Nat.pow_succ, Nat.mul_comm (10 ^ cs.length) 10, ← Nat.mul_assoc]
    exact Nat.mul_le_mul_right _ (by omega)
def sp_read_number (_ : PySem.W.Frag) (a : Ad) : Sp := fun vs H Q E => ∃ w : Str, vs = [.str w] ∧ Ascii w ∧ w.length ≤ 1000000 ∧ (∀ n, Num w n → Q (nI n) H) ∧ ((∀ n, ¬ Num w n) → E (.ref a.c_NoNote) none H)
section
variable {P : Program} {w : World} {K : PySem.W.Frag} {mg : Str → Option Value} {base : Heap} {a : Ad}
theorem ok_read_number (T : Txt K mg a) : FnOk P w K mg base (L2.CX P w) 1 a.f_read_number a.d_read_number ["word"] (sp_read_number K a) := by
  obtain ⟨tM, mM⟩ := T.v_MOST
  refine T.read_number.fn.okX sc_read_number (fun vs H Q E h => by first | (obtain ⟨rfl, _⟩ := h; rfl) | (obtain ⟨_, rfl, _⟩ := h; rfl) | (obtain ⟨_, _, rfl, _⟩ := h; rfl) | (obtain ⟨_, _, _, rfl, _⟩ := h; rfl) | (obtain ⟨_, _, _, _, rfl, _⟩ := h; rfl) | (obtain ⟨_, _, _, _, _, rfl, _⟩ := h; rfl) | (obtain ⟨_, _, _, _, _, _, rfl, _⟩ := h; rfl) | (obtain ⟨_, _, _, _, _, _, _, rfl, _⟩ := h; rfl) | (obtain ⟨_, _, _, _, _, _, _, _, rfl, _⟩ := h; rfl) | (obtain ⟨_, _, _, _, _, _, _, _, _, rfl, _⟩ := h; rfl) | (obtain ⟨_, _, _, _, _, _, _, _, _, _, rfl, _⟩ := h; rfl) | (obtain ⟨_, _, _, _, _, _, _, _, _, _, _, rfl, _⟩ := h; rfl)) (fun cdv A outer s H vs Q E hr h => ?_)
  refine ⟨_, pss_cons (ps_if (PW.pt (pw_or (pt_not (pt_truth (pe_bm0 PySem.F.plainAttrs_str PySem.F.slot_str_isdecimal PySem.F.type_str_isdecimal mt_isdecimal (pv 0)) (by intro _; rfl))) (pw_or1 (pt_cmpR op_gt (pe_callB call_len_str (by rfl) T.z_len PySem.boot_len (pa_cons (pv 0) pa_nil)) (pe_callB call_len_str (by rfl) T.z_len PySem.boot_len (pa_cons (pe_callTy call_str_int (by rfl) T.z_str (by decide +kernel) (pa_cons (pe_glob (v := .int 1152921504606846976) rfl mM ⟨_, rfl⟩) pa_nil)) pa_nil)) (nomark _))))) (pss_one (ps_raise rfl (takes_of rfl rfl rfl rfl) (pmk_own PySem.F.excBase_ValueError T.e_NoNote.x T.e_NoNote.g T.e_NoNote.k (raises_own T.e_NoNote.is.hs T.e_NoNote.t) (by exact rfl)))) pss_nil)
      (pss_cons (ps_set (i := 1) sc_read_number.nd rfl (Or.inl rfl) (pe_callTy call_int_str (by rfl) T.z_int (by decide +kernel) (pa_cons (pv 0) pa_nil)))
      (pss_cons (ps_if (pt_cmpR op_ne (pe_callTy call_str_int (by rfl) T.z_str (by decide +kernel) (pa_cons (pv 1) pa_nil)) (pv 0) (nomark _)) (pss_one (ps_raise rfl (takes_of rfl rfl rfl rfl) (pmk_own PySem.F.excBase_ValueError T.e_NoNote.x T.e_NoNote.g T.e_NoNote.k (raises_own T.e_NoNote.is.hs T.e_NoNote.t) (by exact rfl)))) pss_nil)
      (pss_one (ps_ret (pv 1))))), ?_⟩
  obtain ⟨x, rfl, as, lx, q1, q2⟩ := h
  refine ⟨_, rfl, rfl, x, rfl, rfl, trivial, ?_⟩
  have no : (∃ n, Num x n) ∨ ∀ n, ¬ Num x n := (Classical.em _).imp id fun z n h => z ⟨n, h⟩
  cases hd : Txt.isdecimal x with
  | false =>
    have hn : ∀ n, ¬ Num x n := fun n ⟨e, _⟩ => by rw [e, num_isdec] at hd; cases hd
    refine ⟨false, rfl, iteTof rfl ?_⟩
    exact q2 hn
  | true =>
    obtain ⟨ad, ne⟩ := isdec_digits as hd
    refine ⟨true, rfl, iteFof rfl ?_⟩
    have e19 : (Str.ofString (toString (1152921504606846976 : Int))).length = 19 := by decide +kernel
    refine ⟨_, rfl, _, rfl, by rw [sizeLine_eq]; omega, _, rfl, by decide, _, rfl, by rw [e19]; decide, _, _, rfl, rfl, _, rfl, ?_⟩
    by_cases l19 : x.length ≤ 19
    · refine iteFof (decide_eq_false (by rw [e19]; omega)) ?_
      have ei := PySem.intText_digits ad ne (by omega)
      have small : PySem.NumText.digitsVal x.cps.toList < 2 ^ 70 := by
        have h := val_lt x.cps.toList 0 ad
        have e : x.cps.toList.length = x.length := Array.length_toList
        have p : 10 ^ x.cps.toList.length ≤ 10 ^ 19 := Nat.pow_le_pow_right (by decide) (by omega)
        have q : (10 : Nat) ^ 19 < 2 ^ 70 := by decide
        unfold PySem.NumText.digitsVal
        omega
      generalize PySem.NumText.digitsVal x.cps.toList = m at ei small
      refine ⟨_, rfl, x, _, rfl, ei, by omega, ?_⟩
      refine ⟨_, rfl, _, rfl, ?_, _, rfl, rfl, _, rfl, ?_⟩
      · rw [Int.natAbs_natCast]
        by_cases z : m = 0
        · subst z
          decide
        · have := (Nat.log2_lt z).mpr small
          omega
      by_cases ex : numS m = x
      · refine iteFof (by show (!decide (V.str (numS m) = V.str x)) = false; rw [ex, decide_eq_true rfl]; rfl) ?_
        exact ⟨_, rfl, q1 m ⟨ex.symm, l19⟩⟩
      · refine iteTof (by show (!decide (V.str (numS m) = V.str x)) = true; rw [decide_eq_false (show ¬ V.str (numS m) = V.str x from fun z => ex (V.str.inj z))]; rfl) ?_
        refine q2 fun n ⟨e, _⟩ => ex ?_
        rw [e] at ei l19
        rw [num_int l19] at ei
        have : n = m := Int.ofNat.inj (Option.some.inj ei)
        rw [← this, e]
    · refine iteTof (decide_eq_true (by rw [e19]; omega)) ?_
      exact q2 fun n ⟨_, l⟩ => l19 l
end
/-! ### the rows together -/
def sp_count_cells (_ : PySem.W.Frag) (a : Ad) : Sp := fun vs H Q E => ∃ (l : Addr) (ts : List Addr) (rows : List Row), vs = [.ref l] ∧ H l = some (.lst (ts.map V.ref)) ∧ Rws H ts rows ∧
  (∀ d, d ≤ 60 → Chain 0 (rows.map Row.pn) (2 ^ d) → Q (sI d) H) ∧ ((∀ d, d ≤ 60 → ¬ Chain 0 (rows.map Row.pn) (2 ^ d)) → E (.ref a.c_NoNote) none H)
theorem chain_app : ∀ {L : List PN} {b m : Nat} {q : PN}, Chain b L m → q.1 = m → Chain b (L ++ [q]) (q.1 + 2 ^ q.2)
  | [], b, m, q, h, e => by
    have h : b = m := h
    exact ⟨e.trans h.symm, rfl⟩
  | p :: L, b, m, q, ⟨h1, h2⟩, e => ⟨h1, chain_app h2 e⟩
section
variable {P : Program} {w : World} {K : PySem.W.Frag} {mg : Str → Option Value} {base : Heap} {a : Ad}
theorem ok_count_cells (T : Txt K mg a) : FnOk P w K mg base (L2.CX P w) 2 a.f_count_cells a.d_count_cells ["rows"] (sp_count_cells K a) := by
  have G_is_size : FnOk P w K mg base CX0 1 a.f_is_size a.d_is_size ["number"] (sp_is_size K a) := ok_is_size T
  refine T.count_cells.fn.okX sc_count_cells (fun vs H Q E h => by first | (obtain ⟨rfl, _⟩ := h; rfl) | (obtain ⟨_, rfl, _⟩ := h; rfl) | (obtain ⟨_, _, rfl, _⟩ := h; rfl) | (obtain ⟨_, _, _, rfl, _⟩ := h; rfl) | (obtain ⟨_, _, _, _, rfl, _⟩ := h; rfl) | (obtain ⟨_, _, _, _, _, rfl, _⟩ := h; rfl) | (obtain ⟨_, _, _, _, _, _, rfl, _⟩ := h; rfl) | (obtain ⟨_, _, _, _, _, _, _, rfl, _⟩ := h; rfl) | (obtain ⟨_, _, _, _, _, _, _, _, rfl, _⟩ := h; rfl) | (obtain ⟨_, _, _, _, _, _, _, _, _, rfl, _⟩ := h; rfl) | (obtain ⟨_, _, _, _, _, _, _, _, _, _, rfl, _⟩ := h; rfl) | (obtain ⟨_, _, _, _, _, _, _, _, _, _, _, rfl, _⟩ := h; rfl)) (fun cdv A outer s H vs Q E hr h => ?_)
  refine ⟨_, pss_cons (ps_set (i := 1) sc_count_cells.nd rfl (Or.inl rfl) pe_int)
      (pss_cons (ps_for (passes_of rfl) rfl (pi_list (pv 0)) (pg_tup rfl (pgs_cons (pg_name (i := 2) sc_count_cells.nd rfl (Or.inl rfl)) (pgs_cons (pg_name (i := 3) sc_count_cells.nd rfl (Or.inl rfl)) (pgs_cons (pg_name (i := 4) sc_count_cells.nd rfl (Or.inl rfl)) pgs_nil)))) (pss_cons (ps_if (pt_cmpR op_ne (pv 2) (pv 1) (nomark _)) (pss_one (ps_raise rfl (takes_of rfl rfl rfl rfl) (pmk_own PySem.F.excBase_ValueError T.e_NoNote.x T.e_NoNote.g T.e_NoNote.k (raises_own T.e_NoNote.is.hs T.e_NoNote.t) (by exact rfl)))) pss_nil)
      (pss_one (ps_aug (i := 1) sc_count_cells.nd rfl (Or.inl rfl) (pv 3) ip_add))))
      (pss_cons (ps_if (pt_not (pt_val (pe_call G_is_size (hr.mono (by decide)) rfl T.is_size.mg T.is_size.fn.kp T.is_size.bd .nil pass0 (pa_cons (pv 1) pa_nil)))) (pss_one (ps_raise rfl (takes_of rfl rfl rfl rfl) (pmk_own PySem.F.excBase_ValueError T.e_NoNote.x T.e_NoNote.g T.e_NoNote.k (raises_own T.e_NoNote.is.hs T.e_NoNote.t) (by exact rfl)))) pss_nil)
      (pss_one (ps_ret (pv 1))))), ?_⟩
  obtain ⟨l, ts, rows, rfl, hat, rws, q1, q2⟩ := h
  have lts := rws.len
  refine ⟨_, rfl, l, rfl, ⟨_, SqL.of hat⟩, ?_⟩
  refine for_list (xs := ts.map V.ref) (fun i σ H' => ∃ (e : Nat) (x2 x3 x4 : Option V), H' = H ∧ σ = [some (.ref l), some (nI e), x2, x3, x4] ∧ Chain 0 ((rows.take i).map Row.pn) e)
    ⟨0, none, none, none, rfl, rfl, rfl⟩ (fun i σ H' _ p => by obtain ⟨_, _, _, _, p, _⟩ := p; rw [p]; exact SqL.of hat) ?_ ?_
  · rintro i v σ H4 hv ⟨e, x2, x3, x4, rfl, rfl, ch⟩
    have hi := (List.getElem?_eq_some_iff.mp hv).1
    rw [List.length_map, lts] at hi
    obtain ⟨r, hr⟩ : ∃ r, rows[i]? = some r := ⟨_, List.getElem?_eq_getElem hi⟩
    obtain ⟨t, ht, hatt⟩ := rws.get hr
    rw [List.getElem?_map, ht] at hv
    have hv := Option.some.inj hv
    subst hv
    have et : rows.take (i + 1) = rows.take i ++ [r] := by rw [List.take_add_one, hr]; rfl
    refine ⟨t, _, rfl, SqT.of hatt, rfl, _, _, rfl, _, _, rfl, _, _, rfl, rfl, ?_⟩
    refine ⟨_, rfl, _, rfl, rfl, _, rfl, ?_⟩
    by_cases ee : r.n = e
    · refine iteFof (by show (!decide (nI r.n = nI e)) = false; rw [ee, decide_eq_true rfl]; rfl) ?_
      refine ⟨_, rfl, _, rfl, _, _, rfl, rfl, ?_⟩
      refine ⟨e + 2 ^ r.k, some (nI r.n), some (sI r.k), some (.str r.st), rfl, ?_, ?_⟩
      · show [some (V.ref l), some (V.int ((e : Int) + ((2 ^ r.k : Nat) : Int))), some (nI r.n), some (sI r.k), some (.str r.st)] = _
        rw [← Int.natCast_add]
        rfl
      · rw [et, List.map_append, ← ee]
        rw [← ee] at ch
        exact chain_app (q := r.pn) ch rfl
    · refine iteTof (by show (!decide (nI r.n = nI e)) = true; rw [decide_eq_false (show ¬ nI r.n = nI e from fun z => ee (Int.ofNat.inj (V.int.inj z)))]; rfl) ?_
      refine q2 fun d d60 full => ee ?_
      obtain ⟨c1, _⟩ := chain_take (i := i) (q := r.pn) full (by rw [List.getElem?_map, hr]; rfl)
      rw [← List.map_take] at c1
      have s1 := chain_sum c1
      have s2 := chain_sum ch
      show r.pn.1 = e
      omega
  · rintro σ H4 ⟨e, x2, x3, x4, rfl, rfl, ch⟩
    rw [List.length_map, lts, List.take_length] at ch
    refine ⟨_, rfl, (e : Int), rfl, fun ⟨d, d60, ed⟩ => ⟨true, rfl, iteF ?_⟩, fun z => ⟨false, rfl, iteT ?_⟩⟩
    · have ed : e = 2 ^ d := Int.ofNat.inj ed
      subst ed
      exact ⟨_, rfl, q1 d d60 ch⟩
    · refine q2 fun d d60 full => z ⟨d, d60, ?_⟩
      have s1 := chain_sum full
      have s2 := chain_sum ch
      have : e = 2 ^ d := by omega
      rw [this]
end
/-! ### a row -/
def RowOf (s : Str) (r : Row) : Prop := ∃ w0 w1 : Str, Txt.split s " " = [w0, w1, r.st] ∧ Num w0 r.n ∧ Num w1 (2 ^ r.k) ∧ r.k ≤ 60 ∧ r.n / 2 ^ r.k * 2 ^ r.k = r.n
def sp_read_row (_ : PySem.W.Frag) (a : Ad) : Sp := fun vs H Q E => ∃ s : Str, vs = [.str s] ∧ s.length ≤ 1000000 ∧ (∀ x ∈ Txt.split s " ", Ascii x ∧ x.length ≤ 1000000) ∧
  (∀ r, RowOf s r → ∀ (t : Addr) (H' : Hp), (∀ b o, H b = some o → H' b = some o) → H' t = some (.tup r.v) → Q (.ref t) H') ∧ ((∀ r, ¬ RowOf s r) → ∀ H' : Hp, (∀ b o, H b = some o → H' b = some o) → E (.ref a.c_NoNote) none H')
theorem inV_two {w : Str} : inV (.str w) [.str "out", .str "free"] = true ↔ w = "out" ∨ w = "free" := by
  unfold inV
  simp [eqV]
  constructor
  · rintro (h | h)
    · exact .inl h.symm
    · exact .inr h.symm
  · rintro (h | h)
    · exact .inl h.symm
    · exact .inr h.symm
theorem num_uniq {w : Str} {n m : Nat} (h : Num w n) (g : Num w m) : n = m := numS_inj (h.1.symm.trans g.1)
section
variable {P : Program} {w : World} {K : PySem.W.Frag} {mg : Str → Option Value} {base : Heap} {a : Ad}
theorem ok_read_row (T : Txt K mg a) : FnOk P w K mg base (L2.CX P w) 2 a.f_read_row a.d_read_row ["row"] (sp_read_row K a) := by
  have G_is_size : FnOk P w K mg base CX0 1 a.f_is_size a.d_is_size ["number"] (sp_is_size K a) := ok_is_size T
  have G_read_number : FnOk P w K mg base (L2.CX P w) 1 a.f_read_number a.d_read_number ["word"] (sp_read_number K a) := ok_read_number T
  obtain ⟨tOUT, mOUT⟩ := T.v_OUT
  obtain ⟨tFREE, mFREE⟩ := T.v_FREE
  refine T.read_row.fn.okX sc_read_row (fun vs H Q E h => by first | (obtain ⟨rfl, _⟩ := h; rfl) | (obtain ⟨_, rfl, _⟩ := h; rfl) | (obtain ⟨_, _, rfl, _⟩ := h; rfl) | (obtain ⟨_, _, _, rfl, _⟩ := h; rfl) | (obtain ⟨_, _, _, _, rfl, _⟩ := h; rfl) | (obtain ⟨_, _, _, _, _, rfl, _⟩ := h; rfl) | (obtain ⟨_, _, _, _, _, _, rfl, _⟩ := h; rfl) | (obtain ⟨_, _, _, _, _, _, _, rfl, _⟩ := h; rfl) | (obtain ⟨_, _, _, _, _, _, _, _, rfl, _⟩ := h; rfl) | (obtain ⟨_, _, _, _, _, _, _, _, _, rfl, _⟩ := h; rfl) | (obtain ⟨_, _, _, _, _, _, _, _, _, _, rfl, _⟩ := h; rfl) | (obtain ⟨_, _, _, _, _, _, _, _, _, _, _, rfl, _⟩ := h; rfl)) (fun cdv A outer s H vs Q E hr h => ?_)
  refine ⟨_, pss_cons (ps_set (i := 1) sc_read_row.nd rfl (Or.inl rfl) (pe_split (pv 0) pe_str))
      (pss_cons (ps_if (PW.pt (pw_or (pt_cmpR op_ne (pe_callB call_len_seq (by rfl) T.z_len PySem.boot_len (pa_cons (pv 1) pa_nil)) pe_int (nomark _)) (pw_or1 (pt_cmpR op_notIn_seq (pe_ix ix_list (pv 1) pe_int (fun _ _ => rfl)) (pe_tup (pa_cons (pe_glob (v := .str "out") rfl mOUT ⟨_, rfl⟩) (pa_cons (pe_glob (v := .str "free") rfl mFREE ⟨_, rfl⟩) pa_nil))) (by rfl))))) (pss_one (ps_raise rfl (takes_of rfl rfl rfl rfl) (pmk_own PySem.F.excBase_ValueError T.e_NoNote.x T.e_NoNote.g T.e_NoNote.k (raises_own T.e_NoNote.is.hs T.e_NoNote.t) (by exact rfl)))) pss_nil)
      (pss_cons (ps_set (i := 2) sc_read_row.nd rfl (Or.inl rfl) (pe_call G_read_number (hr.mono (by decide)) rfl T.read_number.mg T.read_number.fn.kp T.read_number.bd .nil (passX (takes_of rfl rfl rfl rfl)) (pa_cons (pe_ix ix_list (pv 1) pe_int (fun _ _ => rfl)) pa_nil)))
      (pss_cons (ps_set (i := 3) sc_read_row.nd rfl (Or.inl rfl) (pe_call G_read_number (hr.mono (by decide)) rfl T.read_number.mg T.read_number.fn.kp T.read_number.bd .nil (passX (takes_of rfl rfl rfl rfl)) (pa_cons (pe_ix ix_list (pv 1) pe_int (fun _ _ => rfl)) pa_nil)))
      (pss_cons (ps_if (PW.pt (pw_or (pt_not (pt_val (pe_call G_is_size (hr.mono (by decide)) rfl T.is_size.mg T.is_size.fn.kp T.is_size.bd .nil pass0 (pa_cons (pv 3) pa_nil)))) (pw_or1 (pt_cmpR op_ne (pe_op op_modN (pv 2) (pv 3)) pe_int (nomark _))))) (pss_one (ps_raise rfl (takes_of rfl rfl rfl rfl) (pmk_own PySem.F.excBase_ValueError T.e_NoNote.x T.e_NoNote.g T.e_NoNote.k (raises_own T.e_NoNote.is.hs T.e_NoNote.t) (by exact rfl)))) pss_nil)
      (pss_one (ps_ret (pe_tup (pa_cons (pv 2) (pa_cons (pv 3) (pa_cons (pe_ix ix_list (pv 1) pe_int (fun _ _ => rfl)) pa_nil)))))))))), ?_⟩
  obtain ⟨s, rfl, ls, as, q1, q2⟩ := h
  refine ⟨_, rfl, ⟨_, rfl⟩, s, _, rfl, rfl, by decide, by rw [sizeLine_eq]; omega, fun p hp => ?_⟩
  have kp : ∀ b o, H b = some o → L2.upd H p (.lst ((Txt.split s " ").map V.str)) b = some o := fun b o e => by rw [upd_ne (ne_of_none e hp)]; exact e
  have hpp : L2.upd H p (.lst ((Txt.split s " ").map V.str)) p = some (.lst ((Txt.split s " ").map V.str)) := upd_same
  generalize L2.upd H p (.lst ((Txt.split s " ").map V.str)) = H1 at kp hpp
  refine ⟨_, rfl, p, _, rfl, .inl (SqL.of hpp), rfl, _, rfl, ?_⟩
  unfold RowOf at q1 q2
  generalize hws : Txt.split s " " = ws at as q1 q2 hpp
  by_cases l3 : ws.length = 3
  · obtain ⟨w0, w1, w2, rfl⟩ : ∃ w0 w1 w2, ws = [w0, w1, w2] := by
      match ws, l3 with
      | [w0, w1, w2], _ => exact ⟨w0, w1, w2, rfl⟩
    refine iteFof rfl ?_
    refine ⟨_, rfl, p, _, _, .str w2, rfl, rfl, SqL.of hpp, at_of (j := 2) rfl rfl, ?_⟩
    refine ⟨by show 2 ≤ sizeLine; decide, fun t ht => ?_⟩
    have kt : ∀ b o, H1 b = some o → L2.upd H1 t (.tup [.str "out", .str "free"]) b = some o := fun b o e => by rw [upd_ne (ne_of_none e ht)]; exact e
    refine ⟨t, _, rfl, .inr (SqT.of upd_same), rfl, rfl, _, rfl, ?_⟩
    have hp2 := kt _ _ hpp
    have k2 : ∀ b o, H b = some o → L2.upd H1 t (.tup [.str "out", .str "free"]) b = some o := fun b o e => kt _ _ (kp _ _ e)
    generalize L2.upd H1 t (.tup [.str "out", .str "free"]) = H2 at hp2 k2
    by_cases hw2 : w2 = "out" ∨ w2 = "free"
    · obtain ⟨fr, ef⟩ : ∃ fr : Bool, w2 = Row.st ⟨0, 0, fr⟩ := by
        rcases hw2 with h | h
        · exact ⟨false, h⟩
        · exact ⟨true, h⟩
      refine iteFof (by show (!inV (.str w2) [.str "out", .str "free"]) = false; rw [inV_two.mpr hw2]; rfl) ?_
      have a0 := as w0 (by simp)
      have a1 := as w1 (by simp)
      refine ⟨_, rfl, p, _, _, .str w0, rfl, rfl, SqL.of hp2, at_of (j := 0) rfl rfl, w0, rfl, a0.1, a0.2, fun n hn => ?_, fun no => ?_⟩
      · refine ⟨_, rfl, p, _, _, .str w1, rfl, rfl, SqL.of hp2, at_of (j := 1) rfl rfl, w1, rfl, a1.1, a1.2, fun m hm => ?_, fun no => ?_⟩
        · refine ⟨_, rfl, (m : Int), rfl, fun ⟨k, k60, ek⟩ => ⟨true, rfl, iteF ?_⟩, fun z => ⟨false, rfl, iteT ?_⟩⟩
          · have ek : m = 2 ^ k := Int.ofNat.inj ek
            subst ek
            have pk : 0 < 2 ^ k := Nat.pow_pos (by decide)
            refine ⟨_, rfl, _, rfl, _, _, rfl, rfl, by show ((2 ^ k : Nat) : Int) ≠ 0; omega, rfl, _, rfl, ?_⟩
            have em : (n : Int).fmod ((2 ^ k : Nat) : Int) = ((n % 2 ^ k : Nat) : Int) := by
              rw [Int.fmod_eq_emod_of_nonneg _ (by omega)]
              exact (Int.natCast_emod n (2 ^ k)).symm
            have ea : n / 2 ^ k * 2 ^ k = n ↔ n % 2 ^ k = 0 := by
              have := Nat.div_add_mod n (2 ^ k)
              rw [Nat.mul_comm] at this
              omega
            by_cases c3 : n % 2 ^ k = 0
            · refine iteFof (by show (!decide (V.int ((n : Int).fmod ((2 ^ k : Nat) : Int)) = V.int 0)) = false; rw [em, c3]; rfl) ?_
              refine ⟨_, rfl, _, rfl, _, rfl, p, _, _, .str w2, rfl, rfl, SqL.of hp2, at_of (j := 2) rfl rfl, by show 3 ≤ sizeLine; decide, fun t ht => ?_⟩
              refine q1 ⟨n, k, fr⟩ ⟨w0, w1, ?_, hn, hm, k60, ea.mpr c3⟩ t _ (fun b o e => by rw [upd_ne (ne_of_none (k2 _ _ e) ht)]; exact k2 _ _ e) ?_
              · rw [ef]
                rfl
              · rw [upd_same, ef]
                rfl
            · refine iteTof (by show (!decide (V.int ((n : Int).fmod ((2 ^ k : Nat) : Int)) = V.int 0)) = true; rw [em, decide_eq_false fun z => c3 (by have := V.int.inj z; omega)]; rfl) ?_
              refine q2 (fun r ⟨v0, v1, e, g0, g1, _, g3⟩ => ?_) H2 k2
              injection e with e1 e
              injection e with e2 e
              subst e1
              subst e2
              have en := num_uniq hn g0
              have ek := num_uniq hm g1
              rw [← en, ← ek] at g3
              exact c3 (ea.mp g3)
          · refine q2 (fun r ⟨v0, v1, e, g0, g1, g2, _⟩ => z ⟨r.k, g2, ?_⟩) H2 k2
            injection e with e1 e
            injection e with e2 e
            subst e2
            rw [num_uniq hm g1]
        · refine q2 (fun r ⟨v0, v1, e, g0, g1, _⟩ => ?_) H2 k2
          injection e with e1 e
          injection e with e2 e
          subst e2
          exact no _ g1
      · refine q2 (fun r ⟨v0, v1, e, g0, g1, _⟩ => ?_) H2 k2
        injection e with e1 e
        subst e1
        exact no _ g0
    · refine iteTof ?_ ?_
      · show (!inV (.str w2) [.str "out", .str "free"]) = true
        rw [show inV (.str w2) [.str "out", .str "free"] = false from Bool.eq_false_iff.mpr fun z => hw2 (inV_two.mp z)]
        rfl
      · refine q2 (fun r ⟨v0, v1, e, _⟩ => hw2 ?_) H2 k2
        injection e with e1 e
        injection e with e2 e
        injection e with e3 e
        rw [e3]
        unfold Row.st
        cases r.free
        · exact .inl rfl
        · exact .inr rfl
  · refine iteTof ?_ (iteT ?_)
    · show (!decide (V.int ((ws.map V.str).length : Int) = V.int 3)) = true
      rw [List.length_map, decide_eq_false (fun z => l3 (by have := V.int.inj z; omega))]
      rfl
    · refine q2 (fun r ⟨w0, w1, e, _⟩ => l3 ?_) H1 kp
      rw [e]
      rfl
end
/-! ### two twins that are both free -/
def FreeTw (rows : List Row) : Prop := ∃ r ∈ rows, ∃ s ∈ rows, r.free = true ∧ s.free = true ∧ s.k = r.k ∧ s.n = sib (r.n / 2 ^ r.k) * 2 ^ r.k
def kvR (r : Row) : Key × V := (Sum.inl (r.n : Int), sI r.k)
def sp_refuse_free_twins (_ : PySem.W.Frag) (a : Ad) : Sp := fun vs H Q E => ∃ (l : Addr) (ts : List Addr) (rows : List Row), vs = [.ref l] ∧ H l = some (.lst (ts.map V.ref)) ∧ Rws H ts rows ∧ rows.Pairwise (fun r s => r.n ≠ s.n) ∧ (∀ r ∈ rows, r.n / 2 ^ r.k * 2 ^ r.k = r.n) ∧ rows.length ≤ 20000 ∧
  (FreeTw rows → ∀ H' : Hp, (∀ b o, H b = some o → H' b = some o) → E (.ref a.c_NoNote) none H') ∧ (¬ FreeTw rows → ∀ H' : Hp, (∀ b o, H b = some o → H' b = some o) → Q .non H')
theorem putK_newP {kvs : List (Key × V)} {k : Key} {v : V} (h : ∀ p ∈ kvs, p.1 ≠ k) : putK kvs k v = kvs ++ [(k, v)] := by
  unfold putK
  rw [if_neg]
  intro z
  obtain ⟨p, hp, e⟩ := List.any_eq_true.mp z
  exact h p hp (of_decide_eq_true e)
theorem valF {F : List Row} {m : Nat} : valV (F.map kvR) (Sum.inl (m : Int)) = (F.find? fun s => decide (s.n = m)).map fun s => sI s.k := by
  unfold valV
  rw [List.find?_map]
  have e : ((fun kv : Key × V => decide (kv.1 = Sum.inl (m : Int))) ∘ kvR) = fun s : Row => decide (s.n = m) := by
    funext s
    show decide ((Sum.inl (s.n : Int) : Key) = Sum.inl (m : Int)) = decide (s.n = m)
    rw [decide_eq_decide]
    exact ⟨fun z => Int.ofNat.inj (Sum.inl.inj z), fun z => by rw [z]⟩
  rw [e, Option.map_map]
  rfl
section
variable {P : Program} {w : World} {K : PySem.W.Frag} {mg : Str → Option Value} {base : Heap} {a : Ad}
theorem ok_refuse_free_twins (T : Txt K mg a) : FnOk P w K mg base (L2.CX P w) 2 a.f_refuse_free_twins a.d_refuse_free_twins ["rows"] (sp_refuse_free_twins K a) := by
  have G_twin_of : FnOk P w K mg base CX0 1 a.f_twin_of a.d_twin_of ["at", "size"] (sp_twin_of K a) := ok_twin_of T
  obtain ⟨tFREE, mFREE⟩ := T.v_FREE
  refine T.refuse_free_twins.fn.okX sc_refuse_free_twins (fun vs H Q E h => by first | (obtain ⟨rfl, _⟩ := h; rfl) | (obtain ⟨_, rfl, _⟩ := h; rfl) | (obtain ⟨_, _, rfl, _⟩ := h; rfl) | (obtain ⟨_, _, _, rfl, _⟩ := h; rfl) | (obtain ⟨_, _, _, _, rfl, _⟩ := h; rfl) | (obtain ⟨_, _, _, _, _, rfl, _⟩ := h; rfl) | (obtain ⟨_, _, _, _, _, _, rfl, _⟩ := h; rfl) | (obtain ⟨_, _, _, _, _, _, _, rfl, _⟩ := h; rfl) | (obtain ⟨_, _, _, _, _, _, _, _, rfl, _⟩ := h; rfl) | (obtain ⟨_, _, _, _, _, _, _, _, _, rfl, _⟩ := h; rfl) | (obtain ⟨_, _, _, _, _, _, _, _, _, _, rfl, _⟩ := h; rfl) | (obtain ⟨_, _, _, _, _, _, _, _, _, _, _, rfl, _⟩ := h; rfl)) (fun cdv A outer s H vs Q E hr h => ?_)
  refine ⟨_, pss_cons (ps_setDc (i := 3) (own := [("at", 1), ("size", 2), ("state", 4)]) (g := gTup K 3 (gCons (gName 1) (gCons (gName 2) (gCons (gName 4) gNil)))) (tt := (tTest (tOp rEq (tVar 4) (tC (.str "free"))))) rfl sc_refuse_free_twins.nd rfl rfl (sw_trueD rfl rfl rfl (by decide +kernel)) (pi_list (pv 0)) (blkOk_by (own := [("at", 1), ("size", 2), ("state", 4)]) (N := ["rows", "at", "size", "sizes", "state"]) (sc := defScope s_refuse_free_twins) (by decide +kernel)) (fun _ _ _ _ _ => (pg_tup rfl (pgs_cons (pg_name (i := 1) sc_refuse_free_twins.nd rfl (Or.inl rfl)) (pgs_cons (pg_name (i := 2) sc_refuse_free_twins.nd rfl (Or.inl rfl)) (pgs_cons (pg_name (i := 4) sc_refuse_free_twins.nd rfl (Or.inl rfl)) pgs_nil))))) (fun _ _ _ _ _ => (pts_one (pt_cmpR op_eq (pv 4) (pe_glob (v := .str "free") rfl mFREE ⟨_, rfl⟩) (nomark _)))) (fun _ _ _ _ _ => (pv 1)) (fun _ _ _ _ _ => (pv 2)))
      (pss_one (ps_lock (ps_for (passes_of rfl) rfl (pi_items (pv 3)) (pg_tup rfl (pgs_cons (pg_name (i := 1) sc_refuse_free_twins.nd rfl (Or.inl rfl)) (pgs_cons (pg_name (i := 2) sc_refuse_free_twins.nd rfl (Or.inl rfl)) pgs_nil))) (pss_one (ps_if (pt_cmpR op_eq (pe_dget1 (hu_of hr) (pv 3) (pe_call G_twin_of (hr.mono (by decide)) rfl T.twin_of.mg T.twin_of.fn.kp T.twin_of.bd .nil pass0 (pa_cons (pv 1) (pa_cons (pv 2) pa_nil))) ⟨rfl, rfl, rfl, rfl⟩) (pv 2) (nomark _)) (pss_one (ps_raise rfl (takes_of rfl rfl rfl rfl) (pmk_own PySem.F.excBase_ValueError T.e_NoNote.x T.e_NoNote.g T.e_NoNote.k (raises_own T.e_NoNote.is.hs T.e_NoNote.t) (by exact rfl)))) pss_nil))))), ?_⟩
  obtain ⟨l, ts, rows, rfl, hat, rws, ne, al, few, q1, q2⟩ := h
  have lts := rws.len
  refine ⟨_, rfl, l, rfl, ⟨_, SqL.of hat⟩, fun D newD => ?_⟩
  refine lc_out walk_list (fun j H' => H' D = some (.dK ((freeR (rows.take j)).map kvR)) ∧ (∀ b o, H b = some o → H' b = some o))
    ⟨upd_same, fun b o e => by rw [upd_ne (ne_of_none e newD)]; exact e⟩ (fun j H' _ p => SqL.of (p.2 _ _ hat)) ?_ ?_
  · rintro j v H3 H4 hj ⟨hD, s2⟩ ⟨rfl, hv⟩
    rw [List.length_map, lts] at hj
    obtain ⟨r, hr⟩ : ∃ r, rows[j]? = some r := ⟨_, List.getElem?_eq_getElem hj⟩
    obtain ⟨t, ht, hatt⟩ := rws.get hr
    rw [List.getElem?_map, ht] at hv
    have hv := Option.some.inj hv
    subst hv
    have et : rows.take (j + 1) = rows.take j ++ [r] := by rw [List.take_add_one, hr]; rfl
    refine ⟨t, _, rfl, SqT.of (s2 _ _ hatt), rfl, _, _, rfl, _, _, rfl, _, _, rfl, rfl, rfl, ?_⟩
    refine ⟨_, rfl, rfl, _, rfl, ?_⟩
    cases hf : r.free with
    | true =>
      have es : r.st = "free" := by unfold Row.st; rw [hf]; rfl
      refine iteTof (by show decide (V.str r.st = V.str "free") = true; rw [es]; exact decide_eq_true rfl) ?_
      refine ⟨_, rfl, _, rfl, _, Sum.inl (r.n : Int), rfl, hD, ?_, ?_, fun b o e => ?_⟩
      · rw [List.length_map, sizeLine_eq]
        have : (freeR (rows.take j)).length ≤ (rows.take j).length := List.length_filter_le _ _
        rw [List.length_take] at this
        omega
      · rw [upd_same, putK_newP, et]
        · unfold freeR
          rw [List.filter_append, List.map_append, List.filter_cons_of_pos (by simpa using hf)]
          rfl
        · intro p hp e
          obtain ⟨s, hs, rfl⟩ := List.mem_map.mp hp
          have hs := (List.mem_filter.mp hs).1
          obtain ⟨i, hi⟩ := List.mem_iff_getElem?.mp hs
          have il := (List.getElem?_eq_some_iff.mp hi).1
          rw [List.length_take] at il
          rw [List.getElem?_take, if_pos (by omega)] at hi
          obtain ⟨a1, a2⟩ := List.getElem?_eq_some_iff.mp hi
          obtain ⟨b1, b2⟩ := List.getElem?_eq_some_iff.mp hr
          have := List.pairwise_iff_getElem.mp ne i j a1 b1 (by omega)
          rw [a2, b2] at this
          exact this (Int.ofNat.inj (Sum.inl.inj e))
      · rw [upd_ne (fun z => by rw [z, newD] at e; cases e)]
        exact s2 _ _ e
    | false =>
      have es : r.st = "out" := by unfold Row.st; rw [hf]; rfl
      refine iteFof (by show decide (V.str r.st = V.str "free") = false; rw [es]; decide) ?_
      refine ⟨?_, s2⟩
      rw [hD, et]
      unfold freeR
      rw [List.filter_append, List.filter_cons_of_neg (by simpa using hf)]
      simp
  rintro H2 ⟨hD, s2⟩
  rw [List.length_map, lts, List.take_length] at hD
  generalize hF : freeR rows = F at hD
  have inF : ∀ r, r ∈ F ↔ r ∈ rows ∧ r.free = true := fun r => by rw [← hF]; exact List.mem_filter
  have nlD : ∀ b o, H b = some o → b ≠ D := fun b o e z => by rw [z, newD] at e; cases e
  refine ⟨D, _, hD, trivial, fun od => ?_⟩
  refine ⟨_, rfl, D, od, _, rfl, upd_same, ?_⟩
  have lock : ∀ b o, H b = some o → L2.upd H2 D (.frz od (.dK (F.map kvR))) b = some o := fun b o e => by rw [upd_ne (nlD b o e)]; exact s2 _ _ e
  refine for_it walk_items (fun i σ H' => (∃ x1 x2 x4, σ = [some (.ref l), x1, x2, some (.ref D), x4]) ∧ (∀ j r, j < i → F[j]? = some r → ¬ ∃ s ∈ F, s.k = r.k ∧ s.n = sib (r.n / 2 ^ r.k) * 2 ^ r.k) ∧ (∀ b o, L2.upd H2 D (.frz od (.dK (F.map kvR))) b = some o → H' b = some o))
    ⟨⟨_, _, _, rfl⟩, fun j r h => by omega, fun b o e => e⟩ (fun i σ H' _ p => p.2.2 _ _ upd_same) ?_ ?_
  · rintro i x σ H3 H4 hi ⟨⟨x1, x2, x4, rfl⟩, none_yet, same⟩ ⟨t, u, v, rfl, new, rfl, eu, ev⟩
    rw [List.length_map] at hi
    dsimp only at eu ev
    obtain ⟨r, hr⟩ : ∃ r, F[i]? = some r := ⟨_, List.getElem?_eq_getElem hi⟩
    rw [List.getElem?_map, hr] at eu ev
    have eu : nI r.n = u := Option.some.inj eu
    have ev : sI r.k = v := Option.some.inj ev
    subst eu ev
    have mr := (inF r).mp (List.mem_of_getElem? hr)
    have ar := al r mr.1
    have hfz : L2.upd H3 t (.tup [nI r.n, sI r.k]) D = some (.frz od (.dK (F.map kvR))) := by
      rw [upd_ne (ne_of_none (same _ _ upd_same) new)]
      exact same _ _ upd_same
    have grow : ∀ b o, L2.upd H2 D (.frz od (.dK (F.map kvR))) b = some o → L2.upd H3 t (.tup [nI r.n, sI r.k]) b = some o := fun b o e => by
      have z := same b o e
      rw [upd_ne (ne_of_none z new)]
      exact z
    refine ⟨t, _, rfl, SqT.of upd_same, rfl, _, _, rfl, _, _, rfl, rfl, ?_⟩
    generalize L2.upd H3 t (.tup [nI r.n, sI r.k]) = H5 at hfz grow
    refine ⟨_, rfl, D, rfl, .inl ⟨_, .inr ⟨od, hfz⟩⟩, _, rfl, _, rfl, r.n / 2 ^ r.k, r.k, by show [nI r.n, sI r.k] = _; rw [ar], _, .inl ⟨_, Sum.inl ((sib (r.n / 2 ^ r.k) * 2 ^ r.k : Nat) : Int), .inr ⟨od, hfz⟩, rfl, rfl⟩, _, rfl, ?_⟩
    rw [valF]
    have next : (¬ ∃ s ∈ F, s.k = r.k ∧ s.n = sib (r.n / 2 ^ r.k) * 2 ^ r.k) → ∀ j q, j < i + 1 → F[j]? = some q → ¬ ∃ s ∈ F, s.k = q.k ∧ s.n = sib (q.n / 2 ^ q.k) * 2 ^ q.k := fun z j q hj e => by
      by_cases ej : j = i
      · subst ej
        rw [hr] at e
        rw [← Option.some.inj e]
        exact z
      · exact none_yet j q (by omega) e
    cases hs : F.find? fun s => decide (s.n = sib (r.n / 2 ^ r.k) * 2 ^ r.k) with
    | none =>
      have no := List.find?_eq_none.mp hs
      refine ⟨rfl, _, rfl, iteFof rfl ?_⟩
      exact ⟨⟨_, _, _, rfl⟩, next fun ⟨s, hs, _, e⟩ => no s hs (decide_eq_true e), grow⟩
    | some s =>
      have es : s.n = sib (r.n / 2 ^ r.k) * 2 ^ r.k := by
        have := List.find?_some hs
        exact of_decide_eq_true this
      have ms := List.mem_of_find?_eq_some hs
      refine ⟨rfl, _, rfl, ?_⟩
      by_cases ek : s.k = r.k
      · refine iteTof (by show decide (sI s.k = sI r.k) = true; rw [ek]; exact decide_eq_true rfl) ?_
        exact q1 ⟨r, mr.1, s, ((inF s).mp ms).1, mr.2, ((inF s).mp ms).2, ek, es⟩ H5 fun b o e => grow _ _ (lock _ _ e)
      · refine iteFof (by show decide (sI s.k = sI r.k) = false; exact decide_eq_false fun z => ek (pow_inj (V.int.inj z))) ?_
        refine ⟨⟨_, _, _, rfl⟩, next fun ⟨s', hs', e1, e2⟩ => ek ?_, grow⟩
        have := uniqN ne ((inF s).mp ms).1 ((inF s').mp hs').1 (es.trans e2.symm)
        rw [this, e1]
  · rintro σ H3 ⟨⟨x1, x2, x4, rfl⟩, none_yet, same⟩
    rw [List.length_map] at none_yet
    refine ⟨same _ _ upd_same, ?_⟩
    refine q2 (fun ⟨r, hr, s, hs, f1, f2, e1, e2⟩ => ?_) _ (fun b o e => ?_)
    · obtain ⟨j, hj⟩ := List.mem_iff_getElem?.mp ((inF r).mpr ⟨hr, f1⟩)
      exact none_yet j r (List.getElem?_eq_some_iff.mp hj).1 hj ⟨s, (inF s).mpr ⟨hs, f2⟩, e1, e2⟩
    · rw [upd_ne (nlD b o e)]
      exact same _ _ (lock _ _ e)
end
/-! ### what is free in a yard of rows -/
theorem out_mem {rows : List Row} {q : PN} : q ∈ outPn rows ↔ ∃ r ∈ rows, r.free = false ∧ r.pn = q := by
  unfold outPn
  rw [List.mem_map]
  constructor
  · rintro ⟨r, hr, e⟩
    obtain ⟨h1, h2⟩ := List.mem_filter.mp hr
    exact ⟨r, h1, by simpa using h2, e⟩
  · rintro ⟨r, h1, h2, e⟩
    exact ⟨r, List.mem_filter.mpr ⟨h1, by simpa using h2⟩, e⟩
theorem cover_row {d : Nat} {rows : List Row} (g : Good d (rows.map Row.pn)) (ch : Chain 0 (rows.map Row.pn) (2 ^ d)) {c : Nat} (hc : c < 2 ^ d) (no : ¬ Oc (outPn rows) c) : ∃ s ∈ rows, s.free = true ∧ c / 2 ^ s.k = s.n / 2 ^ s.k := by
  have oc := (chain_cover ch (fun q hq => (g.each q hq).2.1) c).mpr ⟨Nat.zero_le _, hc⟩
  obtain ⟨q, hq, e⟩ := oc
  obtain ⟨s, hs, rfl⟩ := List.mem_map.mp hq
  refine ⟨s, hs, ?_, e⟩
  cases hf : s.free with
  | true => rfl
  | false => exact absurd ⟨s.pn, out_mem.mpr ⟨s, hs, hf, rfl⟩, e⟩ no
theorem same_row {d : Nat} {rows : List Row} (g : Good d (rows.map Row.pn)) {r s : Row} (hr : r ∈ rows) (hs : s ∈ rows) {c : Nat} (e1 : c / 2 ^ r.k = r.n / 2 ^ r.k) (e2 : c / 2 ^ s.k = s.n / 2 ^ s.k) : r = s := by
  have := g.one (List.mem_map.mpr ⟨r, hr, rfl⟩) (List.mem_map.mpr ⟨s, hs, rfl⟩) e1 e2
  exact uniqN (rows_ne g) hr hs (congrArg Prod.fst this)
theorem free_max {d : Nat} {rows : List Row} (g : Good d (rows.map Row.pn)) (ch : Chain 0 (rows.map Row.pn) (2 ^ d)) (nt : ¬ FreeTw rows) : ∀ (k : Nat) (r : Row), r ∈ rows → r.free = true → r.k = k → k < d → ¬ Fr (Oc (outPn rows)) (k + 1) (r.n / 2 ^ k / 2) := by
  intro k
  induction k using Nat.strongRecOn with
  | ind k ih =>
    intro r hr fr ek kd fp
    subst ek
    have pk : 0 < 2 ^ r.k := Nat.pow_pos (by decide)
    have gr := g.each r.pn (List.mem_map.mpr ⟨r, hr, rfl⟩)
    have ec : sib (r.n / 2 ^ r.k) * 2 ^ r.k / 2 ^ r.k = sib (r.n / 2 ^ r.k) := Nat.mul_div_cancel _ pk
    have ep : sib (r.n / 2 ^ r.k) * 2 ^ r.k / 2 ^ (r.k + 1) = r.n / 2 ^ r.k / 2 := by rw [blk_succ, ec, sib_half]
    have hc : sib (r.n / 2 ^ r.k) * 2 ^ r.k < 2 ^ d := by
      have ed : 2 ^ d = 2 ^ (d - (r.k + 1)) * 2 ^ (r.k + 1) := by rw [← Nat.pow_add]; congr 1; omega
      have p1 : 0 < 2 ^ (r.k + 1) := Nat.pow_pos (by decide)
      rw [ed]
      refine (Nat.div_lt_iff_lt_mul p1).mp ?_
      rw [ep, ← blk_succ]
      exact blk_lt gr.2.2 kd
    obtain ⟨s, hs, fs, es⟩ := cover_row g ch hc (fp _ ep)
    rcases Nat.lt_trichotomy s.k r.k with z | z | z
    · refine ih s.k z s hs fs rfl (by omega) ?_
      rw [← blk_succ, ← blk_mono (show s.k ≤ s.k + 1 by omega) es]
      refine fr_down (m := r.k + 1) ?_ (by omega)
      rw [ep]
      exact fp
    · refine nt ⟨r, hr, s, hs, fr, fs, z, ?_⟩
      have as := (g.each s.pn (List.mem_map.mpr ⟨s, hs, rfl⟩)).2.1
      have as : s.n / 2 ^ s.k * 2 ^ s.k = s.n := as
      rw [← as, ← es, z, ec]
    · have e2 : r.n / 2 ^ s.k = s.n / 2 ^ s.k := by
        rw [← es]
        refine blk_mono (show r.k + 1 ≤ s.k by omega) ?_
        rw [ep, blk_succ]
      have := same_row g hr hs rfl e2
      rw [this] at z
      omega
theorem free_mx {d : Nat} {rows : List Row} (g : Good d (rows.map Row.pn)) (ch : Chain 0 (rows.map Row.pn) (2 ^ d)) (nt : ¬ FreeTw rows) {j i : Nat} : Mx (Oc (outPn rows)) d j i ↔ ∃ r ∈ rows, r.free = true ∧ r.k = j ∧ r.n / 2 ^ j = i := by
  have notO : ∀ {s : Row} {c : Nat}, s ∈ rows → s.free = true → c / 2 ^ s.k = s.n / 2 ^ s.k → ¬ Oc (outPn rows) c := fun {s c} hs fs e ⟨q, hq, eq⟩ => by
    obtain ⟨o, ho, fo, rfl⟩ := out_mem.mp hq
    have := same_row g hs ho e eq
    rw [this, fo] at fs
    cases fs
  constructor
  · rintro ⟨jd, hi, f, mx⟩
    have pj : 0 < 2 ^ j := Nat.pow_pos (by decide)
    have e : i * 2 ^ j / 2 ^ j = i := Nat.mul_div_cancel _ pj
    have ed : 2 ^ d = 2 ^ (d - j) * 2 ^ j := by rw [← Nat.pow_add]; congr 1; omega
    have lt : i * 2 ^ j < 2 ^ d := by rw [ed]; exact (Nat.mul_lt_mul_right pj).mpr hi
    obtain ⟨s, hs, fs, es⟩ := cover_row g ch lt (f _ e)
    have sd := (g.each s.pn (List.mem_map.mpr ⟨s, hs, rfl⟩)).1
    have sd : s.k ≤ d := sd
    rcases Nat.lt_trichotomy s.k j with z | z | z
    · exfalso
      refine free_max g ch nt s.k s hs fs rfl (by omega) ?_
      rw [← blk_succ, ← blk_mono (show s.k ≤ s.k + 1 by omega) es]
      refine fr_down (m := j) ?_ (by omega)
      rw [e]
      exact f
    · refine ⟨s, hs, fs, z, ?_⟩
      rw [z] at es
      rw [← es, e]
    · exfalso
      refine mx (by omega) fun c ec => notO hs fs ?_
      rw [← es]
      refine blk_mono (show j + 1 ≤ s.k by omega) ?_
      rw [ec, blk_succ, e]
  · rintro ⟨r, hr, fr, rfl, rfl⟩
    have gr := g.each r.pn (List.mem_map.mpr ⟨r, hr, rfl⟩)
    exact ⟨gr.1, blk_lt gr.2.2 gr.1, fun c ec => notO hr fr ec, fun l => free_max g ch nt r.k r hr fr rfl l⟩
theorem chain_lt : ∀ {L : List PN} {b e : Nat}, Chain b L e → L.Pairwise (fun p q => p.1 < q.1) ∧ ∀ q ∈ L, b ≤ q.1
  | [], b, e, _ => ⟨.nil, fun q h => by cases h⟩
  | p :: L, b, e, ⟨h1, h2⟩ => by
    obtain ⟨a1, a2⟩ := chain_lt h2
    have pp : 0 < 2 ^ p.2 := Nat.pow_pos (by decide)
    refine ⟨List.pairwise_cons.mpr ⟨fun q hq => ?_, a1⟩, fun q hq => ?_⟩
    · have := a2 q hq
      omega
    · rcases List.mem_cons.mp hq with rfl | hq
      · omega
      · have := a2 q hq
        omega
theorem srt_rows {L M : List PN} (pm : M.Perm L) (h : M.Pairwise fun p q => p.1 < q.1) : srt (L.map toI) = M.map toI := by
  refine (srt_of (pm.map toI) (List.pairwise_map.mpr (h.imp fun {p q} l => ?_))).symm
  rw [SrtO.lexB_no]
  show ¬ ((q.1 : Int) < (p.1 : Int) ∨ _)
  unfold toI
  show ¬ ((q.1 : Int) < (p.1 : Int) ∨ ((q.1 : Int) = (p.1 : Int) ∧ _))
  omega
theorem sub_rows {rows : List Row} {e : Nat} (ch : Chain 0 (rows.map Row.pn) e) (f : Row → Bool) : ((rows.filter f).map Row.pn).Pairwise fun p q => p.1 < q.1 :=
  (chain_lt ch).1.sublist (List.filter_sublist.map _)
theorem outZ_rows {rows : List Row} {e : Nat} (ch : Chain 0 (rows.map Row.pn) e) : outZ (outPn rows) = (outPn rows).map toI := srt_rows (List.Perm.refl _) (sub_rows ch _)
theorem frees_rows {d : Nat} {rows : List Row} (g : Good d (rows.map Row.pn)) (go : Good d (outPn rows)) (ch : Chain 0 (rows.map Row.pn) (2 ^ d)) (nt : ¬ FreeTw rows) : frees (outPn rows) d = ((freeR rows).map Row.pn).map toI := by
  rw [frees_eq]
  have st : ((freeR rows).map Row.pn).Pairwise fun p q => p.1 < q.1 := sub_rows ch _
  refine srt_rows ?_ st
  refine (List.perm_ext_iff_of_nodup (st.imp fun {p q} l e => by rw [e] at l; omega) ?_).mpr fun q => ?_
  · exact (List.nodup_append.mp (good_all go).nodup).2.1
  · rw [freeP_mem, free_mx g ch nt]
    constructor
    · intro h
      obtain ⟨r, hr, rfl⟩ := List.mem_map.mp h
      obtain ⟨h1, h2⟩ := List.mem_filter.mp hr
      exact ⟨⟨r, h1, h2, rfl, rfl⟩, (g.each r.pn (List.mem_map.mpr ⟨r, h1, rfl⟩)).2.1⟩
    · rintro ⟨⟨r, h1, h2, e1, e2⟩, al⟩
      refine List.mem_map.mpr ⟨r, List.mem_filter.mpr ⟨h1, h2⟩, ?_⟩
      have ar := (g.each r.pn (List.mem_map.mpr ⟨r, h1, rfl⟩)).2.1
      have ar : r.n / 2 ^ r.k * 2 ^ r.k = r.n := ar
      refine Prod.ext ?_ e1
      show r.n = q.1
      rw [← al, ← e2, ← e1, ar]
theorem good_rows {d : Nat} : ∀ {L : List PN} {b e : Nat}, Chain b L e → (∀ q ∈ L, q.1 / 2 ^ q.2 * 2 ^ q.2 = q.1) → e ≤ 2 ^ d → Good d L
  | [], b, e, _, _, _ => Good.nil d
  | q :: L, b, e, ⟨h1, h2⟩, al, le => by
    have gL := good_rows h2 (fun p hp => al p (List.mem_cons_of_mem _ hp)) le
    have aq := al q List.mem_cons_self
    have pq : 0 < 2 ^ q.2 := Nat.pow_pos (by decide)
    have s := chain_sum h2
    refine ⟨fun p hp => ?_, List.pairwise_cons.mpr ⟨fun p hp c e1 e2 => ?_, gL.disj⟩⟩
    · rcases List.mem_cons.mp hp with rfl | hp
      · exact ⟨(Nat.pow_le_pow_iff_right (a := 2) (by decide)).mp (by omega), aq, by omega⟩
      · exact gL.each p hp
    · have a2 := Nat.lt_div_mul_add (a := c) pq
      rw [e1, aq] at a2
      have := (chain_cover h2 (fun p hp => al p (List.mem_cons_of_mem _ hp)) c).mp ⟨p, hp, e2⟩
      omega
/-! ### name = [..] by a comprehension whose element may raise an error of the def's -/
section
open PySem PySem.Spec PyProof PyProof.Rows L2
theorem note_same {e : Value} {c d : Env} (h : c.frame = d.frame) : noteFrame e c = noteFrame e d := by
  unfold noteFrame PySem.frameOf
  rw [h]
/-- what a comprehension's block comes to: as in the library, but an error is passed on by the block's own environment -/
def endX (M : Model) (A : Around) (E : Value → Shared → Prop) (use : Option (Value → Sem Unit)) (Q : Value → Shared → Prop) (acc : Value) (ce : Env) : Result → Shared → Prop
  | .ok f, t => compPost M A E use Q acc ce.locals (.ok f) t
  | .error x, t => ∃ m, t.heap.Ns ce.locals m ∧ ∀ g, Heap.SameBut ce.locals t.heap g →
      wpAny M A (passOn "comprehension.variables-let-go" x ce : Sem Value) (fun _ _ => False) E { t with heap := g }
theorem comp_ends {M : Model} {A : Around} {E : Value → Shared → Prop} {s : Shared} {env : Env} {e : Expr} {scope : Scope} {pos : Pos} {nw fst : Sem Value} {g : Comprehension} {gs : List Comprehension}
    {cl : List (Str × Addr)} {use : Option (Value → Sem Unit)} {Q : Value → Shared → Prop}
    (c1 : clausesOf e = g :: gs) (c2 : ∀ x, foldedSetIterable g.iter env x = pure x) (c3 : closureFor scope env = pure cl)
    (kd : scope.kind = .function) (nms : ∀ x ∈ scope.names, x.2 = .local → scope.names.lookup x.1 = some .local)
    (run : wpAny M A fst (fun x t1 => wpAny M A (pyIter x) (fun it t2 => wpAny M A nw (fun acc t3 =>
      wpAny M A (newFunctionEnv scope env.globals cl [] env.qual none .none (some env)) (fun ce t4 =>
        codeAny M A (.compStart e 0 it acc { ce with scope := relabel scope env }) (endX M A E use Q acc { ce with scope := relabel scope env }) t4) E t3) E t2) E t1) E s) :
    wpAny M A (comprehension e scope env pos nw false fst use) Q E s := by
  unfold comprehension
  rw [c3, c1]
  have up : ∀ {α : Type} {m : Sem α} {Q1 Q2 : α → Shared → Prop} {t : Shared}, wpAny M A m Q1 E t → (∀ v u, Q1 v u → Q2 v u) → wpAny M A m Q2 E t := fun z k => wpAny_mono z k fun _ _ y => y
  refine wpAny_bind (up run fun x t1 r1 => wpAny_bind (wpAny_standAt (wpAny_bind (wpAny_of_eq (c2 x) (wpAny_bind (wpAny_holding (up r1 fun it t2 r2 => ?_)))))))
  refine wpAny_standIf (wpAny_bind (up r2 fun acc t3 r3 => wpAny_bind (wpAny_pure (wpAny_bind (up r3 fun ce t4 r4 => ?_)))))
  dsimp only
  have vars : ∀ L : List (Str × NameKind), (∀ x ∈ L, x ∈ scope.names) → ∀ x ∈ L, x.2 = .local → Env.kindOf { ce with scope := relabel scope env } x.1 = some .local :=
    fun L hL x hx xl => lookup_relabel_local (nms x (hL x hx) xl)
  have all1 : ∀ x ∈ (scope.names.filter fun x => (x.2 == .local || x.2 == .cell) && x.1 != (".0" : Str)).reverse, x ∈ scope.names :=
    fun x hx => (List.mem_filter.mp (List.mem_reverse.mp hx)).1
  have v1 := vars _ all1
  have v2 := vars ((scope.names.filter fun x => (x.2 == .local || x.2 == .cell) && x.1 != (".0" : Str)).reverse.drop 1 ++
      (scope.names.filter fun x => (x.2 == .local || x.2 == .cell) && x.1 != (".0" : Str)).reverse.take 1) (fun x hx => by
    rcases List.mem_append.mp hx with z | z
    · exact all1 x (List.mem_of_mem_drop z)
    · exact all1 x (List.mem_of_mem_take z))
  refine wpAny_holding (wpAny_bind (wpAny_attempt (wpAny_holding (wpAny_run (codeAny_mono r4 fun r t hr => ?_)))))
  cases r with
  | ok f =>
    cases use with
    | none =>
      obtain ⟨m, nsm, q⟩ := hr
      exact wpAny_bind (wpAny_holding (wpAny_comp_letGo (cenv := { ce with scope := relabel scope env }) kd _ t m v1 nsm fun g' _ _ sb => wpAny_pure (q g' sb)))
    | some u =>
      refine wpAny_bind (wpAny_rule (wpAny_bind (wpAny_holding (up hr fun _ t' q => ?_))))
      obtain ⟨m, nsm, q⟩ := q
      exact wpAny_bind (wpAny_comp_letGo (cenv := { ce with scope := relabel scope env }) kd _ t' m v2 nsm fun g' _ _ sb => wpAny_pure (q g' sb))
  | error x =>
    obtain ⟨m, nsm, q⟩ := hr
    exact wpAny_bind (wpAny_holding (wpAny_comp_letGo (cenv := { ce with scope := relabel scope env }) kd _ t m v1 nsm fun g' _ _ sb =>
      wpAny_mono (q g' sb) (fun _ _ z => z.elim) fun _ _ y => y))
/-- one exception, told twice -/
theorem sky_fly {B C : Heap} {l l' : List Env} {a : Addr} {Z Z' : Obj → Prop} {L : Addr} {h : Heap} (sk : Sky B l a Z L h) (fl : HandSPX.FlyingZ C l' a Z' h) : HandSPX.FlyingZ B l a Z h := by
  obtain ⟨_, _, _, o1, w1, T, oT, ts, e1, _, d1, i1, _, _, eT, dT, i3⟩ := fl
  rcases sk with ⟨_, _, _, o2, w2, e2, _, d2, i2⟩ | f | ⟨_, _, _, o2, w2, T2, oT2, ts2, e2, _, d2, i2, _, _, eT2, dT2, i32⟩
  · exfalso
    rw [e1] at e2
    cases e2
    rw [d1] at d2
    cases d2
    rw [i1] at i2
    cases i2
  · exact f
  · exfalso
    rw [e1] at e2
    cases e2
    rw [d1] at d2
    cases d2
    rw [i1] at i2
    cases i2
    rw [eT] at eT2
    cases eT2
    rw [dT] at dT2
    cases dT2
    rw [i3] at i32
    cases i32
theorem frames_but {base h g : Heap} {C : Addr} (sb : Heap.SameBut C h g) : ∀ {l : List Env}, h.FunFrames base l → C ∉ frs l → g.FunFrames (PySem.W.hideAll base [C]) l
  | [], _, _ => trivial
  | env :: l, ⟨hk, ⟨L, o, hf, hn, ho, hd⟩, hr⟩, nc => by
    have nL : L ≠ C := fun z => nc (List.mem_filterMap.mpr ⟨env, List.mem_cons_self, by rw [hf, z]⟩)
    refine ⟨hk, ⟨L, o, hf, ?_, (sb.2 L nL).trans ho, hd⟩, frames_but sb hr fun z => nc ?_⟩
    · cases q : (PySem.W.hideAll base [C]).get? L with
      | none => rfl
      | some u =>
        have := PySem.W.of_hideAll _ q
        rw [hn] at this
        cases this
    · obtain ⟨x, hx, q⟩ := List.mem_filterMap.mp z
      exact List.mem_filterMap.mpr ⟨x, List.mem_cons_of_mem _ hx, q⟩
/-- an error of the block's element leaves the comprehension -/
theorem comp_out {X : Cx} {pins pb : List (Addr × Obj)} {σ σb : L2.St} {H3 Hb : Hp} {s3 sb t : Shared} {scope : Scope} {ce : Env} {fp : List Addr} {E : XK} {u : Value} {use : Option (Value → Sem Unit)} {Qf : Value → Shared → Prop} {acc : Value}
    (hs : X.stack = X.env :: X.outer) (hf : X.env.frame = some X.env.locals) (I3 : Inv X pins σ H3 s3) (f3 : ∀ b ∈ fp, FpOk X pins H3 b) (cf : ce.frame = X.env.frame) (cC : s3.heap.objs.size ≤ ce.locals)
    (Ib : Inv (X.blk s3 H3 scope ce fp) pb σb Hb sb) (c : L2.CX X.prog X.w X.stack Hb sb E u t) (tk : Takes X (fun cls d _ H => E cls d H)) :
    notedBy (model X.prog X.w) X.A ce (fun e t' => endX (model X.prog X.w) X.A X.xe use Qf acc ce (.error e) t') u t := by
  have x := XE.of_call (W := fun cls d _ H => E cls d H) Ib (fun _ _ _ h => h) c
  obtain ⟨a0, B0, H0, cls0, d0, e0, fl0, _⟩ := c
  obtain ⟨a, B, sI, pI, σI, HI, cls, d, ea, J, nb, up, sky, na, os, ag, wE⟩ := x
  have ea0 : a0 = a := by
    rw [e0] at ea
    exact Value.ref.inj ea
  subst ea0
  subst e0
  have nb : ∀ b o, sI.heap.get? b = some o → b ∉ frs X.stack → B.get? b = some o := nb
  have fl : HandSPX.FlyingZ B X.stack a0 (Zc cls d) t.heap := sky_fly sky fl0
  rw [hs] at fl
  have hfr : X.A.frames = some (X.env :: X.outer) := by rw [I3.ok.frames, hs]
  have nC : HI ce.locals = none := J.free
  have fC := I3.fpOk cC nC
  have Cfr : ce.locals ∉ frs X.stack := fun z => by
    rcases List.mem_cons.mp (I3.stkSub _ z) with y | y
    · exact fC.2.1 y
    · exact fC.2.2.1 y
  obtain ⟨m, hm, _⟩ := J.loc
  have hm : sI.heap.Ns ce.locals m := hm
  show wpAny (model X.prog X.w) X.A (noteFrame (.ref a0) ce) _ _ t
  rw [note_same cf]
  refine HandSPX.looks_onZ Zc.steady hfr hf fl fun h1 hh1 up1 => ?_
  have Cin : ∀ o, sI.heap.get? ce.locals = some o → h1.get? ce.locals = some o := fun o e => hh1.1 _ _ (nb _ _ e Cfr)
  have hm1 := hm.at' Cin
  refine ⟨m, hm1, fun h2 same => ?_⟩
  -- the ground without the block's names
  have hideC : ∀ {G : Heap} {b : Addr} {o : Obj}, (PySem.W.hideAll G [ce.locals]).get? b = some o → G.get? b = some o ∧ b ≠ ce.locals := fun {G b o} e =>
    ⟨PySem.W.of_hideAll _ e, fun z => by rw [z, PySem.W.hideAll_none _ (List.mem_singleton.mpr rfl)] at e; cases e⟩
  obtain ⟨oC, esC, epC, hoC, hdC, _⟩ := id hm1
  have held : HandSPX.HeldZ (PySem.W.hideAll B [ce.locals]) (X.env :: X.outer) a0 (Zc cls d) X.env.locals h2 := by
    obtain ⟨k1, k2, k3, oe, vs, T, oT, ts, he, hz, hd, i1, nT, Te, hT, dT, i3⟩ := id hh1
    have notC : ∀ {b : Addr} {o : Obj} {ws : Array Value}, h1.get? b = some o → o.data = .fields ws → b ≠ ce.locals := fun {b o ws} e q z => by
      rw [z, hoC] at e
      cases e
      rw [hdC] at q
      cases q
    have gone : ∀ {b : Addr}, B.get? b = none → (PySem.W.hideAll B [ce.locals]).get? b = none := fun {b} e => by
      cases q : (PySem.W.hideAll B [ce.locals]).get? b with
      | none => rfl
      | some o =>
        rw [(hideC q).1] at e
        cases e
    refine ⟨fun b o e => ?_, gone k2, frames_but same k3 (by rw [← hs]; exact Cfr), oe, vs, T, oT, ts, (same.2 _ (notC he hd)).trans he, hz, hd, i1, gone nT, Te, (same.2 _ (notC hT dT)).trans hT, dT, i3⟩
    obtain ⟨q1, q2⟩ := hideC e
    exact (same.2 b q2).trans (k1 b o q1)
  obtain ⟨_, _, _, oe, vs, T, oT, ts, he, hz, hd, i1, _⟩ := id held
  unfold PySem.passOn
  refine wpAny_bind (wpAny_field he hd i1 ?_)
  rw [if_neg (show ¬ ((Value.ref T == Value.none) = true) from by simp)]
  have fin : wpAny (model X.prog X.w) X.A (setFlight (.ref a0) ce.frame) (fun _ t4 => wpAny (model X.prog X.w) X.A (throw (.ref a0) : Sem Value) (fun _ _ => False) X.xe t4) X.xe { t with heap := h2 } := by
    rw [cf, hf]
    refine HandSPX.setFlight_onZ held fun h3 hh3 up3 => wpAny_throw (tk _ _ ?_)
    have I7 : Inv X pins σ HI sI := I3.call' (ch := fp) J.os J.base J.hok J.bare fun b hb => ⟨(f3 b hb).2.2.2.1, (f3 b hb).2.1, (f3 b hb).2.2.2.2.1, (f3 b hb).2.2.2.2.2⟩
    have I8 := I7.turned (t' := sI.toks) (h' := PySem.W.hideAll sI.heap [ce.locals]) (it := ce.locals) (fun b o ne e => PySem.W.hideAll_get _ e fun z => ne (List.mem_singleton.mp z)) nC fC.2.1 fC.2.2.2.1 fC.2.2.2.2.1 fC.2.2.2.2.2
    refine ⟨a0, PySem.W.hideAll B [ce.locals], _, pins, σ, HI, cls, d, rfl, I8, fun b o e hb => ?_, fun b o e nf => ?_, .inr (.inr (by rw [hs]; exact hh3)), na, os, ag, wE⟩
    · obtain ⟨q1, q2⟩ := hideC e
      exact PySem.W.hideAll_get _ (nb b o q1 hb) fun z => q2 (List.mem_singleton.mp z)
    · obtain ⟨q1, q2⟩ := hideC e
      obtain ⟨l1, g1⟩ := up b o q1 nf
      obtain ⟨l2, g2⟩ := up1 b _ g1 nf
      have g2' := (same.2 b q2).trans g2
      obtain ⟨l3, g3⟩ := up3 b _ g2' nf
      exact ⟨l3, g3⟩
  first
    | exact wpAny_bind (wpAny_pure (wpAny_bind fin))
    | exact wpAny_bind fin
end
section
open PySem PySem.Spec PyProof PyProof.Rows L2
variable {X : Cx}
theorem lc_raise {pins : List (Addr × Obj)} {s : Shared} {σ : L2.St} {H : Hp} {Q : VK} {elt tg iter : Expr} {ifs : List Expr} {scope : Scope} {own : List (Str × Nat)} {pos pos' : Pos} {wi : TI} {g : TG} {tt : TT} {te : TE} {use : Option (Value → Sem Unit)} {Qf : Value → Shared → Prop} {E : XK}
    (hs : X.stack = X.env :: X.outer) (hf : X.env.frame = some X.env.locals) (tk : Takes X (fun cls d _ H => E cls d H))
    (hc : X.calm = true) (hN : X.N.Nodup) (I : Inv X pins σ H s) (hi : PI X tg iter wi) (ok : BlkOk X.N X.env.scope scope own)
    (hg : ∀ (s : Shared) (H : Hp) (C : Addr) (cl : List (Str × Addr)) (fp : List Addr), PG (X.blk s H scope (compEnvC scope cl C X.env) fp) tg g)
    (ht : ∀ (s : Shared) (H : Hp) (C : Addr) (cl : List (Str × Addr)) (fp : List Addr), PTs (X.blk s H scope (compEnvC scope cl C X.env) fp) ifs tt)
    (he : ∀ (s : Shared) (H : Hp) (C : Addr) (cl : List (Str × Addr)) (fp : List Addr) (xe : Value → Shared → Prop), Passes (L2.CX X.prog X.w) ((X.blk s H scope (compEnvC scope cl C X.env) fp).wish xe) E → PE ((X.blk s H scope (compEnvC scope cl C X.env) fp).wish xe) elt te)
    (hfo : ∀ x, foldedSetIterable iter X.env x = pure x) (h : tLc wi g tt te (own.map (·.2)) σ H Q)
    (fin : ∀ D C t m H', Inv X pins σ H' t → Q (.ref D) H' → t.heap.Ns C m → FpOk X pins H' C → compPost (model X.prog X.w) X.A X.xe use Qf (.ref D) C (.ok .next) t) :
    wpAny (model X.prog X.w) X.A (comprehension (.ListComp elt [⟨tg, iter, ifs, 0⟩] scope pos) scope X.env pos' (newList []) false (eval iter X.env) use) Qf X.xe s := by
  have free1 : ∀ y ∈ scope.names, y.2 = .free → ∃ c, X.env.cells.lookup y.1 = some c := fun y hy e => by
    rcases ok.free y hy e with z | z
    · exact I.ok.has _ (.inl z)
    · exact I.ok.has _ (.inr z)
  refine comp_ends (use := use) rfl hfo (closure_ok free1) ok.kind (fun y hy e => by rw [ok.uniq y hy, e]) (thn (hi.run pins s σ H _ I h) fun xv t1 got => thn got fun itv t2 got2 => ?_)
  obtain ⟨it, fp, tn, J, H2, e, I2, T, at0, fps, q⟩ := got2
  subst e
  refine wpAny_newObj_type (newEnv_comp ?_) (by show 0 ≤ sizeLine; decide)
  generalize eD : t2.heap.objs.size = D
  have newD : H2 D = none := I2.hok.fresh (Nat.le_of_eq eD)
  obtain ⟨W, ⟨n0, w0⟩, turn⟩ := q D newD
  generalize et3 : ({ t2 with heap := t2.heap.push { cls := .type "list", data := .seq ([] : List Value).toArray } } : Shared) = t3
  have I3 : Inv X pins σ (L2.upd H2 D (.lst [])) t3 := by
    rw [← et3]
    refine I2.laid (t' := t2.toks) (fun b o e => Heap.get?_push_of_some _ e) (Nat.le_of_eq eD) ⟨Nat.zero_le _, [], 0, .nil, ?_⟩
    rw [← eD]
    exact Heap.get?_push_size _ rfl
  have heap3 : t3.heap = t2.heap.push { cls := .type "list", data := .seq ([] : List Value).toArray } := by rw [← et3]
  have fps3 : ∀ b ∈ fp, FpOk X pins (L2.upd H2 D (.lst [])) b ∧ b < t3.heap.objs.size := fun b hb => by
    obtain ⟨o, e, _⟩ := T.obj _ _ at0 b hb
    have lt := Heap.lt_size e
    refine ⟨⟨?_, (fps b hb).2⟩, by rw [heap3, Heap.size_push]; exact Nat.lt_succ_of_lt lt⟩
    rw [upd_ne (by rw [← eD]; exact Nat.ne_of_lt lt)]
    exact (fps b hb).1
  have at3 : tn 0 t3.heap := T.keep _ _ _ at0 fun b _ o e => by
    rw [heap3]
    exact Heap.get?_push_of_some _ e
  have I4 := block_start I3 ok hN fps3
  have pg := hg t3 (L2.upd H2 D (.lst [])) t3.heap.objs.size (cellsFrom (t3.heap.objs.size + 1) scope.names (cloFrom X.env.cells scope.names [])) fp
  have pt := ht t3 (L2.upd H2 D (.lst [])) t3.heap.objs.size (cellsFrom (t3.heap.objs.size + 1) scope.names (cloFrom X.env.cells scope.names [])) fp
  have pe := he t3 (L2.upd H2 D (.lst [])) t3.heap.objs.size (cellsFrom (t3.heap.objs.size + 1) scope.names (cloFrom X.env.cells scope.names [])) fp
  show codeAny _ _ (.compStart (.ListComp elt [⟨tg, iter, ifs, 0⟩] scope pos) 0 (.ref it) (.ref D) (compEnvC scope (cellsFrom (t3.heap.objs.size + 1) scope.names (cloFrom X.env.cells scope.names [])) t3.heap.objs.size X.env))
    (endX (model X.prog X.w) X.A X.xe use Qf (.ref D) (compEnvC scope (cellsFrom (t3.heap.objs.size + 1) scope.names (cloFrom X.env.cells scope.names [])) t3.heap.objs.size X.env)) { t3 with heap := pushCells (t3.heap.push { cls := .type "dict", data := .dict #[] }) scope.names }
  have none3 : ∀ b ∈ fp, (L2.upd H2 D (.lst [])) b = none := fun b hb => (fps3 b hb).1.1
  generalize ece : compEnvC scope (cellsFrom (t3.heap.objs.size + 1) scope.names (cloFrom X.env.cells scope.names [])) t3.heap.objs.size X.env = ce at I4 pg pt pe ⊢
  have ceL : ce.locals = t3.heap.objs.size := by rw [← ece]; rfl
  have ceF : ce.frame = X.env.frame := by rw [← ece]; rfl
  generalize eH3 : L2.upd H2 D (.lst []) = H3 at I3 I4 pg pt pe w0 none3 fps3
  generalize et4 : ({ t3 with heap := pushCells (t3.heap.push { cls := .type "dict", data := .dict #[] }) scope.names } : Shared) = t4 at I4 ⊢
  have at4 : tn 0 t4.heap := T.keep _ _ _ at3 fun b _ o e => by
    rw [← et4]
    exact pushCells_keeps _ _ _ _ (Heap.get?_push_of_some _ e)
  have still : ∀ {σ' : L2.St} {H' : Hp} {t' : Shared}, Inv (X.blk t3 H3 scope ce fp) [] σ' H' t' → (∀ b ∈ fp, H' b = none) → ∀ b ∈ fp, FpOk (X.blk t3 H3 scope ce fp) [] H' b :=
    fun {σ' H' t'} J' hn b hb => ⟨hn b hb, (J'.ok.exf b hb).1, J'.ok.exfs b hb, .inl hb, fun x c e => (J'.ok.exf b hb).2 x c e, fun p hp => absurd (show p ∈ ([] : List (Addr × Obj)) ++ [] from hp) (by simp)⟩
  have loop : codeAny (model X.prog X.w) X.A (.compLoop (.ListComp elt [⟨tg, iter, ifs, 0⟩] scope pos) 0 (.ref it) (.ref D) ce) (endX (model X.prog X.w) X.A X.xe use Qf (.ref D) ce) t4 := by
    refine compLoop_any (fun n t' => ∃ i H', Inv (X.blk t3 H3 scope ce fp) [] (wipe σ (own.map (·.2))) H' t' ∧ tn i t'.heap ∧ (∀ b ∈ fp, H' b = none) ∧ W i n H') ?_ n0 ⟨0, H3, I4, at4, none3, w0⟩
    rintro n t5 ⟨i, H5, I5, at5, none5, w5⟩
    rcases turn i n H5 w5 with ⟨stop, qq⟩ | ⟨go, Nx, hNx, step⟩
    · refine thnF (T.done (X.blk t3 H3 scope ce fp) rfl rfl rfl hc i [] t5 _ H5 (fun _ _ => False) I5 (still I5 none5) at5 stop) fun r t6 ⟨er, I6⟩ => ?_
      subst er
      have I7 : Inv X pins σ H5 t6 := I3.call' (ch := fp) I6.os I6.base I6.hok I6.bare fun b hb =>
        ⟨(fps3 b hb).1.2.2.2.1, (fps3 b hb).1.2.1, (fps3 b hb).1.2.2.2.2.1, (fps3 b hb).1.2.2.2.2.2⟩
      have noC : H5 ce.locals = none := I6.free
      obtain ⟨m, hn, _⟩ := I6.loc
      have hn : t6.heap.Ns ce.locals m := hn
      exact fin D ce.locals t6 m H5 I7 qq hn (I3.fpOk (Nat.le_of_eq ceL.symm) noC)
    · refine thnF (T.item (X.blk t3 H3 scope ce fp) rfl rfl rfl hc i [] t5 _ H5 (fun _ _ => False) I5 (still I5 none5) at5 go) fun r t6 ⟨u, er, got6⟩ => ?_
      subst er
      refine thnF got6 fun _ t7 ⟨x, H7, I7, rx, yx, at7, none7⟩ => ?_
      have J7 := I7.pinned (still I7 none7) (T.obj _ _ at7)
      refine thnF (pg.run _ t7 _ H7 x u _ J7 rx (step x H7 yx)) fun _ t8 ⟨σ8, H8, I8, wip8, q8⟩ => ?_
      refine thnF (pt.run _ t8 σ8 H8 _ I8 q8) fun b t9 ⟨H9, I9, q9⟩ => ?_
      have next : ∀ {t' : Shared} {H' : Hp}, Inv (X.blk t3 H3 scope ce fp) ([] ++ pinsAt fp t7.heap) σ8 H' t' → Nx H' →
          ∃ m, m < n ∧ ∃ i H', Inv (X.blk t3 H3 scope ce fp) [] (wipe σ (own.map (·.2))) H' t' ∧ tn i t'.heap ∧ (∀ b ∈ fp, H' b = none) ∧ W i m H' := fun {t' H'} J' nx => by
        obtain ⟨m', less, w'⟩ := hNx H' nx
        have stay : ∀ b ∈ fp, ∀ o, t7.heap.get? b = some o → t'.heap.get? b = some o ∧ H' b = none := fun b hb o e =>
          let z := J'.pin (b, o) (List.mem_append_right _ (List.mem_append_right _ (mem_pinsAt hb e)))
          ⟨z.1, z.2.1⟩
        refine ⟨m', less, i + 1, H', (J'.unpinned (pins := [])).weak (by rw [← wip8, wipe_length]) (fun j v e => ?_), T.keep _ _ _ at7 fun b hb o e => (stay b hb o e).1, fun b hb => ?_, w'⟩
        · rw [← wip8] at e
          exact (wipe_some e).1
        · obtain ⟨o, e, _⟩ := T.obj _ _ at7 b hb
          exact (stay b hb o e).2
      cases b with
      | false =>
        simp only [Bool.false_eq_true, if_false] at q9 ⊢
        exact next I9 q9
      | true =>
        simp only [if_true] at q9 ⊢
        -- the element: its error is the def's
        have pex := pe (fun u t' => ∃ (pb : List (Addr × Obj)) (σb : L2.St) (Hb : Hp) (sb : Shared), Inv (X.blk t3 H3 scope ce fp) pb σb Hb sb ∧ L2.CX X.prog X.w X.stack Hb sb E u t') (fun pb σb Hb sb u t' Ib cx => ⟨pb, σb, Hb, sb, Ib.unwish, cx⟩)
        refine wpAny_mono (pex.run _ t9 σ8 H9 _ (I9.wish _) q9) (fun z t10 ⟨yv, H10, I10, r10, acc, hD10, few, nx⟩ => ?_) fun u t' ⟨pb, σb, Hb, sb, Ib, cx⟩ => ?_
        · exact app_ok (X := X.blk t3 H3 scope ce fp) I10.unwish hD10 few r10 fun t11 I11 => next I11 nx
        · exact comp_out hs hf I3 (fun b hb => (fps3 b hb).1) ceF (Nat.le_of_eq ceL.symm) Ib cx tk
  exact codeAny_compStart_list loop (T.self X.A 0 _ _ _ at4 loop)
theorem ps_setLcX {i : Nat} {y : Str} {py : Pos} {elt tg iter : Expr} {ifs : List Expr} {scope : Scope} {own : List (Str × Nat)} {pos spos : Pos} {wi : TI} {g : TG} {tt : TT} {te : TE} {E : XK}
    (hs : X.stack = X.env :: X.outer) (hf : X.env.frame = some X.env.locals) (tk : Takes X (fun cls d _ H => E cls d H)) (hc : X.calm = true) (hN : X.N.Nodup) (hy : X.N[i]? = some y) (hyl : X.env.scope.names.lookup y = some .local)
    (hsw : swapsWith (.ListComp elt [⟨tg, iter, ifs, 0⟩] scope pos) (some (.Name y py)) spos.line X.env = pure true) (hi : PI X tg iter wi) (ok : BlkOk X.N X.env.scope scope own)
    (hg : ∀ (s : Shared) (H : Hp) (C : Addr) (cl : List (Str × Addr)) (fp : List Addr), PG (X.blk s H scope (compEnvC scope cl C X.env) fp) tg g)
    (ht : ∀ (s : Shared) (H : Hp) (C : Addr) (cl : List (Str × Addr)) (fp : List Addr), PTs (X.blk s H scope (compEnvC scope cl C X.env) fp) ifs tt)
    (he : ∀ (s : Shared) (H : Hp) (C : Addr) (cl : List (Str × Addr)) (fp : List Addr) (xe : Value → Shared → Prop), Passes (L2.CX X.prog X.w) ((X.blk s H scope (compEnvC scope cl C X.env) fp).wish xe) E → PE ((X.blk s H scope (compEnvC scope cl C X.env) fp).wish xe) elt te)
    (hfo : ∀ x, foldedSetIterable iter X.env x = pure x := by intro _; rfl) :
    PS X (.Assign [.Name y py] (.ListComp elt [⟨tg, iter, ifs, 0⟩] scope pos) spos) (tAsg (tLc wi g tt te (own.map (·.2))) (gName i)) := by
  refine ⟨fun pins s σ H D I h => ?_⟩
  rw [exec_Assign_Name_used _ _ _ _ hsw]
  refine wpAny_bind (wpAny_standAt (wpAny_bind ?_))
  show wpAny _ X.A (do let _ ← comprehension (.ListComp elt [⟨tg, iter, ifs, 0⟩] scope pos) scope X.env (firstIterPos [⟨tg, iter, ifs, 0⟩] pos) (newList []) false (eval iter X.env) (some (assign (.Name y py) X.env))) _ _ s
  have h : tLc wi g tt te (own.map (·.2)) σ H (fun x H1 => gName i x σ H1 D.nx) := h
  refine wpAny_bind (thn (lc_raise (Qf := fun _ t => SP X pins D .next t) hs hf tk hc hN I hi ok hg ht he hfo h fun L C t m H' I' q hn f => ?_) fun _ _ hq => wpAny_pure (wpAny_pure hq))
  show wpAny _ _ (assign (.Name y py) X.env (.ref L)) _ _ _
  refine wpAny_assign_Name (store_ok2 (v := V.ref L) I' hN hy (.inl hyl) rfl (fun t2 I2 ⟨a, sb, ha⟩ => ?_) (.inr hyl))
  obtain ⟨f0, f1, f2, f3, f4, f5⟩ := f
  have ne : C ≠ a := by
    rcases ha with z | z
    · rw [z]
      exact f1
    · exact fun e => f4 y a z e.symm
  refine ⟨m, hn.sameBut sb ne, fun h3 sb3 => ⟨_, H', I2.turned (t' := t2.toks) (fun b o hb e => (sb3.2 b hb).trans e) f0 f1 f3 f4 f5, q⟩⟩
end
/-! ### list(reversed(xs)), a new list -/
section
open PySem PySem.Spec PyProof PyProof.Rows L2 RT
variable {prog : Program} {w : World} {A : Around} {E : Value → Shared → Prop} {s : Shared}
theorem init_rev {R : Result → Shared → Prop} {it l S : Addr} {items : Array Value} {c0 : Nat} (calm : A.handled = none) (hit : s.heap.IsRevIter it l ((items.size : Int) - 1)) (hl : s.heap.IsList l items) (ne : l ≠ it) (few : items.size ≤ sizeLine)
    (Si : S ≠ it) (Sl : S ≠ l) (hS : s.heap.get? S = some { cls := .type "list", data := .seq #[] c0 })
    (done : ∀ g tk acc c, (∀ b o, b ≠ S → b ≠ it → s.heap.get? b = some o → g.get? b = some o) → g.get? S = some { cls := .type "list", dict := none, data := .seq acc c, slots := #[] } →
      ItemsOf (fun i v => items[items.size - 1 - i]? = some v) acc items.size → R (.ok (.ret .none)) { s with heap := g, toks := tk }) :
    wpAny (model prog w) A.in1 (Builtin.«list.__init__» ⟨[.ref S, .ref it], []⟩)
      (fun fin t => match fin with | .done f => R (.ok f) t | .again c => c.quiet = true ∧ codeAny (model prog w) A c R t) (fun e t => R (.error e) t) s := by
  show wpAny _ _ (do let old ← Builtin.List.listItems (.ref S); Builtin.List.listUpdate (.ref S) (fun _ => #[]); letGo old.toList.reverse; Builtin.List.listExtendWith (.ref S) (.ref it) .none) _ _ s
  have W := (Walks.listRev (prog := prog) (w := w) (A := A.in1) calm it l ne items).toS
  have nf : S ∉ [it, l] := by simp only [List.mem_cons, List.not_mem_nil, or_false, not_or]; exact ⟨Si, Sl⟩
  refine wpAny_bind ?_
  unfold Builtin.List.listItems
  refine wpAny_bind (wpAny_seqItems hS rfl (wpAny_pure ?_))
  show wpAny _ _ (updateSeq S (fun _ => #[]) >>= fun _ => letGo (#[] : Array Value).toList.reverse >>= fun _ => Builtin.List.listExtendWith (.ref S) (.ref it) .none) _ _ s
  refine wpAny_bind (wpAny_updateSeq hS rfl ?_)
  have h2 := Heap.get?_update_self (Obj.mapSeq (fun _ => (#[] : Array Value))) hS rfl
  have old : ∀ b o, b ≠ S → s.heap.get? b = some o → (s.heap.update S (Obj.mapSeq (fun _ => (#[] : Array Value)))).get? b = some o :=
    fun b o nb e => (Heap.get?_update_other _ _ (Ne.symm nb)).trans e
  refine wpAny_bind (wpAny_letGo ?_)
  have hit2 := hit.at (h' := s.heap.update S (Obj.mapSeq (fun _ => (#[] : Array Value)))) fun o e => old _ o (Ne.symm Si) e
  have hl2 : (s.heap.update S (Obj.mapSeq (fun _ => (#[] : Array Value)))).IsList l items := hl.at fun o e => old _ o (Ne.symm Sl) e
  have ty : ({ s with heap := s.heap.update S (Obj.mapSeq (fun _ => (#[] : Array Value))) } : Shared).TypeIs (.ref it) "list_reverseiterator" :=
    Heap.IsRevIter.typeIs (s := { s with heap := s.heap.update S (Obj.mapSeq (fun _ => (#[] : Array Value))) }) hit2
  have apart : Builtin.List.listSameRef (.ref S) (.ref it) = false := by simp [Builtin.List.listSameRef, Si]
  unfold Builtin.List.listExtendWith
  refine wpAny_bind (wpAny_typeOf ty ?_)
  rw [if_neg (by rw [apart]; decide)]
  refine wpAny_bind (wpAny_pyIter_revIter (s := { s with heap := s.heap.update S (Obj.mapSeq (fun _ => (#[] : Array Value))) }) hit2 ?_)
  refine wpAny_bind (wpAny_holding ?_)
  unfold Builtin.List.listLengthHint
  refine wpAny_bind (wpAny_specialOf ty nolen_lri ?_)
  show wpAny _ A.in1 (specialOf (Value.ref it) (Str.ofString "__length_hint__") >>= _) _ _ _
  refine wpAny_bind (wpAny_specialOf ty hint_lri ?_)
  generalize nm : ("list_reverseiterator.__length_hint__" : String) = id0
  wp_delta
  rw [show splitId id0 = some ("list_reverseiterator", "__length_hint__") from by subst nm; decide +kernel]
  subst nm
  refine wpAny_bind (wpAny_isInstance (b := true) ty (by rw [isSubtype_type]; kernel_rfl) ?_)
  refine wpAny_pure ?_
  rw [if_neg (by decide)]
  have e0 : ((items.size : Nat) : Int) - 1 - ((0 : Nat) : Int) = (items.size : Int) - 1 := by omega
  refine wpAny_pure ⟨plainId_quiet F.plain_extend_loop _, codeAny_extend_loopS W few _ nf _ items.size 0 _ _ _ rfl (Nat.zero_le _) ⟨Nat.zero_le _, by rw [e0]; exact hit2, hl2⟩ h2 (ItemsOf.nil _) fun t acc c mv hS' its => ?_⟩
  rw [Moved.eq_with mv]
  refine done t.heap t.toks acc c (fun b o nS ni e => mv.heap b o (fun m => ?_) (old b o nS e)) hS' its
  rcases List.mem_cons.mp m with z | m
  · exact nS z
  · exact ni (List.mem_singleton.mp m)
theorem call_list_rev {it l : Addr} {items : Array Value} {Q : Value → Shared → Prop} (calm : A.handled = none) (hit : s.heap.IsRevIter it l ((items.size : Int) - 1)) (hl : s.heap.IsList l items) (ne : l ≠ it) (few : items.size ≤ sizeLine)
    (done : ∀ g tk acc c, (∀ b o, b ≠ it → s.heap.get? b = some o → g.get? b = some o) → g.get? s.heap.objs.size = some { cls := .type "list", dict := none, data := .seq acc c, slots := #[] } →
      ItemsOf (fun i v => items[items.size - 1 - i]? = some v) acc items.size → Q (.ref s.heap.objs.size) { s with heap := g, toks := tk }) :
    wpAny (model prog w) A (call (.type "list") [.ref it]) Q E s := by
  refine callType_codes (Q₁ := fun obj t => obj = .ref s.heap.objs.size ∧ t = { s with heap := s.heap.push { cls := .type "list", data := .seq #[] } }) F.called_list (F.typeCall_list_1 _) F.entry_list_init
    (code_list_new _ ⟨rfl, rfl⟩) fun obj t z => ?_
  obtain ⟨rfl, rfl⟩ := z
  have hS : (s.heap.push { cls := .type "list", data := .seq #[] }).get? s.heap.objs.size = some { cls := .type "list", data := .seq #[] } := Heap.get?_push_size _ rfl
  obtain ⟨oi, hoi, _⟩ := id hit
  obtain ⟨ol, hol, _⟩ := id hl
  refine ⟨⟨_, hS, rfl⟩, F.args_list_init_2 _ _, init_rev (A := A.in1) (s := { s with heap := s.heap.push { cls := .type "list", data := .seq #[] } }) calm (hit.at fun o e => Heap.get?_push_of_some _ e) (hl.push _) ne few
    (Nat.ne_of_gt (Heap.lt_size hoi)) (Nat.ne_of_gt (Heap.lt_size hol)) hS fun g tk acc c hk hS' its => ?_⟩
  exact ⟨rfl, done g tk acc c (fun b o nb e => hk b o (Nat.ne_of_lt (Heap.lt_size e)) nb (Heap.get?_push_of_some _ e)) hS' its⟩
end
section
open PySem PySem.Spec PyProof PyProof.Rows L2 RT
variable {X : Cx}
def tListRev (K : PySem.W.Frag) (te : TE) : TE := fun σ H Q => te σ H fun v H1 => ∃ (b : Addr) (xs : List V), v = .ref b ∧ SqL K H1 b xs ∧ ∀ q, H1 q = none → Q (.ref q) (L2.upd H1 q (.lst xs.reverse))
theorem pe_listRev {e : Expr} {te : TE} {p p2 pos pos2 : Pos} (hc : X.calm = true) (g1 : Gl X "list") (m1 : X.mg "list" = none) (g2 : Gl X "reversed") (m2 : X.mg "reversed" = none) (he : PE X e te)
    (st1 : starEach [e] X.env = (false, eval e X.env) :: starEach [] X.env := by rfl)
    (st2 : starEach [.Call (.Name "reversed" p2) [e] [] pos2] X.env = (false, eval (.Call (.Name "reversed" p2) [e] [] pos2) X.env) :: starEach [] X.env := by rfl) :
    PE X (.Call (.Name "list" p) [.Call (.Name "reversed" p2) [e] [] pos2] [] pos) (tListRev X.K te) := by
  refine ⟨fun pins s σ H Q I h => ?_⟩
  refine Call_ (ld_blt I g1 m1 (by decide +kernel : bootBuiltins "list" = some (.type "list")) (PyProof.Rows.callWith_type1 (args_cons (Call_ (ld_blt I g2 m2 PyProof.Rows.boot_reversed (PyProof.Rows.callWith_type1 (args_cons (thn (he.run pins s σ H _ I h) fun u t1 ⟨v, H1, I1, r1, q1⟩ => args_nil ?_) st1) st1 rfl))) st2) st2 rfl))
  obtain ⟨b, xs, ev, hq, q⟩ := q1
  subst ev
  obtain rfl : u = Value.ref b := r1
  obtain ⟨its, rv, pl, hz⟩ := I1.list hq
  refine call_reversed_list pl.isList (args_nil ?_)
  have I2 : Inv X pins σ H1 { t1 with heap := t1.heap.push (revObj b ((its.toArray.size : Int) - 1)) } := I1.kept (t' := t1.toks) fun c o e => Heap.get?_push_of_some _ e
  obtain ⟨f0, f1, f2, f3, f4, f5⟩ := I1.fpOk (H' := H1) (b := t1.heap.objs.size) (Nat.le_refl _) (I1.hok.fresh (Nat.le_refl _))
  obtain ⟨ol, hol, _⟩ := id pl.isList
  have ne : b ≠ t1.heap.objs.size := Nat.ne_of_lt (Heap.lt_size hol)
  refine call_list_rev (s := { t1 with heap := t1.heap.push (revObj b ((its.toArray.size : Int) - 1)) }) (I1.ok.hd hc) ⟨_, Heap.get?_push_size _ rfl, rfl, rfl⟩ (pl.isList.push _) ne (by rw [List.size_toArray, ← rv.length]; exact hz) fun g tk acc c hk hS its' => ?_
  have new := I2.hok.fresh (Nat.le_refl (t1.heap.push (revObj b ((its.toArray.size : Int) - 1))).objs.size)
  refine ⟨.ref _, L2.upd H1 _ (.lst xs.reverse), I2.turnedNew (t' := tk) (ch := [t1.heap.objs.size]) (fun c o hc e => hk c o (fun z => hc (List.mem_singleton.mpr z)) e) (fun c hc => ?_) (Nat.le_refl _) ?_, rfl, q _ new⟩
  · rw [List.mem_singleton.mp hc]
    exact ⟨f0, f1, f2, f3, f4, f5⟩
  · refine (show ObjOk X.prog X.w _ _ _ (.lst xs.reverse) from ⟨by rw [List.length_reverse]; exact hz, acc.toList, c, vals_rev rv its', ?_⟩)
    rw [Array.toArray_toList]
    exact hS
end
/-! ### the texts that are cut -/
section
open TL
theorem joinL_mem {S : List Nat} {c : Nat} : ∀ {L : List (List Nat)} {p : List Nat}, p ∈ L → c ∈ p → c ∈ joinL S L
  | [p], q, h, hc => by
    rw [List.mem_singleton.mp h] at hc
    exact hc
  | p :: q :: r, x, h, hc => by
    show c ∈ p ++ (S ++ joinL S (q :: r))
    rcases List.mem_cons.mp h with rfl | h
    · exact List.mem_append_left _ hc
    · exact List.mem_append_right _ (List.mem_append_right _ (joinL_mem h hc))
theorem joinL_le {S : List Nat} : ∀ {L : List (List Nat)} {p : List Nat}, p ∈ L → p.length ≤ (joinL S L).length
  | [p], q, h => by
    rw [List.mem_singleton.mp h]
    exact Nat.le_refl _
  | p :: q :: r, x, h => by
    show x.length ≤ (p ++ (S ++ joinL S (q :: r))).length
    rw [List.length_append, List.length_append]
    rcases List.mem_cons.mp h with rfl | h
    · omega
    · have := joinL_le (S := S) h
      omega
theorem split_piece {s y x : Str} (h : x ∈ Txt.split s y) : (∀ c ∈ x.cps.toList, c ∈ s.cps.toList) ∧ x.length ≤ s.length := by
  have e := tl_join y (Txt.split s y)
  rw [PySem.StrLaws.join_split] at e
  have m : tl x ∈ (Txt.split s y).map tl := List.mem_map.mpr ⟨x, h, rfl⟩
  refine ⟨fun c hc => ?_, ?_⟩
  · have := joinL_mem (S := tl y) m hc
    rw [← e] at this
    exact this
  · have := joinL_le (S := tl y) m
    rw [← e] at this
    have e1 : (tl x).length = x.length := Array.length_toList
    have e2 : (tl s).length = s.length := Array.length_toList
    omega
end
/-! ### the yard that a text shows -/
def Shows (s : Str) (rows : List Row) (d : Nat) : Prop := d ≤ 60 ∧ Paired RowOf (Txt.split s "\n") rows ∧ Chain 0 (rows.map Row.pn) (2 ^ d) ∧ ¬ FreeTw rows
def sp_read (_ : PySem.W.Frag) (a : Ad) : Sp := fun vs H Q E => ∃ s : Str, vs = [.str s] ∧ Ascii s ∧ s.length ≤ 1000000 ∧ (Txt.split s "\n").length ≤ 20000 ∧
  (∀ rows d, Shows s rows d → ∀ (Y : YA) (H' : Hp), YardAt a Y d (outPn rows) H' → (∀ b ∈ own Y d, H b = none) → (∀ b o, H b = some o → H' b = some o) → Q (.ref Y.y) H') ∧
  ((∀ rows d, ¬ Shows s rows d) → ∀ H' : Hp, (∀ b o, H b = some o → H' b = some o) → E (.ref a.c_NoNote) none H')
theorem paired_snoc {α β : Type} {F : α → β → Prop} {x : α} {y : β} (h : F x y) : ∀ {l : List α} {m : List β}, Paired F l m → Paired F (l ++ [x]) (m ++ [y])
  | _, _, .nil => .cons h .nil
  | _, _, .cons a t => .cons a (paired_snoc h t)
theorem paired_left {α β : Type} {F : α → β → Prop} : ∀ {l : List α} {m : List β}, Paired F l m → ∀ x ∈ l, ∃ y ∈ m, F x y
  | _, _, .cons a t, x, h => by
    rcases List.mem_cons.mp h with rfl | h
    · exact ⟨_, List.mem_cons_self, a⟩
    · obtain ⟨y, hy, e⟩ := paired_left t x h
      exact ⟨y, List.mem_cons_of_mem _ hy, e⟩
theorem paired_right {α β : Type} {F : α → β → Prop} : ∀ {l : List α} {m : List β}, Paired F l m → ∀ y ∈ m, ∃ x ∈ l, F x y
  | _, _, .cons a t, y, h => by
    rcases List.mem_cons.mp h with rfl | h
    · exact ⟨_, List.mem_cons_self, a⟩
    · obtain ⟨x, hx, e⟩ := paired_right t y h
      exact ⟨x, List.mem_cons_of_mem _ hx, e⟩
theorem st_inj {r s : Row} (h : r.st = s.st) : r.free = s.free := by
  unfold Row.st at h
  cases h1 : r.free <;> cases h2 : s.free <;> rw [h1, h2] at h
  · exact absurd h (by decide +kernel)
  · exact absurd h (by decide +kernel)
theorem rowOf_uniq {x : Str} {r s : Row} (h : RowOf x r) (g : RowOf x s) : r = s := by
  obtain ⟨w0, w1, e, a1, a2, a3, a4⟩ := h
  obtain ⟨v0, v1, f, b1, b2, b3, b4⟩ := g
  rw [e] at f
  injection f with f1 f
  injection f with f2 f
  injection f with f3 f
  subst f1
  subst f2
  have en := num_uniq a1 b1
  have ek := (Nat.pow_right_inj (show 1 < 2 by decide)).mp (num_uniq a2 b2)
  have ef := st_inj f3
  cases r
  cases s
  cases en
  cases ek
  cases ef
  rfl
theorem rows_uniq : ∀ {ws : List Str} {rows rows' : List Row}, Paired RowOf ws rows → Paired RowOf ws rows' → rows = rows'
  | _, _, _, .nil, .nil => rfl
  | _, _, _, .cons a t, .cons b u => by rw [rowOf_uniq a b, rows_uniq t u]
section
variable {P : Program} {w : World} {K : PySem.W.Frag} {mg : Str → Option Value} {base : Heap} {a : Ad}
theorem ok_read (T : Txt K mg a) : FnOk P w K mg base (L2.CX P w) 6 a.f_read a.d_read ["text"] (sp_read K a) := by
  have G_count_cells : FnOk P w K mg base (L2.CX P w) 2 a.f_count_cells a.d_count_cells ["rows"] (sp_count_cells K a) := ok_count_cells T
  have G_read_row : FnOk P w K mg base (L2.CX P w) 2 a.f_read_row a.d_read_row ["row"] (sp_read_row K a) := ok_read_row T
  have G_refuse_free_twins : FnOk P w K mg base (L2.CX P w) 2 a.f_refuse_free_twins a.d_refuse_free_twins ["rows"] (sp_refuse_free_twins K a) := ok_refuse_free_twins T
  have G_yard_of : FnOk P w K mg base CX0 5 a.f_yard_of a.d_yard_of ["cells", "rows"] (sp_yard_of K a) := ok_yard_of T
  refine T.read.fn.okX sc_read (fun vs H Q E h => by first | (obtain ⟨rfl, _⟩ := h; rfl) | (obtain ⟨_, rfl, _⟩ := h; rfl) | (obtain ⟨_, _, rfl, _⟩ := h; rfl) | (obtain ⟨_, _, _, rfl, _⟩ := h; rfl) | (obtain ⟨_, _, _, _, rfl, _⟩ := h; rfl) | (obtain ⟨_, _, _, _, _, rfl, _⟩ := h; rfl) | (obtain ⟨_, _, _, _, _, _, rfl, _⟩ := h; rfl) | (obtain ⟨_, _, _, _, _, _, _, rfl, _⟩ := h; rfl) | (obtain ⟨_, _, _, _, _, _, _, _, rfl, _⟩ := h; rfl) | (obtain ⟨_, _, _, _, _, _, _, _, _, rfl, _⟩ := h; rfl) | (obtain ⟨_, _, _, _, _, _, _, _, _, _, rfl, _⟩ := h; rfl) | (obtain ⟨_, _, _, _, _, _, _, _, _, _, _, rfl, _⟩ := h; rfl)) (fun cdv A outer s H vs Q E hr h => ?_)
  refine ⟨_, pss_cons (ps_setLcX (i := 1) (own := [("row", 3)]) (g := gName 3) (te := (tCall (sp_read_row K a) [] E (tCons (tVar 3) tNil))) rfl rfl (takes_of rfl rfl rfl rfl) rfl sc_read.nd rfl rfl (sw_true rfl rfl rfl (by decide +kernel)) (pi_list (pe_split (pv 0) pe_str)) (blkOk_by (own := [("row", 3)]) (N := ["text", "rows", "cells", "row"]) (sc := defScope s_read) (by decide +kernel)) (fun _ _ _ _ _ => (pg_name (i := 3) sc_read.nd rfl (Or.inl rfl))) (fun _ _ _ _ _ => pts_nil) (fun _ _ _ _ _ _ pass => (pe_call G_read_row (hr.mono (by decide)) rfl T.read_row.mg T.read_row.fn.kp T.read_row.bd .nil pass (pa_cons (pv 3) pa_nil))))
      (pss_cons (ps_set (i := 2) sc_read.nd rfl (Or.inl rfl) (pe_call G_count_cells (hr.mono (by decide)) rfl T.count_cells.mg T.count_cells.fn.kp T.count_cells.bd .nil (passX (takes_of rfl rfl rfl rfl)) (pa_cons (pv 1) pa_nil)))
      (pss_cons (ps_expr (pe_call G_refuse_free_twins (hr.mono (by decide)) rfl T.refuse_free_twins.mg T.refuse_free_twins.fn.kp T.refuse_free_twins.bd .nil (passX (takes_of rfl rfl rfl rfl)) (pa_cons (pv 1) pa_nil)))
      (pss_one (ps_ret (pe_call G_yard_of (hr.mono (by decide)) rfl T.yard_of.mg T.yard_of.fn.kp T.yard_of.bd .nil pass0 (pa_cons (pv 2) (pa_cons (pv 1) pa_nil))))))), ?_⟩
  obtain ⟨s, rfl, as, ls, few, q1, q2⟩ := h
  have sub := fun (x : Str) (h : x ∈ Txt.split s "\n") => split_piece h
  unfold Shows at q1 q2
  refine ⟨_, rfl, ⟨_, rfl⟩, s, _, rfl, rfl, by decide, by rw [sizeLine_eq]; omega, fun p hp => ⟨p, rfl, ⟨_, SqL.of upd_same⟩, fun D newD => ?_⟩⟩
  generalize Txt.split s "\n" = ws at few q1 q2 sub newD ⊢
  have kp : ∀ b o, H b = some o → L2.upd H p (.lst (ws.map V.str)) b = some o := fun b o e => by rw [upd_ne (ne_of_none e hp)]; exact e
  have hpp : L2.upd H p (.lst (ws.map V.str)) p = some (.lst (ws.map V.str)) := upd_same
  generalize L2.upd H p (.lst (ws.map V.str)) = H1 at kp hpp newD ⊢
  refine lc_out walk_list (fun j H' => ∃ (ts : List Addr) (rows : List Row), H' D = some (.lst (ts.map V.ref)) ∧ Rws H' ts rows ∧ Paired RowOf (ws.take j) rows ∧ (∀ b o, H1 b = some o → H' b = some o))
    ⟨[], [], upd_same, .nil, .nil, fun b o e => by rw [upd_ne (ne_of_none e newD)]; exact e⟩ (fun j H' _ ⟨_, _, _, _, _, s2⟩ => SqL.of (s2 _ _ hpp)) ?_ ?_
  · rintro j v H3 H4 hj ⟨ts, rows, hD, rws, pr, s3⟩ ⟨rfl, hv⟩
    rw [List.length_map] at hj
    obtain ⟨line, hl⟩ : ∃ line, ws[j]? = some line := ⟨_, List.getElem?_eq_getElem hj⟩
    rw [List.getElem?_map, hl] at hv
    have hv := Option.some.inj hv
    subst hv
    have ml := List.mem_of_getElem? hl
    obtain ⟨sl1, sl2⟩ := sub line ml
    have et : ws.take (j + 1) = ws.take j ++ [line] := by rw [List.take_add_one, hl]; rfl
    refine ⟨rfl, ?_⟩
    refine ⟨_, rfl, line, rfl, by omega, fun x hx => ?_, fun r hr t H5 s5 ht => ?_, fun no H5 s5 => ?_⟩
    · obtain ⟨g1, g2⟩ := split_piece hx
      exact ⟨fun c hc => as c (sl1 c (g1 c hc)), by omega⟩
    · have lp := pr.length
      rw [List.length_take] at lp
      refine ⟨ts.map V.ref, s5 _ _ hD, ?_, ts ++ [t], rows ++ [r], ?_, ?_, ?_, fun b o e => ?_⟩
      · rw [List.length_map, rws.len, sizeLine_eq]
        omega
      · rw [List.map_append]
        exact upd_same
      · refine Rws.snoc ?_ (rws.keep fun t' xs e => ?_)
        · rw [upd_ne (fun z => by rw [z, s5 _ _ hD] at ht; cases ht)]
          exact ht
        · rw [upd_ne (fun z => by rw [z, hD] at e; cases e)]
          exact s5 _ _ e
      · rw [et]
        exact paired_snoc hr pr
      · rw [upd_ne (fun z => by rw [z, newD] at e; cases e)]
        exact s5 _ _ (s3 _ _ e)
    · refine q2 (fun rows' d ⟨_, pr', _⟩ => ?_) H5 fun b o e => s5 _ _ (s3 _ _ (kp _ _ e))
      obtain ⟨r, _, hr⟩ := paired_left pr' line ml
      exact no r hr
  rintro H2 ⟨ts, rows, hD, rws, pr, s2⟩
  rw [List.length_map, List.take_length] at pr
  have k2 := fun b o e => s2 _ _ (kp b o e)
  have lp := pr.length
  refine ⟨_, rfl, D, ts, rows, rfl, hD, rws, fun d d60 ch => ?_, fun no => q2 (fun rows' d ⟨d60, pr', ch, _⟩ => no d d60 (by rw [rows_uniq pr pr']; exact ch)) H2 k2⟩
  have ne : rows.Pairwise fun r s => r.n ≠ s.n := (List.pairwise_map.mp (chain_lt ch).1).imp fun {r s} l e => by
    have l : r.n < s.n := l
    omega
  have al : ∀ r ∈ rows, r.n / 2 ^ r.k * 2 ^ r.k = r.n := fun r hr => by
    obtain ⟨x, _, _, _, _, _, _, _, q⟩ := paired_right pr r hr
    exact q
  refine ⟨_, rfl, D, ts, rows, rfl, hD, rws, ne, al, by omega, fun tw H3 s3 => q2 (fun rows' d' ⟨_, pr', _, nt⟩ => nt (by rw [← rows_uniq pr pr']; exact tw)) H3 fun b o e => s3 _ _ (k2 b o e), fun nt H3 s3 => ?_⟩
  refine ⟨_, rfl, _, rfl, D, ts, rows, d, rfl, s3 _ _ hD, rws.keep fun t xs e => s3 _ _ e, ch, al, by omega, d60, fun Y H' yY fresh s' => ?_⟩
  refine q1 rows d ⟨d60, pr, ch, nt⟩ Y H' yY (fun b hb => ?_) fun b o e => s' _ _ (s3 _ _ (k2 b o e))
  refine Classical.byContradiction fun z => ?_
  obtain ⟨o, ho⟩ := Option.ne_none_iff_exists'.mp z
  have := s3 _ _ (k2 b o ho)
  rw [fresh b hb] at this
  cases this
end
/-! ### texts alike -/
theorem str_ext {a b : Str} (h : a.cps.toList = b.cps.toList) : a = b := by
  obtain ⟨x⟩ := a
  obtain ⟨y⟩ := b
  have : x = y := Array.toList_inj.mp h
  rw [this]
/-! ### law_k14: the lines -/
def Plain (s : Str) : Prop := ∀ c ∈ s.cps.toList, c < 128 ∧ c ≠ 10
def wordS (b : Bool) : Str := if b then "free" else "out"
def lineS (n m : Nat) (f : Bool) : Str := numS n ++ " " ++ numS m ++ " " ++ wordS f
theorem app_cps (a b : Str) : (a ++ b).cps.toList = a.cps.toList ++ b.cps.toList := TL.tl_append a b
theorem Plain.app {a b : Str} (h : Plain a) (g : Plain b) : Plain (a ++ b) := fun c hc => by
  rw [app_cps] at hc
  rcases List.mem_append.mp hc with z | z
  · exact h c z
  · exact g c z
theorem num_plain (n : Nat) : Plain (numS n) := fun c hc => by
  have := numS_digits n c hc
  exact ⟨by omega, by omega⟩
theorem numS_len {n k : Nat} (hk : 0 < k) (h : n < 10 ^ k) : (numS n).length ≤ k := by
  have e := TL.numL_len hk h
  have e2 : (TL.numL n).length = (numS n).length := by
    rw [← TL.tl_num]
    exact Array.length_toList
  omega
/-- a text without a blank -/
def Solid (s : Str) : Prop := 32 ∉ s.cps.toList
theorem num_solid (n : Nat) : Solid (numS n) := fun h => by
  have := numS_digits n 32 h
  omega
theorem word_solid (b : Bool) : Solid (wordS b) := by cases b <;> exact fun h => absurd h (by decide +kernel)
theorem split3 {x y z : Str} (hx : Solid x) (hy : Solid y) (hz : Solid z) : Txt.split (x ++ " " ++ y ++ " " ++ z) " " = [x, y, z] := by
  have e : x ++ " " ++ y ++ " " ++ z = Txt.join " " [x, y, z] := by
    rw [TL.join_eq]
    show x ++ " " ++ y ++ " " ++ z = x ++ " " ++ (y ++ " " ++ z)
    refine str_ext ?_
    rw [app_cps, app_cps, app_cps, app_cps, app_cps, app_cps, app_cps, app_cps]
    simp only [List.append_assoc]
  rw [e]
  refine TL.split_join (s := 32) (S := []) (by decide +kernel) (by decide +kernel) (by simp) fun p hp => ?_
  rcases List.mem_cons.mp hp with rfl | hp
  · exact hx
  · rcases List.mem_cons.mp hp with rfl | hp
    · exact hy
    · rw [List.mem_singleton.mp hp]
      exact hz
/-! ### the text of a yard -/
def lineR (r : Row) : Str := lineS r.n (2 ^ r.k) r.free
def rowsOf (A B : List PN) : List Row := A.map (fun q => ⟨q.1, q.2, false⟩) ++ B.map (fun q => ⟨q.1, q.2, true⟩)
def textR (rows : List Row) : Str := Txt.join "\n" (rows.map lineR)
def NoteL (s : Str) (A B : List PN) : Prop := ∃ rows, rows.Perm (rowsOf A B) ∧ rows.Pairwise (fun r s => r.n < s.n) ∧ s = textR rows
theorem rowsOf_perm {A B A' B' : List PN} (h : A.Perm A') (g : B.Perm B') : (rowsOf A B).Perm (rowsOf A' B') := (h.map _).append (g.map _)
theorem rows_same {L M : List Row} (p : L.Perm M) (hL : L.Pairwise fun r s => r.n < s.n) (hM : M.Pairwise fun r s => r.n < s.n) : L = M := by
  induction L generalizing M with
  | nil => exact (List.nil_perm.mp p).symm
  | cons x L ih =>
    match M with
    | [] => exact absurd p.length_eq (by simp)
    | y :: M =>
      have h1 := List.pairwise_cons.mp hL
      have h2 := List.pairwise_cons.mp hM
      have e : x = y := by
        rcases List.mem_cons.mp (p.mem_iff.mp (List.mem_cons_self (a := x) (l := L))) with z | z
        · exact z
        rcases List.mem_cons.mp (p.mem_iff.mpr (List.mem_cons_self (a := y) (l := M))) with v | v
        · exact v.symm
        have a1 := h2.1 _ z
        have a2 := h1.1 _ v
        omega
      subst e
      rw [ih (List.perm_cons x |>.mp p) h1.2 h2.2]
theorem NoteL.uniq {s t : Str} {A B A' B' : List PN} (h : NoteL s A B) (g : NoteL t A' B') (pA : A.Perm A') (pB : B.Perm B') : s = t := by
  obtain ⟨r1, p1, w1, rfl⟩ := h
  obtain ⟨r2, p2, w2, rfl⟩ := g
  rw [rows_same (p1.trans ((rowsOf_perm pA pB).trans p2.symm)) w1 w2]
theorem rows_pn (A B : List PN) : (rowsOf A B).map Row.pn = A ++ B := by
  unfold rowsOf
  rw [List.map_append, List.map_map, List.map_map]
  congr 1 <;> exact (List.map_congr_left fun q _ => rfl).trans (List.map_id _)
theorem rows_out (A B : List PN) : outPn (rowsOf A B) = A := by
  unfold outPn rowsOf
  have h1 : ∀ r ∈ A.map (fun q => (⟨q.1, q.2, false⟩ : Row)), (!r.free) = true := fun r hr => by
    obtain ⟨q, _, rfl⟩ := List.mem_map.mp hr
    rfl
  have h2 : ∀ r ∈ B.map (fun q => (⟨q.1, q.2, true⟩ : Row)), ¬ (!r.free) = true := fun r hr => by
    obtain ⟨q, _, rfl⟩ := List.mem_map.mp hr
    exact fun z => by cases z
  rw [List.filter_append, List.map_append, List.filter_eq_self.mpr h1, List.filter_eq_nil_iff.mpr h2, List.map_nil, List.append_nil, List.map_map]
  exact (List.map_congr_left fun q _ => rfl).trans (List.map_id _)
theorem rows_freeR (A B : List PN) : (freeR (rowsOf A B)).map Row.pn = B := by
  unfold freeR rowsOf
  have h1 : ∀ r ∈ A.map (fun q => (⟨q.1, q.2, false⟩ : Row)), ¬ r.free = true := fun r hr => by
    obtain ⟨q, _, rfl⟩ := List.mem_map.mp hr
    exact fun z => by cases z
  have h2 : ∀ r ∈ B.map (fun q => (⟨q.1, q.2, true⟩ : Row)), r.free = true := fun r hr => by
    obtain ⟨q, _, rfl⟩ := List.mem_map.mp hr
    rfl
  rw [List.filter_append, List.filter_eq_nil_iff.mpr h1, List.nil_append, List.filter_eq_self.mpr h2, List.map_map]
  exact (List.map_congr_left fun q _ => rfl).trans (List.map_id _)
theorem plain_line (r : Row) : Plain (lineR r) := by
  have b1 : Plain " " := fun c hc => by
    have : c ∈ [32] := hc
    rw [List.mem_singleton.mp this]
    decide
  have b2 : Plain (wordS r.free) := by
    cases r.free <;> intro c hc
    · have : c ∈ [111, 117, 116] := hc
      simp at this
      omega
    · have : c ∈ [102, 114, 101, 101] := hc
      simp at this
      omega
  exact (((((num_plain _).app b1).app (num_plain _)).app b1).app b2)
theorem join_len_le : ∀ {L : List Str} {k : Nat}, (∀ s ∈ L, s.length ≤ k) → (Str.join "\n" L).length ≤ L.length * (k + 1)
  | [], k, _ => Nat.zero_le _
  | [x], k, h => by
    have := h x List.mem_cons_self
    show x.length ≤ _
    rw [List.length_singleton]
    omega
  | x :: y :: L, k, h => by
    have h1 := h x List.mem_cons_self
    have ih := join_len_le (L := y :: L) (k := k) (fun s hs => h s (List.mem_cons_of_mem _ hs))
    show (x ++ "\n" ++ Str.join "\n" (y :: L)).length ≤ _
    rw [PySem.Str.length_append, PySem.Str.length_append, List.length_cons, Nat.succ_mul]
    have : ("\n" : Str).length = 1 := rfl
    omega
theorem join_ascii : ∀ {L : List Str}, (∀ s ∈ L, Ascii s) → Ascii (Str.join "\n" L)
  | [], _, c, hc => by
    have : c ∈ ([] : List Nat) := hc
    cases this
  | [x], h, c, hc => h x List.mem_cons_self c hc
  | x :: y :: L, h, c, hc => by
    have ih := join_ascii (L := y :: L) (fun s hs => h s (List.mem_cons_of_mem _ hs))
    have hc : c ∈ (x ++ "\n" ++ Str.join "\n" (y :: L)).cps.toList := hc
    rw [app_cps, app_cps] at hc
    rcases List.mem_append.mp hc with z | z
    · rcases List.mem_append.mp z with z | z
      · exact h x List.mem_cons_self c z
      · have : c ∈ [10] := z
        rw [List.mem_singleton.mp this]
        decide
    · exact ih c z
theorem line_len {r : Row} (h1 : r.n < 2 ^ 61) (h2 : r.k ≤ 60) : (lineR r).length ≤ 44 := by
  unfold lineR lineS
  rw [PySem.Str.length_append, PySem.Str.length_append, PySem.Str.length_append, PySem.Str.length_append]
  have a1 : (numS r.n).length ≤ 19 := numS_len (by decide) (Nat.lt_of_lt_of_le h1 (by decide))
  have p : 2 ^ r.k ≤ 2 ^ 60 := Nat.pow_le_pow_right (by decide) h2
  have a2 : (numS (2 ^ r.k)).length ≤ 19 := numS_len (by decide) (Nat.lt_of_le_of_lt p (by decide))
  have a3 : (wordS r.free).length ≤ 4 := by cases r.free <;> decide +kernel
  have a4 : (" " : Str).length = 1 := rfl
  omega
theorem text_len {rows : List Row} (h : ∀ r ∈ rows, r.n < 2 ^ 61 ∧ r.k ≤ 60) (l : rows.length ≤ 20000) : (textR rows).length ≤ 900000 := by
  unfold textR
  rw [TL.join_eq]
  refine Nat.le_trans (join_len_le (k := 44) fun s hs => ?_) (by rw [List.length_map]; omega)
  obtain ⟨r, hr, rfl⟩ := List.mem_map.mp hs
  exact line_len (h r hr).1 (h r hr).2
theorem text_ascii (rows : List Row) : Ascii (textR rows) := by
  unfold textR
  rw [TL.join_eq]
  refine join_ascii fun s hs => ?_
  obtain ⟨r, _, rfl⟩ := List.mem_map.mp hs
  exact fun c hc => (plain_line r c hc).1
theorem text_split {rows : List Row} (ne : rows ≠ []) : Txt.split (textR rows) "\n" = rows.map lineR := by
  unfold textR
  refine TL.split_join (s := 10) (S := []) (by decide +kernel) (by decide +kernel) (fun z => ne (List.map_eq_nil_iff.mp z)) fun s hs h => ?_
  obtain ⟨r, _, rfl⟩ := List.mem_map.mp hs
  exact (plain_line r 10 h).2 rfl
theorem row_of {r : Row} (h1 : r.n < 2 ^ 61) (h2 : r.k ≤ 60) (al : r.n / 2 ^ r.k * 2 ^ r.k = r.n) : RowOf (lineR r) r := by
  have p : 2 ^ r.k ≤ 2 ^ 60 := Nat.pow_le_pow_right (by decide) h2
  refine ⟨numS r.n, numS (2 ^ r.k), ?_, ⟨rfl, numS_len (by decide) (Nat.lt_of_lt_of_le h1 (by decide))⟩, ⟨rfl, numS_len (by decide) (Nat.lt_of_le_of_lt p (by decide))⟩, h2, al⟩
  exact split3 (num_solid _) (num_solid _) (word_solid _)
theorem paired_lines : ∀ {rows : List Row}, (∀ r ∈ rows, RowOf (lineR r) r) → Paired RowOf (rows.map lineR) rows
  | [], _ => .nil
  | r :: rows, h => .cons (h r List.mem_cons_self) (paired_lines fun x hx => h x (List.mem_cons_of_mem _ hx))
/-- the text of a yard -/
def Note (s : Str) (os : List PN) (d : Nat) : Prop := NoteL s os (freeP os d)
theorem oc_perm {os os' : List PN} (p : os.Perm os') : Oc os = Oc os' := funext fun c => propext ⟨fun ⟨q, h, e⟩ => ⟨q, p.mem_iff.mp h, e⟩, fun ⟨q, h, e⟩ => ⟨q, p.mem_iff.mpr h, e⟩⟩
theorem freeP_perm {os os' : List PN} {d : Nat} (p : os.Perm os') : freeP os d = freeP os' d := by
  unfold freeP freeN
  rw [oc_perm p]
theorem Note.uniq {s t : Str} {os os' : List PN} {d : Nat} (h : Note s os d) (g : Note t os' d) (p : os.Perm os') : s = t := NoteL.uniq h g p (by rw [freeP_perm p])
theorem Note.perm {s : Str} {os os' : List PN} {d : Nat} (h : Note s os d) (p : os.Perm os') : Note s os' d := by
  obtain ⟨rows, p1, w, e⟩ := h
  exact ⟨rows, p1.trans (rowsOf_perm p (by rw [freeP_perm p])), w, e⟩
theorem freeP_len {os : List PN} {d : Nat} (hd : d ≤ 60) (few : os.length ≤ 300) : (freeP os d).length ≤ 18400 := by
  have e : (freeP os d).length = (allN (d + 1) (frl (Oc os) d)).length := by
    unfold freeP
    rw [← freeN_map, List.length_map]
  rw [e]
  refine Nat.le_trans (allN_len (b := 301) fun j _ => Nat.le_trans frl_len (by omega)) ?_
  omega
theorem Note.shows {s : Str} {os : List PN} {d : Nat} (h : Note s os d) (g : Good d os) (hd : d ≤ 60) (few : os.length ≤ 300) : Ascii s ∧ s.length ≤ 900000 ∧ (Txt.split s "\n").length ≤ 20000 ∧ ∃ rows, Shows s rows d ∧ (outPn rows).Perm os := by
  obtain ⟨rows, p, pw, rfl⟩ := h
  have pn : (rows.map Row.pn).Perm (os ++ freeP os d) := by
    rw [← rows_pn]
    exact p.map _
  have gr : Good d (rows.map Row.pn) := (good_all g).perm pn
  have p60 : 2 ^ d ≤ 2 ^ 60 := Nat.pow_le_pow_right (by decide) hd
  have each : ∀ r ∈ rows, r.n < 2 ^ 61 ∧ r.k ≤ 60 ∧ r.n / 2 ^ r.k * 2 ^ r.k = r.n := fun r hr => by
    have h : r.k ≤ d ∧ r.n / 2 ^ r.k * 2 ^ r.k = r.n ∧ _ := gr.each r.pn (List.mem_map.mpr ⟨r, hr, rfl⟩)
    have h3 : r.n < 2 ^ d := (gr.each r.pn (List.mem_map.mpr ⟨r, hr, rfl⟩)).2.2
    refine ⟨?_, by omega, h.2.1⟩
    have : (2 : Nat) ^ 60 < 2 ^ 61 := by decide
    omega
  have len : rows.length ≤ 20000 := by
    have l1 := pn.length_eq
    rw [List.length_map, List.length_append] at l1
    have := freeP_len (os := os) hd few
    omega
  have ch : Chain 0 (rows.map Row.pn) (2 ^ d) := chain_of (List.pairwise_map.mpr (pw.imp fun {r s} l => l)) gr (Nat.zero_le _) (fun _ _ => Nat.zero_le _) fun c _ hc => by
    obtain ⟨q, hq, e⟩ := cover_all (os := os) hc
    exact ⟨q, pn.mem_iff.mpr hq, e⟩
  have ne : rows ≠ [] := fun z => by
    rw [z] at ch
    have ch : 0 = 2 ^ d := ch
    have : 0 < 2 ^ d := Nat.pow_pos (by decide)
    omega
  have nt : ¬ FreeTw rows := by
    have fm : ∀ r ∈ rows, r.free = true → r.pn ∈ freeP os d := fun r hr f => by
      have := p.mem_iff.mp hr
      rcases List.mem_append.mp this with z | z
      · obtain ⟨q, _, e⟩ := List.mem_map.mp z
        rw [← e] at f
        cases f
      · obtain ⟨q, hq, e⟩ := List.mem_map.mp z
        rw [← e]
        exact hq
    rintro ⟨r, hr, s, hs, fr, fs, ek, en⟩
    refine no_twins (fm r hr fr) ?_
    have := fm s hs fs
    unfold Row.pn at this
    rw [en, ek] at this
    exact this
  have es := text_split ne
  refine ⟨text_ascii rows, text_len (fun r hr => ⟨(each r hr).1, (each r hr).2.1⟩) len, by rw [es, List.length_map]; exact len, rows, ⟨hd, ?_, ch, nt⟩, ?_⟩
  · rw [es]
    exact paired_lines fun r hr => row_of (each r hr).1 (each r hr).2.1 (each r hr).2.2
  · unfold outPn
    have := ((p.filter fun r => !r.free).map Row.pn)
    refine this.trans ?_
    have e := rows_out os (freeP os d)
    unfold outPn at e
    rw [e]
/-! ### sorted(xs), xs a list of rows (place, size, state) of which no two begin alike -/
section
open PySem PySem.Spec PyProof PyProof.Rows
def dR (r : Row) : PyData := .tuple [.int (r.n : Int), .int ((2 ^ r.k : Nat) : Int), .str r.st]
theorem dR_alike (r s : Row) : PySem.W.alike (dR r) (dR s) = true := by simp [dR, PySem.W.alike, PySem.W.alikeAll]
theorem dR_depth (r : Row) : (dR r).depth = 1 := by simp [dR, PyData.depth, PyData.depthAll]
theorem dR_le {r s : Row} (ne : r.n ≠ s.n) (h : PySem.W.dataLe false dR r s = true) : r.n < s.n := by
  rw [PySem.W.dataLe_eq] at h
  have h : (!PySem.W.dataLt (dR s) (dR r)) = true := h
  rw [Bool.not_eq_true', dR, dR, PySem.W.dataLt_tuple, PySem.W.dataLt_all_no (by simp [PySem.W.alike]) (by simp [PyData.eqv]; omega), PySem.W.dataLt_int, decide_eq_false_iff_not] at h
  omega
def rSortRows (K : PySem.W.Frag) : List V → Hp → VK → Prop := fun vs H Q => ∃ (l : Addr) (ts : List Addr) (rows : List Row), vs = [.ref l] ∧ SqL K H l (ts.map V.ref) ∧ Rws H ts rows ∧ rows.Pairwise (fun r s => r.n ≠ s.n) ∧
  ∀ (p : Addr) (us : List Addr) (rows' : List Row), H p = none → rows'.Perm rows → rows'.Pairwise (fun r s => r.n < s.n) → Rws (L2.upd H p (.lst (us.map V.ref))) us rows' → Q (.ref p) (L2.upd H p (.lst (us.map V.ref)))
theorem each_rows {H : Hp} : ∀ {ts : List Addr} {rows : List Row}, Rws H ts rows → PySem.W.EachIs (fun (v : Value) (r : Row) => ∃ t, v = .ref t ∧ H t = some (.tup r.v)) (ts.map Value.ref) rows
  | _, _, .nil => .nil
  | _, _, .cons h r => .cons ⟨_, rfl, h⟩ (each_rows r)
theorem rows_each {H : Hp} : ∀ {vs : List Value} {rows : List Row}, PySem.W.EachIs (fun (v : Value) (r : Row) => ∃ t, v = .ref t ∧ H t = some (.tup r.v)) vs rows → ∃ us : List Addr, vs = us.map Value.ref ∧ Rws H us rows
  | _, _, .nil => ⟨[], rfl, .nil⟩
  | _, _, .cons ⟨t, e, h⟩ r => by
    obtain ⟨us, e2, h2⟩ := rows_each r
    exact ⟨t :: us, by rw [e, e2]; rfl, .cons h h2⟩
theorem vals_refs : ∀ (us : List Addr), Vals (us.map V.ref) (us.map Value.ref)
  | [] => .nil
  | u :: us => .cons rfl (vals_refs us)
theorem refs_vals : ∀ {ts : List Addr} {its : List Value}, Vals (ts.map V.ref) its → its = ts.map Value.ref
  | [], _, r => by
    have r' : Vals [] _ := r
    cases r'
    rfl
  | t :: ts, _, r => by
    have r' : Vals (V.ref t :: ts.map V.ref) _ := r
    cases r' with
    | cons h r2 =>
      rw [refs_vals r2, (h : _ = Value.ref t)]
      rfl
theorem cr_sortedRows {X : Cx} (hu : X.A.units + 64 < cLine) : CallR X (.builtin "sorted") (rSortRows X.K) := by
  intro pins s σ H vs us Q I r h
  obtain ⟨l, ts, rows, rfl, hs, rw', dis, q⟩ := h
  obtain rfl := Vals.ref1 r
  obtain ⟨its, rv, hl, hz⟩ := I.list hs
  obtain rfl := refs_vals rv
  have e := each_rows rw'
  have len := rw'.len
  refine PySem.W.sorted_data (R := fun (v : Value) (r : Row) => ∃ t, v = .ref t ∧ H t = some (.tup r.v)) (enc := dR) hl.isList e ?_ (PySem.W.AllAlike.of dR_alike) (PySem.W.Sortable.tuples fun r => ⟨_, _, rfl⟩) (by rw [← len]; rw [List.length_map] at hz; exact hz) (fun r _ => by rw [dR_depth]; omega) fun out hlen hE => ?_
  · refine e.mono fun v r ⟨t, ev, ht⟩ => ?_
    rw [ev]
    exact Dp.reads I (dR r) (.ref t) (.ref t) (.tup (SqT.of ht) (.cons (.int _) (.cons (.int _) (.cons (.str _) .nil)))) rfl
  obtain ⟨us, eu, ru⟩ := rows_each hE
  subst eu
  have new := I.hok.fresh (Nat.le_succ s.heap.objs.size)
  obtain ⟨ep, he'⟩ := PyProof.Rows.sortedAll_at s.heap (ts.map Value.ref) (us.map Value.ref).toArray
  refine ⟨.ref _, L2.upd H (s.heap.objs.size + 1) (.lst (us.map V.ref)), I.laid (t' := s.toks) (fun _ _ => PyProof.Rows.sortedAll_old) (Nat.le_succ _) ⟨?_, us.map Value.ref, ep, vals_refs us, he'⟩, rfl, q _ us (rows.mergeSort (PySem.W.dataLe false dR)) new (List.mergeSort_perm _ _) ?_ ?_⟩
  · rw [List.length_map] at hlen ⊢
    rw [hlen, ← len]
    rw [List.length_map] at hz
    exact hz
  · have pw : (rows.mergeSort (PySem.W.dataLe false dR)).Pairwise fun r s => PySem.W.dataLe false dR r s = true := by
      exact PySem.W.sort_pairwise (PySem.W.sortLe_total _ false _) rows
    have dis' : (rows.mergeSort (PySem.W.dataLe false dR)).Pairwise fun r s => r.n ≠ s.n := (List.Perm.pairwise_iff (fun {_ _} z => Ne.symm z) (List.mergeSort_perm _ _)).mpr dis
    exact (pw.and dis').imp fun {r s} h => dR_le h.2 h.1
  · exact ru.keep fun t xs e => by rw [upd_ne (ne_of_none e new)]; exact e
end
/-! ### more of Gv -/
theorem Gv.uniq {d : Nat} : ∀ {ks : List Nat} {os : List PN} {ns ns' : List Nat}, Gv d os ks ns → Gv d os ks ns' → ns = ns'
  | [], _, _, _, .nil, .nil => rfl
  | k :: ks, os, _, _, .cons b r, .cons b' r' => by
    obtain ⟨_, e⟩ := b.uniq b'
    subst e
    rw [r.uniq r']
theorem Gv.take {d : Nat} : ∀ {j : Nat} {ks : List Nat} {os : List PN} {ns : List Nat}, Gv d os ks ns → Gv d os (ks.take j) (ns.take j)
  | 0, _, _, _, _ => .nil
  | j + 1, _, _, _, .nil => .nil
  | j + 1, _, _, _, .cons b r => .cons b r.take
theorem Gv.snoc {d k m n : Nat} : ∀ {ks : List Nat} {os : List PN} {ns : List Nat}, Gv d os ks ns → Best (os ++ ns.zip ks) d k m n → Gv d os (ks ++ [k]) (ns ++ [n])
  | _, os, _, .nil, b => .cons (by have b2 := b; rw [show (([] : List Nat).zip ([] : List Nat)) = [] from rfl, List.append_nil] at b2; exact b2) .nil
  | _, os, _, .cons (k := k0) (n := n0) b r, b' => .cons b (r.snoc (by rw [List.append_assoc]; exact b'))
/-! ### give_all, in general -/
theorem outs_mid {d n k : Nat} {os rest : List PN} (g : Good d (os ++ (n, k) :: rest)) : outs (os ++ (n, k) :: rest) n = os ++ rest := by
  have nd := g.nodup
  have key : ∀ q ∈ os ++ (n, k) :: rest, q.1 = n → q = (n, k) := fun q hq e => g.key hq (List.mem_append_right _ List.mem_cons_self) e
  obtain ⟨_, n2, n3⟩ := List.nodup_append.mp nd
  obtain ⟨n4, _⟩ := List.nodup_cons.mp n2
  unfold outs
  rw [List.filter_append, List.filter_cons, if_neg (by simp), List.filter_eq_self.mpr, List.filter_eq_self.mpr]
  · intro q hq
    refine decide_eq_true fun e => n4 ?_
    rw [← key q (List.mem_append_right _ (List.mem_cons_of_mem _ hq)) e]
    exact hq
  · intro q hq
    exact decide_eq_true fun e => n3 q hq (n, k) List.mem_cons_self (key q (List.mem_append_left _ hq) e)
theorem TabsG.wr' {a : Ad} {H : Hp} {b : Addr} {o o0 : HO} (t : TabsG a H) (e : H b = some o0) (n1 : ∀ ps, o0 ≠ .tbl ps) (n2 : ∀ φ, o0 ≠ .ext φ) : TabsG a (L2.upd H b o) := fun p hp => by
  obtain ⟨ps, h1, h2, h3⟩ := t p hp
  refine ⟨ps, (upd_ne (ne_of h1 e fun z => n1 ps z.symm)).trans h1, h2, fun pos cv hc => ?_⟩
  obtain ⟨c, e1, e2⟩ := h3 pos cv hc
  exact ⟨c, e1, (upd_ne (ne_of e2 e fun z => n2 _ z.symm)).trans e2⟩
def sp_give_all (K : PySem.W.Frag) (a : Ad) : Sp := fun vs H Q E => ∃ (Y : YA) (d : Nat) (os : List PN) (b : Addr) (xs : List Int), vs = [.ref Y.y, .ref b] ∧ YardAt a Y d os H ∧ SqL K H b (xs.map V.int) ∧ xs.length ≤ 4000 ∧ os.length + xs.length ≤ 90000 ∧ TabsG a H ∧
  ((∃ x ∈ xs, x < 1) → ∀ H', (∀ b o, H b = some o → H' b = some o) → E (.ref a.c_NoWish) none H') ∧
  ((∀ x ∈ xs, 1 ≤ x) → (¬ ((∀ x ∈ xs, x ≤ ((2 ^ d : Nat) : Int)) ∧ ∃ ns, Gv d os (wishK xs) ns)) → ∀ H', YardAt a Y d os H' → OnlyN (own Y d) H H' → TabsG a H' → E (.ref a.c_NoRoom) none H') ∧
  (∀ ns, (∀ x ∈ xs, 1 ≤ x ∧ x ≤ ((2 ^ d : Nat) : Int)) → Gv d os (wishK xs) ns → ∀ (l : Addr) (H' : Hp), YardAt a Y d (os ++ ns.zip (wishK xs)) H' → OnlyN (own Y d) H H' → TabsG a H' → l ∉ own Y d → H' l = some (.lst ((List.range xs.length).map fun k => nI (placeOf (byFall (fits xs)) ns k))) → Q (.ref l) H')
section
open PySem PySem.Spec PyProof.Rows L2H
variable {P : Program} {w : World} {K : PySem.W.Frag} {mg : Str → Option Value} {base : Heap} {a : Ad}
theorem ok_give_all (T : Txt K mg a) (TB : LamX.TabB base mg a.q_give_all a.p_give_all) : FnOk P w K mg base (L2.CX P w) 5 a.f_give_all a.d_give_all ["yard", "wants"] (sp_give_all K a) := by
  have G_Yard_give : FnOk P w K mg base (L2.CX P w) 4 a.f_Yard_give a.d_Yard_give ["self", "want"] (sp_Yard_give K a) := ok_Yard_give T
  have G_Yard_take_back : FnOk P w K mg base (L2.CX P w) 4 a.f_Yard_take_back a.d_Yard_take_back ["self", "at"] (sp_Yard_take_back K a) := ok_Yard_take_back T
  have G_fitting_sizes : FnOk P w K mg base (L2.CX P w) 2 a.f_fitting_sizes a.d_fitting_sizes ["yard", "wants"] (sp_fitting_sizes K a) := ok_fitting_sizes T
  have GN_Yard_give : FnOk P w K mg base (L2N.CX P w) 4 a.f_Yard_give a.d_Yard_give ["self", "want"] (sp_Yard_give K a) := okN_Yard_give T
  have GH_Yard_take_back : L2H.FnH P w K mg base (L2.CX P w) 4 a.f_Yard_take_back a.d_Yard_take_back ["self", "at"] (sp_Yard_take_back K a) := okH_Yard_take_back T
  refine T.at_give_all.okX sc_give_all (fun vs H Q E h => by first | (obtain ⟨rfl, _⟩ := h; rfl) | (obtain ⟨_, rfl, _⟩ := h; rfl) | (obtain ⟨_, _, rfl, _⟩ := h; rfl) | (obtain ⟨_, _, _, rfl, _⟩ := h; rfl) | (obtain ⟨_, _, _, _, rfl, _⟩ := h; rfl) | (obtain ⟨_, _, _, _, _, rfl, _⟩ := h; rfl) | (obtain ⟨_, _, _, _, _, _, rfl, _⟩ := h; rfl) | (obtain ⟨_, _, _, _, _, _, _, rfl, _⟩ := h; rfl) | (obtain ⟨_, _, _, _, _, _, _, _, rfl, _⟩ := h; rfl) | (obtain ⟨_, _, _, _, _, _, _, _, _, rfl, _⟩ := h; rfl) | (obtain ⟨_, _, _, _, _, _, _, _, _, _, rfl, _⟩ := h; rfl) | (obtain ⟨_, _, _, _, _, _, _, _, _, _, _, rfl, _⟩ := h; rfl)) (fun A outer s H vs Q E hr h => ?_)
  refine ⟨_, pss_cons (ps_set (i := 6) sc_give_all.nd rfl (Or.inr rfl) (pe_call G_fitting_sizes (hr.mono (by decide)) rfl T.fitting_sizes.mg T.fitting_sizes.fn.kp T.fitting_sizes.bd .nil (passX (takes_of rfl rfl rfl rfl)) (pa_cons (pv 0) (pa_cons (pv 1) pa_nil))))
      (pss_cons (ps_set (i := 2) sc_give_all.nd rfl (Or.inl rfl) (pe_sortLam (i := 6) (k := 0) rfl (by rfl) T.z_sorted (pe_callTy cr_range1 (by rfl) T.z_range PyProof.Rows.boot_range (pa_cons (pe_callB call_len_seq (by rfl) T.z_len PySem.boot_len (pa_cons (pv 6) pa_nil)) pa_nil)) TB rfl (hr.mono (by decide)) rfl rfl))
      (pss_cons (ps_set (i := 3) sc_give_all.nd rfl (Or.inr rfl) pe_dnewK)
      (pss_cons (ps_try_re (tb := fun W => (tFor (iList K (tVar 2)) (gName 4) (sDPut (tVar 3) (tVar 4) (tMethS a.c_Yard "give" (sp_Yard_give K a) (WE W) (tVar 0) (tCons (tOp (rIxL K) (tVar 6) (tVar 4)) tNil))))) (ts := fun _ _ _ => (tLock (tFor (iVals (tVar 3)) (gName 5) (tDrop (tMethH a.c_Yard "take_back" (sp_Yard_take_back K a) (fun _ => E0) (tVar 0) (tCons (tVar 5) tNil)))))) (Wout := fun cls d _ H => E cls d H) rfl rfl rfl ⟨rfl, by decide, Or.inl T.e_NoRoom.g⟩ (passesAt_of rfl) (takes_of rfl rfl rfl rfl) (fun W pn xe tk po => (pss_one (ps_for po rfl (pi_list (pv 2)) (pg_name (i := 4) sc_give_all.nd rfl (Or.inl rfl)) (pss_one (ps_dput (hu_of hr) (pv 3) (pv 4) (pe_methS (pv 0) T.cl_Yard T.m_Yard_give GN_Yard_give (hr.mono (by decide)) T.b_Yard_give (fun σ => L2N.passAt tk σ) (pa_cons (pe_ix ix_list (pv 6) (pv 4) (fun _ _ => rfl)) pa_nil)) rfl))))) (fun a0 oe cls d pn hz hf hot => (ps_lock (ps_forH PassesOwn.never hot (pi_valuesH (pv 3)) (pg_name (i := 5) sc_give_all.nd rfl (Or.inl rfl)) (pss_one (ps_expr (pe_methH (pv 0) T.cl_Yard T.m_Yard_take_back GH_Yard_take_back (room_mark hr) hot T.b_Yard_take_back passHL (pa_cons (pv 5) pa_nil))))))))
      (pss_one (ps_ret (pe_lc (own := [("turn", 4)]) (g := gName 4) (te := (tDGet (tVar 3) (tVar 4))) rfl sc_give_all.nd (pi_range1 rfl T.z_range (pa_cons (pe_callB call_len_seq (by rfl) T.z_len PySem.boot_len (pa_cons (pv 6) pa_nil)) pa_nil)) (blkOk_by (own := [("turn", 4)]) (N := ["yard", "wants", "order", "places", "turn", "at", "sizes"]) (sc := defScope s_give_all) (by decide +kernel)) (fun _ _ _ _ _ => (pg_name (i := 4) sc_give_all.nd rfl (Or.inl rfl))) (fun _ _ _ _ _ => pts_nil) (fun _ _ _ _ _ => (pe_dget (hu_of hr) (pv 3) (pv 4) (fun _ _ => rfl))))))))), ?_⟩
  obtain ⟨Y, d, os, b, xs, rfl, ya, hS, few, few2, tb, q1, q2, q3⟩ := h
  refine ⟨_, rfl, _, rfl, Y, d, os, b, xs, rfl, ya, hS, few, q1, fun pos z H' s' => q2 pos (fun g => ?_) H' (ya.keep s') (OnlyN.of (Only.same s')) (tb.keep s'), fun fx ls H1 s1 nls hls => ?_⟩
  · obtain ⟨x, hx, h1⟩ := z
    have := g.1 x hx
    omega
  have lf : (fits xs).length = xs.length := by rw [fits, List.length_map]
  have y1 := ya.keep s1
  have t1 := tb.keep s1
  refine ⟨_, rfl, ls, _, rfl, .inl (SqL.of hls), ?_⟩
  rw [List.length_map]
  refine ⟨_, rfl, fun r nr => ?_⟩
  have k2 := newK (o := .rng 0 ((fits xs).length : Int)) nr
  refine ⟨r, ls, fits xs, rfl, upd_same, by omega, t1.keep k2, rfl, SqL.of (k2 _ _ hls), fun H3 p eN t3 np => ?_⟩
  have y3 := (y1.keep k2).keepN eN
  have ls3 := eN _ _ (k2 _ _ hls) fun _ z => by cases z
  have k3 := newK (o := .lst ((byFall (fits xs)).map fun (k : Nat) => V.int (k : Int))) np
  have hp : upd H3 p (.lst ((byFall (fits xs)).map fun (k : Nat) => V.int (k : Int))) p = _ := upd_same
  have t4 : TabsG a (upd H3 p (.lst ((byFall (fits xs)).map fun (k : Nat) => V.int (k : Int)))) := TabsG.keep t3 k3
  have y4 := y3.keep k3
  have ls4 := k3 _ _ ls3
  have o4 : OnlyN (own Y d) H (upd H3 p (.lst ((byFall (fits xs)).map fun (k : Nat) => V.int (k : Int)))) := fun b o e n m => k3 _ _ (eN _ _ (k2 _ _ (s1 _ _ e)) n)
  have npo : p ∉ own Y d := y3.new np
  have nlo : ls ∉ own Y d := ya.new nls
  generalize upd H3 p (.lst ((byFall (fits xs)).map fun (k : Nat) => V.int (k : Int))) = H4 at hp t4 y4 ls4 o4
  clear k3 k2 eN t3 t1 y1 s1 y3 ls3 np
  refine nm ?_
  dsimp only
  intro dd nd
  have k5 := newK (o := .dK []) nd
  have hd5 : L2.upd H4 dd (.dK []) dd = _ := upd_same
  have y5 := y4.keep k5
  have t5 := t4.keep k5
  have hp5 := k5 _ _ hp
  have ls5 := k5 _ _ ls4
  have o5 := o4.trans (OnlyN.of (Only.same (S := own Y d) k5))
  have ndo : dd ∉ own Y d := y4.new nd
  have ny : dd ≠ Y.y := Ne.symm (ne_of_none y4.yo nd)
  have npp : dd ≠ Y.p := Ne.symm (ne_of_none y4.po.ob nd)
  have npd : dd ≠ Y.pd := Ne.symm (ne_of_none y4.po.dk nd)
  have od : ∀ b o, H b = some o → (∀ ps, o ≠ .tbl ps) → b ∉ own Y d → b ≠ dd := fun b o e n m => ne_of_none (o4 b o e n m) nd
  have pdd : p ≠ dd := ne_of_none hp nd
  have lsd : ls ≠ dd := ne_of_none ls4 nd
  generalize L2.upd H4 dd (.dK []) = H5 at hd5 y5 t5 hp5 ls5 o5
  clear k5 y4 t4 hp ls4 o4 nd H4
  refine nm ?_
  dsimp only
  have wl := wishK_len xs
  have ol : (byFall (fits xs)).length = xs.length := by rw [ord_len, lf]
  refine ⟨_, rfl, p, rfl, ⟨_, SqL.of hp5⟩, ?_⟩
  refine for_list (xs := (byFall (fits xs)).map fun (k : Nat) => V.int (k : Int)) (fun j σ H' => ∃ (ns : List Nat) (x4 : Option V), σ = [some (.ref Y.y), some (.ref b), some (.ref p), some (.ref dd), x4, none, some (.ref ls)] ∧ Gv d os ((wishK xs).take j) ns ∧ YardAt a Y d (os ++ ns.zip ((wishK xs).take j)) H' ∧ H' dd = some (.dK ((((byFall (fits xs)).take j).zip ns).map kvP)) ∧ H' p = some (.lst ((byFall (fits xs)).map fun (k : Nat) => V.int (k : Int))) ∧ H' ls = some (.lst ((fits xs).map V.int)) ∧ TabsG a H' ∧ OnlyN (own Y d) H H')
    ⟨[], none, rfl, .nil, by rw [List.zip_nil_left, List.append_nil]; exact y5, hd5, hp5, ls5, t5, o5⟩ (fun j σ H' _ ⟨_, _, _, _, _, _, e, _⟩ => SqL.of e) ?_ ?_
  · rintro j v σ H6 hv ⟨ns, x4, rfl, gv, y6, hd6, hp6, ls6, t6, o6⟩
    have hj := (List.getElem?_eq_some_iff.mp hv).1
    rw [List.length_map, ol] at hj
    obtain ⟨k, hk⟩ : ∃ k, (byFall (fits xs))[j]? = some k := ⟨_, List.getElem?_eq_getElem (by omega)⟩
    rw [List.getElem?_map, hk] at hv
    have hv := Option.some.inj hv
    subst hv
    have nlen := gv.len
    rw [List.length_take] at nlen
    have kl := ord_lt (List.mem_of_getElem? hk)
    rw [lf] at kl
    obtain ⟨x, hx⟩ : ∃ x, xs[k]? = some x := ⟨_, List.getElem?_eq_getElem kl⟩
    have hw : (wishK xs)[j]? = some (fit x) := by
      rw [wishK, List.getElem?_map, hk]
      show some (fit (xs.getD k 0)) = _
      rw [List.getD, hx]
      rfl
    have fx1 := fx x (List.mem_of_getElem? hx)
    have fk : fit x ≤ d := fit_le fx1.1 fx1.2 ya.po.d60
    have f2 : fit ((2 ^ fit x : Nat) : Int) = fit x := fit_two (Nat.le_trans fk ya.po.d60)
    have pk : 0 < 2 ^ fit x := Nat.pow_pos (by decide)
    have pkd : 2 ^ fit x ≤ 2 ^ d := Nat.pow_le_pow_right (by decide) fk
    refine nm ?_
    dsimp only
    refine ⟨_, rfl, Y.y, Y.dy, _, rfl, y6.yo, yFs_no Y d (by decide) (by decide) (by decide), _, rfl, _, rfl, ls, _, _, .int ((2 ^ fit x : Nat) : Int), rfl, rfl, SqL.of ls6, at_of (j := k) rfl (by rw [fits, List.map_map, List.getElem?_map, hx]; rfl), Y, d, _, _, rfl, y6, ?_, fun z => ?_, fun _ z H7 s7 => ?_, fun _ _ m n best H7 y7 o7 => ?_⟩
    · rw [List.length_append, List.length_zip, List.length_take]
      omega
    · omega
    · rw [f2] at z
      have nog : ¬ ((∀ x ∈ xs, x ≤ ((2 ^ d : Nat) : Int)) ∧ ∃ ns, Gv d os (wishK xs) ns) := by
        rintro ⟨_, ns', gv'⟩
        obtain ⟨n', hn'⟩ : ∃ n', ns'[j]? = some n' := ⟨_, List.getElem?_eq_getElem (by rw [gv'.len]; omega)⟩
        obtain ⟨m, best⟩ := gv'.at_ hw hn'
        have e := gv.uniq (gv'.take (j := j))
        have ez : (ns'.zip (wishK xs)).take j = ns.zip ((wishK xs).take j) := by
          rw [e, List.zip_eq_zipWith, List.take_zipWith, List.zip_eq_zipWith]
        rw [ez] at best
        rcases z with z | z
        · omega
        · exact z _ _ best.le best.mx
      have y7 := y6.keep s7
      have hd7 := s7 _ _ hd6
      have t7 := t6.keep s7
      have o7 := o6.trans (OnlyN.of (Only.same s7))
      refine ⟨true, T.x_NoRoom_NoRoom, fun _ a0 na => ?_, fun z => Bool.noConfusion z⟩
      refine ⟨dd, _, hd7, trivial, fun od' => ?_⟩
      generalize hkv : ((((byFall (fits xs)).take j).zip ns).map kvP) = kvs at hd7
      have kl2 : kvs.length = ns.length := by rw [← hkv, List.length_map, List.length_zip, List.length_take, Nat.min_eq_right]; omega
      have kat : ∀ {i : Nat} {q : L2.Key} {v : V}, kvs[i]? = some (q, v) → ∃ n, ns[i]? = some n ∧ v = nI n := fun {i q v} e => by
        rw [← hkv, List.getElem?_map] at e
        obtain ⟨⟨c, n⟩, e1, e2⟩ := Option.map_eq_some_iff.mp e
        exact ⟨n, (List.getElem?_zip_eq_some.mp e1).2, (congrArg Prod.snd e2).symm⟩
      generalize hz : ns.zip ((wishK xs).take j) = zs at y7
      have zl : zs.length = ns.length := by rw [← hz, List.length_zip, List.length_take, Nat.min_eq_left]; omega
      have zat : ∀ {i n : Nat}, ns[i]? = some n → ∃ k, zs[i]? = some (n, k) := fun {i n} e => by
        have lt := (List.getElem?_eq_some_iff.mp e).1
        obtain ⟨k, hk⟩ : ∃ k, ((wishK xs).take j)[i]? = some k := ⟨_, List.getElem?_eq_getElem (by rw [List.length_take]; omega)⟩
        exact ⟨k, by rw [← hz]; exact List.getElem?_zip_eq_some.mpr ⟨e, hk⟩⟩
      have yF : YardAt a Y d (os ++ zs) (L2.upd H7 dd (.frz od' (.dK kvs))) := y7.wr ny npp npd ndo
      have tF : TabsG a (L2.upd H7 dd (.frz od' (.dK kvs))) := t7.wr hd7
      refine ⟨_, rfl, dd, od', kvs, rfl, upd_same, ?_⟩
      refine for_it walk_values (fun i σ H' => (∃ x5, σ = [some (.ref Y.y), some (.ref b), some (.ref p), some (.ref dd), some (.int (k : Int)), x5, some (.ref ls)]) ∧ YardAt a Y d (os ++ zs.drop i) H' ∧ H' dd = some (.frz od' (.dK kvs)) ∧ TabsG a H' ∧ OnlyN (own Y d) H H')
        ⟨⟨none, rfl⟩, by rw [List.drop_zero]; exact yF, upd_same, tF, fun b o e n m => (upd_ne (od b o e n m)).trans (o7 b o e n m)⟩ (fun i σ H' _ p => p.2.2.1) ?_ ?_
      · rintro i v σ H8 H9 hi ⟨⟨x5, rfl⟩, y8, hd8, t8, o8⟩ ⟨rfl, q, hq⟩
        obtain ⟨n, hn, rfl⟩ := kat hq
        obtain ⟨m, hm⟩ := zat hn
        have hdrop : zs.drop i = (n, m) :: zs.drop (i + 1) := by
          rw [List.drop_eq_getElem_cons (by omega)]
          congr 1
          exact Option.some.inj ((List.getElem?_eq_getElem (by omega)).symm.trans hm)
        rw [hdrop] at y8
        have mem : (n, m) ∈ os ++ (n, m) :: zs.drop (i + 1) := List.mem_append_right _ List.mem_cons_self
        refine nm ?_
        dsimp only
        refine ⟨_, rfl, Y.y, Y.dy, _, rfl, y8.yo, yFs_no Y d (by decide) (by decide) (by decide), _, rfl, Y, d, _, (n : Int), rfl, y8, fun z => absurd rfl (z (n, m) mem), fun n' m' mem' en H10 y10 o10 => ?_⟩
        obtain rfl : n = n' := by omega
        rw [outs_mid y8.good] at y10
        exact ⟨⟨_, rfl⟩, y10, o10 _ _ hd8 (y8.off hd8 (fun _ z => by cases z) fun _ z => by cases z), t8.only y8 o10, o8.trans (OnlyN.of o10)⟩
      · rintro σ H8 ⟨⟨x5, rfl⟩, y8, hd8, t8, o8⟩
        rw [kl2, ← zl, List.drop_length, List.append_nil] at y8
        refine ⟨hd8, q2 (fun x hx => (fx x hx).1) nog _ (y8.wr ny npp npd ndo) (fun b o e n m => (upd_ne (od b o e n m)).trans (o8 b o e n m)) (t8.wr' hd8 (fun _ z => by cases z) fun _ z => by cases z)⟩
    · rw [f2] at best y7
      have hd7 := o7 _ _ hd6 ndo
      have nk : k ∉ (byFall (fits xs)).take j := fun z => by
        obtain ⟨i, hi⟩ := List.mem_iff_getElem?.mp z
        have hlt := (List.getElem?_eq_some_iff.mp hi).1
        rw [List.length_take] at hlt
        rw [List.getElem?_take_of_lt (by omega)] at hi
        have := (List.getElem?_inj (by omega) (ord_nodup (fits xs))).mp (hi.trans hk.symm)
        omega
      refine ⟨_, rfl, _, rfl, dd, _, rfl, DPut.k (k := Sum.inl (k : Int)) hd7 (by rw [List.length_map, List.length_zip, List.length_take, sizeLine_eq]; omega), ?_⟩
      have e8 : putK (((((byFall (fits xs)).take j).zip ns)).map kvP) (Sum.inl (k : Int)) (nI n) = (((byFall (fits xs)).take (j + 1)).zip (ns ++ [n])).map kvP := by
        rw [putK_new _ (valP_none fun q hq z => nk (by rw [← z]; exact (List.of_mem_zip hq).1)), take_snoc hk, List.zip_append (by rw [List.length_take]; omega), List.map_append]
        rfl
      rw [e8]
      have z8 : (ns ++ [n]).zip ((wishK xs).take (j + 1)) = ns.zip ((wishK xs).take j) ++ [(n, fit x)] := by
        rw [take_snoc hw, List.zip_append (by rw [nlen, List.length_take])]
        rfl
      refine ⟨ns ++ [n], some (.int (k : Int)), rfl, ?_, ?_, upd_same, ?_, ?_, ?_, ?_⟩
      · rw [take_snoc hw]
        exact gv.snoc best
      · rw [z8, ← List.append_assoc]
        exact y7.wr ny npp npd ndo
      · rw [upd_ne pdd]
        exact o7 _ _ hp6 npo
      · rw [upd_ne lsd]
        exact o7 _ _ ls6 nlo
      · exact (t6.only y6 o7).wr hd7
      · exact fun b o e n m => (upd_ne (od b o e n m)).trans (o7 _ _ (o6 b o e n m) m)
  · rintro σ H6 ⟨ns, x4, rfl, gv, y6, hd6, hp6, ls6, t6, o6⟩
    rw [List.length_map, ol] at gv y6 hd6
    rw [List.take_of_length_le (by omega)] at gv y6 hd6
    have nl := gv.len
    rw [wl] at nl
    dsimp only
    refine ⟨_, rfl, ls, _, rfl, .inl (SqL.of ls6), ?_⟩
    rw [List.length_map, lf]
    refine ⟨_, rfl, by omega, by omega, fun l nl2 => ?_⟩
    refine lc_out walk_range (fun i H' => H' l = some (.lst ((List.range i).map fun k => nI (placeOf (byFall (fits xs)) ns k))) ∧ (∀ b o, H6 b = some o → H' b = some o))
      ⟨upd_same, newK nl2⟩ (fun i H' _ _ => True.intro) ?_ ?_
    · rintro i v H8 H9 hi ⟨hl, s8⟩ ⟨rfl, rfl⟩
      have hi : i < xs.length := by have hi' : i < ((xs.length : Int) - 0).toNat := hi; omega
      have mi : i ∈ byFall (fits xs) := (ord_perm (fits xs)).mem_iff.mpr (List.mem_range.mpr (by omega))
      refine ⟨rfl, ?_⟩
      refine ⟨_, rfl, _, rfl, dd, nI (placeOf (byFall (fits xs)) ns i), rfl, ?_, _, hl, ?_, ?_, fun b o e => ?_⟩
      · have g := DGet.k (k := Sum.inl (i : Int)) (s8 _ _ hd6)
        rw [valP (by omega) mi] at g
        show DGet _ dd (V.int (0 + (i : Int))) _
        rw [show (0 : Int) + (i : Int) = (i : Int) by omega]
        exact g
      · rw [List.length_map, List.length_range, sizeLine_eq]
        omega
      · rw [List.range_succ, List.map_append]
        exact upd_same
      · rw [upd_ne (fun z => by rw [z, nl2] at e; cases e)]
        exact s8 _ _ e
    · rintro H7 ⟨hl, s7⟩
      exact q3 ns fx gv l H7 (y6.keep s7) (o6.trans (OnlyN.of (Only.same s7))) (t6.keep s7) (y6.new nl2) hl
end
/-! ### shown -/
def sp_shown (_ : PySem.W.Frag) (a : Ad) : Sp := fun vs H Q _ => ∃ (Y : YA) (d : Nat) (os : List PN), vs = [.ref Y.y] ∧ YardAt a Y d os H ∧ d ≤ 60 ∧ os.length ≤ 300 ∧
  ∀ (s : Str) (H' : Hp), (∀ b o, H b = some o → H' b = some o) → Note s os d → Q (.str s) H'
def rowF (f : Bool) (q : PN) : Row := ⟨q.1, q.2, f⟩
def RwAt (D : Addr) (rows : List Row) (H : Hp) : Prop := ∃ ts : List Addr, H D = some (.lst (ts.map V.ref)) ∧ Rws H ts rows
theorem RwAt.push {D t : Addr} {rows : List Row} {r : Row} {H : Hp} {ts : List Addr} (h : H D = some (.lst (ts.map V.ref))) (rw' : Rws H ts rows) (ht : H t = none) :
    RwAt D (rows ++ [r]) (L2.upd (L2.upd H t (.tup r.v)) D (.lst (ts.map V.ref ++ [.ref t]))) := by
  have nt : t ≠ D := fun z => by rw [z, h] at ht; cases ht
  refine ⟨ts ++ [t], by rw [upd_same, List.map_append]; rfl, Rws.snoc ?_ (rw'.keep fun t' xs e => ?_)⟩
  · rw [upd_ne nt]
    exact upd_same
  · rw [upd_ne (fun z => by rw [z, h] at e; cases e), upd_ne (ne_of_none e ht)]
    exact e
theorem rows_take {f : Bool} {A : List PN} {i : Nat} {q : PN} (h : A[i]? = some q) : (A.take (i + 1)).map (rowF f) = (A.take i).map (rowF f) ++ [rowF f q] := by
  rw [List.take_add_one, h, List.map_append]
  rfl
theorem perm_pre {α β : Type} {f : α → β} {L L' : List β} (h : L.Perm L') : ∀ M : List α, L' = M.map f → ∃ A : List α, L = A.map f ∧ A.Perm M := by
  induction h with
  | nil =>
    intro M e
    exact ⟨M, e, .refl _⟩
  | cons x _ ih =>
    intro M e
    obtain ⟨m, M', rfl, rfl, e2⟩ := List.map_eq_cons_iff.mp e.symm
    obtain ⟨A, rfl, p⟩ := ih M' e2.symm
    exact ⟨m :: A, rfl, p.cons _⟩
  | swap x y l =>
    intro M e
    obtain ⟨m, M', rfl, rfl, e2⟩ := List.map_eq_cons_iff.mp e.symm
    obtain ⟨m2, M2, rfl, rfl, e3⟩ := List.map_eq_cons_iff.mp e2
    exact ⟨m2 :: m :: M2, by rw [← e3]; rfl, .swap _ _ _⟩
  | trans _ _ h1 h2 =>
    intro M e
    obtain ⟨B, e2, p2⟩ := h2 M e
    obtain ⟨A, e1, p1⟩ := h1 B e2
    exact ⟨A, e1, p1.trans p2⟩
theorem outZ_pn (os : List PN) : ∃ A : List PN, outZ os = A.map toI ∧ A.Perm os := perm_pre (srt_perm _) os rfl
theorem frees_pn (os : List PN) (d : Nat) : ∃ B : List PN, frees os d = B.map toI ∧ B.Perm (freeP os d) := perm_pre (srt_perm _) (freeP os d) (freeN_map os d (d + 1)).symm
theorem Rws.app {H : Hp} : ∀ {ts us : List Addr} {rs ss : List Row}, Rws H ts rs → Rws H us ss → Rws H (ts ++ us) (rs ++ ss)
  | _, _, _, _, .nil, g => g
  | _, _, _, _, .cons a h, g => .cons a (h.app g)
theorem log_nat {n : Nat} (h : n ≤ 2 ^ 72) : ((n : Nat) : Int).natAbs.log2 < 1920 := by
  rw [Int.natAbs_natCast]
  by_cases z : n = 0
  · subst z
    decide
  · have : n.log2 < 73 := (Nat.log2_lt z).mpr (Nat.lt_of_le_of_lt h (by decide))
    omega
theorem num22 {n : Nat} (h : n ≤ 2 ^ 70) : (numS n).length ≤ 22 := numS_len (by decide) (Nat.lt_of_le_of_lt h (by decide))
theorem len_app (a b : Str) : (a ++ b).length = a.length + b.length := PySem.Str.length_append a b
theorem sum_le_all {l : List Nat} {k : Nat} (h : ∀ x ∈ l, x ≤ k) : l.sum ≤ l.length * k := by
  induction l with
  | nil => exact Nat.zero_le _
  | cons x l ih =>
    have h1 := h x List.mem_cons_self
    have h2 := ih fun y hy => h y (List.mem_cons_of_mem _ hy)
    rw [List.sum_cons, List.length_cons, Nat.succ_mul]
    omega
theorem join_room {rows : List Row} (h : ∀ r ∈ rows, r.n < 2 ^ 61 ∧ r.k ≤ 60) (l : rows.length ≤ 20000) : ((rows.map lineR).map fun x => x.length).sum + (rows.map lineR).length * (Str.ofString "\n").length ≤ 16777216 := by
  have h1 : ((rows.map lineR).map fun x => x.length).sum ≤ ((rows.map lineR).map fun x => x.length).length * 44 := sum_le_all fun x hx => by
    obtain ⟨s, hs, rfl⟩ := List.mem_map.mp hx
    obtain ⟨r, hr, rfl⟩ := List.mem_map.mp hs
    exact line_len (h r hr).1 (h r hr).2
  rw [List.length_map, List.length_map] at h1
  rw [List.length_map]
  have e : (Str.ofString "\n").length = 1 := rfl
  rw [e]
  omega
section
variable {P : Program} {w : World} {K : PySem.W.Frag} {mg : Str → Option Value} {base : Heap} {a : Ad}
theorem ok_shown (T : Txt K mg a) : FnOk P w K mg base CX0 3 a.f_shown a.d_shown ["yard"] (sp_shown K a) := by
  have G_Yard_free : FnOk P w K mg base CX0 2 a.f_Yard_free a.d_Yard_free ["self"] (sp_Yard_free K a) := ok_Yard_free T
  have G_Yard_out : FnOk P w K mg base CX0 1 a.f_Yard_out a.d_Yard_out ["self"] (sp_Yard_out K a) := ok_Yard_out T
  obtain ⟨tOUT, mOUT⟩ := T.v_OUT
  obtain ⟨tFREE, mFREE⟩ := T.v_FREE
  refine T.shown.fn.ok sc_shown (fun vs H Q E h => by first | (obtain ⟨rfl, _⟩ := h; rfl) | (obtain ⟨_, rfl, _⟩ := h; rfl) | (obtain ⟨_, _, rfl, _⟩ := h; rfl) | (obtain ⟨_, _, _, rfl, _⟩ := h; rfl) | (obtain ⟨_, _, _, _, rfl, _⟩ := h; rfl) | (obtain ⟨_, _, _, _, _, rfl, _⟩ := h; rfl) | (obtain ⟨_, _, _, _, _, _, rfl, _⟩ := h; rfl) | (obtain ⟨_, _, _, _, _, _, _, rfl, _⟩ := h; rfl) | (obtain ⟨_, _, _, _, _, _, _, _, rfl, _⟩ := h; rfl) | (obtain ⟨_, _, _, _, _, _, _, _, _, rfl, _⟩ := h; rfl) | (obtain ⟨_, _, _, _, _, _, _, _, _, _, rfl, _⟩ := h; rfl) | (obtain ⟨_, _, _, _, _, _, _, _, _, _, _, rfl, _⟩ := h; rfl)) (fun cdv A outer s H vs Q E hr h => ?_)
  refine ⟨_, pss_cons (ps_setLc (i := 1) (own := [("at", 2), ("size", 3)]) (g := gTup K 2 (gCons (gName 2) (gCons (gName 3) gNil))) rfl sc_shown.nd rfl rfl (sw_true rfl rfl rfl (by decide +kernel)) (pi_list (pe_meth0 (pv 0) T.cl_Yard T.m_Yard_out G_Yard_out (hr.mono (by decide)) T.b_Yard_out .nil pass0)) (blkOk_by (own := [("at", 2), ("size", 3)]) (N := ["yard", "rows", "at", "size", "state"]) (sc := defScope s_shown) (by decide +kernel)) (fun _ _ _ _ _ => (pg_tup rfl (pgs_cons (pg_name (i := 2) sc_shown.nd rfl (Or.inl rfl)) (pgs_cons (pg_name (i := 3) sc_shown.nd rfl (Or.inl rfl)) pgs_nil)))) (fun _ _ _ _ _ => pts_nil) (fun _ _ _ _ _ => (pe_tup (pa_cons (pv 2) (pa_cons (pv 3) (pa_cons (pe_glob (v := .str "out") rfl mOUT ⟨_, rfl⟩) pa_nil))))))
      (pss_cons (ps_expr (pe_bm PySem.F.plainAttrs_list PySem.F.slot_list_extend PySem.F.type_list_extend mt_extend (pv 1) (pa_cons (pe_lc (own := [("at", 2), ("size", 3)]) (g := gTup K 2 (gCons (gName 2) (gCons (gName 3) gNil))) rfl sc_shown.nd (pi_list (pe_meth0 (pv 0) T.cl_Yard T.m_Yard_free G_Yard_free (hr.mono (by decide)) T.b_Yard_free .nil pass0)) (blkOk_by (own := [("at", 2), ("size", 3)]) (N := ["yard", "rows", "at", "size", "state"]) (sc := defScope s_shown) (by decide +kernel)) (fun _ _ _ _ _ => (pg_tup rfl (pgs_cons (pg_name (i := 2) sc_shown.nd rfl (Or.inl rfl)) (pgs_cons (pg_name (i := 3) sc_shown.nd rfl (Or.inl rfl)) pgs_nil)))) (fun _ _ _ _ _ => pts_nil) (fun _ _ _ _ _ => (pe_tup (pa_cons (pv 2) (pa_cons (pv 3) (pa_cons (pe_glob (v := .str "free") rfl mFREE ⟨_, rfl⟩) pa_nil)))))) pa_nil)))
      (pss_one (ps_ret (pe_join pe_str (pe_lc (own := [("at", 2), ("size", 3), ("state", 4)]) (g := gTup K 3 (gCons (gName 2) (gCons (gName 3) (gCons (gName 4) gNil)))) rfl sc_shown.nd (pi_list (pe_callB (cr_sortedRows hr.units) (by rfl) T.z_sorted (by decide +kernel) (pa_cons (pv 1) pa_nil))) (blkOk_by (own := [("at", 2), ("size", 3), ("state", 4)]) (N := ["yard", "rows", "at", "size", "state"]) (sc := defScope s_shown) (by decide +kernel)) (fun _ _ _ _ _ => (pg_tup rfl (pgs_cons (pg_name (i := 2) sc_shown.nd rfl (Or.inl rfl)) (pgs_cons (pg_name (i := 3) sc_shown.nd rfl (Or.inl rfl)) (pgs_cons (pg_name (i := 4) sc_shown.nd rfl (Or.inl rfl)) pgs_nil))))) (fun _ _ _ _ _ => pts_nil) (fun _ _ _ _ _ => (pe_joined (PJ.cons (pe_fmt (pv 2)) (PJ.cons pe_str (PJ.cons (pe_fmt (pv 3)) (PJ.cons pe_str (PJ.cons (pe_fmt (pv 4)) PJ.nil)))))))))))), ?_⟩
  obtain ⟨Y, d, os, rfl, ya, d60, few, q⟩ := h
  obtain ⟨A, eA, pA⟩ := outZ_pn os
  obtain ⟨B, eB, pB⟩ := frees_pn os d
  have lA : A.length ≤ 300 := by rw [pA.length_eq]; exact few
  have lB : B.length ≤ 18400 := by rw [pB.length_eq]; exact freeP_len d60 few
  have pn : (A ++ B).Perm (os ++ freeP os d) := pA.append pB
  have gAB := (good_all ya.good).perm pn
  have p60 : 2 ^ d ≤ 2 ^ 60 := Nat.pow_le_pow_right (by decide) d60
  have each : ∀ q ∈ A ++ B, q.1 < 2 ^ 61 ∧ q.2 ≤ 60 := fun q hq => by
    have h := gAB.each q hq
    have h3 : q.1 < 2 ^ d := h.2.2
    have : (2 : Nat) ^ 60 < 2 ^ 61 := by decide
    exact ⟨by omega, by have := h.1; omega⟩
  refine ⟨_, rfl, Y.y, Y.dy, _, rfl, ya.yo, yFs_no Y d (by decide +kernel) (by decide +kernel) (by decide +kernel), Y, d, os, rfl, ya, fun l us H1 k1 nl hl tl => ?_⟩
  rw [eA] at tl
  refine ⟨l, rfl, ⟨_, SqL.of hl⟩, fun D newD => ?_⟩
  have lus := tl.len
  rw [List.length_map] at lus
  refine lc_out walk_list (fun i H' => RwAt D ((A.take i).map (rowF false)) H' ∧ (∀ b o, H1 b = some o → H' b = some o)) ⟨⟨[], upd_same, .nil⟩, newK newD⟩ (fun i H' _ ⟨_, k⟩ => SqL.of (k _ _ hl)) ?_ ?_
  · rintro i v H2 H3 hi ⟨⟨ts, hD, rws⟩, k2⟩ ⟨rfl, hv⟩
    rw [List.length_map, lus] at hi
    obtain ⟨p, hp⟩ : ∃ p, A[i]? = some p := ⟨_, List.getElem?_eq_getElem hi⟩
    obtain ⟨t, ht, hat⟩ := tl.get (i := i) (q := toI p) (by rw [List.getElem?_map, hp]; rfl)
    rw [List.getElem?_map, ht] at hv
    have hv := Option.some.inj hv
    subst hv
    have lts := rws.len
    rw [List.length_map, List.length_take] at lts
    refine ⟨t, _, rfl, SqT.of (k2 _ _ hat), rfl, _, _, rfl, _, _, rfl, rfl, rfl, ?_⟩
    refine ⟨_, rfl, _, rfl, by show 3 ≤ sizeLine; decide, fun t' nt' => ⟨ts.map V.ref, newK nt' _ _ hD, by rw [List.length_map, sizeLine_eq]; omega, ?_, fun b o e => ?_⟩⟩
    · rw [rows_take hp]
      exact RwAt.push (r := rowF false p) hD rws nt'
    · rw [upd_ne (fun z => by rw [z, newD] at e; cases e)]
      exact newK nt' _ _ (k2 _ _ e)
  rintro H2 ⟨rA, k2⟩
  rw [List.length_map, lus, List.take_of_length_le (Nat.le_refl _)] at rA
  have ya2 := ya.keep fun b o e => k2 _ _ (k1 _ _ e)
  refine ⟨_, rfl, .inl ⟨rfl, _, SqL.of rA.choose_spec.1⟩, ?_⟩
  refine ⟨_, rfl, Y.y, Y.dy, _, rfl, ya2.yo, yFs_no Y d (by decide +kernel) (by decide +kernel) (by decide +kernel), Y, d, os, rfl, ya2, fun l3 vs H3 k3 nl3 hl3 tl3 => ?_⟩
  rw [eB] at tl3
  obtain ⟨ts, hD, rws⟩ := rA
  have hD := k3 _ _ hD
  have rws := rws.keep fun t xs e => k3 _ _ e
  refine ⟨l3, rfl, ⟨_, SqL.of hl3⟩, fun E3 newE => ?_⟩
  have lvs := tl3.len
  rw [List.length_map] at lvs
  refine lc_out walk_list (fun i H' => RwAt E3 ((B.take i).map (rowF true)) H' ∧ (∀ b o, H3 b = some o → H' b = some o)) ⟨⟨[], upd_same, .nil⟩, newK newE⟩ (fun i H' _ ⟨_, k⟩ => SqL.of (k _ _ hl3)) ?_ ?_
  · rintro i v H4 H5 hi ⟨⟨ts, hD, rws⟩, k2⟩ ⟨rfl, hv⟩
    rw [List.length_map, lvs] at hi
    obtain ⟨p, hp⟩ : ∃ p, B[i]? = some p := ⟨_, List.getElem?_eq_getElem hi⟩
    obtain ⟨t, ht, hat⟩ := tl3.get (i := i) (q := toI p) (by rw [List.getElem?_map, hp]; rfl)
    rw [List.getElem?_map, ht] at hv
    have hv := Option.some.inj hv
    subst hv
    have lts := rws.len
    rw [List.length_map, List.length_take] at lts
    refine ⟨t, _, rfl, SqT.of (k2 _ _ hat), rfl, _, _, rfl, _, _, rfl, rfl, rfl, ?_⟩
    refine ⟨_, rfl, _, rfl, by show 3 ≤ sizeLine; decide, fun t' nt' => ⟨ts.map V.ref, newK nt' _ _ hD, by rw [List.length_map, sizeLine_eq]; omega, ?_, fun b o e => ?_⟩⟩
    · rw [rows_take hp]
      exact RwAt.push (r := rowF true p) hD rws nt'
    · rw [upd_ne (fun z => by rw [z, newE] at e; cases e)]
      exact newK nt' _ _ (k2 _ _ e)
  rintro H4 ⟨⟨ts4, hE4, rws4⟩, k4⟩
  rw [List.length_map, lvs, List.take_of_length_le (Nat.le_refl _)] at rws4
  have hD4 := k4 _ _ hD
  have rwsA := rws.keep fun t xs e => k4 _ _ e
  have lA4 := rwsA.len
  have lB4 := rws4.len
  rw [List.length_map] at lA4 lB4
  refine ⟨D, E3, _, _, rfl, rfl, hD4, hE4, by rw [List.length_map, List.length_map, sizeLine_eq]; omega, ?_⟩
  have nDE : D ≠ E3 := fun z => by rw [← z, hD] at newE; cases newE
  have rwsAll : Rws (L2.upd H4 D (.lst (ts.map V.ref ++ ts4.map V.ref))) (ts ++ ts4) (rowsOf A B) := by
    refine Rws.keep (Rws.app rwsA rws4) fun t xs e => ?_
    rw [upd_ne (fun z => by rw [z, hD4] at e; cases e)]
    exact e
  have dis : (rowsOf A B).Pairwise fun r s => r.n ≠ s.n := rows_ne (d := d) (by rw [rows_pn]; exact gAB)
  have k5 : ∀ b o, H b = some o → L2.upd H4 D (.lst (ts.map V.ref ++ ts4.map V.ref)) b = some o := fun b o e => by
    rw [upd_ne (fun z => by rw [← z, k1 _ _ e] at newD; cases newD)]
    exact k4 _ _ (k3 _ _ (k2 _ _ (k1 _ _ e)))
  have hD5 : L2.upd H4 D (.lst (ts.map V.ref ++ ts4.map V.ref)) D = some (.lst ((ts ++ ts4).map V.ref)) := by rw [upd_same, List.map_append]
  generalize L2.upd H4 D (.lst (ts.map V.ref ++ ts4.map V.ref)) = H5 at rwsAll k5 hD5 ⊢
  refine nm ?_
  dsimp only
  refine ⟨⟨_, rfl⟩, _, rfl, D, _, _, rfl, SqL.of hD5, rwsAll, dis, fun p us rows' np perm pw rws' => ?_⟩
  have k6 := fun b o e => newK (o := HO.lst (us.map V.ref)) np b o (k5 b o e)
  have hp6 : L2.upd H5 p (.lst (us.map V.ref)) p = some (.lst (us.map V.ref)) := upd_same
  generalize L2.upd H5 p (.lst (us.map V.ref)) = H6 at rws' k6 hp6 ⊢
  refine ⟨p, rfl, ⟨_, SqL.of hp6⟩, fun G3 newG => ?_⟩
  have lus' := rws'.len
  have eachR : ∀ r ∈ rows', r.n < 2 ^ 61 ∧ r.k ≤ 60 := fun r hr => by
    have h1 : r.pn ∈ (rowsOf A B).map Row.pn := List.mem_map.mpr ⟨r, perm.mem_iff.mp hr, rfl⟩
    rw [rows_pn] at h1
    exact each _ h1
  have lR : rows'.length ≤ 20000 := by
    rw [perm.length_eq]
    unfold rowsOf
    rw [List.length_append, List.length_map, List.length_map]
    omega
  refine lc_out walk_list (fun i H' => H' G3 = some (.lst (((rows'.take i).map lineR).map V.str)) ∧ (∀ b o, H6 b = some o → H' b = some o)) ⟨upd_same, newK newG⟩ (fun i H' _ ⟨_, k⟩ => SqL.of (k _ _ hp6)) ?_ ?_
  · rintro i v H7 H8 hi ⟨hG, k7⟩ ⟨rfl, hv⟩
    rw [List.length_map, lus'] at hi
    obtain ⟨r, hr⟩ : ∃ r, rows'[i]? = some r := ⟨_, List.getElem?_eq_getElem hi⟩
    obtain ⟨t, ht, hat⟩ := rws'.get hr
    rw [List.getElem?_map, ht] at hv
    have hv := Option.some.inj hv
    subst hv
    obtain ⟨e1, e2⟩ := eachR r (List.mem_of_getElem? hr)
    have p60' : 2 ^ r.k ≤ 2 ^ 60 := Nat.pow_le_pow_right (by decide) e2
    have c1 : (2 : Nat) ^ 61 ≤ 2 ^ 70 := by decide
    have c2 : (2 : Nat) ^ 60 ≤ 2 ^ 61 := by decide
    have c3 : (2 : Nat) ^ 70 ≤ 2 ^ 72 := by decide
    have n1 : (numS r.n).length ≤ 22 := num22 (by omega)
    have n2 : (numS (2 ^ r.k)).length ≤ 22 := num22 (by omega)
    have n3 : r.st.length ≤ 4 := by unfold Row.st; cases r.free <;> decide +kernel
    have n4 : (Str.empty : Str).length = 0 := rfl
    have n5 : (" " : Str).length = 1 := rfl
    have lts := hG
    unfold numS at n1 n2
    refine ⟨t, _, rfl, SqT.of (k7 _ _ hat), rfl, _, _, rfl, _, _, rfl, _, _, rfl, rfl, rfl, ?_⟩
    refine ⟨_, rfl, .inr ⟨_, rfl, log_nat (by omega), _, rfl, by rw [len_app, sizeLine_eq]; omega, ?_⟩⟩
    refine ⟨_, rfl, by rw [len_app, len_app, sizeLine_eq]; omega, ?_⟩
    refine ⟨_, rfl, .inr ⟨_, rfl, log_nat (by omega), _, rfl, by rw [len_app, len_app, len_app, sizeLine_eq]; omega, ?_⟩⟩
    refine ⟨_, rfl, by rw [len_app, len_app, len_app, len_app, sizeLine_eq]; omega, ?_⟩
    refine ⟨_, rfl, .inl ⟨_, rfl, by rw [sizeLine_eq]; omega, _, rfl, by rw [len_app, len_app, len_app, len_app, len_app, sizeLine_eq]; omega, ?_⟩⟩
    refine ⟨_, hG, by rw [List.length_map, List.length_map, List.length_take, sizeLine_eq]; omega, ?_, fun b o e => ?_⟩
    · have et : rows'.take (i + 1) = rows'.take i ++ [r] := by rw [List.take_add_one, hr]; rfl
      rw [upd_same, et, List.map_append, List.map_append]
      have el : lineR r = Str.empty ++ Str.ofString (toString ((r.n : Nat) : Int)) ++ " " ++ Str.ofString (toString (((2 ^ r.k : Nat)) : Int)) ++ " " ++ r.st := by
        refine str_ext ?_
        unfold lineR lineS numS Row.st wordS
        simp only [app_cps]
        rfl
      show _ = some (HO.lst (_ ++ [V.str (lineR r)]))
      rw [el]
    · rw [upd_ne (fun z => by rw [z, newG] at e; cases e)]
      exact k7 _ _ e
  rintro H7 ⟨hG, k7⟩
  rw [List.length_map, lus', List.take_of_length_le (Nat.le_refl _)] at hG
  refine ⟨_, G3, _, rfl, rfl, .inl (SqL.of hG), ?_, q _ H7 (fun b o e => k7 _ _ (k6 _ _ e)) ⟨rows', perm.trans (rowsOf_perm pA pB), pw, rfl⟩⟩
  exact join_room eachR lR
end
/-! ### law_k13: the text by counting -/
def sp_law_text (_ : PySem.W.Frag) (_ : Ad) : Sp := fun vs H Q _ => ∃ (l1 l2 : Addr) (us1 us2 : List Addr) (A B : List PN) (d : Nat), vs = [.ref l1, .ref l2] ∧ H l1 = some (.lst (us1.map V.ref)) ∧ Tups H us1 (A.map toI) ∧ H l2 = some (.lst (us2.map V.ref)) ∧ Tups H us2 (B.map toI) ∧
  Good d (A ++ B) ∧ d ≤ 60 ∧ A.length ≤ 300 ∧ B.length ≤ 18400 ∧ ∀ (s : Str) (H' : Hp), (∀ b o, H b = some o → H' b = some o) → NoteL s A B → Q (.str s) H'
section
variable {P : Program} {w : World} {K : PySem.W.Frag} {mg : Str → Option Value} {base : Heap} {a : Ad}
theorem ok_law_text (T : Txt K mg a) : FnOk P w K mg base CX0 1 a.f_law_text a.d_law_text ["_law_out", "_law_free"] (sp_law_text K a) := by
  refine T.law_text.fn.ok sc_law_text (fun vs H Q E h => by first | (obtain ⟨rfl, _⟩ := h; rfl) | (obtain ⟨_, rfl, _⟩ := h; rfl) | (obtain ⟨_, _, rfl, _⟩ := h; rfl) | (obtain ⟨_, _, _, rfl, _⟩ := h; rfl) | (obtain ⟨_, _, _, _, rfl, _⟩ := h; rfl) | (obtain ⟨_, _, _, _, _, rfl, _⟩ := h; rfl) | (obtain ⟨_, _, _, _, _, _, rfl, _⟩ := h; rfl) | (obtain ⟨_, _, _, _, _, _, _, rfl, _⟩ := h; rfl) | (obtain ⟨_, _, _, _, _, _, _, _, rfl, _⟩ := h; rfl) | (obtain ⟨_, _, _, _, _, _, _, _, _, rfl, _⟩ := h; rfl) | (obtain ⟨_, _, _, _, _, _, _, _, _, _, rfl, _⟩ := h; rfl) | (obtain ⟨_, _, _, _, _, _, _, _, _, _, _, rfl, _⟩ := h; rfl)) (fun cdv A outer s H vs Q E hr h => ?_)
  refine ⟨_, pss_cons (ps_set (i := 2) sc_law_text.nd rfl (Or.inl rfl) (pe_op op_cat (pe_lc (own := [("_law_piece", 3)]) (g := gName 3) (te := (tTup (tCons (tOp (rIxT K) (tVar 3) (tC (.int 0))) (tCons (tOp (rIxT K) (tVar 3) (tC (.int 1))) (tCons (tC (.str "out")) tNil))))) rfl sc_law_text.nd (pi_list (pv 0)) (blkOk_by (own := [("_law_piece", 3)]) (N := ["_law_out", "_law_free", "_law_rows", "_law_piece", "_law_row"]) (sc := defScope s_law_text) (by decide +kernel)) (fun _ _ _ _ _ => (pg_name (i := 3) sc_law_text.nd rfl (Or.inl rfl))) (fun _ _ _ _ _ => pts_nil) (fun _ _ _ _ _ => (pe_tup (pa_cons (pe_ix ix_tup (pv 3) pe_int (fun _ _ => rfl)) (pa_cons (pe_ix ix_tup (pv 3) pe_int (fun _ _ => rfl)) (pa_cons pe_str pa_nil)))))) (pe_lc (own := [("_law_piece", 3)]) (g := gName 3) (te := (tTup (tCons (tOp (rIxT K) (tVar 3) (tC (.int 0))) (tCons (tOp (rIxT K) (tVar 3) (tC (.int 1))) (tCons (tC (.str "free")) tNil))))) rfl sc_law_text.nd (pi_list (pv 1)) (blkOk_by (own := [("_law_piece", 3)]) (N := ["_law_out", "_law_free", "_law_rows", "_law_piece", "_law_row"]) (sc := defScope s_law_text) (by decide +kernel)) (fun _ _ _ _ _ => (pg_name (i := 3) sc_law_text.nd rfl (Or.inl rfl))) (fun _ _ _ _ _ => pts_nil) (fun _ _ _ _ _ => (pe_tup (pa_cons (pe_ix ix_tup (pv 3) pe_int (fun _ _ => rfl)) (pa_cons (pe_ix ix_tup (pv 3) pe_int (fun _ _ => rfl)) (pa_cons pe_str pa_nil))))))))
      (pss_one (ps_ret (pe_join pe_str (pe_lc (own := [("_law_row", 4)]) (g := gName 4) (te := (tOp (fun x y H Q => ∃ i j, x = .str i ∧ y = .str j ∧ i.length + j.length ≤ sizeLine ∧ Q (.str (i ++ j)) H) (tOp (fun x y H Q => ∃ i j, x = .str i ∧ y = .str j ∧ i.length + j.length ≤ sizeLine ∧ Q (.str (i ++ j)) H) (tOp (fun x y H Q => ∃ i j, x = .str i ∧ y = .str j ∧ i.length + j.length ≤ sizeLine ∧ Q (.str (i ++ j)) H) (tOp (fun x y H Q => ∃ i j, x = .str i ∧ y = .str j ∧ i.length + j.length ≤ sizeLine ∧ Q (.str (i ++ j)) H) (tCB (fun xs H Q => ∃ i, xs = [.int i] ∧ i.natAbs.log2 < 1920 ∧ Q (.str (toString i)) H) (tCons (tOp (rIxT K) (tVar 4) (tC (.int 0))) tNil)) (tC (.str " "))) (tCB (fun xs H Q => ∃ i, xs = [.int i] ∧ i.natAbs.log2 < 1920 ∧ Q (.str (toString i)) H) (tCons (tOp (rIxT K) (tVar 4) (tC (.int 1))) tNil))) (tC (.str " "))) (tOp (rIxT K) (tVar 4) (tC (.int 2))))) rfl sc_law_text.nd (pi_list (pe_callB (cr_sortedRows hr.units) (by rfl) T.z_sorted (by decide +kernel) (pa_cons (pv 2) pa_nil))) (blkOk_by (own := [("_law_row", 4)]) (N := ["_law_out", "_law_free", "_law_rows", "_law_piece", "_law_row"]) (sc := defScope s_law_text) (by decide +kernel)) (fun _ _ _ _ _ => (pg_name (i := 4) sc_law_text.nd rfl (Or.inl rfl))) (fun _ _ _ _ _ => pts_nil) (fun _ _ _ _ _ => (pe_op op_add_str (pe_op op_add_str (pe_op op_add_str (pe_op op_add_str (pe_callTy call_str_int (by rfl) T.z_str (by decide +kernel) (pa_cons (pe_ix ix_tup (pv 4) pe_int (fun _ _ => rfl)) pa_nil)) pe_str) (pe_callTy call_str_int (by rfl) T.z_str (by decide +kernel) (pa_cons (pe_ix ix_tup (pv 4) pe_int (fun _ _ => rfl)) pa_nil))) pe_str) (pe_ix ix_tup (pv 4) pe_int (fun _ _ => rfl)))))))), ?_⟩
  obtain ⟨l, l3, us, vs, A, B, d, rfl, hl, tl, hl3, tl3, gAB, d60, lA, lB, q⟩ := h
  have p60 : 2 ^ d ≤ 2 ^ 60 := Nat.pow_le_pow_right (by decide) d60
  have each : ∀ q ∈ A ++ B, q.1 < 2 ^ 61 ∧ q.2 ≤ 60 := fun q hq => by
    have h := gAB.each q hq
    have h3 : q.1 < 2 ^ d := h.2.2
    have : (2 : Nat) ^ 60 < 2 ^ 61 := by decide
    exact ⟨by omega, by have := h.1; omega⟩
  refine ⟨_, rfl, l, rfl, ⟨_, SqL.of hl⟩, fun D newD => ?_⟩
  have lus := tl.len
  rw [List.length_map] at lus
  refine lc_out walk_list (fun i H' => RwAt D ((A.take i).map (rowF false)) H' ∧ (∀ b o, H b = some o → H' b = some o)) ⟨⟨[], upd_same, .nil⟩, newK newD⟩ (fun i H' _ ⟨_, k⟩ => SqL.of (k _ _ hl)) ?_ ?_
  · rintro i v H2 H3 hi ⟨⟨ts, hD, rws⟩, k2⟩ ⟨rfl, hv⟩
    rw [List.length_map, lus] at hi
    obtain ⟨p, hp⟩ : ∃ p, A[i]? = some p := ⟨_, List.getElem?_eq_getElem hi⟩
    obtain ⟨t, ht, hat⟩ := tl.get (i := i) (q := toI p) (by rw [List.getElem?_map, hp]; rfl)
    rw [List.getElem?_map, ht] at hv
    have hv := Option.some.inj hv
    subst hv
    have lts := rws.len
    rw [List.length_map, List.length_take] at lts
    refine ⟨rfl, ?_⟩
    refine ⟨_, rfl, t, _, _, nI p.1, rfl, rfl, SqT.of (k2 _ _ hat), at_of (j := 0) rfl rfl, _, rfl, t, _, _, sI p.2, rfl, rfl, SqT.of (k2 _ _ hat), at_of (j := 1) rfl rfl, by show 3 ≤ sizeLine; decide, fun t' nt' => ⟨ts.map V.ref, newK nt' _ _ hD, by rw [List.length_map, sizeLine_eq]; omega, ?_, fun b o e => ?_⟩⟩
    · rw [rows_take hp]
      exact RwAt.push (r := rowF false p) hD rws nt'
    · rw [upd_ne (fun z => by rw [z, newD] at e; cases e)]
      exact newK nt' _ _ (k2 _ _ e)
  rintro H2 ⟨rA, k2⟩
  rw [List.length_map, lus, List.take_of_length_le (Nat.le_refl _)] at rA
  obtain ⟨ts, hD, rws⟩ := rA
  refine ⟨_, rfl, l3, rfl, ⟨_, SqL.of (k2 _ _ hl3)⟩, fun E3 newE => ?_⟩
  have lvs := tl3.len
  rw [List.length_map] at lvs
  refine lc_out walk_list (fun i H' => RwAt E3 ((B.take i).map (rowF true)) H' ∧ (∀ b o, H2 b = some o → H' b = some o)) ⟨⟨[], upd_same, .nil⟩, newK newE⟩ (fun i H' _ ⟨_, k⟩ => SqL.of (k _ _ (k2 _ _ hl3))) ?_ ?_
  · rintro i v H4 H5 hi ⟨⟨ts, hD, rws⟩, k4⟩ ⟨rfl, hv⟩
    rw [List.length_map, lvs] at hi
    obtain ⟨p, hp⟩ : ∃ p, B[i]? = some p := ⟨_, List.getElem?_eq_getElem hi⟩
    obtain ⟨t, ht, hat⟩ := tl3.get (i := i) (q := toI p) (by rw [List.getElem?_map, hp]; rfl)
    rw [List.getElem?_map, ht] at hv
    have hv := Option.some.inj hv
    subst hv
    have lts := rws.len
    rw [List.length_map, List.length_take] at lts
    have hat5 := k4 _ _ (k2 _ _ hat)
    refine ⟨rfl, ?_⟩
    refine ⟨_, rfl, t, _, _, nI p.1, rfl, rfl, SqT.of hat5, at_of (j := 0) rfl rfl, _, rfl, t, _, _, sI p.2, rfl, rfl, SqT.of hat5, at_of (j := 1) rfl rfl, by show 3 ≤ sizeLine; decide, fun t' nt' => ⟨ts.map V.ref, newK nt' _ _ hD, by rw [List.length_map, sizeLine_eq]; omega, ?_, fun b o e => ?_⟩⟩
    · rw [rows_take hp]
      exact RwAt.push (r := rowF true p) hD rws nt'
    · rw [upd_ne (fun z => by rw [z, newE] at e; cases e)]
      exact newK nt' _ _ (k4 _ _ e)
  rintro H4 ⟨⟨ts4, hE4, rws4⟩, k4⟩
  rw [List.length_map, lvs, List.take_of_length_le (Nat.le_refl _)] at rws4
  have hD4 := k4 _ _ hD
  have rwsA := rws.keep fun t xs e => k4 _ _ e
  have lA4 := rwsA.len
  have lB4 := rws4.len
  rw [List.length_map] at lA4 lB4
  refine ⟨D, E3, _, _, rfl, rfl, hD4, hE4, by rw [List.length_map, List.length_map, sizeLine_eq]; omega, fun Z nZ => nm ?_⟩
  have rwsAll : Rws (L2.upd H4 Z (.lst (ts.map V.ref ++ ts4.map V.ref))) (ts ++ ts4) (rowsOf A B) := Rws.keep (Rws.app rwsA rws4) fun t xs e => newK nZ _ _ e
  have dis : (rowsOf A B).Pairwise fun r s => r.n ≠ s.n := rows_ne (d := d) (by rw [rows_pn]; exact gAB)
  have k5 : ∀ b o, H b = some o → L2.upd H4 Z (.lst (ts.map V.ref ++ ts4.map V.ref)) b = some o := fun b o e => newK nZ _ _ (k4 _ _ (k2 _ _ e))
  have hD5 : L2.upd H4 Z (.lst (ts.map V.ref ++ ts4.map V.ref)) Z = some (.lst ((ts ++ ts4).map V.ref)) := by rw [upd_same, List.map_append]
  generalize L2.upd H4 Z (.lst (ts.map V.ref ++ ts4.map V.ref)) = H5 at rwsAll k5 hD5 ⊢
  dsimp only
  refine ⟨⟨_, rfl⟩, _, rfl, Z, _, _, rfl, SqL.of hD5, rwsAll, dis, fun p us rows' np perm pw rws' => ?_⟩
  have k6 := fun b o e => newK (o := HO.lst (us.map V.ref)) np b o (k5 b o e)
  have hp6 : L2.upd H5 p (.lst (us.map V.ref)) p = some (.lst (us.map V.ref)) := upd_same
  generalize L2.upd H5 p (.lst (us.map V.ref)) = H6 at rws' k6 hp6 ⊢
  refine ⟨p, rfl, ⟨_, SqL.of hp6⟩, fun G3 newG => ?_⟩
  have lus' := rws'.len
  have eachR : ∀ r ∈ rows', r.n < 2 ^ 61 ∧ r.k ≤ 60 := fun r hr => by
    have h1 : r.pn ∈ (rowsOf A B).map Row.pn := List.mem_map.mpr ⟨r, perm.mem_iff.mp hr, rfl⟩
    rw [rows_pn] at h1
    exact each _ h1
  have lR : rows'.length ≤ 20000 := by
    rw [perm.length_eq]
    unfold rowsOf
    rw [List.length_append, List.length_map, List.length_map]
    omega
  refine lc_out walk_list (fun i H' => H' G3 = some (.lst (((rows'.take i).map lineR).map V.str)) ∧ (∀ b o, H6 b = some o → H' b = some o)) ⟨upd_same, newK newG⟩ (fun i H' _ ⟨_, k⟩ => SqL.of (k _ _ hp6)) ?_ ?_
  · rintro i v H7 H8 hi ⟨hG, k7⟩ ⟨rfl, hv⟩
    rw [List.length_map, lus'] at hi
    obtain ⟨r, hr⟩ : ∃ r, rows'[i]? = some r := ⟨_, List.getElem?_eq_getElem hi⟩
    obtain ⟨t, ht, hat⟩ := rws'.get hr
    rw [List.getElem?_map, ht] at hv
    have hv := Option.some.inj hv
    subst hv
    obtain ⟨e1, e2⟩ := eachR r (List.mem_of_getElem? hr)
    have p60' : 2 ^ r.k ≤ 2 ^ 60 := Nat.pow_le_pow_right (by decide) e2
    have c1 : (2 : Nat) ^ 61 ≤ 2 ^ 70 := by decide
    have c2 : (2 : Nat) ^ 60 ≤ 2 ^ 61 := by decide
    have c3 : (2 : Nat) ^ 70 ≤ 2 ^ 72 := by decide
    have n1 : (numS r.n).length ≤ 22 := num22 (by omega)
    have n2 : (numS (2 ^ r.k)).length ≤ 22 := num22 (by omega)
    have n3 : r.st.length ≤ 4 := by unfold Row.st; cases r.free <;> decide +kernel
    have n4 : (Str.empty : Str).length = 0 := rfl
    have n5 : (" " : Str).length = 1 := rfl
    have lts := hG
    unfold numS at n1 n2
    have hat7 := k7 _ _ hat
    refine ⟨rfl, ?_⟩
    refine ⟨_, rfl, t, _, _, nI r.n, rfl, rfl, SqT.of hat7, at_of (j := 0) rfl rfl, _, rfl, log_nat (by omega), ?_⟩
    refine ⟨_, _, rfl, rfl, by rw [sizeLine_eq]; omega, ?_⟩
    refine ⟨_, rfl, t, _, _, sI r.k, rfl, rfl, SqT.of hat7, at_of (j := 1) rfl rfl, _, rfl, log_nat (by omega), ?_⟩
    refine ⟨_, _, rfl, rfl, by rw [len_app, sizeLine_eq]; omega, ?_⟩
    refine ⟨_, _, rfl, rfl, by rw [len_app, len_app, sizeLine_eq]; omega, ?_⟩
    refine ⟨_, rfl, t, _, _, .str r.st, rfl, rfl, SqT.of hat7, at_of (j := 2) rfl rfl, ?_⟩
    refine ⟨_, _, rfl, rfl, by rw [len_app, len_app, len_app, sizeLine_eq]; omega, ?_⟩
    refine ⟨_, hG, by rw [List.length_map, List.length_map, List.length_take, sizeLine_eq]; omega, ?_, fun b o e => ?_⟩
    · have et : rows'.take (i + 1) = rows'.take i ++ [r] := by rw [List.take_add_one, hr]; rfl
      rw [upd_same, et, List.map_append, List.map_append]
      rfl
    · rw [upd_ne (fun z => by rw [z, newG] at e; cases e)]
      exact k7 _ _ e
  rintro H7 ⟨hG, k7⟩
  rw [List.length_map, lus', List.take_of_length_le (Nat.le_refl _)] at hG
  refine ⟨_, G3, _, rfl, rfl, .inl (SqL.of hG), ?_, q _ H7 (fun b o e => k7 _ _ (k6 _ _ e)) ⟨rows', perm, pw, rfl⟩⟩
  exact join_room eachR lR
end
/-! ### law_k13: owners -/
def InP (q : PN) (c : Int) : Prop := (q.1 : Int) ≤ c ∧ c < (q.1 : Int) + ((2 ^ q.2 : Nat) : Int)
def sp_law_owner (_ : PySem.W.Frag) (_ : Ad) : Sp := fun vs H Q _ => ∃ (l : Addr) (ts : List Addr) (held : List PN) (c : Int), vs = [.ref l, .int c] ∧ H l = some (.lst (ts.map V.ref)) ∧ Tups H ts (held.map toI) ∧
  ((∀ q ∈ held, ¬ InP q c) → Q .non H) ∧ (∀ q ∈ held, InP q c → Q (nI q.1) H)
theorem inP_one {d : Nat} {os : List PN} (g : Good d os) {p q : PN} {c : Int} (hp : p ∈ os) (hq : q ∈ os) (h1 : InP p c) (h2 : InP q c) : p = q := by
  obtain ⟨n, rfl⟩ : ∃ n : Nat, c = (n : Int) := ⟨c.toNat, by have := h1.1; omega⟩
  have e : ∀ p : PN, p ∈ os → InP p (n : Int) → n / 2 ^ p.2 = p.1 / 2 ^ p.2 := fun p hp h => by
    have a := (g.each p hp).2.1
    obtain ⟨i1, i2⟩ := h
    generalize p.1 / 2 ^ p.2 = i at a
    have pp : 0 < 2 ^ p.2 := Nat.pow_pos (by decide)
    refine Nat.div_eq_of_lt_le (by omega) ?_
    rw [Nat.succ_mul]
    omega
  exact g.one hp hq (e p hp h1) (e q hq h2)
theorem updL {a : Ad} {Y : YA} {d : Nat} {os : List PN} {H : Hp} (h : YardAt a Y d os H) {b : Addr} {xs : List V} {o : HO} (e : H b = some (.lst xs)) (n : b ∉ own Y d) : YardAt a Y d os (L2.upd H b o) := by
  have k : ∀ {c u}, H c = some u → (∀ xs, u ≠ .lst xs) → L2.upd H b o c = some u := fun {c u} ec nu => by
    rw [upd_ne (fun z => by rw [z, e] at ec; exact nu _ (Option.some.inj ec).symm)]
    exact ec
  refine ⟨k h.yo (by intro xs z; cases z), k h.so (by intro xs z; cases z), ⟨k h.po.ob (by intro xs z; cases z), k h.po.dk (by intro xs z; cases z), fun j hj => ?_, h.po.inj, h.po.rise, h.po.len, h.po.d60⟩, h.good, h.few, h.ne⟩
  rw [upd_ne (fun z => n (by rw [← z]; exact lsA_own _ (lsA_mem hj)))]
  exact h.po.at_ j hj
def sp_law_refused_so (_ : PySem.W.Frag) (a : Ad) : Sp := fun vs H Q _ => ∃ (Y : YA) (d : Nat) (os : List PN) (x : Int), vs = [.ref Y.y, .int x] ∧ YardAt a Y d os H ∧ (∀ q ∈ os, (q.1 : Int) ≠ x) ∧ ∀ H', (∀ b o, H b = some o → H' b = some o) → Q (.bl true) H'
def sp_law_owners (_ : PySem.W.Frag) (a : Ad) : Sp := fun vs H Q _ => ∃ (Y : YA) (d : Nat) (os held : List PN) (lh lp : Addr) (ts : List Addr) (ns : List Int), vs = [.ref Y.y, .ref lh, sI d, .ref lp] ∧ YardAt a Y d os H ∧ H lh = some (.lst (ts.map V.ref)) ∧ Tups H ts (held.map toI) ∧
  held.Perm os ∧ held.length ≤ 400 ∧ H lp = some (.lst (ns.map V.int)) ∧ ns.length ≤ 10 ∧ ∀ H', (∀ b o, H b = some o → H' b = some o) → Q (.bl true) H'
section
variable {P : Program} {w : World} {K : PySem.W.Frag} {mg : Str → Option Value} {base : Heap} {a : Ad}
theorem ok_law_owner (T : Txt K mg a) : FnOk P w K mg base CX0 1 a.f_law_owner a.d_law_owner ["_law_held", "_law_cell"] (sp_law_owner K a) := by
  refine T.law_owner.fn.ok sc_law_owner (fun vs H Q E h => by first | (obtain ⟨rfl, _⟩ := h; rfl) | (obtain ⟨_, rfl, _⟩ := h; rfl) | (obtain ⟨_, _, rfl, _⟩ := h; rfl) | (obtain ⟨_, _, _, rfl, _⟩ := h; rfl) | (obtain ⟨_, _, _, _, rfl, _⟩ := h; rfl) | (obtain ⟨_, _, _, _, _, rfl, _⟩ := h; rfl) | (obtain ⟨_, _, _, _, _, _, rfl, _⟩ := h; rfl) | (obtain ⟨_, _, _, _, _, _, _, rfl, _⟩ := h; rfl) | (obtain ⟨_, _, _, _, _, _, _, _, rfl, _⟩ := h; rfl) | (obtain ⟨_, _, _, _, _, _, _, _, _, rfl, _⟩ := h; rfl) | (obtain ⟨_, _, _, _, _, _, _, _, _, _, rfl, _⟩ := h; rfl) | (obtain ⟨_, _, _, _, _, _, _, _, _, _, _, rfl, _⟩ := h; rfl)) (fun cdv A outer s H vs Q E hr h => ?_)
  refine ⟨_, pss_cons (ps_for PassesOwn.never rfl (pi_list (pv 0)) (pg_name (i := 2) sc_law_owner.nd rfl (Or.inl rfl)) (pss_one (ps_if (PW.pt (pw_and (pt_cmpR op_le (pe_ix ix_tup (pv 2) pe_int (fun _ _ => rfl)) (pv 1) (nomark _)) (pw_and1 (pt_cmpR op_lt (pv 1) (pe_op op_add (pe_ix ix_tup (pv 2) pe_int (fun _ _ => rfl)) (pe_ix ix_tup (pv 2) pe_int (fun _ _ => rfl))) (nomark _))))) (pss_one (ps_ret (pe_ix ix_tup (pv 2) pe_int (fun _ _ => rfl)))) pss_nil)))
      (pss_one (ps_ret pe_non)), ?_⟩
  obtain ⟨l, ts, held, c, rfl, at_, tups, q1, q2⟩ := h
  refine ⟨_, rfl, l, rfl, ⟨_, SqL.of at_⟩, ?_⟩
  have lts := tups.len
  rw [List.length_map] at lts
  refine for_list (xs := ts.map V.ref) (fun i σ H' => H' = H ∧ (∃ x, σ = [some (.ref l), some (.int c), x]) ∧ ∀ j q, j < i → held[j]? = some q → ¬ InP q c) ⟨rfl, ⟨none, rfl⟩, fun j q h => by omega⟩ (fun i σ H' _ p => by rw [p.1]; exact SqL.of at_) ?_ ?_
  · rintro i v σ H' hv ⟨rfl, ⟨x, rfl⟩, no⟩
    have hj := (List.getElem?_eq_some_iff.mp hv).1
    rw [List.length_map, lts] at hj
    obtain ⟨pq, hq⟩ : ∃ z, held[i]? = some z := ⟨_, List.getElem?_eq_getElem hj⟩
    obtain ⟨t, ht, hatt⟩ := tups.get (i := i) (q := toI pq) (by rw [List.getElem?_map, hq]; rfl)
    rw [List.getElem?_map, ht] at hv
    have hv := Option.some.inj hv
    subst hv
    have next : ¬ InP pq c → H' = H' ∧ (∃ x, [some (V.ref l), some (V.int c), some (V.ref t)] = [some (V.ref l), some (V.int c), x]) ∧ ∀ j q, j < i + 1 → held[j]? = some q → ¬ InP q c := fun z => ⟨rfl, ⟨_, rfl⟩, fun j q hj e => by
      by_cases ej : j = i
      · subst ej
        rw [hq] at e
        rw [← Option.some.inj e]
        exact z
      · exact no j q (by omega) e⟩
    refine ⟨_, rfl, t, _, _, nI pq.1, rfl, rfl, SqT.of hatt, at_of (j := 0) rfl rfl, _, rfl, _, _, rfl, rfl, _, rfl, ?_⟩
    by_cases c1 : (pq.1 : Int) ≤ c
    · refine iteTof (decide_eq_true c1) ?_
      refine ⟨_, rfl, _, rfl, t, _, _, nI pq.1, rfl, rfl, SqT.of hatt, at_of (j := 0) rfl rfl, _, rfl, t, _, _, sI pq.2, rfl, rfl, SqT.of hatt, at_of (j := 1) rfl rfl, _, _, rfl, rfl, _, _, rfl, rfl, _, rfl, ?_⟩
      by_cases c2 : c < (pq.1 : Int) + ((2 ^ pq.2 : Nat) : Int)
      · refine iteTof (decide_eq_true c2) ?_
        exact ⟨_, rfl, t, _, _, nI pq.1, rfl, rfl, SqT.of hatt, at_of (j := 0) rfl rfl, q2 pq (List.mem_of_getElem? hq) ⟨c1, c2⟩⟩
      · refine iteFof (decide_eq_false c2) ?_
        exact next fun z => c2 z.2
    · refine iteFof (decide_eq_false c1) (iteFof rfl ?_)
      exact next fun z => c1 z.1
  · rintro σ H' ⟨rfl, ⟨x, rfl⟩, no⟩
    rw [List.length_map, lts] at no
    refine q1 fun q hq => ?_
    obtain ⟨j, hj⟩ := List.mem_iff_getElem?.mp hq
    exact no j q (List.getElem?_eq_some_iff.mp hj).1 hj
theorem ok_law_refused_so (T : Txt K mg a) : FnOk P w K mg base CX0 5 a.f_law_refused_so a.d_law_refused_so ["_law_yard", "_law_place"] (sp_law_refused_so K a) := by
  have G_Yard_resize : FnOk P w K mg base (L2.CX P w) 4 a.f_Yard_resize a.d_Yard_resize ["self", "at", "want"] (sp_Yard_resize K a) := ok_Yard_resize T
  have G_Yard_take_back : FnOk P w K mg base (L2.CX P w) 4 a.f_Yard_take_back a.d_Yard_take_back ["self", "at"] (sp_Yard_take_back K a) := ok_Yard_take_back T
  refine T.law_refused_so.fn.ok sc_law_refused_so (fun vs H Q E h => by first | (obtain ⟨rfl, _⟩ := h; rfl) | (obtain ⟨_, rfl, _⟩ := h; rfl) | (obtain ⟨_, _, rfl, _⟩ := h; rfl) | (obtain ⟨_, _, _, rfl, _⟩ := h; rfl) | (obtain ⟨_, _, _, _, rfl, _⟩ := h; rfl) | (obtain ⟨_, _, _, _, _, rfl, _⟩ := h; rfl) | (obtain ⟨_, _, _, _, _, _, rfl, _⟩ := h; rfl) | (obtain ⟨_, _, _, _, _, _, _, rfl, _⟩ := h; rfl) | (obtain ⟨_, _, _, _, _, _, _, _, rfl, _⟩ := h; rfl) | (obtain ⟨_, _, _, _, _, _, _, _, _, rfl, _⟩ := h; rfl) | (obtain ⟨_, _, _, _, _, _, _, _, _, _, rfl, _⟩ := h; rfl) | (obtain ⟨_, _, _, _, _, _, _, _, _, _, _, rfl, _⟩ := h; rfl)) (fun cdv A outer s H vs Q E hr h => ?_)
  refine ⟨_, pss_cons (ps_set (i := 2) sc_law_refused_so.nd rfl (Or.inl rfl) pe_bl)
      (pss_cons (ps_try_only (tb := fun W => (tDrop (tMethS a.c_Yard "take_back" (sp_Yard_take_back K a) (WE W) (tVar 0) (tCons (tVar 1) tNil)))) (ts := fun _ _ _ => (tAsg (tC (.bl true)) (gName 2))) (Wout := fun _ _ _ _ => False) rfl rfl ⟨rfl, by decide, Or.inl T.e_NotOut.g⟩ takes0 (fun W pn xe tk _ => (pss_one (ps_expr (pe_methS (pv 0) T.cl_Yard T.m_Yard_take_back G_Yard_take_back (hr.mono (by decide)) T.b_Yard_take_back (fun σ => passAt tk σ) (by exact (pa_cons (pv 1) pa_nil)))))) (fun _ _ _ _ _ _ _ => (pss_one (ps_set (i := 2) sc_law_refused_so.nd rfl (Or.inl rfl) pe_bl))))
      (pss_cons (ps_try_only (tb := fun W => (tDrop (tMethS a.c_Yard "resize" (sp_Yard_resize K a) (WE W) (tVar 0) (tCons (tVar 1) (tCons (tC (.int 1)) tNil))))) (ts := fun _ _ _ => (tRet (tVar 2))) (Wout := fun _ _ _ _ => False) rfl rfl ⟨rfl, by decide, Or.inl T.e_NotOut.g⟩ takes0 (fun W pn xe tk _ => (pss_one (ps_expr (pe_methS (pv 0) T.cl_Yard T.m_Yard_resize G_Yard_resize (hr.mono (by decide)) T.b_Yard_resize (fun σ => passAt tk σ) (by exact (pa_cons (pv 1) (pa_cons pe_int pa_nil))))))) (fun _ _ _ _ _ _ _ => (pss_one (ps_ret (pv 2)))))
      (pss_one (ps_ret pe_bl)))), ?_⟩
  obtain ⟨Y, d, os, x, rfl, ya, no, q⟩ := h
  refine nm ?_
  dsimp only
  refine ⟨_, rfl, Y.y, Y.dy, _, rfl, ya.yo, yFs_no Y d (by decide +kernel) (by decide +kernel) (by decide +kernel), _, rfl, Y, d, os, x, rfl, ya, fun _ => ?_, fun n h m e => absurd e.symm (no (n, h) m)⟩
  refine ⟨true, T.x_NotOut_NotOut, fun _ a0 _ => nm ?_, fun z => Bool.noConfusion z⟩
  dsimp only
  refine ⟨_, rfl, Y.y, Y.dy, _, rfl, ya.yo, yFs_no Y d (by decide +kernel) (by decide +kernel) (by decide +kernel), _, rfl, Y, d, os, x, 1, rfl, ya, fun _ => ?_, fun n h m e => absurd e.symm (no (n, h) m)⟩
  refine ⟨true, T.x_NotOut_NotOut, fun _ a0 _ => ?_, fun z => Bool.noConfusion z⟩
  exact ⟨_, rfl, q H fun b o e => e⟩
theorem ok_law_owners (T : Txt K mg a) : FnOk P w K mg base CX0 6 a.f_law_owners a.d_law_owners ["_law_yard", "_law_held", "_law_cells", "_law_places"] (sp_law_owners K a) := by
  have G_Yard_owner : FnOk P w K mg base CX0 1 a.f_Yard_owner a.d_Yard_owner ["self", "cell"] (sp_Yard_owner K a) := ok_Yard_owner T
  have G_law_owner : FnOk P w K mg base CX0 1 a.f_law_owner a.d_law_owner ["_law_held", "_law_cell"] (sp_law_owner K a) := ok_law_owner T
  have G_law_refused_so : FnOk P w K mg base CX0 5 a.f_law_refused_so a.d_law_refused_so ["_law_yard", "_law_place"] (sp_law_refused_so K a) := ok_law_refused_so T
  refine T.law_owners.fn.ok sc_law_owners (fun vs H Q E h => by first | (obtain ⟨rfl, _⟩ := h; rfl) | (obtain ⟨_, rfl, _⟩ := h; rfl) | (obtain ⟨_, _, rfl, _⟩ := h; rfl) | (obtain ⟨_, _, _, rfl, _⟩ := h; rfl) | (obtain ⟨_, _, _, _, rfl, _⟩ := h; rfl) | (obtain ⟨_, _, _, _, _, rfl, _⟩ := h; rfl) | (obtain ⟨_, _, _, _, _, _, rfl, _⟩ := h; rfl) | (obtain ⟨_, _, _, _, _, _, _, rfl, _⟩ := h; rfl) | (obtain ⟨_, _, _, _, _, _, _, _, rfl, _⟩ := h; rfl) | (obtain ⟨_, _, _, _, _, _, _, _, _, rfl, _⟩ := h; rfl) | (obtain ⟨_, _, _, _, _, _, _, _, _, _, rfl, _⟩ := h; rfl) | (obtain ⟨_, _, _, _, _, _, _, _, _, _, _, rfl, _⟩ := h; rfl)) (fun cdv A outer s H vs Q E hr h => ?_)
  refine ⟨_, pss_cons (ps_for PassesOwn.never rfl (pi_list (pv 1)) (pg_name (i := 4) sc_law_owners.nd rfl (Or.inl rfl)) (pss_one (ps_set (i := 3) sc_law_owners.nd rfl (Or.inl rfl) (pe_op op_cat (pv 3) (pe_lst (pa_cons (pe_op op_sub (pe_op op_add (pe_ix ix_tup (pv 4) pe_int (fun _ _ => rfl)) (pe_ix ix_tup (pv 4) pe_int (fun _ _ => rfl))) pe_int) (pa_cons (pe_op op_add (pe_ix ix_tup (pv 4) pe_int (fun _ _ => rfl)) (pe_ix ix_tup (pv 4) pe_int (fun _ _ => rfl))) pa_nil)))))))
      (pss_cons (ps_for PassesOwn.never rfl (pi_list (pv 3)) (pg_name (i := 5) sc_law_owners.nd rfl (Or.inl rfl)) (pss_cons (ps_set (i := 6) sc_law_owners.nd rfl (Or.inl rfl) (pe_call G_law_owner (hr.mono (by decide)) rfl T.law_owner.mg T.law_owner.fn.kp T.law_owner.bd .nil pass0 (pa_cons (pv 1) (pa_cons (pv 5) pa_nil))))
      (pss_one (ps_if (PW.pt (pw_or (pt_cmpR op_ne (pe_meth (pv 0) T.cl_Yard T.m_Yard_owner G_Yard_owner (hr.mono (by decide)) T.b_Yard_owner .nil pass0 (pa_cons (pv 5) pa_nil)) (pv 6) (nomark _)) (pw_or1 (PW.pt (pw_and (pt_cmpR op_ne (pv 6) (pv 5) (nomark _)) (pw_and1 (pt_not (pt_val (pe_call G_law_refused_so (hr.mono (by decide)) rfl T.law_refused_so.mg T.law_refused_so.fn.kp T.law_refused_so.bd .nil pass0 (pa_cons (pv 0) (pa_cons (pv 5) pa_nil))))))))))) (pss_one (ps_ret pe_bl)) pss_nil))))
      (pss_one (ps_ret pe_bl))), ?_⟩
  obtain ⟨Y, d, os, held, lh, lp, ts, ns, rfl, ya, hat, tups, pm, few, hp, lns, q⟩ := h
  have lts := tups.len
  rw [List.length_map] at lts
  refine ⟨_, rfl, lh, rfl, ⟨_, SqL.of hat⟩, ?_⟩
  refine for_list (xs := ts.map V.ref) (fun i σ H' => ∃ (l : Addr) (ms : List Int) (x4 x5 x6 : Option V), σ = [some (.ref Y.y), some (.ref lh), some (sI d), some (.ref l), x4, x5, x6] ∧ H' l = some (.lst (ms.map V.int)) ∧ ms.length = ns.length + 2 * i ∧ (∀ b o, H b = some o → H' b = some o))
    ⟨lp, ns, none, none, none, rfl, hp, rfl, fun b o e => e⟩ (fun i σ H' _ p => by obtain ⟨_, _, _, _, _, _, _, _, k⟩ := p; exact SqL.of (k _ _ hat)) ?_ ?_
  · rintro i v σ H2 hv ⟨l, ms, x4, x5, x6, rfl, hl, lm, k2⟩
    have hj := (List.getElem?_eq_some_iff.mp hv).1
    rw [List.length_map, lts] at hj
    obtain ⟨p, hq⟩ : ∃ z, held[i]? = some z := ⟨_, List.getElem?_eq_getElem hj⟩
    obtain ⟨t, ht, hatt⟩ := tups.get (i := i) (q := toI p) (by rw [List.getElem?_map, hq]; rfl)
    rw [List.getElem?_map, ht] at hv
    have hv := Option.some.inj hv
    subst hv
    have h2 := k2 _ _ hatt
    refine nm ?_
    refine ⟨_, rfl, _, rfl, t, _, _, nI p.1, rfl, rfl, SqT.of h2, at_of (j := 0) rfl rfl, _, rfl, t, _, _, sI p.2, rfl, rfl, SqT.of h2, at_of (j := 1) rfl rfl, _, _, rfl, rfl, _, _, rfl, rfl, ?_⟩
    refine ⟨_, rfl, t, _, _, nI p.1, rfl, rfl, SqT.of h2, at_of (j := 0) rfl rfl, _, rfl, t, _, _, sI p.2, rfl, rfl, SqT.of h2, at_of (j := 1) rfl rfl, _, _, rfl, rfl, ?_⟩
    refine ⟨by show 2 ≤ sizeLine; decide, fun z nz => ⟨l, z, _, _, rfl, rfl, newK nz _ _ hl, upd_same, by rw [List.length_map, sizeLine_eq]; show ms.length + 2 ≤ _; omega, fun z2 nz2 => ?_⟩⟩
    exact ⟨z2, ms ++ [_, _], _, _, _, rfl, by show L2.upd _ z2 _ z2 = _; rw [upd_same, List.map_append]; rfl, by rw [List.length_append, lm]; show ns.length + 2 * i + 2 = _; omega, fun b o e => newK nz2 _ _ (newK nz _ _ (k2 _ _ e))⟩
  rintro σ H2 ⟨l, ms, x4, x5, x6, rfl, hl, lm, k2⟩
  rw [List.length_map, lts] at lm
  have ya2 := ya.keep k2
  dsimp only
  refine ⟨_, rfl, l, rfl, ⟨_, SqL.of hl⟩, ?_⟩
  refine for_list (xs := ms.map V.int) (fun i σ H' => ∃ (x4 x5 x6 : Option V), σ = [some (.ref Y.y), some (.ref lh), some (sI d), some (.ref l), x4, x5, x6] ∧ (∀ b o, H2 b = some o → H' b = some o))
    ⟨_, _, _, rfl, fun b o e => e⟩ (fun i σ H' _ p => by obtain ⟨_, _, _, _, k⟩ := p; exact SqL.of (k _ _ hl)) ?_ ?_
  · rintro i v σ H3 hv ⟨y4, y5, y6, rfl, k3⟩
    rw [List.getElem?_map] at hv
    obtain ⟨x, _, rfl⟩ := Option.map_eq_some_iff.mp hv
    have ya3 := ya2.keep k3
    have k03 := fun b o e => k3 b o (k2 b o e)
    have tups3 := tups.keep fun t xs e => k03 _ _ e
    refine nm ?_
    refine ⟨_, rfl, _, rfl, lh, ts, held, x, rfl, k03 _ _ hat, tups3, fun nodue => nm ?_, fun qq hqq inq => nm ?_⟩
    · dsimp only
      refine ⟨_, rfl, Y.y, Y.dy, _, rfl, ya3.yo, yFs_no Y d (by decide +kernel) (by decide +kernel) (by decide +kernel), _, rfl, Y, d, os, x, rfl, ya3, fun _ => ?_, fun q hq c1 c2 => absurd ⟨c1, c2⟩ (nodue q (pm.mem_iff.mpr hq))⟩
      refine ⟨_, rfl, rfl, _, rfl, iteFof rfl ?_⟩
      refine ⟨_, rfl, _, rfl, rfl, _, rfl, iteTof rfl ?_⟩
      have no : ∀ q ∈ os, (q.1 : Int) ≠ x := fun q hq e => nodue q (pm.mem_iff.mpr hq) (by have : 0 < 2 ^ q.2 := Nat.pow_pos (by decide); exact ⟨by omega, by omega⟩)
      refine ⟨_, rfl, _, rfl, Y, d, os, x, rfl, ya3, no, fun HA sA => ?_⟩
      exact ⟨true, rfl, iteF ⟨_, _, _, rfl, fun b o e => sA _ _ (k3 _ _ e)⟩⟩
    · dsimp only
      refine ⟨_, rfl, Y.y, Y.dy, _, rfl, ya3.yo, yFs_no Y d (by decide +kernel) (by decide +kernel) (by decide +kernel), _, rfl, Y, d, os, x, rfl, ya3, fun no => absurd inq (no qq (pm.mem_iff.mp hqq)), fun q2 hq2 c1 c2 => ?_⟩
      have eq2 := inP_one ya.good hq2 (pm.mem_iff.mp hqq) ⟨c1, c2⟩ inq
      subst eq2
      refine ⟨_, rfl, rfl, _, rfl, iteFof (by simp) ?_⟩
      refine ⟨_, rfl, _, rfl, rfl, _, rfl, ?_⟩
      by_cases ex : (q2.1 : Int) = x
      · refine iteFof (by rw [show nI q2.1 = V.int x from congrArg V.int ex]; simp) (iteFof rfl ?_)
        exact ⟨_, _, _, rfl, k3⟩
      refine iteTof (by rw [decide_eq_false (show ¬ nI q2.1 = V.int x from fun z => ex (V.int.inj z))]; rfl) ?_
      have no : ∀ q ∈ os, (q.1 : Int) ≠ x := fun q hq e => ex (by
        rw [inP_one ya.good hq2 hq inq (by have : 0 < 2 ^ q.2 := Nat.pow_pos (by decide); exact ⟨by omega, by omega⟩)]
        exact e)
      refine ⟨_, rfl, _, rfl, Y, d, os, x, rfl, ya3, no, fun HA sA => ?_⟩
      exact ⟨true, rfl, iteF ⟨_, _, _, rfl, fun b o e => sA _ _ (k3 _ _ e)⟩⟩
  · rintro σ H3 ⟨y4, y5, y6, rfl, k3⟩
    exact q _ fun b o e => k3 _ _ (k2 _ _ e)
end
/-! ### give_all: what was given, by the wishes' order -/
theorem Gv.perm {d : Nat} {ks ns : List Nat} : ∀ {os os' : List PN}, Gv d os ks ns → os'.Perm os → Gv d os' ks ns
  | _, _, .nil, _ => .nil
  | _, _, .cons b r, p => .cons (b.perm p) (r.perm (p.append_right _))
theorem HeldAt.onlyN {a : Ad} {Y : YA} {d : Nat} {os held : List PN} {H H' : Hp} {l : Addr} (h : HeldAt (own Y d) H l held) (ya : YardAt a Y d os H) (o : OnlyN (own Y d) H H') : HeldAt (own Y d) H' l held := by
  obtain ⟨n, ts, h1, h2⟩ := h
  exact ⟨n, ts, o _ _ h1 (fun _ z => by cases z) n, h2.keep fun t xs e => o _ _ e (fun _ z => by cases z) (ya.off e (by intro xs z; cases z) (by intro xs z; cases z))⟩
def gotPN (xs : List Int) (ns : List Nat) : List PN := (List.range xs.length).map fun k => (placeOf (byFall (fits xs)) ns k, fit (xs.getD k 0))
theorem place_at : ∀ {ord ns : List Nat} {j k n : Nat}, ord.Nodup → ord[j]? = some k → ns[j]? = some n → placeOf ord ns k = n
  | _ :: _, [], _, _, _, _, _, e => by simp at e
  | c :: ord, m :: ns, 0, k, n, _, e1, e2 => by
    cases e1
    cases e2
    unfold placeOf
    rw [List.zip_cons_cons, List.lookup_cons_self]
    rfl
  | c :: ord, m :: ns, j + 1, k, n, nd, e1, e2 => by
    obtain ⟨h1, h2⟩ := List.nodup_cons.mp nd
    have ne : k ≠ c := fun z => h1 (by rw [← z]; exact List.mem_of_getElem? e1)
    have := place_at (j := j) h2 e1 e2
    unfold placeOf at this ⊢
    rw [List.zip_cons_cons, List.lookup_cons, show (k == c) = false from beq_eq_false_iff_ne.mpr ne]
    exact this
theorem got_perm {xs : List Int} {ns : List Nat} (l : ns.length = xs.length) : (gotPN xs ns).Perm (ns.zip (wishK xs)) := by
  have lf : (fits xs).length = xs.length := by rw [fits, List.length_map]
  have e : ns.zip (wishK xs) = (byFall (fits xs)).map fun k => (placeOf (byFall (fits xs)) ns k, fit (xs.getD k 0)) := by
    apply List.ext_getElem?
    intro j
    have ol := ord_len (fits xs)
    rcases Nat.lt_or_ge j xs.length with h | h
    · obtain ⟨n, hn⟩ : ∃ n, ns[j]? = some n := ⟨_, List.getElem?_eq_getElem (by omega)⟩
      obtain ⟨k, hk⟩ : ∃ k, (byFall (fits xs))[j]? = some k := ⟨_, List.getElem?_eq_getElem (by omega)⟩
      have h1 : (ns.zip (wishK xs))[j]? = some (n, fit (xs.getD k 0)) := List.getElem?_zip_eq_some.mpr ⟨hn, by rw [wishK, List.getElem?_map, hk]; rfl⟩
      rw [h1, List.getElem?_map, hk]
      show some (n, fit (xs.getD k 0)) = some (placeOf (byFall (fits xs)) ns k, fit (xs.getD k 0))
      rw [place_at (ord_nodup (fits xs)) hk hn]
    · rw [List.getElem?_eq_none (by rw [List.length_zip, wishK_len]; omega), List.getElem?_eq_none (by rw [List.length_map]; omega)]
  rw [e]
  unfold gotPN
  rw [← lf]
  exact (ord_perm (fits xs)).symm.map _
def spLawT (K : PySem.W.Frag) (p : Addr) : Sp := fun vs H Q _ => ∃ (a : Addr) (ns : List Int), vs = [.ref a] ∧ SqL K H a (ns.map V.int) ∧ ns.length ≤ 63 ∧ (∀ z ∈ ns, Builtin.Int.intBits z ≤ 1048576) ∧ H p = some (.tbl #[]) ∧ ∀ H', Q (.bl true) H'
abbrev sp_lawT (K : PySem.W.Frag) (a : Ad) : Sp := spLawT K a.p_give_all
/-! ### law_k13: two yards -/
theorem unK {H H' : Hp} {p : Addr} (k : ∀ b u, H b = some u → H' b = some u) (h : H' p = none) : H p = none := Classical.byContradiction fun z => by
  obtain ⟨o, ho⟩ := Option.ne_none_iff_exists'.mp z
  rw [k _ _ ho] at h
  cases h
theorem onlyY_new {a : Ad} {Y : YA} {d : Nat} {os : List PN} {H H' : Hp} (o : Only (own Y d) H H') (y : YardAt a Y d os H') {p : Addr} (h : H' p = none) : H p = none := Classical.byContradiction fun z => by
  obtain ⟨u, hu⟩ := Option.ne_none_iff_exists'.mp z
  rw [o _ _ hu (y.new h)] at h
  cases h
/-- nothing, or a table -/
def NewT (H : Hp) (p : Addr) : Prop := ∀ o, H p = some o → ∃ ps, o = .tbl ps
theorem onlyN_new {a : Ad} {Y : YA} {d : Nat} {os : List PN} {H H' : Hp} (o : OnlyN (own Y d) H H') (y : YardAt a Y d os H') {p : Addr} (h : H' p = none) : NewT H p := fun u hu => Classical.byContradiction fun z => by
  rw [o _ _ hu (fun ps e => z ⟨ps, e⟩) (y.new h)] at h
  cases h
theorem YardAt.newT {a : Ad} {Y : YA} {d : Nat} {os : List PN} {H : Hp} (y : YardAt a Y d os H) {p : Addr} (h : NewT H p) : p ∉ own Y d := by
  cases e : H p with
  | none => exact y.new e
  | some o =>
    obtain ⟨ps, rfl⟩ := h o e
    exact y.off e (fun _ z => by cases z) fun _ z => by cases z
theorem YardAt.twoN {a : Ad} {Y Z : YA} {d e : Nat} {os us : List PN} {H H' : Hp} (h2 : YardAt a Z e us H) (h1 : YardAt a Y d os H) (n : ∀ b ∈ own Z e, b ∉ own Y d) (o : OnlyN (own Y d) H H') : YardAt a Z e us H' := by
  have pdn : Z.pd ∉ own Y d := fun z => by
    rcases List.mem_cons.mp z with z | z
    · have x := h2.po.dk
      rw [z, h1.so] at x
      have x : os.map outI = pdK e Z.ls := HO.dK.inj (Option.some.inj x)
      have m : ((Sum.inl ((2 ^ 0 : Nat) : Int) : Key), V.ref (Z.ls 0)) ∈ pdK e Z.ls := List.mem_map.mpr ⟨0, List.mem_range.mpr (by omega), rfl⟩
      rw [← x] at m
      obtain ⟨q, _, eq⟩ := List.mem_map.mp m
      cases congrArg Prod.snd eq
    · exact h1.po.off h2.po.dk (by intro xs z; cases z) z
  have nt : ∀ {o : HO}, (∀ ps, o ≠ .tbl ps) → ∀ ps, o ≠ .tbl ps := fun h => h
  exact ⟨o _ _ h2.yo (fun _ z => by cases z) (h1.off h2.yo (by intro xs z; cases z) (by intro xs z; cases z)), o _ _ h2.so (fun _ z => by cases z) (n _ List.mem_cons_self), ⟨o _ _ h2.po.ob (fun _ z => by cases z) (h1.off h2.po.ob (by intro xs z; cases z) (by intro xs z; cases z)), o _ _ h2.po.dk (fun _ z => by cases z) pdn, fun j hj => o _ _ (h2.po.at_ j hj) (fun _ z => by cases z) (n _ (lsA_own _ (lsA_mem hj))), h2.po.inj, h2.po.rise, h2.po.len, h2.po.d60⟩, h2.good, h2.few, h2.ne⟩
structure Duo (a : Ad) (Y Z : YA) (d : Nat) (S : List Addr) (HB H : Hp) (osY hY : List PN) (lY : Addr) (osZ hZ : List PN) (lZ : Addr) : Prop where
  dj : ∀ b ∈ own Z d, b ∉ own Y d
  sS : ∀ b, b ∈ S ↔ b ∈ own Y d ∨ b ∈ own Z d
  yY : YardAt a Y d osY H
  yZ : YardAt a Z d osZ H
  heY : HeldAt S H lY hY
  heZ : HeldAt S H lZ hZ
  pY : hY.Perm osY
  pZ : hZ.Perm osZ
  tb : TabsG a H
  on : OnlyN S HB H
section
variable {a : Ad} {Y Z : YA} {d : Nat} {S : List Addr} {HB H : Hp} {osY hY : List PN} {lY : Addr} {osZ hZ : List PN} {lZ : Addr}
theorem Duo.swap (D : Duo a Y Z d S HB H osY hY lY osZ hZ lZ) : Duo a Z Y d S HB H osZ hZ lZ osY hY lY :=
  ⟨fun b h z => D.dj b z h, fun b => (D.sS b).trans Or.comm, D.yZ, D.yY, D.heZ, D.heY, D.pZ, D.pY, D.tb, D.on⟩
theorem HeldAt.sub {S S' : List Addr} {H : Hp} {l : Addr} {held : List PN} (h : HeldAt S H l held) (s : ∀ b ∈ S', b ∈ S) : HeldAt S' H l held := ⟨fun z => h.1 (s _ z), h.2⟩
theorem Duo.hY' (D : Duo a Y Z d S HB H osY hY lY osZ hZ lZ) : HeldAt (own Y d) H lY hY := D.heY.sub fun b h => (D.sS b).mpr (.inl h)
theorem Duo.hZ' (D : Duo a Y Z d S HB H osY hY lY osZ hZ lZ) : HeldAt (own Z d) H lZ hZ := D.heZ.sub fun b h => (D.sS b).mpr (.inr h)
theorem Duo.keep {H' : Hp} (D : Duo a Y Z d S HB H osY hY lY osZ hZ lZ) (k : ∀ b o, H b = some o → H' b = some o) : Duo a Y Z d S HB H' osY hY lY osZ hZ lZ :=
  ⟨D.dj, D.sS, D.yY.keep k, D.yZ.keep k, D.heY.same k, D.heZ.same k, D.pY, D.pZ, D.tb.keep k, D.on.trans (OnlyN.of (Only.same k))⟩
theorem Duo.step {H' : Hp} {os' h' : List PN} {l' : Addr} (D : Duo a Y Z d S HB H osY hY lY osZ hZ lZ) (y' : YardAt a Y d os' H') (he : HeldAt (own Y d) H' l' h') (p : h'.Perm os') (o : OnlyN (own Y d) H H') (t : TabsG a H') (fr : l' = lY ∨ NewT H l') : Duo a Y Z d S HB H' os' h' l' osZ hZ lZ := by
  refine ⟨D.dj, D.sS, y', D.yZ.twoN D.yY D.dj o, ⟨fun z => ?_, he.2⟩, ?_, p, D.pZ, t, D.on.trans fun b u e n m => o b u e n fun z => m ((D.sS b).mpr (.inl z))⟩
  · rcases (D.sS _).mp z with z | z
    · exact he.1 z
    · rcases fr with rfl | fr
      · exact D.hZ'.1 |> fun _ => D.heY.1 ((D.sS _).mpr (.inr z))
      · exact D.yZ.newT fr z
  · obtain ⟨n, ts, h1, h2⟩ := D.heZ
    exact ⟨n, ts, o _ _ h1 (fun _ z => by cases z) fun z => n ((D.sS _).mpr (.inl z)), h2.keep fun t xs e => o _ _ e (fun _ z => by cases z) (D.yY.off e (by intro xs z; cases z) (by intro xs z; cases z))⟩
end
namespace X
def sp_law_done (_ : PySem.W.Frag) (a : Ad) : Sp := fun vs H Q _ => ∃ (Y : YA) (d : Nat) (os held : List PN) (l : Addr) (c : Int), vs = [.ref Y.y, .ref l, .int c, sI d] ∧ YardAt a Y d os H ∧ HeldAt (own Y d) H l held ∧ held.Perm os ∧ os.length < 50000 ∧
  ∀ (os' : List PN) (l' : Addr) (H' : Hp), YardAt a Y d os' H' → HeldAt (own Y d) H' l' (doneF d held c) → (doneF d held c).Perm os' → os'.length ≤ os.length + 1 → Only (own Y d) H H' → (l' = l ∨ H l' = none) → Q (.ref l') H'
section
variable {P : Program} {w : World} {K : PySem.W.Frag} {mg : Str → Option Value} {base : Heap} {a : Ad}
theorem ok_law_done (T : Txt K mg a) : FnOk P w K mg base CX0 5 a.f_law_done a.d_law_done ["_law_yard", "_law_held", "_law_cell", "_law_cells"] (sp_law_done K a) := by
  have G_Yard_give : FnOk P w K mg base (L2.CX P w) 4 a.f_Yard_give a.d_Yard_give ["self", "want"] (sp_Yard_give K a) := ok_Yard_give T
  have G_Yard_resize : FnOk P w K mg base (L2.CX P w) 4 a.f_Yard_resize a.d_Yard_resize ["self", "at", "want"] (sp_Yard_resize K a) := ok_Yard_resize T
  have G_Yard_take_back : FnOk P w K mg base (L2.CX P w) 4 a.f_Yard_take_back a.d_Yard_take_back ["self", "at"] (sp_Yard_take_back K a) := ok_Yard_take_back T
  have G_law_fitting : FnOk P w K mg base CX0 1 a.f_law_fitting a.d_law_fitting ["_law_want_here"] (sp_law_fitting K a) := ok_law_fitting T
  have G_law_want : FnOk P w K mg base CX0 2 a.f_law_want a.d_law_want ["_law_cell", "_law_cells"] (sp_law_want K a) := ok_law_want T
  refine T.law_done.fn.ok sc_law_done (fun vs H Q E h => by first | (obtain ⟨rfl, _⟩ := h; rfl) | (obtain ⟨_, rfl, _⟩ := h; rfl) | (obtain ⟨_, _, rfl, _⟩ := h; rfl) | (obtain ⟨_, _, _, rfl, _⟩ := h; rfl) | (obtain ⟨_, _, _, _, rfl, _⟩ := h; rfl) | (obtain ⟨_, _, _, _, _, rfl, _⟩ := h; rfl) | (obtain ⟨_, _, _, _, _, _, rfl, _⟩ := h; rfl) | (obtain ⟨_, _, _, _, _, _, _, rfl, _⟩ := h; rfl) | (obtain ⟨_, _, _, _, _, _, _, _, rfl, _⟩ := h; rfl) | (obtain ⟨_, _, _, _, _, _, _, _, _, rfl, _⟩ := h; rfl) | (obtain ⟨_, _, _, _, _, _, _, _, _, _, rfl, _⟩ := h; rfl) | (obtain ⟨_, _, _, _, _, _, _, _, _, _, _, rfl, _⟩ := h; rfl)) (fun cdv A outer s H vs Q E hr h => ?_)
  refine ⟨_, pss_cons (ps_set (i := 4) sc_law_done.nd rfl (Or.inl rfl) (pe_op op_fdiv (pv 2) pe_int))
      (pss_cons (ps_if (PW.pt (pw_or (pt_cmpR op_lt (pe_op op_mod (pv 2) pe_int) pe_int (nomark _)) (pw_or1 (pt_cmpR (op_eqD hr.units) (pv 1) (pe_lst pa_nil) (nomark _))))) (pss_cons (ps_set (i := 5) sc_law_done.nd rfl (Or.inl rfl) (pe_call G_law_want (hr.mono (by decide)) rfl T.law_want.mg T.law_want.fn.kp T.law_want.bd .nil pass0 (pa_cons (pv 4) (pa_cons (pv 3) pa_nil))))
      (pss_cons (ps_try_only (tb := fun W => (tAsg (tMethS a.c_Yard "give" (sp_Yard_give K a) (WE W) (tVar 0) (tCons (tVar 5) tNil)) (gName 6))) (ts := fun _ _ _ => (tRet (tVar 1))) (Wout := fun _ _ _ _ => False) rfl rfl ⟨rfl, by decide, Or.inl T.e_YardError.g⟩ takes0 (fun W pn xe tk _ => (pss_one (ps_set (i := 6) sc_law_done.nd rfl (Or.inl rfl) (pe_methS (pv 0) T.cl_Yard T.m_Yard_give G_Yard_give (hr.mono (by decide)) T.b_Yard_give (fun σ => passAt tk σ) (by exact (pa_cons (pv 5) pa_nil)))))) (fun _ _ _ _ _ _ _ => (pss_one (ps_ret (pv 1)))))
      (pss_one (ps_ret (pe_op op_cat (pv 1) (pe_lst (pa_cons (pe_tup (pa_cons (pv 6) (pa_cons (pe_call G_law_fitting (hr.mono (by decide)) rfl T.law_fitting.mg T.law_fitting.fn.kp T.law_fitting.bd .nil pass0 (pa_cons (pv 5) pa_nil)) pa_nil))) pa_nil))))))) pss_nil)
      (pss_cons (ps_set (i := 7) sc_law_done.nd rfl (Or.inr rfl) (pe_ix ix_list (pv 1) (pe_op op_modN (pv 4) (pe_callB call_len_seq (by rfl) T.z_len PySem.boot_len (pa_cons (pv 1) pa_nil))) (fun _ _ => rfl)))
      (pss_cons (ps_setLc (i := 8) (own := [("_law_one", 10)]) (g := gName 10) (tt := (tTest (tOp (rNeD K) (tVar 10) (tVar 7)))) rfl sc_law_done.nd rfl rfl (sw_true rfl rfl rfl (by decide +kernel)) (pi_list (pv 1)) (blkOk_by (own := [("_law_one", 10)]) (N := ["_law_yard", "_law_held", "_law_cell", "_law_cells", "_law_rest", "_law_want_here", "_law_at", "_law_piece", "_law_left", "_law_size", "_law_one"]) (sc := defScope s_law_done) (by decide +kernel)) (fun _ _ _ _ _ => (pg_name (i := 10) sc_law_done.nd rfl (Or.inl rfl))) (fun _ _ _ _ _ => (pts_one (pt_cmpR (op_neD hr.units) (pv 10) (pv 7) (nomark _)))) (fun _ _ _ _ _ => (pv 10)))
      (pss_cons (ps_if (pt_cmpR op_eq (pe_op op_mod (pv 2) pe_int) pe_int (nomark _)) (pss_cons (ps_expr (pe_meth (pv 0) T.cl_Yard T.m_Yard_take_back G_Yard_take_back (hr.mono (by decide)) T.b_Yard_take_back .nil passL (pa_cons (pe_ix ix_tup (pv 7) pe_int (fun _ _ => rfl)) pa_nil)))
      (pss_one (ps_ret (pv 8)))) pss_nil)
      (pss_cons (ps_set (i := 5) sc_law_done.nd rfl (Or.inl rfl) (pe_call G_law_want (hr.mono (by decide)) rfl T.law_want.mg T.law_want.fn.kp T.law_want.bd .nil pass0 (pa_cons (pe_op op_fdivW (pv 4) (pe_callB call_len_seq (by rfl) T.z_len PySem.boot_len (pa_cons (pv 1) pa_nil))) (pa_cons (pv 3) pa_nil))))
      (pss_cons (ps_try_only (tb := fun W => (tAsg (tMethS a.c_Yard "resize" (sp_Yard_resize K a) (WE W) (tVar 0) (tCons (tOp (rIxT K) (tVar 7) (tC (.int 0))) (tCons (tVar 5) tNil))) (gName 9))) (ts := fun _ _ _ => (tRet (tVar 1))) (Wout := fun _ _ _ _ => False) rfl rfl ⟨rfl, by decide, Or.inl T.e_YardError.g⟩ takes0 (fun W pn xe tk _ => (pss_one (ps_set (i := 9) sc_law_done.nd rfl (Or.inl rfl) (pe_methS (pv 0) T.cl_Yard T.m_Yard_resize G_Yard_resize (hr.mono (by decide)) T.b_Yard_resize (fun σ => passAt tk σ) (by exact (pa_cons (pe_ix ix_tup (pv 7) pe_int (fun _ _ => rfl)) (pa_cons (pv 5) pa_nil))))))) (fun _ _ _ _ _ _ _ => (pss_one (ps_ret (pv 1)))))
      (pss_one (ps_ret (pe_op op_cat (pv 8) (pe_lst (pa_cons (pe_tup (pa_cons (pe_ix ix_tup (pv 7) pe_int (fun _ _ => rfl)) (pa_cons (pv 9) pa_nil))) pa_nil))))))))))), ?_⟩
  obtain ⟨Y, d, os, held, l, c, rfl, ya, ha, pm, few, q⟩ := h
  have d60 := ya.po.d60
  have gh : Good d held := ya.good.perm pm
  have lh := pm.length_eq
  obtain ⟨nl, ts, hat, tups⟩ := id ha
  have lts := tups.len
  rw [List.length_map] at lts
  refine ⟨_, rfl, _, _, rfl, rfl, ⟨by decide, by decide⟩, ?_⟩
  refine ⟨_, rfl, _, _, rfl, rfl, by show (0 : Int) < 4; decide, _, _, rfl, rfl, _, rfl, ?_⟩
  -- a wish
  have wish : ∀ (H1 : Hp), (∀ b o, H b = some o → H1 b = some o) → c % 4 < 2 ∨ held = [] → ∀ (H2 : Hp), (∀ b o, H1 b = some o → H2 b = some o) →
      (giveF d held (wantF (c / 4) d) = none → ∀ H3, (∀ b o, H2 b = some o → H3 b = some o) → Q (.ref l) H3) ∧
      (∀ n, giveF d held (wantF (c / 4) d) = some n → ∀ (l' : Addr) (H3 : Hp), YardAt a Y d (os ++ [(n, fit (wantF (c / 4) d))]) H3 → HeldAt (own Y d) H3 l' (held ++ [(n, fit (wantF (c / 4) d))]) → Only (own Y d) H2 H3 → H l' = none → Q (.ref l') H3) := by
    intro H1 s1 hc H2 s2
    have e := doneF_give (d := d) hc
    constructor
    · intro g H3 s3
      rw [g] at e
      have all : ∀ b o, H b = some o → H3 b = some o := fun b o z => s3 _ _ (s2 _ _ (s1 _ _ z))
      exact q os l H3 (ya.keep all) (by rw [e]; exact ha.same all) (by rw [e]; exact pm) (by omega) (Only.same all) (.inl rfl)
    · intro n g l' H3 y3 h3 o3 nn
      rw [g] at e
      refine q _ l' H3 y3 (by rw [e]; exact h3) ?_ ?_ ((Only.same fun b o z => s2 _ _ (s1 _ _ z)).trans o3) (.inr nn)
      · rw [e]
        exact pm.append_right _
      · rw [List.length_append]
        exact Nat.le_refl _
  by_cases hc : c % 4 < 2 ∨ held = []
  · by_cases c1 : c % 4 < 2
    · refine iteTof (decide_eq_true c1) ?_
      have s1 : ∀ b o, H b = some o → H b = some o := fun b o e => e
      refine ⟨_, rfl, _, rfl, c / 4, d, rfl, d60, fun H2 s2 => ?_⟩
      obtain ⟨w1, w2⟩ := wish _ s1 hc H2 s2
      have s12 : ∀ b o, H b = some o → H2 b = some o := fun b o z => s2 _ _ (s1 _ _ z)
      have ya2 := ya.keep s12
      have ha2 := ha.same s12
      refine ⟨_, rfl, Y.y, Y.dy, _, rfl, ya2.yo, yFs_no Y d (by decide +kernel) (by decide +kernel) (by decide +kernel), _, rfl, Y, d, os, _, rfl, ya2, by omega, fun lt => ?_, fun g1 g2 H3 s3 => ?_, fun g1 g2 m n best H3 y3 o3 => ?_⟩
      · exact ⟨true, T.x_NoWish_YardError, fun _ a0 _ => ⟨_, rfl, w1 (giveF_none (.inl lt)) _ fun b o e => e⟩, fun z => Bool.noConfusion z⟩
      · exact ⟨true, T.x_NoRoom_YardError, fun _ a0 _ => ⟨_, rfl, w1 (giveF_none (.inr (by rw [Oc.perm pm]; exact g2))) H3 s3⟩, fun z => Bool.noConfusion z⟩
      · have ha3 := ha2.only ya2 o3
        obtain ⟨_, ts3, hat3, tups3⟩ := id ha3
        have l3 := tups3.len
        rw [List.length_map] at l3
        refine ⟨_, rfl, _, rfl, _, rfl, wantF (c / 4) d, rfl, wantF_le d60, fun z => by omega, fun _ => ?_⟩
        refine ⟨by show 2 ≤ sizeLine; decide, fun t ht => ⟨by show 1 ≤ sizeLine; decide, fun p2 hp2 => ?_⟩⟩
        have k1 : ∀ b o, H3 b = some o → L2.upd H3 t (.tup [nI n, sI (fit (wantF (c / 4) d))]) b = some o := fun b o e => by rw [upd_ne (ne_of_none e ht)]; exact e
        have k2 : ∀ b o, H3 b = some o → L2.upd (L2.upd H3 t (.tup [nI n, sI (fit (wantF (c / 4) d))])) p2 (.lst [.ref t]) b = some o := fun b o e => by rw [upd_ne (ne_of_none (k1 _ _ e) hp2)]; exact k1 _ _ e
        have tp2 : t ≠ p2 := fun z => by rw [← z, upd_same] at hp2; cases hp2
        refine ⟨l, p2, _, _, rfl, rfl, k2 _ _ hat3, upd_same, ?_, fun p3 hp3 => ?_⟩
        · rw [List.length_map, l3, sizeLine_eq]
          show held.length + 1 ≤ _
          omega
        have k3 : ∀ b o, H3 b = some o → L2.upd (L2.upd (L2.upd H3 t (.tup [nI n, sI (fit (wantF (c / 4) d))])) p2 (.lst [.ref t])) p3 (.lst (ts3.map V.ref ++ [.ref t])) b = some o := fun b o e => by rw [upd_ne (ne_of_none (k2 _ _ e) hp3)]; exact k2 _ _ e
        have tp3 : t ≠ p3 := fun z => by rw [← z, upd_ne tp2, upd_same] at hp3; cases hp3
        refine w2 n (giveF_some g1 g2 (best.perm pm)) p3 _ (y3.keep k3) ⟨?_, ts3 ++ [t], by rw [upd_same, List.map_append]; rfl, ?_⟩ (o3.trans (Only.same k3)) (unK s12 (onlyY_new o3 y3 (unK k2 hp3)))
        · exact (y3.keep k2).new hp3
        · rw [List.map_append]
          refine Tups.snoc ?_ (tups3.keep fun t xs e => k3 _ _ e)
          rw [upd_ne tp3, upd_ne tp2]
          exact upd_same
    · refine iteFof (decide_eq_false c1) ?_
      have en : held = [] := hc.resolve_left c1
      refine ⟨_, rfl, by show 0 ≤ sizeLine; omega, fun p hp => ?_⟩
      have s1 : ∀ b o, H b = some o → L2.upd H p (.lst []) b = some o := fun b o e => by rw [upd_ne (ne_of_none e hp)]; exact e
      refine ⟨_, _, dp_list (s1 _ _ hat) (tups.keep fun t xs e => s1 _ _ e), dp_nil upd_same, dL_shaped _, dL_shaped _, _, rfl, iteTof ?_ ?_⟩
      · rw [dL_eqv, en]
        exact decide_eq_true rfl
      refine ⟨_, rfl, _, rfl, c / 4, d, rfl, d60, fun H2 s2 => ?_⟩
      obtain ⟨w1, w2⟩ := wish _ s1 hc H2 s2
      have s12 : ∀ b o, H b = some o → H2 b = some o := fun b o z => s2 _ _ (s1 _ _ z)
      have ya2 := ya.keep s12
      have ha2 := ha.same s12
      refine ⟨_, rfl, Y.y, Y.dy, _, rfl, ya2.yo, yFs_no Y d (by decide +kernel) (by decide +kernel) (by decide +kernel), _, rfl, Y, d, os, _, rfl, ya2, by omega, fun lt => ?_, fun g1 g2 H3 s3 => ?_, fun g1 g2 m n best H3 y3 o3 => ?_⟩
      · exact ⟨true, T.x_NoWish_YardError, fun _ a0 _ => ⟨_, rfl, w1 (giveF_none (.inl lt)) _ fun b o e => e⟩, fun z => Bool.noConfusion z⟩
      · exact ⟨true, T.x_NoRoom_YardError, fun _ a0 _ => ⟨_, rfl, w1 (giveF_none (.inr (by rw [Oc.perm pm]; exact g2))) H3 s3⟩, fun z => Bool.noConfusion z⟩
      · have ha3 := ha2.only ya2 o3
        obtain ⟨_, ts3, hat3, tups3⟩ := id ha3
        have l3 := tups3.len
        rw [List.length_map] at l3
        refine ⟨_, rfl, _, rfl, _, rfl, wantF (c / 4) d, rfl, wantF_le d60, fun z => by omega, fun _ => ?_⟩
        refine ⟨by show 2 ≤ sizeLine; decide, fun t ht => ⟨by show 1 ≤ sizeLine; decide, fun p2 hp2 => ?_⟩⟩
        have k1 : ∀ b o, H3 b = some o → L2.upd H3 t (.tup [nI n, sI (fit (wantF (c / 4) d))]) b = some o := fun b o e => by rw [upd_ne (ne_of_none e ht)]; exact e
        have k2 : ∀ b o, H3 b = some o → L2.upd (L2.upd H3 t (.tup [nI n, sI (fit (wantF (c / 4) d))])) p2 (.lst [.ref t]) b = some o := fun b o e => by rw [upd_ne (ne_of_none (k1 _ _ e) hp2)]; exact k1 _ _ e
        have tp2 : t ≠ p2 := fun z => by rw [← z, upd_same] at hp2; cases hp2
        refine ⟨l, p2, _, _, rfl, rfl, k2 _ _ hat3, upd_same, ?_, fun p3 hp3 => ?_⟩
        · rw [List.length_map, l3, sizeLine_eq]
          show held.length + 1 ≤ _
          omega
        have k3 : ∀ b o, H3 b = some o → L2.upd (L2.upd (L2.upd H3 t (.tup [nI n, sI (fit (wantF (c / 4) d))])) p2 (.lst [.ref t])) p3 (.lst (ts3.map V.ref ++ [.ref t])) b = some o := fun b o e => by rw [upd_ne (ne_of_none (k2 _ _ e) hp3)]; exact k2 _ _ e
        have tp3 : t ≠ p3 := fun z => by rw [← z, upd_ne tp2, upd_same] at hp3; cases hp3
        refine w2 n (giveF_some g1 g2 (best.perm pm)) p3 _ (y3.keep k3) ⟨?_, ts3 ++ [t], by rw [upd_same, List.map_append]; rfl, ?_⟩ (o3.trans (Only.same k3)) (unK s12 (onlyY_new o3 y3 (unK k2 hp3)))
        · exact (y3.keep k2).new hp3
        · rw [List.map_append]
          refine Tups.snoc ?_ (tups3.keep fun t xs e => k3 _ _ e)
          rw [upd_ne tp3, upd_ne tp2]
          exact upd_same
  · have c1 : ¬ c % 4 < 2 := fun z => hc (.inl z)
    have en : held ≠ [] := fun z => hc (.inr z)
    refine iteFof (decide_eq_false c1) ?_
    refine ⟨_, rfl, by show 0 ≤ sizeLine; omega, fun p0 hp0 => ?_⟩
    have s1 : ∀ b o, H b = some o → L2.upd H p0 (.lst []) b = some o := fun b o e => by rw [upd_ne (ne_of_none e hp0)]; exact e
    refine ⟨_, _, dp_list (s1 _ _ hat) (tups.keep fun t xs e => s1 _ _ e), dp_nil upd_same, dL_shaped _, dL_shaped _, _, rfl, iteFof ?_ ?_⟩
    · rw [dL_eqv]
      exact decide_eq_false fun z => en (List.map_eq_nil_iff.mp z)
    generalize hH1 : L2.upd H p0 (.lst []) = H1 at s1
    have ya1 := ya.keep s1
    have hat1 := s1 _ _ hat
    have tups1 := tups.keep fun t xs e => s1 _ _ e
    have L0 : 0 < held.length := List.length_pos_iff.mpr en
    have eL : ((ts.map V.ref).length : Int) = (held.length : Int) := by rw [List.length_map, lts]
    obtain ⟨i, ei, li⟩ : ∃ i : Nat, (c / 4).fmod (held.length : Int) = (i : Int) ∧ i < held.length := by
      rw [Int.fmod_eq_emod_of_nonneg _ (by omega)]
      exact emod_nat (c / 4) L0
    obtain ⟨pc, hpc⟩ : ∃ pc, held[i]? = some pc := ⟨_, List.getElem?_eq_getElem li⟩
    obtain ⟨n, k⟩ := pc
    obtain ⟨t, ht, hatt⟩ := tups1.get (i := i) (q := toI (n, k)) (by rw [List.getElem?_map, hpc]; rfl)
    have mh : (n, k) ∈ held := List.mem_of_getElem? hpc
    have mo : (n, k) ∈ os := pm.mem_iff.mp mh
    refine ⟨_, rfl, _, rfl, _, rfl, l, _, rfl, .inl (SqL.of hat1), _, _, rfl, rfl, by show ((ts.map V.ref).length : Int) ≠ 0; omega, l, _, _, V.ref t, rfl, rfl, SqL.of hat1, at_of (j := i) (by show (c / 4).fmod ((ts.map V.ref).length : Int) = _; rw [eL]; exact ei) (by rw [List.getElem?_map, ht]; rfl), ?_⟩
    refine ⟨_, rfl, l, rfl, ⟨_, SqL.of hat1⟩, fun D newD => ?_⟩
    refine lc_out walk_list (fun j H' => ∃ us : List Addr, H' D = some (.lst (us.map V.ref)) ∧ Tups H' us (((held.take j).filter fun q => decide (q ≠ (n, k))).map toI) ∧ (∀ b o, H1 b = some o → H' b = some o))
      ⟨[], upd_same, .nil, fun b o e => by rw [upd_ne (ne_of_none e newD)]; exact e⟩ (fun j H' _ ⟨_, _, _, p⟩ => SqL.of (p _ _ hat1)) ?_ ?_
    · rintro j v H2 H3 hj ⟨us, hD, tu, s2⟩ ⟨rfl, hv⟩
      rw [List.length_map, lts] at hj
      obtain ⟨qq, hq⟩ : ∃ qq, held[j]? = some qq := ⟨_, List.getElem?_eq_getElem hj⟩
      obtain ⟨t2, ht2, hatt2⟩ := tups1.get (i := j) (q := toI qq) (by rw [List.getElem?_map, hq]; rfl)
      rw [List.getElem?_map, ht2] at hv
      have hv := Option.some.inj hv
      subst hv
      refine ⟨rfl, ?_⟩
      refine ⟨_, rfl, _, rfl, dP (toI qq), dP (toI (n, k)), dp_pair (s2 _ _ hatt2), dp_pair (s2 _ _ hatt), dP_shaped _, dP_shaped _, _, rfl, ?_⟩
      rw [dP_eqv]
      by_cases e : qq = (n, k)
      · refine iteFof (by rw [e]; simp) ?_
        refine ⟨us, hD, ?_, s2⟩
        rw [filter_take hq, if_neg (by simp [e]), List.append_nil]
        exact tu
      · refine iteTof (by simp; exact fun z => e (toI_inj z)) ?_
        have l1 := tu.len
        rw [List.length_map] at l1
        have l2 := List.length_filter_le (fun q => decide (q ≠ (n, k))) (held.take j)
        rw [List.length_take] at l2
        refine ⟨_, rfl, us.map V.ref, hD, ?_, us ++ [t2], ?_, ?_, fun b o e2 => ?_⟩
        · rw [List.length_map, sizeLine_eq]
          omega
        · rw [List.map_append]
          exact upd_same
        · rw [filter_take hq, if_pos (by simpa using e), List.map_append]
          refine Tups.snoc ?_ (tu.keep fun t xs e2 => ?_)
          · rw [upd_ne (fun z => by rw [← z, s2 _ _ hatt2] at hD; cases hD)]
            exact s2 _ _ hatt2
          · rw [upd_ne (fun z => by rw [z, hD] at e2; cases e2)]
            exact e2
        · rw [upd_ne (fun z => by rw [z, newD] at e2; cases e2)]
          exact s2 _ _ e2
    rintro H2 ⟨us, hD, tu, s2⟩
    rw [List.length_map, lts, List.take_length, outs_piece gh mh] at tu
    have s12 : ∀ b o, H b = some o → H2 b = some o := fun b o z => s2 _ _ (s1 _ _ z)
    have ya2 := ya.keep s12
    have nD : D ∉ own Y d := ya1.new newD
    have eleft := outs_piece gh mh
    have hatt3 := s2 _ _ hatt
    have tno : ∀ {H3}, Only (own Y d) H2 H3 → H3 t = some (.tup [nI n, sI k]) := fun o3 => o3 _ _ hatt3 (ya2.off hatt3 (by intro xs z; cases z) (by intro xs z; cases z))
    refine ⟨_, rfl, _, _, rfl, rfl, by show (0 : Int) < 4; decide, rfl, _, rfl, ?_⟩
    by_cases c2 : c % 4 = 2
    · refine iteTof (by show decide (V.int (c % 4) = V.int 2) = true; rw [c2]; exact decide_eq_true rfl) ?_
      refine ⟨_, rfl, Y.y, Y.dy, _, rfl, ya2.yo, yFs_no Y d (by decide +kernel) (by decide +kernel) (by decide +kernel), _, rfl, t, _, _, nI n, rfl, rfl, SqT.of hatt3, at_of (j := 0) rfl rfl, Y, d, os, (n : Int), rfl, ya2, fun z => absurd rfl (z (n, k) mo), fun n' k' m' e H3 y3 o3 => ?_⟩
      have en' : n = n' := by omega
      subst en'
      refine ⟨_, rfl, ?_⟩
      have ed := doneF_back (d := d) hc c2 ei hpc
      rw [eleft] at ed
      refine q _ D H3 y3 ⟨nD, us, o3 _ _ hD nD, ?_⟩ (by rw [ed]; exact outs_perm pm n) (Nat.le_succ_of_le (List.length_filter_le _ _)) ((Only.same s12).trans o3) (.inr (unK s1 newD))
      rw [ed]
      exact tu.keep fun t xs e2 => o3 _ _ e2 (ya2.off e2 (by intro xs z; cases z) (by intro xs z; cases z))
    · refine iteFof (by show decide (V.int (c % 4) = V.int 2) = false; exact decide_eq_false fun z => c2 (by injection z)) ?_
      obtain ⟨ds1, ds2⟩ := doneF_size (d := d) hc c2 ei hpc
      rw [eleft] at ds1
      refine ⟨_, rfl, _, rfl, l, _, rfl, .inl (SqL.of (s2 _ _ hat1)), _, _, rfl, rfl, wide_div (b := 16) (by show (0 : Int) < ((ts.map V.ref).length : Int); omega) (by rw [eL, Int.natAbs_natCast]; show held.length < 65536; omega) (by decide) (by decide), _, rfl, c / 4 / (held.length : Int), d, ?_, d60, fun H3 s3 => ?_⟩
      · show [V.int (c / 4 / ((ts.map V.ref).length : Int)), sI d] = _
        rw [eL]
      generalize hx : wantF (c / 4 / (held.length : Int)) d = x at ds1 ds2
      have s23 : ∀ b o, H b = some o → H3 b = some o := fun b o z => s3 _ _ (s12 _ _ z)
      have ya3 := ya.keep s23
      have same_again : (¬ (1 ≤ x ∧ x ≤ ((2 ^ d : Nat) : Int) ∧ Fits held n (fit x))) → ∀ H4, (∀ b o, H3 b = some o → H4 b = some o) → Q (.ref l) H4 := fun z H4 s4 => by
        have all : ∀ b o, H b = some o → H4 b = some o := fun b o w => s4 _ _ (s23 _ _ w)
        have ed := ds2 z
        exact q os l H4 (ya.keep all) (by rw [ed]; exact ha.same all) (by rw [ed]; exact pm) (Nat.le_succ _) (Only.same all) (.inl rfl)
      refine ⟨_, rfl, Y.y, Y.dy, _, rfl, ya3.yo, yFs_no Y d (by decide +kernel) (by decide +kernel) (by decide +kernel), _, rfl, t, _, _, nI n, rfl, rfl, SqT.of (s3 _ _ hatt3), at_of (j := 0) rfl rfl, _, rfl, Y, d, os, (n : Int), x, rfl, ya3, fun z => absurd rfl (z (n, k) mo), fun n' h' m' e => ?_⟩
      have en' : n = n' := by omega
      subst en'
      refine ⟨fun lt => ?_, fun g1 g2 H4 s4 => ?_, fun g1 g2 ft H4 y4 o4 => ?_⟩
      · exact ⟨true, T.x_NoWish_YardError, fun _ a0 _ => ⟨_, rfl, same_again (fun z => by omega) _ fun b o e => e⟩, fun z => Bool.noConfusion z⟩
      · refine ⟨true, T.x_NoRoom_YardError, fun _ a0 _ => ⟨_, rfl, same_again (fun z => ?_) H4 s4⟩, fun z => Bool.noConfusion z⟩
        rcases g2 with g2 | g2
        · omega
        · exact g2 (z.2.2.perm pm.symm)
      · have ed := ds1 ⟨g1, g2, ft.perm pm⟩
        have hat4 : H4 t = some (.tup [nI n, sI k]) := o4 _ _ (s3 _ _ hatt3) (ya3.off (s3 _ _ hatt3) (by intro xs z; cases z) (by intro xs z; cases z))
        have hD4 : H4 D = some (.lst (us.map V.ref)) := o4 _ _ (s3 _ _ hD) nD
        have tu4 : Tups H4 us ((outs held n).map toI) := tu.keep fun t xs e2 => o4 _ _ (s3 _ _ e2) (ya3.off (s3 _ _ e2) (by intro xs z; cases z) (by intro xs z; cases z))
        refine ⟨_, rfl, _, rfl, t, _, _, nI n, rfl, rfl, SqT.of hat4, at_of (j := 0) rfl rfl, _, rfl, by show 2 ≤ sizeLine; decide, fun t5 ht5 => ⟨by show 1 ≤ sizeLine; decide, fun p2 hp2 => ?_⟩⟩
        have k1 : ∀ b o, H4 b = some o → L2.upd H4 t5 (.tup [nI n, sI (fit x)]) b = some o := fun b o e => by rw [upd_ne (ne_of_none e ht5)]; exact e
        have k2 : ∀ b o, H4 b = some o → L2.upd (L2.upd H4 t5 (.tup [nI n, sI (fit x)])) p2 (.lst [.ref t5]) b = some o := fun b o e => by rw [upd_ne (ne_of_none (k1 _ _ e) hp2)]; exact k1 _ _ e
        have tp2 : t5 ≠ p2 := fun z => by rw [← z, upd_same] at hp2; cases hp2
        have l4 := tu4.len
        rw [List.length_map] at l4
        have l5 : (outs held n).length ≤ held.length := List.length_filter_le _ _
        refine ⟨D, p2, _, _, rfl, rfl, k2 _ _ hD4, upd_same, ?_, fun p3 hp3 => ?_⟩
        · rw [List.length_map, l4, sizeLine_eq]
          show (outs held n).length + 1 ≤ _
          omega
        have k3 : ∀ b o, H4 b = some o → L2.upd (L2.upd (L2.upd H4 t5 (.tup [nI n, sI (fit x)])) p2 (.lst [.ref t5])) p3 (.lst (us.map V.ref ++ [.ref t5])) b = some o := fun b o e => by rw [upd_ne (ne_of_none (k2 _ _ e) hp3)]; exact k2 _ _ e
        have tp3 : t5 ≠ p3 := fun z => by rw [← z, upd_ne tp2, upd_same] at hp3; cases hp3
        have fd := fit_le g1 g2 d60
        refine q _ p3 _ (y4.keep k3) ⟨(y4.keep k2).new hp3, us ++ [t5], by rw [upd_same, List.map_append]; rfl, ?_⟩ ?_ (by rw [outr_len]; exact Nat.le_succ _) ((Only.same s23).trans (o4.trans (Only.same k3))) (.inr (unK s23 (onlyY_new o4 y4 (unK k2 hp3))))
        · rw [ed, List.map_append]
          refine Tups.snoc ?_ (tu4.keep fun t xs e => k3 _ _ e)
          rw [upd_ne tp3, upd_ne tp2]
          exact upd_same
        · rw [ed]
          exact ((outs_perm pm n).append_right _).trans (outr_perm ya.good mo fd ft)
end
end X
/-! ### law_k13: many at once -/
noncomputable def manyF (d : Nat) (held : List PN) (xs : List Int) : List PN := open Classical in if h : (∀ x ∈ xs, x ≤ ((2 ^ d : Nat) : Int)) ∧ ∃ ns, Gv d held (wishK xs) ns then held ++ gotPN xs h.2.choose else held
theorem manyF_yes {d : Nat} {held : List PN} {xs : List Int} {ns : List Nat} (h1 : ∀ x ∈ xs, x ≤ ((2 ^ d : Nat) : Int)) (h2 : Gv d held (wishK xs) ns) : manyF d held xs = held ++ gotPN xs ns := by
  have h : (∀ x ∈ xs, x ≤ ((2 ^ d : Nat) : Int)) ∧ ∃ ns, Gv d held (wishK xs) ns := ⟨h1, ns, h2⟩
  unfold manyF
  rw [dif_pos h, h.2.choose_spec.uniq h2]
theorem manyF_no {d : Nat} {held : List PN} {xs : List Int} (h : ¬ ((∀ x ∈ xs, x ≤ ((2 ^ d : Nat) : Int)) ∧ ∃ ns, Gv d held (wishK xs) ns)) : manyF d held xs = held := by
  unfold manyF
  rw [dif_neg h]
def sp_law_many (K : PySem.W.Frag) (a : Ad) : Sp := fun vs H Q _ => ∃ (Y : YA) (d : Nat) (os held : List PN) (lh b : Addr) (xs : List Int), vs = [.ref Y.y, .ref lh, .ref b] ∧ YardAt a Y d os H ∧ HeldAt (own Y d) H lh held ∧ held.Perm os ∧ os.length ≤ 400 ∧ d ≤ 60 ∧
  H b = some (.lst (xs.map V.int)) ∧ b ∉ own Y d ∧ xs.length ≤ 4 ∧ (∀ x ∈ xs, 1 ≤ x ∧ x ≤ ((2 ^ 200 : Nat) : Int)) ∧ TabsG a H ∧
  ∀ (os' : List PN) (l' : Addr) (H' : Hp), YardAt a Y d os' H' → HeldAt (own Y d) H' l' (manyF d held xs) → (manyF d held xs).Perm os' → os'.length ≤ os.length + 4 → OnlyN (own Y d) H H' → TabsG a H' → (l' = lh ∨ NewT H l') → Q (.ref l') H'
def sp_law_alike (_ : PySem.W.Frag) (a : Ad) : Sp := fun vs H Q _ => ∃ (Y1 Y2 : YA) (d : Nat) (os1 os2 : List PN), vs = [.ref Y1.y, .ref Y2.y, sI d] ∧ YardAt a Y1 d os1 H ∧ YardAt a Y2 d os2 H ∧ os1.Perm os2 ∧
  ∀ H', (∀ b o, H b = some o → H' b = some o) → Q (.bl true) H'
section
variable {P : Program} {w : World} {K : PySem.W.Frag} {mg : Str → Option Value} {base : Heap} {a : Ad}
theorem ok_law_many (T : Txt K mg a) (TB : LamX.TabB base mg a.q_give_all a.p_give_all) : FnOk P w K mg base CX0 6 a.f_law_many a.d_law_many ["_law_yard", "_law_held", "_law_wants"] (sp_law_many K a) := by
  have G_law_fitting : FnOk P w K mg base CX0 1 a.f_law_fitting a.d_law_fitting ["_law_want_here"] (sp_law_fitting K a) := ok_law_fitting T
  have G_give_all : FnOk P w K mg base (L2.CX P w) 5 a.f_give_all a.d_give_all ["yard", "wants"] (sp_give_all K a) := ok_give_all T TB
  refine T.law_many.fn.ok sc_law_many (fun vs H Q E h => by first | (obtain ⟨rfl, _⟩ := h; rfl) | (obtain ⟨_, rfl, _⟩ := h; rfl) | (obtain ⟨_, _, rfl, _⟩ := h; rfl) | (obtain ⟨_, _, _, rfl, _⟩ := h; rfl) | (obtain ⟨_, _, _, _, rfl, _⟩ := h; rfl) | (obtain ⟨_, _, _, _, _, rfl, _⟩ := h; rfl) | (obtain ⟨_, _, _, _, _, _, rfl, _⟩ := h; rfl) | (obtain ⟨_, _, _, _, _, _, _, rfl, _⟩ := h; rfl) | (obtain ⟨_, _, _, _, _, _, _, _, rfl, _⟩ := h; rfl) | (obtain ⟨_, _, _, _, _, _, _, _, _, rfl, _⟩ := h; rfl) | (obtain ⟨_, _, _, _, _, _, _, _, _, _, rfl, _⟩ := h; rfl) | (obtain ⟨_, _, _, _, _, _, _, _, _, _, _, rfl, _⟩ := h; rfl)) (fun cdv A outer s H vs Q E hr h => ?_)
  refine ⟨_, pss_cons (ps_try_only (tb := fun W => (tAsg (tCallS (sp_give_all K a) (WE W) (tCons (tVar 0) (tCons (tCB (fun xs H Q => ∃ p ys, xs = [.ref p] ∧ (SqL K H p ys ∨ SqT K H p ys) ∧ ∀ l, H l = none → Q (.ref l) (upd H l (.lst ys))) (tCons (tVar 2) tNil)) tNil))) (gName 3))) (ts := fun _ _ _ => (tRet (tVar 1))) (Wout := fun _ _ _ _ => False) rfl rfl ⟨rfl, by decide, Or.inl T.e_YardError.g⟩ takes0 (fun W pn xe tk _ => (pss_one (ps_set (i := 3) sc_law_many.nd rfl (Or.inr rfl) (pe_callS G_give_all (hr.mono (by decide)) rfl T.give_all.mg T.give_all.fn.kp T.give_all.bd (fun σ => passAt tk σ) (by exact (pa_cons (pv 0) (pa_cons (pe_callTy call_list_of (by rfl) T.z_list (by decide +kernel) (pa_cons (pv 2) pa_nil)) pa_nil))))))) (fun _ _ _ _ _ _ _ => (pss_one (ps_ret (pv 1)))))
      (pss_one (ps_ret (pe_op op_cat (pv 1) (pe_lc (own := [("_law_k", 4)]) (g := gName 4) (te := (tTup (tCons (tOp (rIxL K) (tVar 3) (tVar 4)) (tCons (tCall (sp_law_fitting K a) [] E0 (tCons (tOp (rIxL K) (tVar 2) (tVar 4)) tNil)) tNil)))) rfl sc_law_many.nd (pi_range1 rfl T.z_range (pa_cons (pe_callB call_len_seq (by rfl) T.z_len PySem.boot_len (pa_cons (pv 2) pa_nil)) pa_nil)) (blkOk_by (own := [("_law_k", 4)]) (N := ["_law_yard", "_law_held", "_law_wants", "_law_places", "_law_k"]) (sc := defScope s_law_many) (by decide +kernel)) (fun _ _ _ _ _ => (pg_name (i := 4) sc_law_many.nd rfl (Or.inl rfl))) (fun _ _ _ _ _ => pts_nil) (fun _ _ _ _ _ => (pe_tup (pa_cons (pe_ix ix_list (pv 3) (pv 4) (fun _ _ => rfl)) (pa_cons (pe_call G_law_fitting (hr.mono (by decide)) rfl T.law_fitting.mg T.law_fitting.fn.kp T.law_fitting.bd .nil pass0 (pa_cons (pe_ix ix_list (pv 2) (pv 4) (fun _ _ => rfl)) pa_nil)) pa_nil)))))))), ?_⟩
  obtain ⟨Y, d, os, held, lh, b, xs, rfl, ya, ha, pm, few, d60, hb, nb, lx, fx, tb, q⟩ := h
  refine ⟨_, rfl, _, rfl, b, _, rfl, .inl (SqL.of hb), fun b2 nb2 => ?_⟩
  have k2 := newK (o := .lst (xs.map V.int)) nb2
  have hb2 : L2.upd H b2 (.lst (xs.map V.int)) b2 = _ := upd_same
  generalize L2.upd H b2 (.lst (xs.map V.int)) = H2 at k2 hb2 ⊢
  have y2 := ya.keep k2
  have t2 := tb.keep k2
  have h2 := ha.same k2
  refine ⟨Y, d, os, b2, xs, rfl, y2, SqL.of hb2, by omega, by omega, t2, fun z => ?_, fun pos no H3 y3 o3 t3 => ?_, fun pls fit gv D H3 y3 o3 t3 nD hD => ?_⟩
  · exfalso
    obtain ⟨x, hx, l⟩ := z
    have := (fx x hx).1
    omega
  · refine ⟨true, T.x_NoRoom_YardError, fun _ a0 _ => ⟨_, rfl, ?_⟩, fun z => Bool.noConfusion z⟩
    have no' : ¬ ((∀ x ∈ xs, x ≤ ((2 ^ d : Nat) : Int)) ∧ ∃ ns, Gv d held (wishK xs) ns) := fun ⟨z1, ns, z2⟩ => no ⟨z1, ns, z2.perm pm.symm⟩
    have e := manyF_no no'
    exact q os lh H3 y3 (by rw [e]; exact h2.onlyN y2 o3) (by rw [e]; exact pm) (by omega) ((OnlyN.of (Only.same k2)).trans o3) t3 (.inl rfl)
  · have e := manyF_yes (fun x hx => (fit x hx).2) (gv.perm pm)
    have o03 : OnlyN (own Y d) H H3 := (OnlyN.of (Only.same k2)).trans o3
    have hb3 := o03 _ _ hb (fun _ z => by cases z) nb
    have h3 := h2.onlyN y2 o3
    obtain ⟨nlh, ts, hat, tups⟩ := id h3
    have lts := tups.len
    rw [List.length_map] at lts
    have lpl := gv.len
    rw [wishK_len] at lpl
    have lh0 := pm.length_eq
    refine ⟨_, rfl, _, rfl, b, _, rfl, .inl (SqL.of hb3), ?_⟩
    rw [List.length_map]
    refine ⟨_, rfl, by omega, by omega, fun D3 nD3 => ?_⟩
    refine lc_out walk_range (fun j H' => ∃ us : List Addr, H' D3 = some (.lst (us.map V.ref)) ∧ us.length = j ∧ Tups H' us (((gotPN xs pls).take j).map toI) ∧ (∀ b o, H3 b = some o → H' b = some o))
      ⟨[], upd_same, rfl, .nil, newK nD3⟩ (fun i H' _ _ => True.intro) ?_ ?_
    · rintro j v H10 H11 hj ⟨us, h3', lus, tu, s10⟩ ⟨rfl, rfl⟩
      have hj : j < xs.length := by have hj' : j < ((xs.length : Int) - 0).toNat := hj; omega
      obtain ⟨x, hx⟩ : ∃ x, xs[j]? = some x := ⟨_, List.getElem?_eq_getElem hj⟩
      have fx1 := fx x (List.mem_of_getElem? hx)
      have hg : (gotPN xs pls)[j]? = some (placeOf (byFall (fits xs)) pls j, BY.fit x) := by
        rw [gotPN, List.getElem?_map, List.getElem?_range hj]
        show some (_, BY.fit (xs.getD j 0)) = _
        rw [List.getD, hx]
        rfl
      have hpl : ((List.range xs.length).map fun k => nI (placeOf (byFall (fits xs)) pls k))[j]? = some (nI (placeOf (byFall (fits xs)) pls j)) := by
        rw [List.getElem?_map, List.getElem?_range hj]
        rfl
      refine ⟨rfl, ?_⟩
      refine ⟨_, rfl, _, rfl, D, _, _, _, rfl, rfl, SqL.of (s10 _ _ hD), at_of (j := j) (by show (0 : Int) + j = _; omega) hpl, _, rfl, _, rfl, b, _, _, .int x, rfl, rfl, SqL.of (s10 _ _ hb3), at_of (j := j) (by show (0 : Int) + j = _; omega) (by rw [List.getElem?_map, hx]; rfl), x, rfl, fx1.2, fun z => by exfalso; omega, fun _ => ?_⟩
      refine ⟨by show 2 ≤ sizeLine; decide, fun t nt => ?_⟩
      have k11 := newK (o := .tup [nI (placeOf (byFall (fits xs)) pls j), sI (BY.fit x)]) nt
      refine ⟨us.map V.ref, k11 _ _ h3', by rw [List.length_map, sizeLine_eq]; omega, us ++ [t], ?_, ?_, ?_, fun b o e => ?_⟩
      · rw [List.map_append]
        exact upd_same
      · rw [List.length_append, lus]
        rfl
      · rw [take_snoc hg, List.map_append]
        refine Tups.snoc ?_ (tu.keep fun t' xs e => ?_)
        · rw [upd_ne (ne_of upd_same (k11 _ _ h3') (by intro z; cases z))]
          exact upd_same
        · rw [upd_ne (ne_of (k11 _ _ e) (k11 _ _ h3') (by intro z; cases z))]
          exact k11 _ _ e
      · rw [upd_ne (fun z => by rw [z, nD3] at e; cases e)]
        exact k11 _ _ (s10 _ _ e)
    rintro H10 ⟨us, h3', lus, tu, s10⟩
    have lus : us.length = xs.length := by have z : us.length = ((xs.length : Int) - 0).toNat := lus; omega
    have tu : Tups H10 us (((gotPN xs pls).take ((xs.length : Int) - 0).toNat).map toI) := tu
    rw [List.take_of_length_le (by rw [gotPN, List.length_map, List.length_range]; omega)] at tu
    refine ⟨lh, D3, _, _, rfl, rfl, s10 _ _ hat, h3', ?_, fun p np => ?_⟩
    · rw [List.length_map, List.length_map, lts, lus, sizeLine_eq]
      omega
    have k11 := newK (o := .lst (ts.map V.ref ++ us.map V.ref)) np
    have s3p : ∀ b o, H3 b = some o → L2.upd H10 p (.lst (ts.map V.ref ++ us.map V.ref)) b = some o := fun b o e => k11 _ _ (s10 _ _ e)
    refine q (os ++ pls.zip (wishK xs)) p _ (y3.keep s3p) ?_ ?_ ?_ (o03.trans (OnlyN.of (Only.same s3p))) (t3.keep s3p) (.inr (onlyN_new o03 y3 (unK s10 np)))
    · rw [e]
      refine ⟨(y3.keep s10).new np, ts ++ us, ?_, ?_⟩
      · rw [upd_same, List.map_append]
      · rw [List.map_append]
        exact (tups.keep fun t xs e => s3p _ _ e).append (tu.keep fun t xs e => k11 _ _ e)
    · rw [e]
      exact pm.append (got_perm lpl)
    · rw [List.length_append, List.length_zip, wishK_len, lpl]
      omega
theorem ok_law_alike (T : Txt K mg a) : FnOk P w K mg base CX0 3 a.f_law_alike a.d_law_alike ["_law_one", "_law_two", "_law_cells"] (sp_law_alike K a) := by
  have G_Yard_free : FnOk P w K mg base CX0 2 a.f_Yard_free a.d_Yard_free ["self"] (sp_Yard_free K a) := ok_Yard_free T
  have G_Yard_out : FnOk P w K mg base CX0 1 a.f_Yard_out a.d_Yard_out ["self"] (sp_Yard_out K a) := ok_Yard_out T
  refine T.law_alike.fn.ok sc_law_alike (fun vs H Q E h => by first | (obtain ⟨rfl, _⟩ := h; rfl) | (obtain ⟨_, rfl, _⟩ := h; rfl) | (obtain ⟨_, _, rfl, _⟩ := h; rfl) | (obtain ⟨_, _, _, rfl, _⟩ := h; rfl) | (obtain ⟨_, _, _, _, rfl, _⟩ := h; rfl) | (obtain ⟨_, _, _, _, _, rfl, _⟩ := h; rfl) | (obtain ⟨_, _, _, _, _, _, rfl, _⟩ := h; rfl) | (obtain ⟨_, _, _, _, _, _, _, rfl, _⟩ := h; rfl) | (obtain ⟨_, _, _, _, _, _, _, _, rfl, _⟩ := h; rfl) | (obtain ⟨_, _, _, _, _, _, _, _, _, rfl, _⟩ := h; rfl) | (obtain ⟨_, _, _, _, _, _, _, _, _, _, rfl, _⟩ := h; rfl) | (obtain ⟨_, _, _, _, _, _, _, _, _, _, _, rfl, _⟩ := h; rfl)) (fun cdv A outer s H vs Q E hr h => ?_)
  refine ⟨_, pss_one (ps_ret (pe_and (pe_cmpR op_eq (pe_fld (pv 0) rfl) (pv 2) (nomark _)) (pe_and (pe_cmpR op_eq (pe_fld (pv 1) rfl) (pv 2) (nomark _)) (pe_and (pe_cmpR (op_eqD hr.units) (pe_meth0 (pv 0) T.cl_Yard T.m_Yard_out G_Yard_out (hr.mono (by decide)) T.b_Yard_out .nil pass0) (pe_meth0 (pv 1) T.cl_Yard T.m_Yard_out G_Yard_out (hr.mono (by decide)) T.b_Yard_out .nil pass0) (nomark _)) (pe_one (pe_cmpR (op_eqD hr.units) (pe_meth0 (pv 0) T.cl_Yard T.m_Yard_free G_Yard_free (hr.mono (by decide)) T.b_Yard_free .nil pass0) (pe_meth0 (pv 1) T.cl_Yard T.m_Yard_free G_Yard_free (hr.mono (by decide)) T.b_Yard_free .nil pass0) (nomark _))))))), ?_⟩
  obtain ⟨Y1, Y2, d, os1, os2, rfl, ya1, ya2, pm, q⟩ := h
  have eo : outZ os1 = outZ os2 := srt_eq (pm.map toI)
  have ef : frees os1 d = frees os2 d := by
    unfold frees
    rw [oc_perm pm]
  refine ⟨_, rfl, Y1.y, a.c_Yard, Y1.dy, _, _, rfl, ya1.yo, T.cl_Yard, T.n_Yard_cells, yFs_cells Y1 d, _, rfl, rfl, true, congrArg V.bl (decide_eq_true rfl), iteT ?_⟩
  refine ⟨_, rfl, Y2.y, a.c_Yard, Y2.dy, _, _, rfl, ya2.yo, T.cl_Yard, T.n_Yard_cells, yFs_cells Y2 d, _, rfl, rfl, true, congrArg V.bl (decide_eq_true rfl), iteT ?_⟩
  refine ⟨_, rfl, Y1.y, Y1.dy, _, rfl, ya1.yo, yFs_no Y1 d (by decide +kernel) (by decide +kernel) (by decide +kernel), Y1, d, os1, rfl, ya1, fun l1 u1 H1 k1 n1 at1 tu1 => ?_⟩
  have yb := ya2.keep k1
  refine ⟨_, rfl, Y2.y, Y2.dy, _, rfl, yb.yo, yFs_no Y2 d (by decide +kernel) (by decide +kernel) (by decide +kernel), Y2, d, os2, rfl, yb, fun l2 u2 H2 k2 n2 at2 tu2 => ?_⟩
  have y1 := (ya1.keep k1).keep k2
  have y2 := yb.keep k2
  refine ⟨_, _, dp_list (k2 _ _ at1) (tu1.keep fun t xs e => k2 _ _ e), dp_list at2 tu2, dL_shaped _, dL_shaped _, true, by rw [dL_eqv, decide_eq_true eo], iteT ?_⟩
  refine ⟨_, rfl, Y1.y, Y1.dy, _, rfl, y1.yo, yFs_no Y1 d (by decide +kernel) (by decide +kernel) (by decide +kernel), Y1, d, os1, rfl, y1, fun l3 u3 H3 k3 n3 at3 tu3 => ?_⟩
  have yc := y2.keep k3
  refine ⟨_, rfl, Y2.y, Y2.dy, _, rfl, yc.yo, yFs_no Y2 d (by decide +kernel) (by decide +kernel) (by decide +kernel), Y2, d, os2, rfl, yc, fun l4 u4 H4 k4 n4 at4 tu4 => ?_⟩
  refine ⟨_, _, dp_list (k4 _ _ at3) (tu3.keep fun t xs e => k4 _ _ e), dp_list at4 tu4, dL_shaped _, dL_shaped _, ?_⟩
  rw [dL_eqv, decide_eq_true ef]
  exact q _ fun b o e => k4 _ _ (k3 _ _ (k2 _ _ (k1 _ _ e)))
end
/-! ### law_k13 -/
namespace X
theorem cut_cells (ns : List Int) (lo hi : Option Int) : ∃ cs : List Int, cutV (ns.map V.int) lo hi = cs.map V.int := ⟨_, by
  unfold cutV
  rw [← List.map_drop, ← List.map_take, List.length_map]⟩
noncomputable def wishF (d : Nat) (cs : List Int) : List Int := cs.map fun c => if wantF c d > 1 then wantF c d else 1
theorem wishF_ok {d : Nat} (d60 : d ≤ 60) {cs : List Int} : ∀ x ∈ wishF d cs, 1 ≤ x ∧ x ≤ ((2 ^ 200 : Nat) : Int) := fun x hx => by
  obtain ⟨c, _, rfl⟩ := List.mem_map.mp hx
  have wl := wantF_le (c := c) d60
  split <;> omega
theorem cut_len {ns cs : List Int} {lo hi : Nat} (h : cutV (ns.map V.int) (some (lo : Int)) (some (hi : Int)) = cs.map V.int) : cs.length ≤ hi - lo := by
  have e := congrArg List.length h
  rw [List.length_map] at e
  rw [← e]
  unfold cutV
  rw [HT.sIx_nat, HT.sIx_nat, List.length_take]
  omega
theorem foldl_snoc {d : Nat} {h0 : List PN} {cs : List Int} {i : Nat} {c : Int} (h : cs[i]? = some c) : (cs.take (i + 1)).foldl (doneF d) h0 = doneF d ((cs.take i).foldl (doneF d) h0) c := by
  rw [List.take_add_one, h, List.foldl_append]
  rfl
theorem wishF_snoc {d : Nat} {cs : List Int} {i : Nat} {c : Int} (h : cs[i]? = some c) : wishF d (cs.take (i + 1)) = wishF d (cs.take i) ++ [if wantF c d > 1 then wantF c d else 1] := by
  unfold wishF
  rw [List.take_add_one, h, List.map_append]
  rfl
theorem wishF_len (d : Nat) (cs : List Int) : (wishF d cs).length = cs.length := by rw [wishF, List.length_map]
section
variable {P : Program} {w : World} {K : PySem.W.Frag} {mg : Str → Option Value} {base : Heap} {a : Ad}
theorem ok_law (T : Txt K mg a) (TB : LamX.TabB base mg a.q_give_all a.p_give_all) : FnOk P w K mg base CX0 7 a.f_law a.d_law ["_law_script"] (sp_lawT K a) := by
  have G_Yard_init : FnOk P w K mg base (L2.CX P w) 3 a.f_Yard_init a.d_Yard_init ["self", "cells"] (sp_Yard_init K a) := ok_Yard_init T
  have G_Yard_free : FnOk P w K mg base CX0 2 a.f_Yard_free a.d_Yard_free ["self"] (sp_Yard_free K a) := ok_Yard_free T
  have G_Yard_out : FnOk P w K mg base CX0 1 a.f_Yard_out a.d_Yard_out ["self"] (sp_Yard_out K a) := ok_Yard_out T
  have G_law_alike : FnOk P w K mg base CX0 3 a.f_law_alike a.d_law_alike ["_law_one", "_law_two", "_law_cells"] (sp_law_alike K a) := ok_law_alike T
  have G_law_begun : FnOk P w K mg base CX0 5 a.f_law_begun a.d_law_begun ["_law_yard", "_law_cell", "_law_cells"] (sp_law_begun K a) := ok_law_begun T
  have G_law_cell_at : FnOk P w K mg base CX0 1 a.f_law_cell_at a.d_law_cell_at ["_law_script", "_law_k"] (sp_law_cell_at K a) := ok_law_cell_at T
  have G_law_done : FnOk P w K mg base CX0 5 a.f_law_done a.d_law_done ["_law_yard", "_law_held", "_law_cell", "_law_cells"] (sp_law_done K a) := ok_law_done T
  have G_law_many : FnOk P w K mg base CX0 6 a.f_law_many a.d_law_many ["_law_yard", "_law_held", "_law_wants"] (sp_law_many K a) := ok_law_many T TB
  have G_law_owners : FnOk P w K mg base CX0 6 a.f_law_owners a.d_law_owners ["_law_yard", "_law_held", "_law_cells", "_law_places"] (sp_law_owners K a) := ok_law_owners T
  have G_law_room : FnOk P w K mg base CX0 1 a.f_law_room a.d_law_room ["_law_script", "_law_few", "_law_many_here"] (sp_law_room K a) := ok_law_room T
  have G_law_text : FnOk P w K mg base CX0 1 a.f_law_text a.d_law_text ["_law_out", "_law_free"] (sp_law_text K a) := ok_law_text T
  have G_law_want : FnOk P w K mg base CX0 2 a.f_law_want a.d_law_want ["_law_cell", "_law_cells"] (sp_law_want K a) := ok_law_want T
  have G_law_yard_size : FnOk P w K mg base CX0 2 a.f_law_yard_size a.d_law_yard_size ["_law_script"] (sp_law_yard_size K a) := ok_law_yard_size T
  have G_read : FnOk P w K mg base (L2.CX P w) 6 a.f_read a.d_read ["text"] (sp_read K a) := ok_read T
  have G_shown : FnOk P w K mg base CX0 3 a.f_shown a.d_shown ["yard"] (sp_shown K a) := ok_shown T
  refine T.law.fn.ok sc_law (fun vs H Q E h => by first | (obtain ⟨rfl, _⟩ := h; rfl) | (obtain ⟨_, rfl, _⟩ := h; rfl) | (obtain ⟨_, _, rfl, _⟩ := h; rfl) | (obtain ⟨_, _, _, rfl, _⟩ := h; rfl) | (obtain ⟨_, _, _, _, rfl, _⟩ := h; rfl) | (obtain ⟨_, _, _, _, _, rfl, _⟩ := h; rfl) | (obtain ⟨_, _, _, _, _, _, rfl, _⟩ := h; rfl) | (obtain ⟨_, _, _, _, _, _, _, rfl, _⟩ := h; rfl) | (obtain ⟨_, _, _, _, _, _, _, _, rfl, _⟩ := h; rfl) | (obtain ⟨_, _, _, _, _, _, _, _, _, rfl, _⟩ := h; rfl) | (obtain ⟨_, _, _, _, _, _, _, _, _, _, rfl, _⟩ := h; rfl) | (obtain ⟨_, _, _, _, _, _, _, _, _, _, _, rfl, _⟩ := h; rfl)) (fun cdv A outer s H vs Q E hr h => ?_)
  refine ⟨_, pss_cons (ps_set (i := 1) sc_law.nd rfl (Or.inr rfl) (pe_call G_law_yard_size (hr.mono (by decide)) rfl T.law_yard_size.mg T.law_yard_size.fn.kp T.law_yard_size.bd .nil pass0 (pa_cons (pv 0) pa_nil)))
      (pss_cons (ps_set (i := 2) sc_law.nd rfl (Or.inl rfl) (pe_make T.m_Yard_init G_Yard_init (hr.mono (by decide)) rfl T.g_Yard T.b_Yard_init .nil passL (pa_cons (pv 1) pa_nil)))
      (pss_cons (ps_set (i := 3) sc_law.nd rfl (Or.inl rfl) (pe_call G_law_begun (hr.mono (by decide)) rfl T.law_begun.mg T.law_begun.fn.kp T.law_begun.bd .nil pass0 (pa_cons (pv 2) (pa_cons (pe_call G_law_cell_at (hr.mono (by decide)) rfl T.law_cell_at.mg T.law_cell_at.fn.kp T.law_cell_at.bd .nil pass0 (pa_cons (pv 0) (pa_cons pe_int pa_nil))) (pa_cons (pv 1) pa_nil)))))
      (pss_cons (ps_for PassesOwn.never rfl (pi_list (pe_slice sl_list (pv 0) (po_some pe_int) (po_some (pe_op op_add pe_int (pe_call G_law_room (hr.mono (by decide)) rfl T.law_room.mg T.law_room.fn.kp T.law_room.bd .nil pass0 (pa_cons (pv 0) (pa_cons pe_int (pa_cons pe_int pa_nil)))))))) (pg_name (i := 4) sc_law.nd rfl (Or.inl rfl)) (pss_one (ps_set (i := 3) sc_law.nd rfl (Or.inl rfl) (pe_call G_law_done (hr.mono (by decide)) rfl T.law_done.mg T.law_done.fn.kp T.law_done.bd .nil pass0 (pa_cons (pv 2) (pa_cons (pv 3) (pa_cons (pv 4) (pa_cons (pv 1) pa_nil))))))))
      (pss_cons (ps_set (i := 3) sc_law.nd rfl (Or.inl rfl) (pe_call G_law_many (hr.mono (by decide)) rfl T.law_many.mg T.law_many.fn.kp T.law_many.bd .nil pass0 (pa_cons (pv 2) (pa_cons (pv 3) (pa_cons (pe_lc (own := [("_law_cell", 4)]) (g := gName 4) (te := (tCB (fun xs H Q => ∃ i j, xs = [.int i, .int j] ∧ Q (.int (if j > i then j else i)) H) (tCons (tC (.int 1)) (tCons (tCall (sp_law_want K a) [] E0 (tCons (tVar 4) (tCons (tVar 1) tNil))) tNil)))) rfl sc_law.nd (pi_list (pe_slice sl_list (pv 0) (po_some pe_int) (po_some pe_int))) (blkOk_by (own := [("_law_cell", 4)]) (N := ["_law_script", "_law_cells", "_law_yard", "_law_held", "_law_cell", "_law_found", "_law_free", "_law_again", "_law_row", "_law_places"]) (sc := defScope s_law) (by decide +kernel)) (fun _ _ _ _ _ => (pg_name (i := 4) sc_law.nd rfl (Or.inl rfl))) (fun _ _ _ _ _ => pts_nil) (fun _ _ _ _ _ => (pe_callB (call_max2 rfl) (by rfl) T.z_max PyProof.Rows.boot_max (pa_cons pe_int (pa_cons (pe_call G_law_want (hr.mono (by decide)) rfl T.law_want.mg T.law_want.fn.kp T.law_want.bd .nil pass0 (pa_cons (pv 4) (pa_cons (pv 1) pa_nil))) pa_nil))))) pa_nil)))))
      (pss_cons (ps_set (i := 5) sc_law.nd rfl (Or.inl rfl) (pe_call G_shown (hr.mono (by decide)) rfl T.shown.mg T.shown.fn.kp T.shown.bd .nil pass0 (pa_cons (pv 2) pa_nil)))
      (pss_cons (ps_set (i := 6) sc_law.nd rfl (Or.inl rfl) (pe_callTy call_list_of (by rfl) T.z_list (by decide +kernel) (pa_cons (pe_meth0 (pv 2) T.cl_Yard T.m_Yard_free G_Yard_free (hr.mono (by decide)) T.b_Yard_free .nil pass0) pa_nil)))
      (pss_cons (ps_if (PW.pt (pw_or (pt_not (pt_val (pe_callB call_isi (by rfl) T.z_isinstance PyProof.Rows.boot_isinstance (pa_cons (pv 5) (pa_cons (pe_bltn (v := .ty "str") (by rfl) T.z_str (by decide +kernel) rfl) pa_nil))))) (pw_or1 (pt_cmpR op_ne (pv 5) (pe_call G_law_text (hr.mono (by decide)) rfl T.law_text.mg T.law_text.fn.kp T.law_text.bd .nil pass0 (pa_cons (pe_callB cr_sortedTups (by rfl) T.z_sorted (by decide +kernel) (pa_cons (pv 3) pa_nil)) (pa_cons (pv 6) pa_nil))) (nomark _))))) (pss_one (ps_ret pe_bl)) pss_nil)
      (pss_cons (ps_set (i := 7) sc_law.nd rfl (Or.inl rfl) (pe_call G_read (hr.mono (by decide)) rfl T.read.mg T.read.fn.kp T.read.bd .nil passL (pa_cons (pv 5) pa_nil)))
      (pss_cons (ps_if (PW.pt (pw_or (pt_not (pt_val (pe_callB call_isi (by rfl) T.z_isinstance PyProof.Rows.boot_isinstance (pa_cons (pv 7) (pa_cons (pe_glob (v := .ref a.c_Yard) rfl T.g_Yard rfl) pa_nil))))) (pw_or (pt_not (pt_truth (pe_call G_law_alike (hr.mono (by decide)) rfl T.law_alike.mg T.law_alike.fn.kp T.law_alike.bd .nil pass0 (pa_cons (pv 2) (pa_cons (pv 7) (pa_cons (pv 1) pa_nil)))) (by intro _; rfl))) (pw_or1 (pt_cmpR (op_neD hr.units) (pe_meth0 (pv 7) T.cl_Yard T.m_Yard_out G_Yard_out (hr.mono (by decide)) T.b_Yard_out .nil pass0) (pe_callB cr_sortedTups (by rfl) T.z_sorted (by decide +kernel) (pa_cons (pv 3) pa_nil)) (nomark _)))))) (pss_one (ps_ret pe_bl)) pss_nil)
      (pss_cons (ps_set (i := 8) sc_law.nd rfl (Or.inl rfl) (pe_callTy call_list_of (by rfl) T.z_list (by decide +kernel) (pa_cons (pv 3) pa_nil)))
      (pss_cons (ps_setLc (i := 9) (own := [("_law_cell", 4)]) (g := gName 4) rfl sc_law.nd rfl rfl (sw_true rfl rfl rfl (by decide +kernel)) (pi_list (pe_slice sl_list (pv 0) (po_some pe_int) (po_some pe_int))) (blkOk_by (own := [("_law_cell", 4)]) (N := ["_law_script", "_law_cells", "_law_yard", "_law_held", "_law_cell", "_law_found", "_law_free", "_law_again", "_law_row", "_law_places"]) (sc := defScope s_law) (by decide +kernel)) (fun _ _ _ _ _ => (pg_name (i := 4) sc_law.nd rfl (Or.inl rfl))) (fun _ _ _ _ _ => pts_nil) (fun _ _ _ _ _ => (pe_op op_sub (pe_op op_modN (pv 4) (pe_op op_add (pv 1) pe_int)) pe_int)))
      (pss_cons (ps_if (pt_not (pt_truth (pe_call G_law_owners (hr.mono (by decide)) rfl T.law_owners.mg T.law_owners.fn.kp T.law_owners.bd .nil pass0 (pa_cons (pv 7) (pa_cons (pv 8) (pa_cons (pv 1) (pa_cons (pv 9) pa_nil))))) (by intro _; rfl))) (pss_one (ps_ret pe_bl)) pss_nil)
      (pss_cons (ps_for PassesOwn.never rfl (pi_list (pe_slice sl_list (pv 0) (po_some pe_int) (po_some pe_int))) (pg_name (i := 4) sc_law.nd rfl (Or.inl rfl)) (pss_one (ps_set (i := 8) sc_law.nd rfl (Or.inl rfl) (pe_call G_law_done (hr.mono (by decide)) rfl T.law_done.mg T.law_done.fn.kp T.law_done.bd .nil pass0 (pa_cons (pv 7) (pa_cons (pv 8) (pa_cons (pv 4) (pa_cons (pv 1) pa_nil))))))))
      (pss_cons (ps_set (i := 8) sc_law.nd rfl (Or.inl rfl) (pe_call G_law_many (hr.mono (by decide)) rfl T.law_many.mg T.law_many.fn.kp T.law_many.bd .nil pass0 (pa_cons (pv 7) (pa_cons (pv 8) (pa_cons (pe_lc (own := [("_law_cell", 4)]) (g := gName 4) (te := (tCB (fun xs H Q => ∃ i j, xs = [.int i, .int j] ∧ Q (.int (if j > i then j else i)) H) (tCons (tC (.int 1)) (tCons (tCall (sp_law_want K a) [] E0 (tCons (tVar 4) (tCons (tVar 1) tNil))) tNil)))) rfl sc_law.nd (pi_list (pe_slice sl_list (pv 0) (po_some pe_int) (po_some pe_int))) (blkOk_by (own := [("_law_cell", 4)]) (N := ["_law_script", "_law_cells", "_law_yard", "_law_held", "_law_cell", "_law_found", "_law_free", "_law_again", "_law_row", "_law_places"]) (sc := defScope s_law) (by decide +kernel)) (fun _ _ _ _ _ => (pg_name (i := 4) sc_law.nd rfl (Or.inl rfl))) (fun _ _ _ _ _ => pts_nil) (fun _ _ _ _ _ => (pe_callB (call_max2 rfl) (by rfl) T.z_max PyProof.Rows.boot_max (pa_cons pe_int (pa_cons (pe_call G_law_want (hr.mono (by decide)) rfl T.law_want.mg T.law_want.fn.kp T.law_want.bd .nil pass0 (pa_cons (pv 4) (pa_cons (pv 1) pa_nil))) pa_nil))))) pa_nil)))))
      (pss_cons (ps_if (PW.pt (pw_or (pt_cmpR (op_neD hr.units) (pe_meth0 (pv 2) T.cl_Yard T.m_Yard_out G_Yard_out (hr.mono (by decide)) T.b_Yard_out .nil pass0) (pe_callB cr_sortedTups (by rfl) T.z_sorted (by decide +kernel) (pa_cons (pv 3) pa_nil)) (nomark _)) (pw_or (pt_cmpR (op_neD hr.units) (pe_meth0 (pv 2) T.cl_Yard T.m_Yard_free G_Yard_free (hr.mono (by decide)) T.b_Yard_free .nil pass0) (pv 6) (nomark _)) (pw_or1 (pt_cmpR op_ne (pe_call G_shown (hr.mono (by decide)) rfl T.shown.mg T.shown.fn.kp T.shown.bd .nil pass0 (pa_cons (pv 2) pa_nil)) (pv 5) (nomark _)))))) (pss_one (ps_ret pe_bl)) pss_nil)
      (pss_cons (ps_for PassesOwn.never rfl (pi_list (pe_slice sl_list (pv 0) (po_some pe_int) (po_some pe_int))) (pg_name (i := 4) sc_law.nd rfl (Or.inl rfl)) (pss_one (ps_set (i := 3) sc_law.nd rfl (Or.inl rfl) (pe_call G_law_done (hr.mono (by decide)) rfl T.law_done.mg T.law_done.fn.kp T.law_done.bd .nil pass0 (pa_cons (pv 2) (pa_cons (pv 3) (pa_cons (pv 4) (pa_cons (pv 1) pa_nil))))))))
      (pss_cons (ps_set (i := 3) sc_law.nd rfl (Or.inl rfl) (pe_call G_law_many (hr.mono (by decide)) rfl T.law_many.mg T.law_many.fn.kp T.law_many.bd .nil pass0 (pa_cons (pv 2) (pa_cons (pv 3) (pa_cons (pe_lc (own := [("_law_cell", 4)]) (g := gName 4) (te := (tCB (fun xs H Q => ∃ i j, xs = [.int i, .int j] ∧ Q (.int (if j > i then j else i)) H) (tCons (tC (.int 1)) (tCons (tCall (sp_law_want K a) [] E0 (tCons (tVar 4) (tCons (tVar 1) tNil))) tNil)))) rfl sc_law.nd (pi_list (pe_slice sl_list (pv 0) (po_some pe_int) (po_some pe_int))) (blkOk_by (own := [("_law_cell", 4)]) (N := ["_law_script", "_law_cells", "_law_yard", "_law_held", "_law_cell", "_law_found", "_law_free", "_law_again", "_law_row", "_law_places"]) (sc := defScope s_law) (by decide +kernel)) (fun _ _ _ _ _ => (pg_name (i := 4) sc_law.nd rfl (Or.inl rfl))) (fun _ _ _ _ _ => pts_nil) (fun _ _ _ _ _ => (pe_callB (call_max2 rfl) (by rfl) T.z_max PyProof.Rows.boot_max (pa_cons pe_int (pa_cons (pe_call G_law_want (hr.mono (by decide)) rfl T.law_want.mg T.law_want.fn.kp T.law_want.bd .nil pass0 (pa_cons (pv 4) (pa_cons (pv 1) pa_nil))) pa_nil))))) pa_nil)))))
      (pss_cons (ps_if (PW.pt (pw_or (pt_cmpR (op_neD hr.units) (pv 3) (pv 8) (nomark _)) (pw_or (pt_not (pt_truth (pe_call G_law_alike (hr.mono (by decide)) rfl T.law_alike.mg T.law_alike.fn.kp T.law_alike.bd .nil pass0 (pa_cons (pv 2) (pa_cons (pv 7) (pa_cons (pv 1) pa_nil)))) (by intro _; rfl))) (pw_or1 (pt_cmpR (op_neD hr.units) (pe_meth0 (pv 7) T.cl_Yard T.m_Yard_out G_Yard_out (hr.mono (by decide)) T.b_Yard_out .nil pass0) (pe_callB cr_sortedTups (by rfl) T.z_sorted (by decide +kernel) (pa_cons (pv 8) pa_nil)) (nomark _)))))) (pss_one (ps_ret pe_bl)) pss_nil)
      (pss_cons (ps_if (PW.pt (pw_or (pt_not (pt_truth (pe_call G_law_owners (hr.mono (by decide)) rfl T.law_owners.mg T.law_owners.fn.kp T.law_owners.bd .nil pass0 (pa_cons (pv 7) (pa_cons (pv 8) (pa_cons (pv 1) (pa_cons (pv 9) pa_nil))))) (by intro _; rfl))) (pw_or1 (pt_not (pt_truth (pe_call G_law_owners (hr.mono (by decide)) rfl T.law_owners.mg T.law_owners.fn.kp T.law_owners.bd .nil pass0 (pa_cons (pv 2) (pa_cons (pv 3) (pa_cons (pv 1) (pa_cons (pv 9) pa_nil))))) (by intro _; rfl)))))) (pss_one (ps_ret pe_bl)) pss_nil)
      (pss_one (ps_ret (pe_chain op_eq op_eq (pe_call G_shown (hr.mono (by decide)) rfl T.shown.mg T.shown.fn.kp T.shown.bd .nil pass0 (pa_cons (pv 2) pa_nil)) (pe_call G_shown (hr.mono (by decide)) rfl T.shown.mg T.shown.fn.kp T.shown.bd .nil pass0 (pa_cons (pv 7) pa_nil)) (pe_call G_law_text (hr.mono (by decide)) rfl T.law_text.mg T.law_text.fn.kp T.law_text.bd .nil pass0 (pa_cons (pe_callB cr_sortedTups (by rfl) T.z_sorted (by decide +kernel) (pa_cons (pv 3) pa_nil)) (pa_cons (pe_meth0 (pv 2) T.cl_Yard T.m_Yard_free G_Yard_free (hr.mono (by decide)) T.b_Yard_free .nil pass0) pa_nil))))))))))))))))))))))))), ?_⟩
  obtain ⟨l, ns, rfl, hS, hl, hB, hT, q⟩ := h
  have tb : TabsG a H := fun p hp => by
    rw [List.mem_singleton.mp hp]
    exact .nil hT
  refine ⟨_, rfl, l, ns, rfl, hS, hl, fun d d60 => ?_⟩
  refine ⟨_, rfl, fun y dy n1 n2 n3 => ⟨y, dy, _, rfl, upd_same, fun z => absurd ⟨d, d60, rfl⟩ z, fun d' d60' e Y H2 ey ya fr only => ⟨rfl, ?_⟩⟩⟩
  have ed := pow_inj e
  subst ed
  subst ey
  have pd : 0 < 2 ^ d := Nat.pow_pos (by decide)
  -- what was stays
  have k01 : ∀ b o, H b = some o → L2.upd (L2.upd H dy (.own Y.y)) Y.y (.ins a.c_Yard dy []) b = some o := fun b o eo => by
    have b1 : b ≠ Y.y := fun z => by rw [z, n1] at eo; cases eo
    have b2 : b ≠ dy := fun z => by rw [z, n2] at eo; cases eo
    rw [upd_ne b1, upd_ne b2]
    exact eo
  have k02 : ∀ b o, H b = some o → H2 b = some o := fun b o eo => by
    have b1 : b ≠ Y.y := fun z => by rw [z, n1] at eo; cases eo
    exact only _ _ (k01 _ _ eo) (by simp [b1])
  have nl0 : ∀ o, H l = some o → l ∉ own Y d := fun o eo z => by
    have e1 := k01 _ _ eo
    rw [fr l z] at e1
    cases e1
  have hSk : ∀ H', OnlyN (own Y d) H2 H' → SqL K H' l (ns.map V.int) := fun H' o2 => by
    rcases hS with (h | ⟨o, h⟩) | h
    · exact .inl (.inl (o2 _ _ (k02 _ _ h) (fun _ z => by cases z) (nl0 _ h)))
    · exact .inl (.inr ⟨o, o2 _ _ (k02 _ _ h) (fun _ z => by cases z) (nl0 _ h)⟩)
    · exact .inr h
  have t2 := tb.keep k02
  refine ⟨_, rfl, _, rfl, l, ns, 2, rfl, hSk H2 (OnlyN.of (Only.refl _ _)), hl, _, rfl, Y, d, cell ns 2, rfl, ya, fun os held lh H3 y3 h3 p3 f3 o3 => ?_⟩
  have t3 := t2.only ya o3
  have o3 := OnlyN.of o3
  have hS3 := hSk _ o3
  dsimp only
  -- the first deeds
  obtain ⟨c1, ec1⟩ := cut_cells ns (some 3) (some (3 + 12))
  have lc1 := cut_len (lo := 3) (hi := 15) ec1
  refine ⟨_, rfl, 3, rfl, _, rfl, l, ns, 12, 60, rfl, hS3, hl, _, _, rfl, rfl, _, rfl, l, _, rfl, hS3, fun D0 new0 => ?_⟩
  refine ⟨D0, rfl, ⟨_, SqL.of upd_same⟩, ?_⟩
  rw [ec1]
  have k0 := newK (o := .lst (c1.map V.int)) new0
  have nD0 : D0 ∉ own Y d := y3.new new0
  refine for_list (xs := c1.map V.int) (fun i σ H' => i ≤ 12 ∧ ∃ (os held : List PN) (lh : Addr) (x4 x5 x6 x7 x8 x9 : Option V), σ = [some (.ref l), some (sI d), some (.ref Y.y), some (.ref lh), x4, x5, x6, x7, x8, x9] ∧
      YardAt a Y d os H' ∧ HeldAt (own Y d) H' lh held ∧ held.Perm os ∧ os.length ≤ 131 + i ∧ TabsG a H' ∧ H' D0 = some (.lst (c1.map V.int)) ∧ OnlyN (own Y d) H2 H')
    ⟨Nat.zero_le _, os, held, lh, none, none, none, none, none, none, rfl, y3.keep k0, h3.same k0, p3, f3, t3.keep k0, upd_same, o3.trans (OnlyN.of (Only.same k0))⟩
    (fun i σ H' _ p => by obtain ⟨_, _, _, _, _, _, _, _, _, _, _, _, _, _, _, _, p, _⟩ := p; exact SqL.of p) ?_ ?_
  · rintro i v σ H4 hv ⟨hi, os, held, lh, x4, x5, x6, x7, x8, x9, rfl, y4, h4, p4, f4, t4, at4, o4⟩
    have hi : i < 12 := by
      have := (List.getElem?_eq_some_iff.mp hv).1
      rw [List.length_map] at this
      omega
    rw [List.getElem?_map] at hv
    obtain ⟨c, hc, rfl⟩ := Option.map_eq_some_iff.mp hv
    refine ⟨_, rfl, _, rfl, _, rfl, _, rfl, Y, d, os, held, lh, c, rfl, y4, h4, p4, by omega, fun os5 lh5 H5 y5 h5 p5 f5 o5 _ => ?_⟩
    exact ⟨by omega, os5, _, lh5, _, _, _, _, _, _, rfl, y5, h5, p5, by omega, t4.only y4 o5, o5 _ _ at4 nD0, o4.trans (OnlyN.of o5)⟩
  rintro σ H4 ⟨hi, os, held, lh, x4, x5, x6, x7, x8, x9, rfl, y4, h4, p4, f4, t4, at4, o4⟩
  have f4 : os.length ≤ 143 := by omega
  dsimp only
  -- many at once
  clear o3 t3 h3 y3 p3 f3 k0 new0 nD0 hS3 at4
  obtain ⟨w1, ew1⟩ := cut_cells ns (some 27) (some 31)
  have lw1 := cut_len (lo := 27) (hi := 31) ew1
  refine ⟨_, rfl, _, rfl, _, rfl, _, rfl, _, rfl, l, _, rfl, hSk _ o4, fun D1 new1 => ?_⟩
  rw [ew1]
  have k1 := newK (o := .lst (w1.map V.int)) new1
  have at1 : L2.upd H4 D1 (.lst (w1.map V.int)) D1 = _ := upd_same
  generalize L2.upd H4 D1 (.lst (w1.map V.int)) = H4' at k1 at1 ⊢
  refine ⟨D1, rfl, ⟨_, SqL.of at1⟩, fun E1 nE1 => ?_⟩
  refine lc_out walk_list (fun j H' => H' E1 = some (.lst ((wishF d (w1.take j)).map V.int)) ∧ (∀ b o, H4' b = some o → H' b = some o)) ⟨upd_same, newK nE1⟩ (fun j H' _ p => SqL.of (p.2 _ _ at1)) ?_ ?_
  · rintro j v H5 H6 hj ⟨hE, s5⟩ ⟨rfl, hv⟩
    rw [List.getElem?_map] at hv
    obtain ⟨c, hc, rfl⟩ := Option.map_eq_some_iff.mp hv
    refine ⟨rfl, ?_⟩
    refine ⟨_, rfl, _, rfl, c, d, rfl, d60, fun H7 s7 => ?_⟩
    have lj : j ≤ 4 := by
      rw [List.length_map] at hj
      omega
    refine ⟨_, _, rfl, _, s7 _ _ hE, by rw [List.length_map, wishF_len, List.length_take, sizeLine_eq]; omega, ?_, fun b o e => ?_⟩
    · rw [upd_same, wishF_snoc hc, List.map_append]
      rfl
    · rw [upd_ne (fun z => by rw [z, nE1] at e; cases e)]
      exact s7 _ _ (s5 _ _ e)
  rintro H5 ⟨hE, s5⟩
  rw [List.length_map, List.take_length] at hE
  have s45 : ∀ b o, H4 b = some o → H5 b = some o := fun b o e => s5 _ _ (k1 _ _ e)
  have nEo : E1 ∉ own Y d := (y4.keep k1).new nE1
  refine ⟨Y, d, os, held, lh, E1, wishF d w1, rfl, y4.keep s45, h4.same s45, p4, by omega, d60, hE, nEo, by rw [wishF_len]; omega, wishF_ok d60, t4.keep s45, fun os6 lh6 H6 y6 h6 p6 f6 o6 t6 _ => ?_⟩
  have o26 : OnlyN (own Y d) H2 H6 := o4.trans ((OnlyN.of (Only.same s45)).trans o6)
  have f6 : os6.length ≤ 150 := by omega
  clear o6 nEo s45 hE s5 at1 k1 nE1 new1
  generalize manyF d held (wishF d w1) = held0 at h6 p6
  dsimp only
  -- the text
  refine ⟨_, rfl, Y, d, os6, rfl, y6, d60, by omega, fun s H7 s7 nt => ?_⟩
  dsimp only
  have y7 := y6.keep s7
  refine ⟨_, rfl, Y.y, Y.dy, _, rfl, y7.yo, yFs_no Y d (by decide +kernel) (by decide +kernel) (by decide +kernel), Y, d, os6, rfl, y7, fun lf uf H8 s8 n8 at8 tu8 => ⟨lf, _, rfl, .inl (SqL.of at8), fun lg ng => ?_⟩⟩
  dsimp only
  have k9 := newK (o := .lst (uf.map V.ref)) ng
  have at9 : L2.upd H8 lg (.lst (uf.map V.ref)) lg = _ := upd_same
  generalize L2.upd H8 lg (.lst (uf.map V.ref)) = H9 at k9 at9 ⊢
  have s69 : ∀ b o, H6 b = some o → H9 b = some o := fun b o e => k9 _ _ (s8 _ _ (s7 _ _ e))
  have tu9 := tu8.keep fun t xs e => k9 _ _ e
  have nlg : lg ∉ own Y d := (y7.keep s8).new ng
  obtain ⟨_, ts6, hat6, tups6⟩ := id (h6.same s69)
  obtain ⟨A, eA, pA⟩ := perm_pre (srt_perm (held0.map toI)) held0 rfl
  obtain ⟨B, eB, pB⟩ := frees_pn os6 d
  have lnh := p6.length_eq
  refine ⟨_, rfl, _, _, _, _, true, rfl, .ty _, .base (.str _), kit_ty (by decide +kernel), true, rfl, iteF ?_⟩
  refine ⟨_, rfl, _, rfl, _, ts6, _, rfl, SqL.of hat6, tups6, fun pD uD nD tD => ?_⟩
  have kD := newK (o := .lst (uD.map V.ref)) nD
  have atD : L2.upd H9 pD (.lst (uD.map V.ref)) pD = _ := upd_same
  generalize L2.upd H9 pD (.lst (uD.map V.ref)) = H10 at kD atD tD ⊢
  rw [eA] at tD
  rw [eB] at tu9
  refine ⟨_, rfl, pD, lg, uD, uf, A, B, d, rfl, atD, tD, kD _ _ at9, tu9.keep fun t xs e => kD _ _ e, (good_all y6.good).perm ((pA.trans p6).append pB), d60, by rw [pA.length_eq]; omega, by rw [pB.length_eq]; exact freeP_len d60 (by omega), fun s2 H11 s11 nt2 => ?_⟩
  have es : s2 = s := nt2.uniq nt (pA.trans p6) pB
  subst es
  refine ⟨rfl, _, rfl, iteFof (by simp) ?_⟩
  dsimp only
  have s611 : ∀ b o, H6 b = some o → H11 b = some o := fun b o e => s11 _ _ (kD _ _ (s69 _ _ e))
  -- it is read
  obtain ⟨as, ls, ws, rows0, sh0, pr0⟩ := nt.shows y6.good d60 (by omega)
  refine ⟨_, rfl, s2, rfl, as, by omega, ws, fun rows d' sh Z H12 yz frZ s12 => ?_, fun no => absurd sh0 (no _ _)⟩
  have er := rows_uniq sh.2.1 sh0.2.1
  subst er
  have ed : d = d' := by
    have e1 := chain_sum sh.2.2.1
    have e2 := chain_sum sh0.2.2.1
    exact (Nat.pow_right_inj (by decide)).mp (e2.symm.trans e1)
  subst ed
  dsimp only
  have s6c : ∀ b o, H6 b = some o → H12 b = some o := fun b o e => s12 _ _ (s611 _ _ e)
  have disZ : ∀ b ∈ own Z d, b ∉ own Y d := fun b hb => (y6.keep s611).new (frZ b hb)
  have y12 := y6.keep s6c
  have h12 := h6.same s6c
  have t12 := t6.keep s6c
  have nlh12 : lh6 ∉ own Z d := fun z => by
    obtain ⟨_, t', a', _⟩ := h6.same s611
    rw [frZ _ z] at a'
    cases a'
  have at12 : H12 lg = some (.lst (uf.map V.ref)) := s12 _ _ (s11 _ _ (kD _ _ at9))
  have tu12 := tu9.keep fun t xs e => s12 _ _ (s11 _ _ (kD _ _ e))
  have nlgZ : lg ∉ own Z d := fun z => by
    have e := s11 _ _ (kD _ _ at9)
    rw [frZ _ z] at e
    cases e
  have hS12 : ∀ {S : List Addr}, (∀ b, b ∈ S ↔ b ∈ own Y d ∨ b ∈ own Z d) → ∀ H', OnlyN S H12 H' → SqL K H' l (ns.map V.int) := fun {S} sS H' o => by
    have nlZ : ∀ o, H l = some o → (∀ ps, o ≠ .tbl ps) → l ∉ S := fun o eo nt z => by
      rcases (sS l).mp z with z | z
      · exact nl0 _ eo z
      · have e := s611 _ _ (o26 _ _ (k02 _ _ eo) nt (nl0 _ eo))
        rw [frZ _ z] at e
        cases e
    rcases hS with (h | ⟨o', h⟩) | h
    · exact .inl (.inl (o _ _ (s6c _ _ (o26 _ _ (k02 _ _ h) (fun _ z => by cases z) (nl0 _ h))) (fun _ z => by cases z) (nlZ _ h fun _ z => by cases z)))
    · exact .inl (.inr ⟨o', o _ _ (s6c _ _ (o26 _ _ (k02 _ _ h) (fun _ z => by cases z) (nl0 _ h))) (fun _ z => by cases z) (nlZ _ h fun _ z => by cases z)⟩)
    · exact .inr h
  obtain ⟨S, sS⟩ : ∃ S : List Addr, ∀ b, b ∈ S ↔ b ∈ own Y d ∨ b ∈ own Z d := ⟨own Y d ++ own Z d, fun b => List.mem_append⟩
  have hS12 := hS12 sS
  obtain ⟨oa, ob, oc, od⟩ := T.o_Yard
  have kYY : PySem.W.kitOne K (.ref a.c_Yard) (.ref a.c_Yard) = some true := by
    unfold PySem.W.kitOne
    rw [if_pos]
    exact beq_iff_eq.mpr rfl
  refine ⟨_, rfl, _, _, _, _, true, rfl, .own _, .base (.ins yz.yo T.cl_Yard oa ob oc od), kYY, true, rfl, iteF ?_⟩
  refine ⟨_, rfl, _, rfl, _, rfl, Y, Z, d, os6, outPn rows, rfl, y12, yz, pr0.symm, fun H13 s13 => ⟨true, rfl, iteF ?_⟩⟩
  have yz13 := yz.keep s13
  refine ⟨_, rfl, Z.y, Z.dy, _, rfl, yz13.yo, yFs_no Z d (by decide +kernel) (by decide +kernel) (by decide +kernel), Z, d, _, rfl, yz13, fun lo uo H14 s14 n14 at14 tu14 => ?_⟩
  have s24 : ∀ b o, H12 b = some o → H14 b = some o := fun b o e => s14 _ _ (s13 _ _ e)
  obtain ⟨_, ts14, hat14, tups14⟩ := id (h12.same s24)
  refine ⟨_, rfl, _, ts14, _, rfl, SqL.of hat14, tups14, fun p15 u15 n15 t15 => ?_⟩
  have k15 := newK (o := .lst (u15.map V.ref)) n15
  have eout : outZ (outPn rows) = srt (held0.map toI) := srt_eq ((pr0.trans p6.symm).map toI)
  refine ⟨_, _, dp_list (k15 _ _ at14) (tu14.keep fun t xs e => k15 _ _ e), dp_list upd_same t15, dL_shaped _, dL_shaped _, _, rfl, iteFof ?_ ?_⟩
  · rw [dL_eqv, decide_eq_true eout]
    rfl
  generalize L2.upd H14 p15 (.lst (u15.map V.ref)) = H15 at k15
  have s25 : ∀ b o, H12 b = some o → H15 b = some o := fun b o e => k15 _ _ (s24 _ _ e)
  dsimp only
  -- the row
  obtain ⟨_, tsR, hatR, tupsR⟩ := id (h12.same s25)
  refine ⟨_, rfl, _, _, rfl, .inl (SqL.of hatR), fun lr nr => ?_⟩
  have k16 := newK (o := .lst (tsR.map V.ref)) nr
  have at16 : L2.upd H15 lr (.lst (tsR.map V.ref)) lr = _ := upd_same
  generalize L2.upd H15 lr (.lst (tsR.map V.ref)) = H16 at k16 at16 ⊢
  have s26 : ∀ b o, H12 b = some o → H16 b = some o := fun b o e => k16 _ _ (s25 _ _ e)
  have D16 : Duo a Y Z d S H12 H16 os6 held0 lh6 (outPn rows) held0 lr := by
    refine ⟨disZ, sS, y12.keep s26, yz.keep s26, ⟨fun z => ?_, tsR, k16 _ _ hatR, tupsR.keep fun t xs e => k16 _ _ e⟩, ⟨fun z => ?_, tsR, at16, tupsR.keep fun t xs e => k16 _ _ e⟩, p6, p6.trans pr0.symm, t12.keep s26, OnlyN.of (Only.same s26)⟩
    · rcases (sS _).mp z with z | z
      · exact h6.1 z
      · exact nlh12 z
    · rcases (sS _).mp z with z | z
      · exact (y12.keep s25).new nr z
      · exact (yz.keep s25).new nr z
  have nlgS : lg ∉ S := fun z => by
    rcases (sS _).mp z with z | z
    · exact nlg z
    · exact nlgZ z
  dsimp only
  -- the places
  obtain ⟨c9, ec9⟩ := cut_cells ns (some 35) (some 39)
  have lc9 := cut_len (lo := 35) (hi := 39) ec9
  obtain ⟨c2, ec2⟩ := cut_cells ns (some 15) (some 27)
  have lc2 := cut_len (lo := 15) (hi := 27) ec2
  obtain ⟨w2, ew2⟩ := cut_cells ns (some 31) (some 35)
  have lw2 := cut_len (lo := 31) (hi := 35) ew2
  refine ⟨_, rfl, _, rfl, _, rfl, l, _, rfl, hS12 _ D16.on, fun D2 new2 => ?_⟩
  rw [ec9]
  have k17 := newK (o := .lst (c9.map V.int)) new2
  have at17 : L2.upd H16 D2 (.lst (c9.map V.int)) D2 = _ := upd_same
  generalize L2.upd H16 D2 (.lst (c9.map V.int)) = H16' at k17 at17 ⊢
  refine ⟨D2, rfl, ⟨_, SqL.of at17⟩, fun E2 nE2' => ?_⟩
  refine lc_out walk_list (fun j H' => ∃ ms : List Int, H' E2 = some (.lst (ms.map V.int)) ∧ ms.length = j ∧ (∀ b o, H16' b = some o → H' b = some o)) ⟨[], upd_same, rfl, newK nE2'⟩ (fun j H' _ ⟨_, _, _, p⟩ => SqL.of (p _ _ at17)) ?_ ?_
  · rintro j v H5 H6 hj ⟨ms, hE, lm, s5⟩ ⟨rfl, hv⟩
    rw [List.getElem?_map] at hv
    obtain ⟨c, hc, rfl⟩ := Option.map_eq_some_iff.mp hv
    have lj : j ≤ 4 := by
      rw [List.length_map] at hj
      omega
    refine ⟨rfl, ?_⟩
    refine ⟨_, rfl, _, rfl, _, _, rfl, rfl, _, _, rfl, rfl, by show ((2 ^ d : Nat) : Int) + 2 ≠ 0; omega, _, _, rfl, rfl, ?_⟩
    refine ⟨_, hE, by rw [List.length_map, sizeLine_eq]; omega, ms ++ [_], by rw [upd_same, List.map_append]; rfl, by rw [List.length_append, lm]; rfl, fun b o e => ?_⟩
    rw [upd_ne (fun z => by rw [z, nE2'] at e; cases e)]
    exact s5 _ _ e
  rintro H17 ⟨ms, atE17, lms, s17⟩
  rw [List.length_map] at lms
  have D17 := D16.keep fun b o e => s17 _ _ (k17 _ _ e)
  have nE2 : E2 ∉ S := fun z => by
    rcases (sS _).mp z with z | z
    · exact (D16.yY.keep k17).new nE2' z
    · exact (D16.yZ.keep k17).new nE2' z
  dsimp only
  have lh0 := p6.length_eq
  -- owners
  obtain ⟨_, tsZ, hatZ, tupsZ⟩ := D17.heZ
  refine ⟨_, rfl, _, rfl, _, rfl, _, rfl, Z, d, _, _, lr, E2, tsZ, ms, rfl, D17.yZ, hatZ, tupsZ, D17.pZ, by omega, atE17, by omega, fun H17' s17' => ⟨true, rfl, iteF ?_⟩⟩
  have D17 := D17.keep s17'
  have atE17 := s17' _ _ atE17
  clear hatZ tupsZ
  dsimp only
  refine ⟨_, rfl, _, rfl, _, rfl, l, _, rfl, hS12 _ D17.on, fun D3Z new3 => ?_⟩
  refine ⟨D3Z, rfl, ⟨_, SqL.of upd_same⟩, ?_⟩
  rw [ec2]
  have k3Z := newK (o := .lst (c2.map V.int)) new3
  have nD3Z : D3Z ∉ S := fun z => by
    rcases (sS _).mp z with z | z
    · exact D17.yY.new new3 z
    · exact D17.yZ.new new3 z
  refine for_list (xs := c2.map V.int) (fun i σ H' => i ≤ 12 ∧ ∃ (osX : List PN) (lX : Addr) (x4 : Option V), σ = [some (.ref l), some (sI d), some (.ref Y.y), some (.ref lh6), x4, some (.str s2), some (.ref lg), some (.ref Z.y), some (.ref lX), some (.ref E2)] ∧ Duo a Y Z d S H12 H' os6 held0 lh6 osX ((c2.take i).foldl (doneF d) held0) lX ∧ osX.length ≤ 160 + i ∧ H' D3Z = some (.lst (c2.map V.int)) ∧ H' E2 = some (.lst (ms.map V.int)))
    ⟨Nat.zero_le _, outPn rows, lr, _, rfl, D17.keep k3Z, by rw [pr0.length_eq]; omega, upd_same, k3Z _ _ atE17⟩
    (fun i σ H' _ p => by obtain ⟨_, _, _, _, _, _, _, p, _⟩ := p; exact SqL.of p) ?_ ?_
  · rintro i v σ H4 hv ⟨hi, osX, lX, x4, rfl, D, few, at3, atE4⟩
    have hi : i < 12 := by
      have := (List.getElem?_eq_some_iff.mp hv).1
      rw [List.length_map] at this
      omega
    rw [List.getElem?_map] at hv
    obtain ⟨c, hc, rfl⟩ := Option.map_eq_some_iff.mp hv
    refine ⟨_, rfl, _, rfl, _, rfl, _, rfl, Z, d, osX, _, lX, c, rfl, D.yZ, D.hZ', D.pZ, by omega, fun os5 l5 H5 y5 h5 p5 f5 o5 fr5 => ?_⟩
    have nn : ∀ {b : Addr}, b ∉ S → b ∉ own Z d := fun n z => n ((sS _).mpr (.inr z))
    refine ⟨by omega, os5, l5, _, rfl, ?_, by omega, o5 _ _ at3 (nn nD3Z), o5 _ _ atE4 (nn nE2)⟩
    rw [foldl_snoc hc]
    exact (D.swap.step y5 h5 p5 (OnlyN.of o5) (D.tb.only D.yZ o5) (fr5.imp id fun z o e => by rw [z] at e; cases e)).swap
  rintro σ H18 ⟨hiZ, osZ2, lZ2, x4Z, rfl, DZ2, fewZ, at3Z, atEZ⟩
  rw [List.length_map, List.take_length] at DZ2
  dsimp only
  refine ⟨_, rfl, _, rfl, _, rfl, _, rfl, _, rfl, l, _, rfl, hS12 _ DZ2.on, fun D1 new1 => ?_⟩
  rw [ew2]
  have k1 := newK (o := .lst (w2.map V.int)) new1
  have at1 : L2.upd H18 D1 (.lst (w2.map V.int)) D1 = _ := upd_same
  generalize L2.upd H18 D1 (.lst (w2.map V.int)) = H4' at k1 at1 ⊢
  refine ⟨D1, rfl, ⟨_, SqL.of at1⟩, fun E1 nE1 => ?_⟩
  refine lc_out walk_list (fun j H' => H' E1 = some (.lst ((wishF d (w2.take j)).map V.int)) ∧ (∀ b o, H4' b = some o → H' b = some o)) ⟨upd_same, newK nE1⟩ (fun j H' _ p => SqL.of (p.2 _ _ at1)) ?_ ?_
  · rintro j v H5 H6 hj ⟨hE, s5⟩ ⟨rfl, hv⟩
    rw [List.getElem?_map] at hv
    obtain ⟨c, hc, rfl⟩ := Option.map_eq_some_iff.mp hv
    refine ⟨rfl, ?_⟩
    refine ⟨_, rfl, _, rfl, c, d, rfl, d60, fun H7 s7 => ?_⟩
    have lj : j ≤ 4 := by
      rw [List.length_map] at hj
      omega
    refine ⟨_, _, rfl, _, s7 _ _ hE, by rw [List.length_map, wishF_len, List.length_take, sizeLine_eq]; omega, ?_, fun b o e => ?_⟩
    · rw [upd_same, wishF_snoc hc, List.map_append]
      rfl
    · rw [upd_ne (fun z => by rw [z, nE1] at e; cases e)]
      exact s7 _ _ (s5 _ _ e)
  rintro H5 ⟨hE, s5⟩
  rw [List.length_map, List.take_length] at hE
  have s45 : ∀ b o, H18 b = some o → H5 b = some o := fun b o e => s5 _ _ (k1 _ _ e)
  have DK := DZ2.keep s45
  have nEo : E1 ∉ own Z d := (DZ2.yZ.keep k1).new nE1
  refine ⟨Z, d, osZ2, _, lZ2, E1, wishF d w2, rfl, DK.yZ, DK.hZ', DK.pZ, by omega, d60, hE, nEo, by rw [wishF_len]; omega, wishF_ok d60, DK.tb, fun osZ3 lZ3 H20 y9 h9 p9 f9 o9 t9 fr9 => ?_⟩
  have DZ3 := (DK.swap.step y9 h9 p9 o9 t9 fr9).swap
  have atEZ3 : H20 E2 = some (.lst (ms.map V.int)) := o9 _ _ (s45 _ _ atEZ) (fun _ z => by cases z) fun z => nE2 ((sS _).mpr (.inr z))
  have fewZ3 : osZ3.length ≤ 180 := by omega
  clear y9 h9 p9 f9 o9 t9 fr9 nEo DK s45 hE s5 at1 k1 nE1 new1
  dsimp only
  obtain ⟨hz, ehz⟩ : ∃ hz, hz = manyF d (c2.foldl (doneF d) held0) (wishF d w2) := ⟨_, rfl⟩
  rw [← ehz] at DZ3
  -- the first yard and the text are as they were
  refine ⟨_, rfl, Y.y, Y.dy, _, rfl, DZ3.yY.yo, yFs_no Y d (by decide +kernel) (by decide +kernel) (by decide +kernel), Y, d, os6, rfl, DZ3.yY, fun lo2 uo2 Ha sa na ata tua => ?_⟩
  have Da := DZ3.keep sa
  obtain ⟨_, tsa, hata, tupsa⟩ := Da.heY
  refine ⟨_, rfl, _, tsa, _, rfl, SqL.of hata, tupsa, fun pb ub nb tb' => ?_⟩
  have kb := newK (o := .lst (ub.map V.ref)) nb
  refine ⟨_, _, dp_list (kb _ _ ata) (tua.keep fun t xs e => kb _ _ e), dp_list upd_same tb', dL_shaped _, dL_shaped _, _, rfl, iteFof ?_ ?_⟩
  · rw [dL_eqv, decide_eq_true (show outZ os6 = srt (held0.map toI) from srt_eq (p6.symm.map toI))]
    rfl
  generalize L2.upd Ha pb (.lst (ub.map V.ref)) = Hb at kb
  have Db := Da.keep kb
  refine ⟨_, rfl, Y.y, Y.dy, _, rfl, Db.yY.yo, yFs_no Y d (by decide +kernel) (by decide +kernel) (by decide +kernel), Y, d, os6, rfl, Db.yY, fun l3 u3 Hc sc nc atc tuc => ?_⟩
  have Dc := Db.keep sc
  have atg := Dc.on _ _ at12 (fun _ z => by cases z) nlgS
  have tug := tu12.keep fun t xs e => Dc.on _ _ e (fun _ z => by cases z) fun z => by
    rcases (sS _).mp z with z | z
    · exact y12.off e (fun _ z => by cases z) (fun _ z => by cases z) z
    · exact yz.off e (fun _ z => by cases z) (fun _ z => by cases z) z
  refine ⟨_, rfl, _, _, dp_list atc tuc, dp_list atg tug, dL_shaped _, dL_shaped _, _, rfl, iteFof ?_ ?_⟩
  · rw [dL_eqv, decide_eq_true eB]
    rfl
  refine ⟨_, rfl, Y, d, os6, rfl, Dc.yY, d60, by omega, fun s3 Hd sd nt3 => ?_⟩
  have es3 : s3 = s2 := nt3.uniq nt (List.Perm.refl _)
  subst es3
  refine ⟨_, rfl, rfl, _, rfl, iteFof (by simp) ?_⟩
  have D20 := Dc.keep sd
  have atE20 : Hd E2 = some (.lst (ms.map V.int)) := sd _ _ (sc _ _ (kb _ _ (sa _ _ atEZ3)))
  dsimp only
  refine ⟨_, rfl, _, rfl, _, rfl, l, _, rfl, hS12 _ D20.on, fun D3Y new3 => ?_⟩
  refine ⟨D3Y, rfl, ⟨_, SqL.of upd_same⟩, ?_⟩
  rw [ec2]
  have k3Y := newK (o := .lst (c2.map V.int)) new3
  have nD3Y : D3Y ∉ S := fun z => by
    rcases (sS _).mp z with z | z
    · exact D20.yY.new new3 z
    · exact D20.yZ.new new3 z
  refine for_list (xs := c2.map V.int) (fun i σ H' => i ≤ 12 ∧ ∃ (osX : List PN) (lX : Addr) (x4 : Option V), σ = [some (.ref l), some (sI d), some (.ref Y.y), some (.ref lX), x4, some (.str s3), some (.ref lg), some (.ref Z.y), some (.ref lZ3), some (.ref E2)] ∧ Duo a Y Z d S H12 H' osX ((c2.take i).foldl (doneF d) held0) lX osZ3 hz lZ3 ∧ osX.length ≤ 160 + i ∧ H' D3Y = some (.lst (c2.map V.int)) ∧ H' E2 = some (.lst (ms.map V.int)))
    ⟨Nat.zero_le _, os6, lh6, _, rfl, D20.keep k3Y, by omega, upd_same, k3Y _ _ atE20⟩
    (fun i σ H' _ p => by obtain ⟨_, _, _, _, _, _, _, p, _⟩ := p; exact SqL.of p) ?_ ?_
  · rintro i v σ H4 hv ⟨hi, osX, lX, x4, rfl, D, few, at3, atE4⟩
    have hi : i < 12 := by
      have := (List.getElem?_eq_some_iff.mp hv).1
      rw [List.length_map] at this
      omega
    rw [List.getElem?_map] at hv
    obtain ⟨c, hc, rfl⟩ := Option.map_eq_some_iff.mp hv
    refine ⟨_, rfl, _, rfl, _, rfl, _, rfl, Y, d, osX, _, lX, c, rfl, D.yY, D.hY', D.pY, by omega, fun os5 l5 H5 y5 h5 p5 f5 o5 fr5 => ?_⟩
    have nn : ∀ {b : Addr}, b ∉ S → b ∉ own Y d := fun n z => n ((sS _).mpr (.inl z))
    refine ⟨by omega, os5, l5, _, rfl, ?_, by omega, o5 _ _ at3 (nn nD3Y), o5 _ _ atE4 (nn nE2)⟩
    rw [foldl_snoc hc]
    exact D.step y5 h5 p5 (OnlyN.of o5) (D.tb.only D.yY o5) (fr5.imp id fun z o e => by rw [z] at e; cases e)
  rintro σ H24 ⟨hiY, osY2, lY2, x4Y, rfl, DY2, fewY, at3Y, atEY⟩
  rw [List.length_map, List.take_length] at DY2
  dsimp only
  refine ⟨_, rfl, _, rfl, _, rfl, _, rfl, _, rfl, l, _, rfl, hS12 _ DY2.on, fun D1 new1 => ?_⟩
  rw [ew2]
  have k1 := newK (o := .lst (w2.map V.int)) new1
  have at1 : L2.upd H24 D1 (.lst (w2.map V.int)) D1 = _ := upd_same
  generalize L2.upd H24 D1 (.lst (w2.map V.int)) = H4' at k1 at1 ⊢
  refine ⟨D1, rfl, ⟨_, SqL.of at1⟩, fun E1 nE1 => ?_⟩
  refine lc_out walk_list (fun j H' => H' E1 = some (.lst ((wishF d (w2.take j)).map V.int)) ∧ (∀ b o, H4' b = some o → H' b = some o)) ⟨upd_same, newK nE1⟩ (fun j H' _ p => SqL.of (p.2 _ _ at1)) ?_ ?_
  · rintro j v H5 H6 hj ⟨hE, s5⟩ ⟨rfl, hv⟩
    rw [List.getElem?_map] at hv
    obtain ⟨c, hc, rfl⟩ := Option.map_eq_some_iff.mp hv
    refine ⟨rfl, ?_⟩
    refine ⟨_, rfl, _, rfl, c, d, rfl, d60, fun H7 s7 => ?_⟩
    have lj : j ≤ 4 := by
      rw [List.length_map] at hj
      omega
    refine ⟨_, _, rfl, _, s7 _ _ hE, by rw [List.length_map, wishF_len, List.length_take, sizeLine_eq]; omega, ?_, fun b o e => ?_⟩
    · rw [upd_same, wishF_snoc hc, List.map_append]
      rfl
    · rw [upd_ne (fun z => by rw [z, nE1] at e; cases e)]
      exact s7 _ _ (s5 _ _ e)
  rintro H5 ⟨hE, s5⟩
  rw [List.length_map, List.take_length] at hE
  have s45 : ∀ b o, H24 b = some o → H5 b = some o := fun b o e => s5 _ _ (k1 _ _ e)
  have DK := DY2.keep s45
  have nEo : E1 ∉ own Y d := (DY2.yY.keep k1).new nE1
  refine ⟨Y, d, osY2, _, lY2, E1, wishF d w2, rfl, DK.yY, DK.hY', DK.pY, by omega, d60, hE, nEo, by rw [wishF_len]; omega, wishF_ok d60, DK.tb, fun osY3 lY3 H26 y9 h9 p9 f9 o9 t9 fr9 => ?_⟩
  have DY3 := DK.step y9 h9 p9 o9 t9 fr9
  have atEY3 : H26 E2 = some (.lst (ms.map V.int)) := o9 _ _ (s45 _ _ atEY) (fun _ z => by cases z) fun z => nE2 ((sS _).mpr (.inl z))
  have fewY3 : osY3.length ≤ 180 := by omega
  clear y9 h9 p9 f9 o9 t9 fr9 nEo DK s45 hE s5 at1 k1 nE1 new1
  dsimp only
  rw [← ehz] at DY3
  -- both are alike
  obtain ⟨_, tsY, hatY, tupsY⟩ := DY3.heY
  obtain ⟨_, tsZ, hatZ, tupsZ⟩ := DY3.heZ
  refine ⟨_, rfl, _, rfl, _, _, dp_list hatY tupsY, dp_list hatZ tupsZ, dL_shaped _, dL_shaped _, _, rfl, iteFof ?_ ?_⟩
  · rw [dL_eqv, decide_eq_true rfl]
    rfl
  clear hatY hatZ tupsY tupsZ
  refine ⟨_, rfl, _, rfl, _, rfl, Y, Z, d, osY3, osZ3, rfl, DY3.yY, DY3.yZ, DY3.pY.symm.trans DY3.pZ, fun Ha sa => ⟨true, rfl, iteF ?_⟩⟩
  have Da := DY3.keep sa
  refine ⟨_, rfl, Z.y, Z.dy, _, rfl, Da.yZ.yo, yFs_no Z d (by decide +kernel) (by decide +kernel) (by decide +kernel), Z, d, _, rfl, Da.yZ, fun lo5 uo5 Hb sb nb atb tub => ?_⟩
  have Db := Da.keep sb
  obtain ⟨_, tsb, hatb, tupsb⟩ := Db.heZ
  refine ⟨_, rfl, _, tsb, _, rfl, SqL.of hatb, tupsb, fun pc uc nc tc => ?_⟩
  have kc := newK (o := .lst (uc.map V.ref)) nc
  refine ⟨_, _, dp_list (kc _ _ atb) (tub.keep fun t xs e => kc _ _ e), dp_list upd_same tc, dL_shaped _, dL_shaped _, _, rfl, iteFof ?_ ?_⟩
  · rw [dL_eqv, decide_eq_true (show outZ osZ3 = srt (hz.map toI) from srt_eq (DY3.pZ.symm.map toI))]
    rfl
  generalize L2.upd Hb pc (.lst (uc.map V.ref)) = Hc at kc
  have Dc := Db.keep kc
  have atEc : Hc E2 = some (.lst (ms.map V.int)) := kc _ _ (sb _ _ (sa _ _ atEY3))
  dsimp only
  -- owners in both
  have fz := DY3.pZ.length_eq
  have fy := DY3.pY.length_eq
  obtain ⟨_, tsZ, hatZ, tupsZ⟩ := Dc.heZ
  refine ⟨_, rfl, _, rfl, _, rfl, _, rfl, Z, d, _, _, _, E2, tsZ, ms, rfl, Dc.yZ, hatZ, tupsZ, Dc.pZ, by omega, atEc, by omega, fun Hd sd => ⟨true, rfl, iteF ?_⟩⟩
  have Dd := Dc.keep sd
  obtain ⟨_, tsY, hatY, tupsY⟩ := Dd.heY
  refine ⟨_, rfl, _, rfl, _, rfl, _, rfl, Y, d, _, _, _, E2, tsY, ms, rfl, Dd.yY, hatY, tupsY, Dd.pY, by omega, sd _ _ atEc, by omega, fun He se => ⟨true, rfl, iteF ?_⟩⟩
  have De := Dd.keep se
  dsimp only
  -- the texts
  refine ⟨_, rfl, Y, d, osY3, rfl, De.yY, d60, by omega, fun sA Hf sf ntA => ?_⟩
  have Df := De.keep sf
  refine ⟨_, rfl, Z, d, osZ3, rfl, Df.yZ, d60, by omega, fun sB Hg sg ntB => ?_⟩
  have Dg := Df.keep sg
  have eAB : sB = sA := ntB.uniq ntA (DY3.pZ.symm.trans DY3.pY)
  subst eAB
  refine ⟨rfl, true, congrArg V.bl (decide_eq_true rfl), iteT ?_⟩
  obtain ⟨_, tsg, hatg, tupsg⟩ := Dg.heY
  refine ⟨_, rfl, _, tsg, _, rfl, SqL.of hatg, tupsg, fun pD uD nD tD => ?_⟩
  obtain ⟨A2, eA2, pA2⟩ := perm_pre (srt_perm (hz.map toI)) hz rfl
  obtain ⟨B2, eB2, pB2⟩ := frees_pn osY3 d
  have kD := newK (o := .lst (uD.map V.ref)) nD
  have atD : L2.upd Hg pD (.lst (uD.map V.ref)) pD = _ := upd_same
  generalize L2.upd Hg pD (.lst (uD.map V.ref)) = Hh at kD atD tD ⊢
  have Dh := Dg.keep kD
  refine ⟨_, rfl, Y.y, Y.dy, _, rfl, Dh.yY.yo, yFs_no Y d (by decide +kernel) (by decide +kernel) (by decide +kernel), Y, d, osY3, rfl, Dh.yY, fun lF uF Hi si ni ati tui => ?_⟩
  rw [eA2] at tD
  rw [eB2] at tui
  refine ⟨pD, lF, uD, uF, A2, B2, d, rfl, si _ _ atD, tD.keep fun t xs e => si _ _ e, ati, tui, (good_all Dh.yY.good).perm ((pA2.trans DY3.pY).append pB2), d60, by rw [pA2.length_eq]; omega, by rw [pB2.length_eq]; exact freeP_len d60 (by omega), fun sC Hj sj ntC => ?_⟩
  have eC : sC = sB := ntC.uniq ntA (pA2.trans DY3.pY) pB2
  subst eC
  refine ⟨rfl, ?_⟩
  rw [decide_eq_true rfl]
  exact q _
end
end X
open X
theorem all_mk {l : PySem.W.OpenLaw} {w : World} {K : PySem.W.Frag} {h : Heap} {mg : Str → Option Value} {fa : Addr} (X : K.In h) (G : h.Ns mainGlobals mg) (hfa : mg "law" = some (.ref fa))
    {c_YardError : Addr}
    {c_NoYard : Addr}
    {c_NoWish : Addr}
    {c_NoRoom : Addr}
    {c_NotOut : Addr}
    {c_NoNote : Addr}
    {c_Pool : Addr}
    {c_Yard : Addr}
    {f_is_size : Addr} {od_is_size an_is_size : Option Addr} {sl_is_size : Array (Option Value)} {oc_is_size kV_is_size dc_is_size pm_is_size cd_is_size ct_is_size : Value}
    {f_size_for : Addr} {od_size_for an_size_for : Option Addr} {sl_size_for : Array (Option Value)} {oc_size_for kV_size_for dc_size_for pm_size_for cd_size_for ct_size_for : Value}
    {f_twin_of : Addr} {od_twin_of an_twin_of : Option Addr} {sl_twin_of : Array (Option Value)} {oc_twin_of kV_twin_of dc_twin_of pm_twin_of cd_twin_of ct_twin_of : Value}
    {f_rank : Addr} {od_rank an_rank : Option Addr} {sl_rank : Array (Option Value)} {oc_rank kV_rank dc_rank pm_rank cd_rank ct_rank : Value}
    {f_Pool_init : Addr} {od_Pool_init an_Pool_init : Option Addr} {sl_Pool_init : Array (Option Value)} {oc_Pool_init kV_Pool_init dc_Pool_init pm_Pool_init cd_Pool_init ct_Pool_init : Value}
    {f_Pool_put : Addr} {od_Pool_put an_Pool_put : Option Addr} {sl_Pool_put : Array (Option Value)} {oc_Pool_put kV_Pool_put dc_Pool_put pm_Pool_put cd_Pool_put ct_Pool_put : Value}
    {f_Pool_drop : Addr} {od_Pool_drop an_Pool_drop : Option Addr} {sl_Pool_drop : Array (Option Value)} {oc_Pool_drop kV_Pool_drop dc_Pool_drop pm_Pool_drop cd_Pool_drop ct_Pool_drop : Value}
    {f_Pool_has : Addr} {od_Pool_has an_Pool_has : Option Addr} {sl_Pool_has : Array (Option Value)} {oc_Pool_has kV_Pool_has dc_Pool_has pm_Pool_has cd_Pool_has ct_Pool_has : Value}
    {f_Pool_best : Addr} {od_Pool_best an_Pool_best : Option Addr} {sl_Pool_best : Array (Option Value)} {oc_Pool_best kV_Pool_best dc_Pool_best pm_Pool_best cd_Pool_best ct_Pool_best : Value}
    {f_Pool_pieces : Addr} {od_Pool_pieces an_Pool_pieces : Option Addr} {sl_Pool_pieces : Array (Option Value)} {oc_Pool_pieces kV_Pool_pieces dc_Pool_pieces pm_Pool_pieces cd_Pool_pieces ct_Pool_pieces : Value}
    {f_upper_halves : Addr} {od_upper_halves an_upper_halves : Option Addr} {sl_upper_halves : Array (Option Value)} {oc_upper_halves kV_upper_halves dc_upper_halves pm_upper_halves cd_upper_halves ct_upper_halves : Value}
    {f_Yard_init : Addr} {od_Yard_init an_Yard_init : Option Addr} {sl_Yard_init : Array (Option Value)} {oc_Yard_init kV_Yard_init dc_Yard_init pm_Yard_init cd_Yard_init ct_Yard_init : Value}
    {f_Yard_give : Addr} {od_Yard_give an_Yard_give : Option Addr} {sl_Yard_give : Array (Option Value)} {oc_Yard_give kV_Yard_give dc_Yard_give pm_Yard_give cd_Yard_give ct_Yard_give : Value}
    {f_Yard_take_back : Addr} {od_Yard_take_back an_Yard_take_back : Option Addr} {sl_Yard_take_back : Array (Option Value)} {oc_Yard_take_back kV_Yard_take_back dc_Yard_take_back pm_Yard_take_back cd_Yard_take_back ct_Yard_take_back : Value}
    {f_Yard_resize : Addr} {od_Yard_resize an_Yard_resize : Option Addr} {sl_Yard_resize : Array (Option Value)} {oc_Yard_resize kV_Yard_resize dc_Yard_resize pm_Yard_resize cd_Yard_resize ct_Yard_resize : Value}
    {f_Yard_free : Addr} {od_Yard_free an_Yard_free : Option Addr} {sl_Yard_free : Array (Option Value)} {oc_Yard_free kV_Yard_free dc_Yard_free pm_Yard_free cd_Yard_free ct_Yard_free : Value}
    {f_Yard_out : Addr} {od_Yard_out an_Yard_out : Option Addr} {sl_Yard_out : Array (Option Value)} {oc_Yard_out kV_Yard_out dc_Yard_out pm_Yard_out cd_Yard_out ct_Yard_out : Value}
    {f_Yard_owner : Addr} {od_Yard_owner an_Yard_owner : Option Addr} {sl_Yard_owner : Array (Option Value)} {oc_Yard_owner kV_Yard_owner dc_Yard_owner pm_Yard_owner cd_Yard_owner ct_Yard_owner : Value}
    {f_Yard_fitting : Addr} {od_Yard_fitting an_Yard_fitting : Option Addr} {sl_Yard_fitting : Array (Option Value)} {oc_Yard_fitting kV_Yard_fitting dc_Yard_fitting pm_Yard_fitting cd_Yard_fitting ct_Yard_fitting : Value}
    {f_Yard_size_of : Addr} {od_Yard_size_of an_Yard_size_of : Option Addr} {sl_Yard_size_of : Array (Option Value)} {oc_Yard_size_of kV_Yard_size_of dc_Yard_size_of pm_Yard_size_of cd_Yard_size_of ct_Yard_size_of : Value}
    {f_Yard_cut : Addr} {od_Yard_cut an_Yard_cut : Option Addr} {sl_Yard_cut : Array (Option Value)} {oc_Yard_cut kV_Yard_cut dc_Yard_cut pm_Yard_cut cd_Yard_cut ct_Yard_cut : Value}
    {f_Yard_grow : Addr} {od_Yard_grow an_Yard_grow : Option Addr} {sl_Yard_grow : Array (Option Value)} {oc_Yard_grow kV_Yard_grow dc_Yard_grow pm_Yard_grow cd_Yard_grow ct_Yard_grow : Value}
    {f_Yard_join : Addr} {od_Yard_join an_Yard_join : Option Addr} {sl_Yard_join : Array (Option Value)} {oc_Yard_join kV_Yard_join dc_Yard_join pm_Yard_join cd_Yard_join ct_Yard_join : Value}
    {f_shown : Addr} {od_shown an_shown : Option Addr} {sl_shown : Array (Option Value)} {oc_shown kV_shown dc_shown pm_shown cd_shown ct_shown : Value}
    {f_read : Addr} {od_read an_read : Option Addr} {sl_read : Array (Option Value)} {oc_read kV_read dc_read pm_read cd_read ct_read : Value}
    {f_read_row : Addr} {od_read_row an_read_row : Option Addr} {sl_read_row : Array (Option Value)} {oc_read_row kV_read_row dc_read_row pm_read_row cd_read_row ct_read_row : Value}
    {f_read_number : Addr} {od_read_number an_read_number : Option Addr} {sl_read_number : Array (Option Value)} {oc_read_number kV_read_number dc_read_number pm_read_number cd_read_number ct_read_number : Value}
    {f_count_cells : Addr} {od_count_cells an_count_cells : Option Addr} {sl_count_cells : Array (Option Value)} {oc_count_cells kV_count_cells dc_count_cells pm_count_cells cd_count_cells ct_count_cells : Value}
    {f_refuse_free_twins : Addr} {od_refuse_free_twins an_refuse_free_twins : Option Addr} {sl_refuse_free_twins : Array (Option Value)} {oc_refuse_free_twins kV_refuse_free_twins dc_refuse_free_twins pm_refuse_free_twins cd_refuse_free_twins ct_refuse_free_twins : Value}
    {f_yard_of : Addr} {od_yard_of an_yard_of : Option Addr} {sl_yard_of : Array (Option Value)} {oc_yard_of kV_yard_of dc_yard_of pm_yard_of cd_yard_of ct_yard_of : Value}
    {f_fitting_sizes : Addr} {od_fitting_sizes an_fitting_sizes : Option Addr} {sl_fitting_sizes : Array (Option Value)} {oc_fitting_sizes kV_fitting_sizes dc_fitting_sizes pm_fitting_sizes cd_fitting_sizes ct_fitting_sizes : Value}
    {f_give_all q_give_all p_give_all : Addr} {od_give_all an_give_all dq_give_all : Option Addr} {sl_give_all sq_give_all : Array (Option Value)} {vq_give_all : Array Value} {oc_give_all kV_give_all dc_give_all pm_give_all ct_give_all oq_give_all : Value}
    {f_law_cell_at : Addr} {od_law_cell_at an_law_cell_at : Option Addr} {sl_law_cell_at : Array (Option Value)} {oc_law_cell_at kV_law_cell_at dc_law_cell_at pm_law_cell_at cd_law_cell_at ct_law_cell_at : Value}
    {f_law_doubled : Addr} {od_law_doubled an_law_doubled : Option Addr} {sl_law_doubled : Array (Option Value)} {oc_law_doubled kV_law_doubled dc_law_doubled pm_law_doubled cd_law_doubled ct_law_doubled : Value}
    {f_law_fitting : Addr} {od_law_fitting an_law_fitting : Option Addr} {sl_law_fitting : Array (Option Value)} {oc_law_fitting kV_law_fitting dc_law_fitting pm_law_fitting cd_law_fitting ct_law_fitting : Value}
    {f_law_yard_size : Addr} {od_law_yard_size an_law_yard_size : Option Addr} {sl_law_yard_size : Array (Option Value)} {oc_law_yard_size kV_law_yard_size dc_law_yard_size pm_law_yard_size cd_law_yard_size ct_law_yard_size : Value}
    {f_law_room : Addr} {od_law_room an_law_room : Option Addr} {sl_law_room : Array (Option Value)} {oc_law_room kV_law_room dc_law_room pm_law_room cd_law_room ct_law_room : Value}
    {f_law_want : Addr} {od_law_want an_law_want : Option Addr} {sl_law_want : Array (Option Value)} {oc_law_want kV_law_want dc_law_want pm_law_want cd_law_want ct_law_want : Value}
    {f_law_begun : Addr} {od_law_begun an_law_begun : Option Addr} {sl_law_begun : Array (Option Value)} {oc_law_begun kV_law_begun dc_law_begun pm_law_begun cd_law_begun ct_law_begun : Value}
    {f_law_done : Addr} {od_law_done an_law_done : Option Addr} {sl_law_done : Array (Option Value)} {oc_law_done kV_law_done dc_law_done pm_law_done cd_law_done ct_law_done : Value}
    {f_law_text : Addr} {od_law_text an_law_text : Option Addr} {sl_law_text : Array (Option Value)} {oc_law_text kV_law_text dc_law_text pm_law_text cd_law_text ct_law_text : Value}
    {f_law_owner : Addr} {od_law_owner an_law_owner : Option Addr} {sl_law_owner : Array (Option Value)} {oc_law_owner kV_law_owner dc_law_owner pm_law_owner cd_law_owner ct_law_owner : Value}
    {f_law_refused_so : Addr} {od_law_refused_so an_law_refused_so : Option Addr} {sl_law_refused_so : Array (Option Value)} {oc_law_refused_so kV_law_refused_so dc_law_refused_so pm_law_refused_so cd_law_refused_so ct_law_refused_so : Value}
    {f_law_owners : Addr} {od_law_owners an_law_owners : Option Addr} {sl_law_owners : Array (Option Value)} {oc_law_owners kV_law_owners dc_law_owners pm_law_owners cd_law_owners ct_law_owners : Value}
    {f_law_many : Addr} {od_law_many an_law_many : Option Addr} {sl_law_many : Array (Option Value)} {oc_law_many kV_law_many dc_law_many pm_law_many cd_law_many ct_law_many : Value}
    {f_law_alike : Addr} {od_law_alike an_law_alike : Option Addr} {sl_law_alike : Array (Option Value)} {oc_law_alike kV_law_alike dc_law_alike pm_law_alike cd_law_alike ct_law_alike : Value}
    {f_law : Addr} {od_law an_law : Option Addr} {sl_law : Array (Option Value)} {oc_law kV_law dc_law pm_law cd_law ct_law : Value}
    {t_MOST : Nat}
    {t_OUT : Nat}
    {t_FREE : Nat}
    (g_YardError : PySem.W.nsIn K mainGlobals "YardError" = some (some (.ref c_YardError)))
    (g_NoYard : PySem.W.nsIn K mainGlobals "NoYard" = some (some (.ref c_NoYard)))
    (g_NoWish : PySem.W.nsIn K mainGlobals "NoWish" = some (some (.ref c_NoWish)))
    (g_NoRoom : PySem.W.nsIn K mainGlobals "NoRoom" = some (some (.ref c_NoRoom)))
    (g_NotOut : PySem.W.nsIn K mainGlobals "NotOut" = some (some (.ref c_NotOut)))
    (g_NoNote : PySem.W.nsIn K mainGlobals "NoNote" = some (some (.ref c_NoNote)))
    (g_Pool : PySem.W.nsIn K mainGlobals "Pool" = some (some (.ref c_Pool)))
    (g_Yard : PySem.W.nsIn K mainGlobals "Yard" = some (some (.ref c_Yard)))
    (a_is_size : PySem.W.nsIn K mainGlobals "is_size" = some (some (.ref f_is_size)))
    (l_is_size : K.lookup f_is_size = some ⟨oc_is_size, od_is_size, .func (PySem.W.fnOf "is_size" "is_size" (defArgs s_is_size) (defBody s_is_size) (defScope s_is_size) .none kV_is_size dc_is_size pm_is_size an_is_size cd_is_size ct_is_size), sl_is_size⟩)
    (c_is_size : PySem.W.codeIn K cd_is_size "is_size" = true)
    (k_is_size : PySem.W.keepIn K (.ref f_is_size) = true)
    (a_size_for : PySem.W.nsIn K mainGlobals "size_for" = some (some (.ref f_size_for)))
    (l_size_for : K.lookup f_size_for = some ⟨oc_size_for, od_size_for, .func (PySem.W.fnOf "size_for" "size_for" (defArgs s_size_for) (defBody s_size_for) (defScope s_size_for) .none kV_size_for dc_size_for pm_size_for an_size_for cd_size_for ct_size_for), sl_size_for⟩)
    (c_size_for : PySem.W.codeIn K cd_size_for "size_for" = true)
    (k_size_for : PySem.W.keepIn K (.ref f_size_for) = true)
    (a_twin_of : PySem.W.nsIn K mainGlobals "twin_of" = some (some (.ref f_twin_of)))
    (l_twin_of : K.lookup f_twin_of = some ⟨oc_twin_of, od_twin_of, .func (PySem.W.fnOf "twin_of" "twin_of" (defArgs s_twin_of) (defBody s_twin_of) (defScope s_twin_of) .none kV_twin_of dc_twin_of pm_twin_of an_twin_of cd_twin_of ct_twin_of), sl_twin_of⟩)
    (c_twin_of : PySem.W.codeIn K cd_twin_of "twin_of" = true)
    (k_twin_of : PySem.W.keepIn K (.ref f_twin_of) = true)
    (a_rank : PySem.W.nsIn K mainGlobals "rank" = some (some (.ref f_rank)))
    (l_rank : K.lookup f_rank = some ⟨oc_rank, od_rank, .func (PySem.W.fnOf "rank" "rank" (defArgs s_rank) (defBody s_rank) (defScope s_rank) .none kV_rank dc_rank pm_rank an_rank cd_rank ct_rank), sl_rank⟩)
    (c_rank : PySem.W.codeIn K cd_rank "rank" = true)
    (k_rank : PySem.W.keepIn K (.ref f_rank) = true)
    (a_Pool_init : PySem.W.findIn K (.ref c_Pool) "__init__" = some (some (.ref f_Pool_init)))
    (i_Pool_init : PySem.W.isFn K (.ref f_Pool_init) = true)
    (l_Pool_init : K.lookup f_Pool_init = some ⟨oc_Pool_init, od_Pool_init, .func (PySem.W.fnOf "__init__" "Pool.__init__" (defArgs s_Pool_init) (defBody s_Pool_init) (defScope s_Pool_init) .none kV_Pool_init dc_Pool_init pm_Pool_init an_Pool_init cd_Pool_init ct_Pool_init), sl_Pool_init⟩)
    (c_Pool_init : PySem.W.codeIn K cd_Pool_init "Pool.__init__" = true)
    (k_Pool_init : PySem.W.keepIn K (.ref f_Pool_init) = true)
    (a_Pool_put : PySem.W.findIn K (.ref c_Pool) "put" = some (some (.ref f_Pool_put)))
    (i_Pool_put : PySem.W.isFn K (.ref f_Pool_put) = true)
    (l_Pool_put : K.lookup f_Pool_put = some ⟨oc_Pool_put, od_Pool_put, .func (PySem.W.fnOf "put" "Pool.put" (defArgs s_Pool_put) (defBody s_Pool_put) (defScope s_Pool_put) .none kV_Pool_put dc_Pool_put pm_Pool_put an_Pool_put cd_Pool_put ct_Pool_put), sl_Pool_put⟩)
    (c_Pool_put : PySem.W.codeIn K cd_Pool_put "Pool.put" = true)
    (k_Pool_put : PySem.W.keepIn K (.ref f_Pool_put) = true)
    (a_Pool_drop : PySem.W.findIn K (.ref c_Pool) "drop" = some (some (.ref f_Pool_drop)))
    (i_Pool_drop : PySem.W.isFn K (.ref f_Pool_drop) = true)
    (l_Pool_drop : K.lookup f_Pool_drop = some ⟨oc_Pool_drop, od_Pool_drop, .func (PySem.W.fnOf "drop" "Pool.drop" (defArgs s_Pool_drop) (defBody s_Pool_drop) (defScope s_Pool_drop) .none kV_Pool_drop dc_Pool_drop pm_Pool_drop an_Pool_drop cd_Pool_drop ct_Pool_drop), sl_Pool_drop⟩)
    (c_Pool_drop : PySem.W.codeIn K cd_Pool_drop "Pool.drop" = true)
    (k_Pool_drop : PySem.W.keepIn K (.ref f_Pool_drop) = true)
    (a_Pool_has : PySem.W.findIn K (.ref c_Pool) "has" = some (some (.ref f_Pool_has)))
    (i_Pool_has : PySem.W.isFn K (.ref f_Pool_has) = true)
    (l_Pool_has : K.lookup f_Pool_has = some ⟨oc_Pool_has, od_Pool_has, .func (PySem.W.fnOf "has" "Pool.has" (defArgs s_Pool_has) (defBody s_Pool_has) (defScope s_Pool_has) .none kV_Pool_has dc_Pool_has pm_Pool_has an_Pool_has cd_Pool_has ct_Pool_has), sl_Pool_has⟩)
    (c_Pool_has : PySem.W.codeIn K cd_Pool_has "Pool.has" = true)
    (k_Pool_has : PySem.W.keepIn K (.ref f_Pool_has) = true)
    (a_Pool_best : PySem.W.findIn K (.ref c_Pool) "best" = some (some (.ref f_Pool_best)))
    (i_Pool_best : PySem.W.isFn K (.ref f_Pool_best) = true)
    (l_Pool_best : K.lookup f_Pool_best = some ⟨oc_Pool_best, od_Pool_best, .func (PySem.W.fnOf "best" "Pool.best" (defArgs s_Pool_best) (defBody s_Pool_best) (defScope s_Pool_best) .none kV_Pool_best dc_Pool_best pm_Pool_best an_Pool_best cd_Pool_best ct_Pool_best), sl_Pool_best⟩)
    (c_Pool_best : PySem.W.codeIn K cd_Pool_best "Pool.best" = true)
    (k_Pool_best : PySem.W.keepIn K (.ref f_Pool_best) = true)
    (a_Pool_pieces : PySem.W.findIn K (.ref c_Pool) "pieces" = some (some (.ref f_Pool_pieces)))
    (i_Pool_pieces : PySem.W.isFn K (.ref f_Pool_pieces) = true)
    (l_Pool_pieces : K.lookup f_Pool_pieces = some ⟨oc_Pool_pieces, od_Pool_pieces, .func (PySem.W.fnOf "pieces" "Pool.pieces" (defArgs s_Pool_pieces) (defBody s_Pool_pieces) (defScope s_Pool_pieces) .none kV_Pool_pieces dc_Pool_pieces pm_Pool_pieces an_Pool_pieces cd_Pool_pieces ct_Pool_pieces), sl_Pool_pieces⟩)
    (c_Pool_pieces : PySem.W.codeIn K cd_Pool_pieces "Pool.pieces" = true)
    (k_Pool_pieces : PySem.W.keepIn K (.ref f_Pool_pieces) = true)
    (a_upper_halves : PySem.W.nsIn K mainGlobals "upper_halves" = some (some (.ref f_upper_halves)))
    (l_upper_halves : K.lookup f_upper_halves = some ⟨oc_upper_halves, od_upper_halves, .func (PySem.W.fnOf "upper_halves" "upper_halves" (defArgs s_upper_halves) (defBody s_upper_halves) (defScope s_upper_halves) .none kV_upper_halves dc_upper_halves pm_upper_halves an_upper_halves cd_upper_halves ct_upper_halves), sl_upper_halves⟩)
    (c_upper_halves : PySem.W.codeIn K cd_upper_halves "upper_halves" = true)
    (k_upper_halves : PySem.W.keepIn K (.ref f_upper_halves) = true)
    (a_Yard_init : PySem.W.findIn K (.ref c_Yard) "__init__" = some (some (.ref f_Yard_init)))
    (i_Yard_init : PySem.W.isFn K (.ref f_Yard_init) = true)
    (l_Yard_init : K.lookup f_Yard_init = some ⟨oc_Yard_init, od_Yard_init, .func (PySem.W.fnOf "__init__" "Yard.__init__" (defArgs s_Yard_init) (defBody s_Yard_init) (defScope s_Yard_init) .none kV_Yard_init dc_Yard_init pm_Yard_init an_Yard_init cd_Yard_init ct_Yard_init), sl_Yard_init⟩)
    (c_Yard_init : PySem.W.codeIn K cd_Yard_init "Yard.__init__" = true)
    (k_Yard_init : PySem.W.keepIn K (.ref f_Yard_init) = true)
    (a_Yard_give : PySem.W.findIn K (.ref c_Yard) "give" = some (some (.ref f_Yard_give)))
    (i_Yard_give : PySem.W.isFn K (.ref f_Yard_give) = true)
    (l_Yard_give : K.lookup f_Yard_give = some ⟨oc_Yard_give, od_Yard_give, .func (PySem.W.fnOf "give" "Yard.give" (defArgs s_Yard_give) (defBody s_Yard_give) (defScope s_Yard_give) .none kV_Yard_give dc_Yard_give pm_Yard_give an_Yard_give cd_Yard_give ct_Yard_give), sl_Yard_give⟩)
    (c_Yard_give : PySem.W.codeIn K cd_Yard_give "Yard.give" = true)
    (k_Yard_give : PySem.W.keepIn K (.ref f_Yard_give) = true)
    (a_Yard_take_back : PySem.W.findIn K (.ref c_Yard) "take_back" = some (some (.ref f_Yard_take_back)))
    (i_Yard_take_back : PySem.W.isFn K (.ref f_Yard_take_back) = true)
    (l_Yard_take_back : K.lookup f_Yard_take_back = some ⟨oc_Yard_take_back, od_Yard_take_back, .func (PySem.W.fnOf "take_back" "Yard.take_back" (defArgs s_Yard_take_back) (defBody s_Yard_take_back) (defScope s_Yard_take_back) .none kV_Yard_take_back dc_Yard_take_back pm_Yard_take_back an_Yard_take_back cd_Yard_take_back ct_Yard_take_back), sl_Yard_take_back⟩)
    (c_Yard_take_back : PySem.W.codeIn K cd_Yard_take_back "Yard.take_back" = true)
    (k_Yard_take_back : PySem.W.keepIn K (.ref f_Yard_take_back) = true)
    (a_Yard_resize : PySem.W.findIn K (.ref c_Yard) "resize" = some (some (.ref f_Yard_resize)))
    (i_Yard_resize : PySem.W.isFn K (.ref f_Yard_resize) = true)
    (l_Yard_resize : K.lookup f_Yard_resize = some ⟨oc_Yard_resize, od_Yard_resize, .func (PySem.W.fnOf "resize" "Yard.resize" (defArgs s_Yard_resize) (defBody s_Yard_resize) (defScope s_Yard_resize) .none kV_Yard_resize dc_Yard_resize pm_Yard_resize an_Yard_resize cd_Yard_resize ct_Yard_resize), sl_Yard_resize⟩)
    (c_Yard_resize : PySem.W.codeIn K cd_Yard_resize "Yard.resize" = true)
    (k_Yard_resize : PySem.W.keepIn K (.ref f_Yard_resize) = true)
    (a_Yard_free : PySem.W.findIn K (.ref c_Yard) "free" = some (some (.ref f_Yard_free)))
    (i_Yard_free : PySem.W.isFn K (.ref f_Yard_free) = true)
    (l_Yard_free : K.lookup f_Yard_free = some ⟨oc_Yard_free, od_Yard_free, .func (PySem.W.fnOf "free" "Yard.free" (defArgs s_Yard_free) (defBody s_Yard_free) (defScope s_Yard_free) .none kV_Yard_free dc_Yard_free pm_Yard_free an_Yard_free cd_Yard_free ct_Yard_free), sl_Yard_free⟩)
    (c_Yard_free : PySem.W.codeIn K cd_Yard_free "Yard.free" = true)
    (k_Yard_free : PySem.W.keepIn K (.ref f_Yard_free) = true)
    (a_Yard_out : PySem.W.findIn K (.ref c_Yard) "out" = some (some (.ref f_Yard_out)))
    (i_Yard_out : PySem.W.isFn K (.ref f_Yard_out) = true)
    (l_Yard_out : K.lookup f_Yard_out = some ⟨oc_Yard_out, od_Yard_out, .func (PySem.W.fnOf "out" "Yard.out" (defArgs s_Yard_out) (defBody s_Yard_out) (defScope s_Yard_out) .none kV_Yard_out dc_Yard_out pm_Yard_out an_Yard_out cd_Yard_out ct_Yard_out), sl_Yard_out⟩)
    (c_Yard_out : PySem.W.codeIn K cd_Yard_out "Yard.out" = true)
    (k_Yard_out : PySem.W.keepIn K (.ref f_Yard_out) = true)
    (a_Yard_owner : PySem.W.findIn K (.ref c_Yard) "owner" = some (some (.ref f_Yard_owner)))
    (i_Yard_owner : PySem.W.isFn K (.ref f_Yard_owner) = true)
    (l_Yard_owner : K.lookup f_Yard_owner = some ⟨oc_Yard_owner, od_Yard_owner, .func (PySem.W.fnOf "owner" "Yard.owner" (defArgs s_Yard_owner) (defBody s_Yard_owner) (defScope s_Yard_owner) .none kV_Yard_owner dc_Yard_owner pm_Yard_owner an_Yard_owner cd_Yard_owner ct_Yard_owner), sl_Yard_owner⟩)
    (c_Yard_owner : PySem.W.codeIn K cd_Yard_owner "Yard.owner" = true)
    (k_Yard_owner : PySem.W.keepIn K (.ref f_Yard_owner) = true)
    (a_Yard_fitting : PySem.W.findIn K (.ref c_Yard) "_fitting" = some (some (.ref f_Yard_fitting)))
    (i_Yard_fitting : PySem.W.isFn K (.ref f_Yard_fitting) = true)
    (l_Yard_fitting : K.lookup f_Yard_fitting = some ⟨oc_Yard_fitting, od_Yard_fitting, .func (PySem.W.fnOf "_fitting" "Yard._fitting" (defArgs s_Yard_fitting) (defBody s_Yard_fitting) (defScope s_Yard_fitting) .none kV_Yard_fitting dc_Yard_fitting pm_Yard_fitting an_Yard_fitting cd_Yard_fitting ct_Yard_fitting), sl_Yard_fitting⟩)
    (c_Yard_fitting : PySem.W.codeIn K cd_Yard_fitting "Yard._fitting" = true)
    (k_Yard_fitting : PySem.W.keepIn K (.ref f_Yard_fitting) = true)
    (a_Yard_size_of : PySem.W.findIn K (.ref c_Yard) "_size_of" = some (some (.ref f_Yard_size_of)))
    (i_Yard_size_of : PySem.W.isFn K (.ref f_Yard_size_of) = true)
    (l_Yard_size_of : K.lookup f_Yard_size_of = some ⟨oc_Yard_size_of, od_Yard_size_of, .func (PySem.W.fnOf "_size_of" "Yard._size_of" (defArgs s_Yard_size_of) (defBody s_Yard_size_of) (defScope s_Yard_size_of) .none kV_Yard_size_of dc_Yard_size_of pm_Yard_size_of an_Yard_size_of cd_Yard_size_of ct_Yard_size_of), sl_Yard_size_of⟩)
    (c_Yard_size_of : PySem.W.codeIn K cd_Yard_size_of "Yard._size_of" = true)
    (k_Yard_size_of : PySem.W.keepIn K (.ref f_Yard_size_of) = true)
    (a_Yard_cut : PySem.W.findIn K (.ref c_Yard) "_cut" = some (some (.ref f_Yard_cut)))
    (i_Yard_cut : PySem.W.isFn K (.ref f_Yard_cut) = true)
    (l_Yard_cut : K.lookup f_Yard_cut = some ⟨oc_Yard_cut, od_Yard_cut, .func (PySem.W.fnOf "_cut" "Yard._cut" (defArgs s_Yard_cut) (defBody s_Yard_cut) (defScope s_Yard_cut) .none kV_Yard_cut dc_Yard_cut pm_Yard_cut an_Yard_cut cd_Yard_cut ct_Yard_cut), sl_Yard_cut⟩)
    (c_Yard_cut : PySem.W.codeIn K cd_Yard_cut "Yard._cut" = true)
    (k_Yard_cut : PySem.W.keepIn K (.ref f_Yard_cut) = true)
    (a_Yard_grow : PySem.W.findIn K (.ref c_Yard) "_grow" = some (some (.ref f_Yard_grow)))
    (i_Yard_grow : PySem.W.isFn K (.ref f_Yard_grow) = true)
    (l_Yard_grow : K.lookup f_Yard_grow = some ⟨oc_Yard_grow, od_Yard_grow, .func (PySem.W.fnOf "_grow" "Yard._grow" (defArgs s_Yard_grow) (defBody s_Yard_grow) (defScope s_Yard_grow) .none kV_Yard_grow dc_Yard_grow pm_Yard_grow an_Yard_grow cd_Yard_grow ct_Yard_grow), sl_Yard_grow⟩)
    (c_Yard_grow : PySem.W.codeIn K cd_Yard_grow "Yard._grow" = true)
    (k_Yard_grow : PySem.W.keepIn K (.ref f_Yard_grow) = true)
    (a_Yard_join : PySem.W.findIn K (.ref c_Yard) "_join" = some (some (.ref f_Yard_join)))
    (i_Yard_join : PySem.W.isFn K (.ref f_Yard_join) = true)
    (l_Yard_join : K.lookup f_Yard_join = some ⟨oc_Yard_join, od_Yard_join, .func (PySem.W.fnOf "_join" "Yard._join" (defArgs s_Yard_join) (defBody s_Yard_join) (defScope s_Yard_join) .none kV_Yard_join dc_Yard_join pm_Yard_join an_Yard_join cd_Yard_join ct_Yard_join), sl_Yard_join⟩)
    (c_Yard_join : PySem.W.codeIn K cd_Yard_join "Yard._join" = true)
    (k_Yard_join : PySem.W.keepIn K (.ref f_Yard_join) = true)
    (a_shown : PySem.W.nsIn K mainGlobals "shown" = some (some (.ref f_shown)))
    (l_shown : K.lookup f_shown = some ⟨oc_shown, od_shown, .func (PySem.W.fnOf "shown" "shown" (defArgs s_shown) (defBody s_shown) (defScope s_shown) .none kV_shown dc_shown pm_shown an_shown cd_shown ct_shown), sl_shown⟩)
    (c_shown : PySem.W.codeIn K cd_shown "shown" = true)
    (k_shown : PySem.W.keepIn K (.ref f_shown) = true)
    (a_read : PySem.W.nsIn K mainGlobals "read" = some (some (.ref f_read)))
    (l_read : K.lookup f_read = some ⟨oc_read, od_read, .func (PySem.W.fnOf "read" "read" (defArgs s_read) (defBody s_read) (defScope s_read) .none kV_read dc_read pm_read an_read cd_read ct_read), sl_read⟩)
    (c_read : PySem.W.codeIn K cd_read "read" = true)
    (k_read : PySem.W.keepIn K (.ref f_read) = true)
    (a_read_row : PySem.W.nsIn K mainGlobals "read_row" = some (some (.ref f_read_row)))
    (l_read_row : K.lookup f_read_row = some ⟨oc_read_row, od_read_row, .func (PySem.W.fnOf "read_row" "read_row" (defArgs s_read_row) (defBody s_read_row) (defScope s_read_row) .none kV_read_row dc_read_row pm_read_row an_read_row cd_read_row ct_read_row), sl_read_row⟩)
    (c_read_row : PySem.W.codeIn K cd_read_row "read_row" = true)
    (k_read_row : PySem.W.keepIn K (.ref f_read_row) = true)
    (a_read_number : PySem.W.nsIn K mainGlobals "read_number" = some (some (.ref f_read_number)))
    (l_read_number : K.lookup f_read_number = some ⟨oc_read_number, od_read_number, .func (PySem.W.fnOf "read_number" "read_number" (defArgs s_read_number) (defBody s_read_number) (defScope s_read_number) .none kV_read_number dc_read_number pm_read_number an_read_number cd_read_number ct_read_number), sl_read_number⟩)
    (c_read_number : PySem.W.codeIn K cd_read_number "read_number" = true)
    (k_read_number : PySem.W.keepIn K (.ref f_read_number) = true)
    (a_count_cells : PySem.W.nsIn K mainGlobals "count_cells" = some (some (.ref f_count_cells)))
    (l_count_cells : K.lookup f_count_cells = some ⟨oc_count_cells, od_count_cells, .func (PySem.W.fnOf "count_cells" "count_cells" (defArgs s_count_cells) (defBody s_count_cells) (defScope s_count_cells) .none kV_count_cells dc_count_cells pm_count_cells an_count_cells cd_count_cells ct_count_cells), sl_count_cells⟩)
    (c_count_cells : PySem.W.codeIn K cd_count_cells "count_cells" = true)
    (k_count_cells : PySem.W.keepIn K (.ref f_count_cells) = true)
    (a_refuse_free_twins : PySem.W.nsIn K mainGlobals "refuse_free_twins" = some (some (.ref f_refuse_free_twins)))
    (l_refuse_free_twins : K.lookup f_refuse_free_twins = some ⟨oc_refuse_free_twins, od_refuse_free_twins, .func (PySem.W.fnOf "refuse_free_twins" "refuse_free_twins" (defArgs s_refuse_free_twins) (defBody s_refuse_free_twins) (defScope s_refuse_free_twins) .none kV_refuse_free_twins dc_refuse_free_twins pm_refuse_free_twins an_refuse_free_twins cd_refuse_free_twins ct_refuse_free_twins), sl_refuse_free_twins⟩)
    (c_refuse_free_twins : PySem.W.codeIn K cd_refuse_free_twins "refuse_free_twins" = true)
    (k_refuse_free_twins : PySem.W.keepIn K (.ref f_refuse_free_twins) = true)
    (a_yard_of : PySem.W.nsIn K mainGlobals "yard_of" = some (some (.ref f_yard_of)))
    (l_yard_of : K.lookup f_yard_of = some ⟨oc_yard_of, od_yard_of, .func (PySem.W.fnOf "yard_of" "yard_of" (defArgs s_yard_of) (defBody s_yard_of) (defScope s_yard_of) .none kV_yard_of dc_yard_of pm_yard_of an_yard_of cd_yard_of ct_yard_of), sl_yard_of⟩)
    (c_yard_of : PySem.W.codeIn K cd_yard_of "yard_of" = true)
    (k_yard_of : PySem.W.keepIn K (.ref f_yard_of) = true)
    (a_fitting_sizes : PySem.W.nsIn K mainGlobals "fitting_sizes" = some (some (.ref f_fitting_sizes)))
    (l_fitting_sizes : K.lookup f_fitting_sizes = some ⟨oc_fitting_sizes, od_fitting_sizes, .func (PySem.W.fnOf "fitting_sizes" "fitting_sizes" (defArgs s_fitting_sizes) (defBody s_fitting_sizes) (defScope s_fitting_sizes) .none kV_fitting_sizes dc_fitting_sizes pm_fitting_sizes an_fitting_sizes cd_fitting_sizes ct_fitting_sizes), sl_fitting_sizes⟩)
    (c_fitting_sizes : PySem.W.codeIn K cd_fitting_sizes "fitting_sizes" = true)
    (k_fitting_sizes : PySem.W.keepIn K (.ref f_fitting_sizes) = true)
    (a_give_all : PySem.W.nsIn K mainGlobals "give_all" = some (some (.ref f_give_all)))
    (l_give_all : K.lookup f_give_all = some ⟨oc_give_all, od_give_all, .func (PySem.W.fnOf "give_all" "give_all" (defArgs s_give_all) (defBody s_give_all) (defScope s_give_all) .none kV_give_all dc_give_all pm_give_all an_give_all (.ref q_give_all) ct_give_all), sl_give_all⟩)
    (c_give_all : PySem.W.codeIn K (.ref q_give_all) "give_all" = true)
    (lq_give_all : K.lookup q_give_all = some ⟨oq_give_all, dq_give_all, .fields vq_give_all, sq_give_all⟩)
    (pq_give_all : (vq_give_all[11]? : Option Value) = some (.ref p_give_all))
    (nt_give_all : K.lookup p_give_all = none)
    (hd_give_all : PySem.W.codeHdIn K q_give_all p_give_all = true)
    (tp_give_all : h.get? p_give_all = some (PySem.W.tabObj #[]))
    (k_give_all : PySem.W.keepIn K (.ref f_give_all) = true)
    (a_law_cell_at : PySem.W.nsIn K mainGlobals "_law_cell_at" = some (some (.ref f_law_cell_at)))
    (l_law_cell_at : K.lookup f_law_cell_at = some ⟨oc_law_cell_at, od_law_cell_at, .func (PySem.W.fnOf "_law_cell_at" "_law_cell_at" (defArgs s_law_cell_at) (defBody s_law_cell_at) (defScope s_law_cell_at) .none kV_law_cell_at dc_law_cell_at pm_law_cell_at an_law_cell_at cd_law_cell_at ct_law_cell_at), sl_law_cell_at⟩)
    (c_law_cell_at : PySem.W.codeIn K cd_law_cell_at "_law_cell_at" = true)
    (k_law_cell_at : PySem.W.keepIn K (.ref f_law_cell_at) = true)
    (a_law_doubled : PySem.W.nsIn K mainGlobals "_law_doubled" = some (some (.ref f_law_doubled)))
    (l_law_doubled : K.lookup f_law_doubled = some ⟨oc_law_doubled, od_law_doubled, .func (PySem.W.fnOf "_law_doubled" "_law_doubled" (defArgs s_law_doubled) (defBody s_law_doubled) (defScope s_law_doubled) .none kV_law_doubled dc_law_doubled pm_law_doubled an_law_doubled cd_law_doubled ct_law_doubled), sl_law_doubled⟩)
    (c_law_doubled : PySem.W.codeIn K cd_law_doubled "_law_doubled" = true)
    (k_law_doubled : PySem.W.keepIn K (.ref f_law_doubled) = true)
    (a_law_fitting : PySem.W.nsIn K mainGlobals "_law_fitting" = some (some (.ref f_law_fitting)))
    (l_law_fitting : K.lookup f_law_fitting = some ⟨oc_law_fitting, od_law_fitting, .func (PySem.W.fnOf "_law_fitting" "_law_fitting" (defArgs s_law_fitting) (defBody s_law_fitting) (defScope s_law_fitting) .none kV_law_fitting dc_law_fitting pm_law_fitting an_law_fitting cd_law_fitting ct_law_fitting), sl_law_fitting⟩)
    (c_law_fitting : PySem.W.codeIn K cd_law_fitting "_law_fitting" = true)
    (k_law_fitting : PySem.W.keepIn K (.ref f_law_fitting) = true)
    (a_law_yard_size : PySem.W.nsIn K mainGlobals "_law_yard_size" = some (some (.ref f_law_yard_size)))
    (l_law_yard_size : K.lookup f_law_yard_size = some ⟨oc_law_yard_size, od_law_yard_size, .func (PySem.W.fnOf "_law_yard_size" "_law_yard_size" (defArgs s_law_yard_size) (defBody s_law_yard_size) (defScope s_law_yard_size) .none kV_law_yard_size dc_law_yard_size pm_law_yard_size an_law_yard_size cd_law_yard_size ct_law_yard_size), sl_law_yard_size⟩)
    (c_law_yard_size : PySem.W.codeIn K cd_law_yard_size "_law_yard_size" = true)
    (k_law_yard_size : PySem.W.keepIn K (.ref f_law_yard_size) = true)
    (a_law_room : PySem.W.nsIn K mainGlobals "_law_room" = some (some (.ref f_law_room)))
    (l_law_room : K.lookup f_law_room = some ⟨oc_law_room, od_law_room, .func (PySem.W.fnOf "_law_room" "_law_room" (defArgs s_law_room) (defBody s_law_room) (defScope s_law_room) .none kV_law_room dc_law_room pm_law_room an_law_room cd_law_room ct_law_room), sl_law_room⟩)
    (c_law_room : PySem.W.codeIn K cd_law_room "_law_room" = true)
    (k_law_room : PySem.W.keepIn K (.ref f_law_room) = true)
    (a_law_want : PySem.W.nsIn K mainGlobals "_law_want" = some (some (.ref f_law_want)))
    (l_law_want : K.lookup f_law_want = some ⟨oc_law_want, od_law_want, .func (PySem.W.fnOf "_law_want" "_law_want" (defArgs s_law_want) (defBody s_law_want) (defScope s_law_want) .none kV_law_want dc_law_want pm_law_want an_law_want cd_law_want ct_law_want), sl_law_want⟩)
    (c_law_want : PySem.W.codeIn K cd_law_want "_law_want" = true)
    (k_law_want : PySem.W.keepIn K (.ref f_law_want) = true)
    (a_law_begun : PySem.W.nsIn K mainGlobals "_law_begun" = some (some (.ref f_law_begun)))
    (l_law_begun : K.lookup f_law_begun = some ⟨oc_law_begun, od_law_begun, .func (PySem.W.fnOf "_law_begun" "_law_begun" (defArgs s_law_begun) (defBody s_law_begun) (defScope s_law_begun) .none kV_law_begun dc_law_begun pm_law_begun an_law_begun cd_law_begun ct_law_begun), sl_law_begun⟩)
    (c_law_begun : PySem.W.codeIn K cd_law_begun "_law_begun" = true)
    (k_law_begun : PySem.W.keepIn K (.ref f_law_begun) = true)
    (a_law_done : PySem.W.nsIn K mainGlobals "_law_done" = some (some (.ref f_law_done)))
    (l_law_done : K.lookup f_law_done = some ⟨oc_law_done, od_law_done, .func (PySem.W.fnOf "_law_done" "_law_done" (defArgs s_law_done) (defBody s_law_done) (defScope s_law_done) .none kV_law_done dc_law_done pm_law_done an_law_done cd_law_done ct_law_done), sl_law_done⟩)
    (c_law_done : PySem.W.codeIn K cd_law_done "_law_done" = true)
    (k_law_done : PySem.W.keepIn K (.ref f_law_done) = true)
    (a_law_text : PySem.W.nsIn K mainGlobals "_law_text" = some (some (.ref f_law_text)))
    (l_law_text : K.lookup f_law_text = some ⟨oc_law_text, od_law_text, .func (PySem.W.fnOf "_law_text" "_law_text" (defArgs s_law_text) (defBody s_law_text) (defScope s_law_text) .none kV_law_text dc_law_text pm_law_text an_law_text cd_law_text ct_law_text), sl_law_text⟩)
    (c_law_text : PySem.W.codeIn K cd_law_text "_law_text" = true)
    (k_law_text : PySem.W.keepIn K (.ref f_law_text) = true)
    (a_law_owner : PySem.W.nsIn K mainGlobals "_law_owner" = some (some (.ref f_law_owner)))
    (l_law_owner : K.lookup f_law_owner = some ⟨oc_law_owner, od_law_owner, .func (PySem.W.fnOf "_law_owner" "_law_owner" (defArgs s_law_owner) (defBody s_law_owner) (defScope s_law_owner) .none kV_law_owner dc_law_owner pm_law_owner an_law_owner cd_law_owner ct_law_owner), sl_law_owner⟩)
    (c_law_owner : PySem.W.codeIn K cd_law_owner "_law_owner" = true)
    (k_law_owner : PySem.W.keepIn K (.ref f_law_owner) = true)
    (a_law_refused_so : PySem.W.nsIn K mainGlobals "_law_refused_so" = some (some (.ref f_law_refused_so)))
    (l_law_refused_so : K.lookup f_law_refused_so = some ⟨oc_law_refused_so, od_law_refused_so, .func (PySem.W.fnOf "_law_refused_so" "_law_refused_so" (defArgs s_law_refused_so) (defBody s_law_refused_so) (defScope s_law_refused_so) .none kV_law_refused_so dc_law_refused_so pm_law_refused_so an_law_refused_so cd_law_refused_so ct_law_refused_so), sl_law_refused_so⟩)
    (c_law_refused_so : PySem.W.codeIn K cd_law_refused_so "_law_refused_so" = true)
    (k_law_refused_so : PySem.W.keepIn K (.ref f_law_refused_so) = true)
    (a_law_owners : PySem.W.nsIn K mainGlobals "_law_owners" = some (some (.ref f_law_owners)))
    (l_law_owners : K.lookup f_law_owners = some ⟨oc_law_owners, od_law_owners, .func (PySem.W.fnOf "_law_owners" "_law_owners" (defArgs s_law_owners) (defBody s_law_owners) (defScope s_law_owners) .none kV_law_owners dc_law_owners pm_law_owners an_law_owners cd_law_owners ct_law_owners), sl_law_owners⟩)
    (c_law_owners : PySem.W.codeIn K cd_law_owners "_law_owners" = true)
    (k_law_owners : PySem.W.keepIn K (.ref f_law_owners) = true)
    (a_law_many : PySem.W.nsIn K mainGlobals "_law_many" = some (some (.ref f_law_many)))
    (l_law_many : K.lookup f_law_many = some ⟨oc_law_many, od_law_many, .func (PySem.W.fnOf "_law_many" "_law_many" (defArgs s_law_many) (defBody s_law_many) (defScope s_law_many) .none kV_law_many dc_law_many pm_law_many an_law_many cd_law_many ct_law_many), sl_law_many⟩)
    (c_law_many : PySem.W.codeIn K cd_law_many "_law_many" = true)
    (k_law_many : PySem.W.keepIn K (.ref f_law_many) = true)
    (a_law_alike : PySem.W.nsIn K mainGlobals "_law_alike" = some (some (.ref f_law_alike)))
    (l_law_alike : K.lookup f_law_alike = some ⟨oc_law_alike, od_law_alike, .func (PySem.W.fnOf "_law_alike" "_law_alike" (defArgs s_law_alike) (defBody s_law_alike) (defScope s_law_alike) .none kV_law_alike dc_law_alike pm_law_alike an_law_alike cd_law_alike ct_law_alike), sl_law_alike⟩)
    (c_law_alike : PySem.W.codeIn K cd_law_alike "_law_alike" = true)
    (k_law_alike : PySem.W.keepIn K (.ref f_law_alike) = true)
    (a_law : PySem.W.nsIn K mainGlobals "law" = some (some (.ref f_law)))
    (l_law : K.lookup f_law = some ⟨oc_law, od_law, .func (PySem.W.fnOf "law" "law" (defArgs s_law) (defBody s_law) (defScope s_law) .none kV_law dc_law pm_law an_law cd_law ct_law), sl_law⟩)
    (c_law : PySem.W.codeIn K cd_law "law" = true)
    (k_law : PySem.W.keepIn K (.ref f_law) = true)
    (pg_Pool : PySem.W.plainGet K c_Pool Str.empty = true)
    (hd_Pool : PySem.W.hasDictIn K c_Pool = true)
    (po_Pool : PySem.W.plainOver K c_Pool = true)
    (sa_Pool : PySem.W.findIn K (.ref c_Pool) "__setattr__" = some (some (.builtin "object.__setattr__")))
    (mk_Pool : PySem.W.makesIn K c_Pool = true)
    (kc_Pool : PySem.W.keepIn K (.ref c_Pool) = true)
    (n_Pool__places : PySem.W.findIn K (.ref c_Pool) "_places" = some none)
    (pg_Yard : PySem.W.plainGet K c_Yard Str.empty = true)
    (xa_Yard : PySem.W.findIn K (.ref c_Yard) "__class__" = some (some (.builtin "object.__class__")))
    (xm_Yard : PySem.W.mroIn K c_Yard (.type "object") = some true)
    (hd_Yard : PySem.W.hasDictIn K c_Yard = true)
    (po_Yard : PySem.W.plainOver K c_Yard = true)
    (sa_Yard : PySem.W.findIn K (.ref c_Yard) "__setattr__" = some (some (.builtin "object.__setattr__")))
    (mk_Yard : PySem.W.makesIn K c_Yard = true)
    (kc_Yard : PySem.W.keepIn K (.ref c_Yard) = true)
    (n_Yard_cells : PySem.W.findIn K (.ref c_Yard) "cells" = some none)
    (n_Yard__sizes : PySem.W.findIn K (.ref c_Yard) "_sizes" = some none)
    (n_Yard__pool : PySem.W.findIn K (.ref c_Yard) "_pool" = some none)
    (sp1 : PySem.W.specialIn K (.builtin "object.__class__") "__get__" = some (some (.builtin "getset_descriptor.__get__")))
    (sp2 : PySem.W.takesIn K (.builtin "object.__class__") = some true)
    (xx_YardError : PySem.W.excIn K c_YardError [.type "ValueError", .type "Exception", .type "BaseException", .type "object"] "ValueError.__new__" = true)
    (xk_YardError : PySem.W.keepIn K (.ref c_YardError) = true)
    (xt_YardError : PySem.W.typeIn K (.ref c_YardError) = some (.type "type"))
    (xc_YardError : PySem.W.isClsIn K c_YardError = true)
    (xg_YardError : PySem.W.findIn K (.ref c_YardError) "__getattribute__" = some (some (.builtin "BaseException.__getattribute__")))
    (xh_YardError : PySem.W.findIn K (.ref c_YardError) "__getattr__" = some none)
    (xs_YardError : PySem.W.subIn K (.ref c_YardError) (.type "BaseException") = some true)
    (xd_YardError : PySem.W.hasDictIn K c_YardError = true)
    (xa_YardError : PySem.W.findIn K (.ref c_YardError) "__class__" = some (some (.builtin "object.__class__")))
    (xm_YardError : PySem.W.mroIn K c_YardError (.type "object") = some true)
    (xv_YardError : PySem.W.subIn K (.ref c_YardError) (.type "ValueError") = some true)
    (xx_NoYard : PySem.W.excIn K c_NoYard [.type "ValueError", .type "Exception", .type "BaseException", .type "object"] "ValueError.__new__" = true)
    (xk_NoYard : PySem.W.keepIn K (.ref c_NoYard) = true)
    (xt_NoYard : PySem.W.typeIn K (.ref c_NoYard) = some (.type "type"))
    (xc_NoYard : PySem.W.isClsIn K c_NoYard = true)
    (xg_NoYard : PySem.W.findIn K (.ref c_NoYard) "__getattribute__" = some (some (.builtin "BaseException.__getattribute__")))
    (xh_NoYard : PySem.W.findIn K (.ref c_NoYard) "__getattr__" = some none)
    (xs_NoYard : PySem.W.subIn K (.ref c_NoYard) (.type "BaseException") = some true)
    (xd_NoYard : PySem.W.hasDictIn K c_NoYard = true)
    (xa_NoYard : PySem.W.findIn K (.ref c_NoYard) "__class__" = some (some (.builtin "object.__class__")))
    (xm_NoYard : PySem.W.mroIn K c_NoYard (.type "object") = some true)
    (xv_NoYard : PySem.W.subIn K (.ref c_NoYard) (.type "ValueError") = some true)
    (xx_NoWish : PySem.W.excIn K c_NoWish [.type "ValueError", .type "Exception", .type "BaseException", .type "object"] "ValueError.__new__" = true)
    (xk_NoWish : PySem.W.keepIn K (.ref c_NoWish) = true)
    (xt_NoWish : PySem.W.typeIn K (.ref c_NoWish) = some (.type "type"))
    (xc_NoWish : PySem.W.isClsIn K c_NoWish = true)
    (xg_NoWish : PySem.W.findIn K (.ref c_NoWish) "__getattribute__" = some (some (.builtin "BaseException.__getattribute__")))
    (xh_NoWish : PySem.W.findIn K (.ref c_NoWish) "__getattr__" = some none)
    (xs_NoWish : PySem.W.subIn K (.ref c_NoWish) (.type "BaseException") = some true)
    (xd_NoWish : PySem.W.hasDictIn K c_NoWish = true)
    (xa_NoWish : PySem.W.findIn K (.ref c_NoWish) "__class__" = some (some (.builtin "object.__class__")))
    (xm_NoWish : PySem.W.mroIn K c_NoWish (.type "object") = some true)
    (xv_NoWish : PySem.W.subIn K (.ref c_NoWish) (.type "ValueError") = some true)
    (xx_NoRoom : PySem.W.excIn K c_NoRoom [.type "ValueError", .type "Exception", .type "BaseException", .type "object"] "ValueError.__new__" = true)
    (xk_NoRoom : PySem.W.keepIn K (.ref c_NoRoom) = true)
    (xt_NoRoom : PySem.W.typeIn K (.ref c_NoRoom) = some (.type "type"))
    (xc_NoRoom : PySem.W.isClsIn K c_NoRoom = true)
    (xg_NoRoom : PySem.W.findIn K (.ref c_NoRoom) "__getattribute__" = some (some (.builtin "BaseException.__getattribute__")))
    (xh_NoRoom : PySem.W.findIn K (.ref c_NoRoom) "__getattr__" = some none)
    (xs_NoRoom : PySem.W.subIn K (.ref c_NoRoom) (.type "BaseException") = some true)
    (xd_NoRoom : PySem.W.hasDictIn K c_NoRoom = true)
    (xa_NoRoom : PySem.W.findIn K (.ref c_NoRoom) "__class__" = some (some (.builtin "object.__class__")))
    (xm_NoRoom : PySem.W.mroIn K c_NoRoom (.type "object") = some true)
    (xv_NoRoom : PySem.W.subIn K (.ref c_NoRoom) (.type "ValueError") = some true)
    (xx_NotOut : PySem.W.excIn K c_NotOut [.type "ValueError", .type "Exception", .type "BaseException", .type "object"] "ValueError.__new__" = true)
    (xk_NotOut : PySem.W.keepIn K (.ref c_NotOut) = true)
    (xt_NotOut : PySem.W.typeIn K (.ref c_NotOut) = some (.type "type"))
    (xc_NotOut : PySem.W.isClsIn K c_NotOut = true)
    (xg_NotOut : PySem.W.findIn K (.ref c_NotOut) "__getattribute__" = some (some (.builtin "BaseException.__getattribute__")))
    (xh_NotOut : PySem.W.findIn K (.ref c_NotOut) "__getattr__" = some none)
    (xs_NotOut : PySem.W.subIn K (.ref c_NotOut) (.type "BaseException") = some true)
    (xd_NotOut : PySem.W.hasDictIn K c_NotOut = true)
    (xa_NotOut : PySem.W.findIn K (.ref c_NotOut) "__class__" = some (some (.builtin "object.__class__")))
    (xm_NotOut : PySem.W.mroIn K c_NotOut (.type "object") = some true)
    (xv_NotOut : PySem.W.subIn K (.ref c_NotOut) (.type "ValueError") = some true)
    (xx_NoNote : PySem.W.excIn K c_NoNote [.type "ValueError", .type "Exception", .type "BaseException", .type "object"] "ValueError.__new__" = true)
    (xk_NoNote : PySem.W.keepIn K (.ref c_NoNote) = true)
    (xt_NoNote : PySem.W.typeIn K (.ref c_NoNote) = some (.type "type"))
    (xc_NoNote : PySem.W.isClsIn K c_NoNote = true)
    (xg_NoNote : PySem.W.findIn K (.ref c_NoNote) "__getattribute__" = some (some (.builtin "BaseException.__getattribute__")))
    (xh_NoNote : PySem.W.findIn K (.ref c_NoNote) "__getattr__" = some none)
    (xs_NoNote : PySem.W.subIn K (.ref c_NoNote) (.type "BaseException") = some true)
    (xd_NoNote : PySem.W.hasDictIn K c_NoNote = true)
    (xa_NoNote : PySem.W.findIn K (.ref c_NoNote) "__class__" = some (some (.builtin "object.__class__")))
    (xm_NoNote : PySem.W.mroIn K c_NoNote (.type "object") = some true)
    (xv_NoNote : PySem.W.subIn K (.ref c_NoNote) (.type "ValueError") = some true)
    (s_NoYard_YardError : PySem.W.subIn K (.ref c_NoYard) (.ref c_YardError) = some true)
    (t_NoYard_YardError : PySem.W.kitOne K (.ref c_NoYard) (.ref c_YardError) = some true)
    (s_NoYard_NoYard : PySem.W.subIn K (.ref c_NoYard) (.ref c_NoYard) = some true)
    (t_NoYard_NoYard : PySem.W.kitOne K (.ref c_NoYard) (.ref c_NoYard) = some true)
    (s_NoYard_NoWish : PySem.W.subIn K (.ref c_NoYard) (.ref c_NoWish) = some false)
    (t_NoYard_NoWish : PySem.W.kitOne K (.ref c_NoYard) (.ref c_NoWish) = some false)
    (s_NoYard_NoRoom : PySem.W.subIn K (.ref c_NoYard) (.ref c_NoRoom) = some false)
    (t_NoYard_NoRoom : PySem.W.kitOne K (.ref c_NoYard) (.ref c_NoRoom) = some false)
    (s_NoYard_NotOut : PySem.W.subIn K (.ref c_NoYard) (.ref c_NotOut) = some false)
    (t_NoYard_NotOut : PySem.W.kitOne K (.ref c_NoYard) (.ref c_NotOut) = some false)
    (s_NoYard_NoNote : PySem.W.subIn K (.ref c_NoYard) (.ref c_NoNote) = some false)
    (t_NoYard_NoNote : PySem.W.kitOne K (.ref c_NoYard) (.ref c_NoNote) = some false)
    (s_NoWish_YardError : PySem.W.subIn K (.ref c_NoWish) (.ref c_YardError) = some true)
    (t_NoWish_YardError : PySem.W.kitOne K (.ref c_NoWish) (.ref c_YardError) = some true)
    (s_NoWish_NoYard : PySem.W.subIn K (.ref c_NoWish) (.ref c_NoYard) = some false)
    (t_NoWish_NoYard : PySem.W.kitOne K (.ref c_NoWish) (.ref c_NoYard) = some false)
    (s_NoWish_NoWish : PySem.W.subIn K (.ref c_NoWish) (.ref c_NoWish) = some true)
    (t_NoWish_NoWish : PySem.W.kitOne K (.ref c_NoWish) (.ref c_NoWish) = some true)
    (s_NoWish_NoRoom : PySem.W.subIn K (.ref c_NoWish) (.ref c_NoRoom) = some false)
    (t_NoWish_NoRoom : PySem.W.kitOne K (.ref c_NoWish) (.ref c_NoRoom) = some false)
    (s_NoWish_NotOut : PySem.W.subIn K (.ref c_NoWish) (.ref c_NotOut) = some false)
    (t_NoWish_NotOut : PySem.W.kitOne K (.ref c_NoWish) (.ref c_NotOut) = some false)
    (s_NoWish_NoNote : PySem.W.subIn K (.ref c_NoWish) (.ref c_NoNote) = some false)
    (t_NoWish_NoNote : PySem.W.kitOne K (.ref c_NoWish) (.ref c_NoNote) = some false)
    (s_NoRoom_YardError : PySem.W.subIn K (.ref c_NoRoom) (.ref c_YardError) = some true)
    (t_NoRoom_YardError : PySem.W.kitOne K (.ref c_NoRoom) (.ref c_YardError) = some true)
    (s_NoRoom_NoYard : PySem.W.subIn K (.ref c_NoRoom) (.ref c_NoYard) = some false)
    (t_NoRoom_NoYard : PySem.W.kitOne K (.ref c_NoRoom) (.ref c_NoYard) = some false)
    (s_NoRoom_NoWish : PySem.W.subIn K (.ref c_NoRoom) (.ref c_NoWish) = some false)
    (t_NoRoom_NoWish : PySem.W.kitOne K (.ref c_NoRoom) (.ref c_NoWish) = some false)
    (s_NoRoom_NoRoom : PySem.W.subIn K (.ref c_NoRoom) (.ref c_NoRoom) = some true)
    (t_NoRoom_NoRoom : PySem.W.kitOne K (.ref c_NoRoom) (.ref c_NoRoom) = some true)
    (s_NoRoom_NotOut : PySem.W.subIn K (.ref c_NoRoom) (.ref c_NotOut) = some false)
    (t_NoRoom_NotOut : PySem.W.kitOne K (.ref c_NoRoom) (.ref c_NotOut) = some false)
    (s_NoRoom_NoNote : PySem.W.subIn K (.ref c_NoRoom) (.ref c_NoNote) = some false)
    (t_NoRoom_NoNote : PySem.W.kitOne K (.ref c_NoRoom) (.ref c_NoNote) = some false)
    (s_NotOut_YardError : PySem.W.subIn K (.ref c_NotOut) (.ref c_YardError) = some true)
    (t_NotOut_YardError : PySem.W.kitOne K (.ref c_NotOut) (.ref c_YardError) = some true)
    (s_NotOut_NoYard : PySem.W.subIn K (.ref c_NotOut) (.ref c_NoYard) = some false)
    (t_NotOut_NoYard : PySem.W.kitOne K (.ref c_NotOut) (.ref c_NoYard) = some false)
    (s_NotOut_NoWish : PySem.W.subIn K (.ref c_NotOut) (.ref c_NoWish) = some false)
    (t_NotOut_NoWish : PySem.W.kitOne K (.ref c_NotOut) (.ref c_NoWish) = some false)
    (s_NotOut_NoRoom : PySem.W.subIn K (.ref c_NotOut) (.ref c_NoRoom) = some false)
    (t_NotOut_NoRoom : PySem.W.kitOne K (.ref c_NotOut) (.ref c_NoRoom) = some false)
    (s_NotOut_NotOut : PySem.W.subIn K (.ref c_NotOut) (.ref c_NotOut) = some true)
    (t_NotOut_NotOut : PySem.W.kitOne K (.ref c_NotOut) (.ref c_NotOut) = some true)
    (s_NotOut_NoNote : PySem.W.subIn K (.ref c_NotOut) (.ref c_NoNote) = some false)
    (t_NotOut_NoNote : PySem.W.kitOne K (.ref c_NotOut) (.ref c_NoNote) = some false)
    (s_NoNote_YardError : PySem.W.subIn K (.ref c_NoNote) (.ref c_YardError) = some true)
    (t_NoNote_YardError : PySem.W.kitOne K (.ref c_NoNote) (.ref c_YardError) = some true)
    (s_NoNote_NoYard : PySem.W.subIn K (.ref c_NoNote) (.ref c_NoYard) = some false)
    (t_NoNote_NoYard : PySem.W.kitOne K (.ref c_NoNote) (.ref c_NoYard) = some false)
    (s_NoNote_NoWish : PySem.W.subIn K (.ref c_NoNote) (.ref c_NoWish) = some false)
    (t_NoNote_NoWish : PySem.W.kitOne K (.ref c_NoNote) (.ref c_NoWish) = some false)
    (s_NoNote_NoRoom : PySem.W.subIn K (.ref c_NoNote) (.ref c_NoRoom) = some false)
    (t_NoNote_NoRoom : PySem.W.kitOne K (.ref c_NoNote) (.ref c_NoRoom) = some false)
    (s_NoNote_NotOut : PySem.W.subIn K (.ref c_NoNote) (.ref c_NotOut) = some false)
    (t_NoNote_NotOut : PySem.W.kitOne K (.ref c_NoNote) (.ref c_NotOut) = some false)
    (s_NoNote_NoNote : PySem.W.subIn K (.ref c_NoNote) (.ref c_NoNote) = some true)
    (t_NoNote_NoNote : PySem.W.kitOne K (.ref c_NoNote) (.ref c_NoNote) = some true)
    (z_all : PySem.W.nsIn K mainGlobals "all" = some none)
    (z_any : PySem.W.nsIn K mainGlobals "any" = some none)
    (z_int : PySem.W.nsIn K mainGlobals "int" = some none)
    (z_isinstance : PySem.W.nsIn K mainGlobals "isinstance" = some none)
    (z_len : PySem.W.nsIn K mainGlobals "len" = some none)
    (z_list : PySem.W.nsIn K mainGlobals "list" = some none)
    (z_max : PySem.W.nsIn K mainGlobals "max" = some none)
    (z_min : PySem.W.nsIn K mainGlobals "min" = some none)
    (z_range : PySem.W.nsIn K mainGlobals "range" = some none)
    (z_sorted : PySem.W.nsIn K mainGlobals "sorted" = some none)
    (z_str : PySem.W.nsIn K mainGlobals "str" = some none)
    (v_MOST : PySem.W.nsIn K mainGlobals "MOST" = some (some (.int 1152921504606846976 t_MOST)))
    (v_OUT : PySem.W.nsIn K mainGlobals "OUT" = some (some (.str "out" t_OUT)))
    (v_FREE : PySem.W.nsIn K mainGlobals "FREE" = some (some (.str "free" t_FREE))) :
    LamX.LawAtS l w K CX0 7 63 "_law_script" mg fa h := by
  have e := hfa.symm.trans (PySem.W.mg_of X G a_law)
  cases e
  have F_is_size := fun_mk (st := s_is_size) l_is_size c_is_size k_is_size
  have B_is_size := F_is_size.binds (ps := ["number"]) fun _ _ _ _ _ _ us hl => match us, hl with | [_], _ => rfl
  have F_size_for := fun_mk (st := s_size_for) l_size_for c_size_for k_size_for
  have B_size_for := F_size_for.binds (ps := ["want"]) fun _ _ _ _ _ _ us hl => match us, hl with | [_], _ => rfl
  have F_twin_of := fun_mk (st := s_twin_of) l_twin_of c_twin_of k_twin_of
  have B_twin_of := F_twin_of.binds (ps := ["at", "size"]) fun _ _ _ _ _ _ us hl => match us, hl with | [_, _], _ => rfl
  have F_rank := fun_mk (st := s_rank) l_rank c_rank k_rank
  have B_rank := F_rank.binds (ps := ["places", "at"]) fun _ _ _ _ _ _ us hl => match us, hl with | [_, _], _ => rfl
  have F_Pool_init := fun_mk (st := s_Pool_init) l_Pool_init c_Pool_init k_Pool_init
  have B_Pool_init := F_Pool_init.binds (ps := ["self", "cells"]) fun _ _ _ _ _ _ us hl => match us, hl with | [_, _], _ => rfl
  have F_Pool_put := fun_mk (st := s_Pool_put) l_Pool_put c_Pool_put k_Pool_put
  have B_Pool_put := F_Pool_put.binds (ps := ["self", "at", "size"]) fun _ _ _ _ _ _ us hl => match us, hl with | [_, _, _], _ => rfl
  have F_Pool_drop := fun_mk (st := s_Pool_drop) l_Pool_drop c_Pool_drop k_Pool_drop
  have B_Pool_drop := F_Pool_drop.binds (ps := ["self", "at", "size"]) fun _ _ _ _ _ _ us hl => match us, hl with | [_, _, _], _ => rfl
  have F_Pool_has := fun_mk (st := s_Pool_has) l_Pool_has c_Pool_has k_Pool_has
  have B_Pool_has := F_Pool_has.binds (ps := ["self", "at", "size"]) fun _ _ _ _ _ _ us hl => match us, hl with | [_, _, _], _ => rfl
  have F_Pool_best := fun_mk (st := s_Pool_best) l_Pool_best c_Pool_best k_Pool_best
  have B_Pool_best := F_Pool_best.binds (ps := ["self", "size"]) fun _ _ _ _ _ _ us hl => match us, hl with | [_, _], _ => rfl
  have F_Pool_pieces := fun_mk (st := s_Pool_pieces) l_Pool_pieces c_Pool_pieces k_Pool_pieces
  have B_Pool_pieces := F_Pool_pieces.binds (ps := ["self"]) fun _ _ _ _ _ _ us hl => match us, hl with | [_], _ => rfl
  have F_upper_halves := fun_mk (st := s_upper_halves) l_upper_halves c_upper_halves k_upper_halves
  have B_upper_halves := F_upper_halves.binds (ps := ["at", "size", "least"]) fun _ _ _ _ _ _ us hl => match us, hl with | [_, _, _], _ => rfl
  have F_Yard_init := fun_mk (st := s_Yard_init) l_Yard_init c_Yard_init k_Yard_init
  have B_Yard_init := F_Yard_init.binds (ps := ["self", "cells"]) fun _ _ _ _ _ _ us hl => match us, hl with | [_, _], _ => rfl
  have F_Yard_give := fun_mk (st := s_Yard_give) l_Yard_give c_Yard_give k_Yard_give
  have B_Yard_give := F_Yard_give.binds (ps := ["self", "want"]) fun _ _ _ _ _ _ us hl => match us, hl with | [_, _], _ => rfl
  have F_Yard_take_back := fun_mk (st := s_Yard_take_back) l_Yard_take_back c_Yard_take_back k_Yard_take_back
  have B_Yard_take_back := F_Yard_take_back.binds (ps := ["self", "at"]) fun _ _ _ _ _ _ us hl => match us, hl with | [_, _], _ => rfl
  have F_Yard_resize := fun_mk (st := s_Yard_resize) l_Yard_resize c_Yard_resize k_Yard_resize
  have B_Yard_resize := F_Yard_resize.binds (ps := ["self", "at", "want"]) fun _ _ _ _ _ _ us hl => match us, hl with | [_, _, _], _ => rfl
  have F_Yard_free := fun_mk (st := s_Yard_free) l_Yard_free c_Yard_free k_Yard_free
  have B_Yard_free := F_Yard_free.binds (ps := ["self"]) fun _ _ _ _ _ _ us hl => match us, hl with | [_], _ => rfl
  have F_Yard_out := fun_mk (st := s_Yard_out) l_Yard_out c_Yard_out k_Yard_out
  have B_Yard_out := F_Yard_out.binds (ps := ["self"]) fun _ _ _ _ _ _ us hl => match us, hl with | [_], _ => rfl
  have F_Yard_owner := fun_mk (st := s_Yard_owner) l_Yard_owner c_Yard_owner k_Yard_owner
  have B_Yard_owner := F_Yard_owner.binds (ps := ["self", "cell"]) fun _ _ _ _ _ _ us hl => match us, hl with | [_, _], _ => rfl
  have F_Yard_fitting := fun_mk (st := s_Yard_fitting) l_Yard_fitting c_Yard_fitting k_Yard_fitting
  have B_Yard_fitting := F_Yard_fitting.binds (ps := ["self", "want"]) fun _ _ _ _ _ _ us hl => match us, hl with | [_, _], _ => rfl
  have F_Yard_size_of := fun_mk (st := s_Yard_size_of) l_Yard_size_of c_Yard_size_of k_Yard_size_of
  have B_Yard_size_of := F_Yard_size_of.binds (ps := ["self", "at"]) fun _ _ _ _ _ _ us hl => match us, hl with | [_, _], _ => rfl
  have F_Yard_cut := fun_mk (st := s_Yard_cut) l_Yard_cut c_Yard_cut k_Yard_cut
  have B_Yard_cut := F_Yard_cut.binds (ps := ["self", "at", "size", "least"]) fun _ _ _ _ _ _ us hl => match us, hl with | [_, _, _, _], _ => rfl
  have F_Yard_grow := fun_mk (st := s_Yard_grow) l_Yard_grow c_Yard_grow k_Yard_grow
  have B_Yard_grow := F_Yard_grow.binds (ps := ["self", "at", "had", "size"]) fun _ _ _ _ _ _ us hl => match us, hl with | [_, _, _, _], _ => rfl
  have F_Yard_join := fun_mk (st := s_Yard_join) l_Yard_join c_Yard_join k_Yard_join
  have B_Yard_join := F_Yard_join.binds (ps := ["self", "at", "size"]) fun _ _ _ _ _ _ us hl => match us, hl with | [_, _, _], _ => rfl
  have F_shown := fun_mk (st := s_shown) l_shown c_shown k_shown
  have B_shown := F_shown.binds (ps := ["yard"]) fun _ _ _ _ _ _ us hl => match us, hl with | [_], _ => rfl
  have F_read := fun_mk (st := s_read) l_read c_read k_read
  have B_read := F_read.binds (ps := ["text"]) fun _ _ _ _ _ _ us hl => match us, hl with | [_], _ => rfl
  have F_read_row := fun_mk (st := s_read_row) l_read_row c_read_row k_read_row
  have B_read_row := F_read_row.binds (ps := ["row"]) fun _ _ _ _ _ _ us hl => match us, hl with | [_], _ => rfl
  have F_read_number := fun_mk (st := s_read_number) l_read_number c_read_number k_read_number
  have B_read_number := F_read_number.binds (ps := ["word"]) fun _ _ _ _ _ _ us hl => match us, hl with | [_], _ => rfl
  have F_count_cells := fun_mk (st := s_count_cells) l_count_cells c_count_cells k_count_cells
  have B_count_cells := F_count_cells.binds (ps := ["rows"]) fun _ _ _ _ _ _ us hl => match us, hl with | [_], _ => rfl
  have F_refuse_free_twins := fun_mk (st := s_refuse_free_twins) l_refuse_free_twins c_refuse_free_twins k_refuse_free_twins
  have B_refuse_free_twins := F_refuse_free_twins.binds (ps := ["rows"]) fun _ _ _ _ _ _ us hl => match us, hl with | [_], _ => rfl
  have F_yard_of := fun_mk (st := s_yard_of) l_yard_of c_yard_of k_yard_of
  have B_yard_of := F_yard_of.binds (ps := ["cells", "rows"]) fun _ _ _ _ _ _ us hl => match us, hl with | [_, _], _ => rfl
  have F_fitting_sizes := fun_mk (st := s_fitting_sizes) l_fitting_sizes c_fitting_sizes k_fitting_sizes
  have B_fitting_sizes := F_fitting_sizes.binds (ps := ["yard", "wants"]) fun _ _ _ _ _ _ us hl => match us, hl with | [_, _], _ => rfl
  have F_give_all := fun_mk (st := s_give_all) l_give_all c_give_all k_give_all
  have B_give_all := F_give_all.binds (ps := ["yard", "wants"]) fun _ _ _ _ _ _ us hl => match us, hl with | [_, _], _ => rfl
  have F_law_cell_at := fun_mk (st := s_law_cell_at) l_law_cell_at c_law_cell_at k_law_cell_at
  have B_law_cell_at := F_law_cell_at.binds (ps := ["_law_script", "_law_k"]) fun _ _ _ _ _ _ us hl => match us, hl with | [_, _], _ => rfl
  have F_law_doubled := fun_mk (st := s_law_doubled) l_law_doubled c_law_doubled k_law_doubled
  have B_law_doubled := F_law_doubled.binds (ps := ["_law_times"]) fun _ _ _ _ _ _ us hl => match us, hl with | [_], _ => rfl
  have F_law_fitting := fun_mk (st := s_law_fitting) l_law_fitting c_law_fitting k_law_fitting
  have B_law_fitting := F_law_fitting.binds (ps := ["_law_want_here"]) fun _ _ _ _ _ _ us hl => match us, hl with | [_], _ => rfl
  have F_law_yard_size := fun_mk (st := s_law_yard_size) l_law_yard_size c_law_yard_size k_law_yard_size
  have B_law_yard_size := F_law_yard_size.binds (ps := ["_law_script"]) fun _ _ _ _ _ _ us hl => match us, hl with | [_], _ => rfl
  have F_law_room := fun_mk (st := s_law_room) l_law_room c_law_room k_law_room
  have B_law_room := F_law_room.binds (ps := ["_law_script", "_law_few", "_law_many_here"]) fun _ _ _ _ _ _ us hl => match us, hl with | [_, _, _], _ => rfl
  have F_law_want := fun_mk (st := s_law_want) l_law_want c_law_want k_law_want
  have B_law_want := F_law_want.binds (ps := ["_law_cell", "_law_cells"]) fun _ _ _ _ _ _ us hl => match us, hl with | [_, _], _ => rfl
  have F_law_begun := fun_mk (st := s_law_begun) l_law_begun c_law_begun k_law_begun
  have B_law_begun := F_law_begun.binds (ps := ["_law_yard", "_law_cell", "_law_cells"]) fun _ _ _ _ _ _ us hl => match us, hl with | [_, _, _], _ => rfl
  have F_law_done := fun_mk (st := s_law_done) l_law_done c_law_done k_law_done
  have B_law_done := F_law_done.binds (ps := ["_law_yard", "_law_held", "_law_cell", "_law_cells"]) fun _ _ _ _ _ _ us hl => match us, hl with | [_, _, _, _], _ => rfl
  have F_law_text := fun_mk (st := s_law_text) l_law_text c_law_text k_law_text
  have B_law_text := F_law_text.binds (ps := ["_law_out", "_law_free"]) fun _ _ _ _ _ _ us hl => match us, hl with | [_, _], _ => rfl
  have F_law_owner := fun_mk (st := s_law_owner) l_law_owner c_law_owner k_law_owner
  have B_law_owner := F_law_owner.binds (ps := ["_law_held", "_law_cell"]) fun _ _ _ _ _ _ us hl => match us, hl with | [_, _], _ => rfl
  have F_law_refused_so := fun_mk (st := s_law_refused_so) l_law_refused_so c_law_refused_so k_law_refused_so
  have B_law_refused_so := F_law_refused_so.binds (ps := ["_law_yard", "_law_place"]) fun _ _ _ _ _ _ us hl => match us, hl with | [_, _], _ => rfl
  have F_law_owners := fun_mk (st := s_law_owners) l_law_owners c_law_owners k_law_owners
  have B_law_owners := F_law_owners.binds (ps := ["_law_yard", "_law_held", "_law_cells", "_law_places"]) fun _ _ _ _ _ _ us hl => match us, hl with | [_, _, _, _], _ => rfl
  have F_law_many := fun_mk (st := s_law_many) l_law_many c_law_many k_law_many
  have B_law_many := F_law_many.binds (ps := ["_law_yard", "_law_held", "_law_wants"]) fun _ _ _ _ _ _ us hl => match us, hl with | [_, _, _], _ => rfl
  have F_law_alike := fun_mk (st := s_law_alike) l_law_alike c_law_alike k_law_alike
  have B_law_alike := F_law_alike.binds (ps := ["_law_one", "_law_two", "_law_cells"]) fun _ _ _ _ _ _ us hl => match us, hl with | [_, _, _], _ => rfl
  have F_law := fun_mk (st := s_law) l_law c_law k_law
  have B_law := F_law.binds (ps := ["_law_script"]) fun _ _ _ _ _ _ us hl => match us, hl with | [_], _ => rfl
  have T : Txt K mg ⟨f_is_size, _, f_size_for, _, f_twin_of, _, f_rank, _, f_Pool_init, _, f_Pool_put, _, f_Pool_drop, _, f_Pool_has, _, f_Pool_best, _, f_Pool_pieces, _, f_upper_halves, _, f_Yard_init, _, f_Yard_give, _, f_Yard_take_back, _, f_Yard_resize, _, f_Yard_free, _, f_Yard_out, _, f_Yard_owner, _, f_Yard_fitting, _, f_Yard_size_of, _, f_Yard_cut, _, f_Yard_grow, _, f_Yard_join, _, f_shown, _, f_read, _, f_read_row, _, f_read_number, _, f_count_cells, _, f_refuse_free_twins, _, f_yard_of, _, f_fitting_sizes, _, f_give_all, _, q_give_all, p_give_all, f_law_cell_at, _, f_law_doubled, _, f_law_fitting, _, f_law_yard_size, _, f_law_room, _, f_law_want, _, f_law_begun, _, f_law_done, _, f_law_text, _, f_law_owner, _, f_law_refused_so, _, f_law_owners, _, f_law_many, _, f_law_alike, _, fa, _, c_YardError, c_NoYard, c_NoWish, c_NoRoom, c_NotOut, c_NoNote, c_Pool, c_Yard⟩ := {
    is_size := ⟨PySem.W.mg_of X G a_is_size, F_is_size, B_is_size⟩
    size_for := ⟨PySem.W.mg_of X G a_size_for, F_size_for, B_size_for⟩
    twin_of := ⟨PySem.W.mg_of X G a_twin_of, F_twin_of, B_twin_of⟩
    rank := ⟨PySem.W.mg_of X G a_rank, F_rank, B_rank⟩
    Pool_init := F_Pool_init
    b_Pool_init := B_Pool_init
    m_Pool_init := ⟨mk_Pool, a_Pool_init, i_Pool_init, kc_Pool⟩
    Pool_put := F_Pool_put
    b_Pool_put := B_Pool_put
    m_Pool_put := ⟨a_Pool_put, i_Pool_put, k_Pool_put⟩
    Pool_drop := F_Pool_drop
    b_Pool_drop := B_Pool_drop
    m_Pool_drop := ⟨a_Pool_drop, i_Pool_drop, k_Pool_drop⟩
    Pool_has := F_Pool_has
    b_Pool_has := B_Pool_has
    m_Pool_has := ⟨a_Pool_has, i_Pool_has, k_Pool_has⟩
    Pool_best := F_Pool_best
    b_Pool_best := B_Pool_best
    m_Pool_best := ⟨a_Pool_best, i_Pool_best, k_Pool_best⟩
    Pool_pieces := F_Pool_pieces
    b_Pool_pieces := B_Pool_pieces
    m_Pool_pieces := ⟨a_Pool_pieces, i_Pool_pieces, k_Pool_pieces⟩
    upper_halves := ⟨PySem.W.mg_of X G a_upper_halves, F_upper_halves, B_upper_halves⟩
    Yard_init := F_Yard_init
    b_Yard_init := B_Yard_init
    m_Yard_init := ⟨mk_Yard, a_Yard_init, i_Yard_init, kc_Yard⟩
    Yard_give := F_Yard_give
    b_Yard_give := B_Yard_give
    m_Yard_give := ⟨a_Yard_give, i_Yard_give, k_Yard_give⟩
    Yard_take_back := F_Yard_take_back
    b_Yard_take_back := B_Yard_take_back
    m_Yard_take_back := ⟨a_Yard_take_back, i_Yard_take_back, k_Yard_take_back⟩
    Yard_resize := F_Yard_resize
    b_Yard_resize := B_Yard_resize
    m_Yard_resize := ⟨a_Yard_resize, i_Yard_resize, k_Yard_resize⟩
    Yard_free := F_Yard_free
    b_Yard_free := B_Yard_free
    m_Yard_free := ⟨a_Yard_free, i_Yard_free, k_Yard_free⟩
    Yard_out := F_Yard_out
    b_Yard_out := B_Yard_out
    m_Yard_out := ⟨a_Yard_out, i_Yard_out, k_Yard_out⟩
    Yard_owner := F_Yard_owner
    b_Yard_owner := B_Yard_owner
    m_Yard_owner := ⟨a_Yard_owner, i_Yard_owner, k_Yard_owner⟩
    Yard_fitting := F_Yard_fitting
    b_Yard_fitting := B_Yard_fitting
    m_Yard_fitting := ⟨a_Yard_fitting, i_Yard_fitting, k_Yard_fitting⟩
    Yard_size_of := F_Yard_size_of
    b_Yard_size_of := B_Yard_size_of
    m_Yard_size_of := ⟨a_Yard_size_of, i_Yard_size_of, k_Yard_size_of⟩
    Yard_cut := F_Yard_cut
    b_Yard_cut := B_Yard_cut
    m_Yard_cut := ⟨a_Yard_cut, i_Yard_cut, k_Yard_cut⟩
    Yard_grow := F_Yard_grow
    b_Yard_grow := B_Yard_grow
    m_Yard_grow := ⟨a_Yard_grow, i_Yard_grow, k_Yard_grow⟩
    Yard_join := F_Yard_join
    b_Yard_join := B_Yard_join
    m_Yard_join := ⟨a_Yard_join, i_Yard_join, k_Yard_join⟩
    shown := ⟨PySem.W.mg_of X G a_shown, F_shown, B_shown⟩
    read := ⟨PySem.W.mg_of X G a_read, F_read, B_read⟩
    read_row := ⟨PySem.W.mg_of X G a_read_row, F_read_row, B_read_row⟩
    read_number := ⟨PySem.W.mg_of X G a_read_number, F_read_number, B_read_number⟩
    count_cells := ⟨PySem.W.mg_of X G a_count_cells, F_count_cells, B_count_cells⟩
    refuse_free_twins := ⟨PySem.W.mg_of X G a_refuse_free_twins, F_refuse_free_twins, B_refuse_free_twins⟩
    yard_of := ⟨PySem.W.mg_of X G a_yard_of, F_yard_of, B_yard_of⟩
    fitting_sizes := ⟨PySem.W.mg_of X G a_fitting_sizes, F_fitting_sizes, B_fitting_sizes⟩
    give_all := ⟨PySem.W.mg_of X G a_give_all, F_give_all, B_give_all⟩
    law_cell_at := ⟨PySem.W.mg_of X G a_law_cell_at, F_law_cell_at, B_law_cell_at⟩
    law_doubled := ⟨PySem.W.mg_of X G a_law_doubled, F_law_doubled, B_law_doubled⟩
    law_fitting := ⟨PySem.W.mg_of X G a_law_fitting, F_law_fitting, B_law_fitting⟩
    law_yard_size := ⟨PySem.W.mg_of X G a_law_yard_size, F_law_yard_size, B_law_yard_size⟩
    law_room := ⟨PySem.W.mg_of X G a_law_room, F_law_room, B_law_room⟩
    law_want := ⟨PySem.W.mg_of X G a_law_want, F_law_want, B_law_want⟩
    law_begun := ⟨PySem.W.mg_of X G a_law_begun, F_law_begun, B_law_begun⟩
    law_done := ⟨PySem.W.mg_of X G a_law_done, F_law_done, B_law_done⟩
    law_text := ⟨PySem.W.mg_of X G a_law_text, F_law_text, B_law_text⟩
    law_owner := ⟨PySem.W.mg_of X G a_law_owner, F_law_owner, B_law_owner⟩
    law_refused_so := ⟨PySem.W.mg_of X G a_law_refused_so, F_law_refused_so, B_law_refused_so⟩
    law_owners := ⟨PySem.W.mg_of X G a_law_owners, F_law_owners, B_law_owners⟩
    law_many := ⟨PySem.W.mg_of X G a_law_many, F_law_many, B_law_many⟩
    law_alike := ⟨PySem.W.mg_of X G a_law_alike, F_law_alike, B_law_alike⟩
    law := ⟨PySem.W.mg_of X G a_law, F_law, B_law⟩
    at_give_all := ⟨_, _, _, _, _, _, _, _, rfl, l_give_all, c_give_all⟩
    g_Pool := PySem.W.mg_of X G g_Pool
    cl_Pool := ⟨pg_Pool, hd_Pool, po_Pool, sa_Pool⟩
    n_Pool__places := n_Pool__places
    g_Yard := PySem.W.mg_of X G g_Yard
    cl_Yard := ⟨pg_Yard, hd_Yard, po_Yard, sa_Yard⟩
    n_Yard_cells := n_Yard_cells
    n_Yard__sizes := n_Yard__sizes
    n_Yard__pool := n_Yard__pool
    o_Yard := ⟨xa_Yard, sp1, sp2, xm_Yard⟩
    e_YardError := ⟨PySem.W.mg_of X G g_YardError, xx_YardError, xk_YardError, xt_YardError, xc_YardError, ⟨xg_YardError, xh_YardError, xs_YardError, xd_YardError, xa_YardError, sp1, sp2, xm_YardError⟩, kit_ve xv_YardError⟩
    e_NoYard := ⟨PySem.W.mg_of X G g_NoYard, xx_NoYard, xk_NoYard, xt_NoYard, xc_NoYard, ⟨xg_NoYard, xh_NoYard, xs_NoYard, xd_NoYard, xa_NoYard, sp1, sp2, xm_NoYard⟩, kit_ve xv_NoYard⟩
    e_NoWish := ⟨PySem.W.mg_of X G g_NoWish, xx_NoWish, xk_NoWish, xt_NoWish, xc_NoWish, ⟨xg_NoWish, xh_NoWish, xs_NoWish, xd_NoWish, xa_NoWish, sp1, sp2, xm_NoWish⟩, kit_ve xv_NoWish⟩
    e_NoRoom := ⟨PySem.W.mg_of X G g_NoRoom, xx_NoRoom, xk_NoRoom, xt_NoRoom, xc_NoRoom, ⟨xg_NoRoom, xh_NoRoom, xs_NoRoom, xd_NoRoom, xa_NoRoom, sp1, sp2, xm_NoRoom⟩, kit_ve xv_NoRoom⟩
    e_NotOut := ⟨PySem.W.mg_of X G g_NotOut, xx_NotOut, xk_NotOut, xt_NotOut, xc_NotOut, ⟨xg_NotOut, xh_NotOut, xs_NotOut, xd_NotOut, xa_NotOut, sp1, sp2, xm_NotOut⟩, kit_ve xv_NotOut⟩
    e_NoNote := ⟨PySem.W.mg_of X G g_NoNote, xx_NoNote, xk_NoNote, xt_NoNote, xc_NoNote, ⟨xg_NoNote, xh_NoNote, xs_NoNote, xd_NoNote, xa_NoNote, sp1, sp2, xm_NoNote⟩, kit_ve xv_NoNote⟩
    x_NoYard_YardError := PySem.W.exm_ref xs_YardError xd_YardError xt_YardError s_NoYard_YardError
    k_NoYard_YardError := t_NoYard_YardError
    x_NoYard_NoYard := PySem.W.exm_ref xs_NoYard xd_NoYard xt_NoYard s_NoYard_NoYard
    k_NoYard_NoYard := t_NoYard_NoYard
    x_NoYard_NoWish := PySem.W.exm_ref xs_NoWish xd_NoWish xt_NoWish s_NoYard_NoWish
    k_NoYard_NoWish := t_NoYard_NoWish
    x_NoYard_NoRoom := PySem.W.exm_ref xs_NoRoom xd_NoRoom xt_NoRoom s_NoYard_NoRoom
    k_NoYard_NoRoom := t_NoYard_NoRoom
    x_NoYard_NotOut := PySem.W.exm_ref xs_NotOut xd_NotOut xt_NotOut s_NoYard_NotOut
    k_NoYard_NotOut := t_NoYard_NotOut
    x_NoYard_NoNote := PySem.W.exm_ref xs_NoNote xd_NoNote xt_NoNote s_NoYard_NoNote
    k_NoYard_NoNote := t_NoYard_NoNote
    x_NoWish_YardError := PySem.W.exm_ref xs_YardError xd_YardError xt_YardError s_NoWish_YardError
    k_NoWish_YardError := t_NoWish_YardError
    x_NoWish_NoYard := PySem.W.exm_ref xs_NoYard xd_NoYard xt_NoYard s_NoWish_NoYard
    k_NoWish_NoYard := t_NoWish_NoYard
    x_NoWish_NoWish := PySem.W.exm_ref xs_NoWish xd_NoWish xt_NoWish s_NoWish_NoWish
    k_NoWish_NoWish := t_NoWish_NoWish
    x_NoWish_NoRoom := PySem.W.exm_ref xs_NoRoom xd_NoRoom xt_NoRoom s_NoWish_NoRoom
    k_NoWish_NoRoom := t_NoWish_NoRoom
    x_NoWish_NotOut := PySem.W.exm_ref xs_NotOut xd_NotOut xt_NotOut s_NoWish_NotOut
    k_NoWish_NotOut := t_NoWish_NotOut
    x_NoWish_NoNote := PySem.W.exm_ref xs_NoNote xd_NoNote xt_NoNote s_NoWish_NoNote
    k_NoWish_NoNote := t_NoWish_NoNote
    x_NoRoom_YardError := PySem.W.exm_ref xs_YardError xd_YardError xt_YardError s_NoRoom_YardError
    k_NoRoom_YardError := t_NoRoom_YardError
    x_NoRoom_NoYard := PySem.W.exm_ref xs_NoYard xd_NoYard xt_NoYard s_NoRoom_NoYard
    k_NoRoom_NoYard := t_NoRoom_NoYard
    x_NoRoom_NoWish := PySem.W.exm_ref xs_NoWish xd_NoWish xt_NoWish s_NoRoom_NoWish
    k_NoRoom_NoWish := t_NoRoom_NoWish
    x_NoRoom_NoRoom := PySem.W.exm_ref xs_NoRoom xd_NoRoom xt_NoRoom s_NoRoom_NoRoom
    k_NoRoom_NoRoom := t_NoRoom_NoRoom
    x_NoRoom_NotOut := PySem.W.exm_ref xs_NotOut xd_NotOut xt_NotOut s_NoRoom_NotOut
    k_NoRoom_NotOut := t_NoRoom_NotOut
    x_NoRoom_NoNote := PySem.W.exm_ref xs_NoNote xd_NoNote xt_NoNote s_NoRoom_NoNote
    k_NoRoom_NoNote := t_NoRoom_NoNote
    x_NotOut_YardError := PySem.W.exm_ref xs_YardError xd_YardError xt_YardError s_NotOut_YardError
    k_NotOut_YardError := t_NotOut_YardError
    x_NotOut_NoYard := PySem.W.exm_ref xs_NoYard xd_NoYard xt_NoYard s_NotOut_NoYard
    k_NotOut_NoYard := t_NotOut_NoYard
    x_NotOut_NoWish := PySem.W.exm_ref xs_NoWish xd_NoWish xt_NoWish s_NotOut_NoWish
    k_NotOut_NoWish := t_NotOut_NoWish
    x_NotOut_NoRoom := PySem.W.exm_ref xs_NoRoom xd_NoRoom xt_NoRoom s_NotOut_NoRoom
    k_NotOut_NoRoom := t_NotOut_NoRoom
    x_NotOut_NotOut := PySem.W.exm_ref xs_NotOut xd_NotOut xt_NotOut s_NotOut_NotOut
    k_NotOut_NotOut := t_NotOut_NotOut
    x_NotOut_NoNote := PySem.W.exm_ref xs_NoNote xd_NoNote xt_NoNote s_NotOut_NoNote
    k_NotOut_NoNote := t_NotOut_NoNote
    x_NoNote_YardError := PySem.W.exm_ref xs_YardError xd_YardError xt_YardError s_NoNote_YardError
    k_NoNote_YardError := t_NoNote_YardError
    x_NoNote_NoYard := PySem.W.exm_ref xs_NoYard xd_NoYard xt_NoYard s_NoNote_NoYard
    k_NoNote_NoYard := t_NoNote_NoYard
    x_NoNote_NoWish := PySem.W.exm_ref xs_NoWish xd_NoWish xt_NoWish s_NoNote_NoWish
    k_NoNote_NoWish := t_NoNote_NoWish
    x_NoNote_NoRoom := PySem.W.exm_ref xs_NoRoom xd_NoRoom xt_NoRoom s_NoNote_NoRoom
    k_NoNote_NoRoom := t_NoNote_NoRoom
    x_NoNote_NotOut := PySem.W.exm_ref xs_NotOut xd_NotOut xt_NotOut s_NoNote_NotOut
    k_NoNote_NotOut := t_NoNote_NotOut
    x_NoNote_NoNote := PySem.W.exm_ref xs_NoNote xd_NoNote xt_NoNote s_NoNote_NoNote
    k_NoNote_NoNote := t_NoNote_NoNote
    z_all := PySem.W.mg_none_of X G z_all
    z_any := PySem.W.mg_none_of X G z_any
    z_int := PySem.W.mg_none_of X G z_int
    z_isinstance := PySem.W.mg_none_of X G z_isinstance
    z_len := PySem.W.mg_none_of X G z_len
    z_list := PySem.W.mg_none_of X G z_list
    z_max := PySem.W.mg_none_of X G z_max
    z_min := PySem.W.mg_none_of X G z_min
    z_range := PySem.W.mg_none_of X G z_range
    z_sorted := PySem.W.mg_none_of X G z_sorted
    z_str := PySem.W.mg_none_of X G z_str
    v_MOST := ⟨_, PySem.W.mg_of X G v_MOST⟩
    v_OUT := ⟨_, PySem.W.mg_of X G v_OUT⟩
    v_FREE := ⟨_, PySem.W.mg_of X G v_FREE⟩ }
  refine ⟨_, [(q_give_all, p_give_all)], spLawT K p_give_all, fun p hp => by rw [List.mem_singleton.mp hp]; exact tp_give_all, fun p hp => by rw [List.mem_singleton.mp hp]; exact nt_give_all, fun p hp => by rw [List.mem_singleton.mp hp]; exact PySem.W.codeHd_of_K X hd_give_all, fun s v => .of_eq rfl, fun H b ns hl hb hT hS => ⟨b, ns, rfl, hS, hl, hb, hT _ (List.mem_singleton.mpr rfl), fun _ => rfl⟩, fun base _ _ TB => ok_law T (TB _ (List.mem_singleton.mpr rfl))⟩
end BY
open PySem PySem.W PyProof.Rows
set_option maxRecDepth 100000 in
set_option maxHeartbeats 0 in
theorem PySem.Challenge.cw_buddyyard_k13_shown_and_read_holds : PySem.Challenge.rw_buddyyard_k13_shown_and_read.Holds := by
  w_on; o_law; k_head; (case hw => w_witness2)
  k_fill
  refine LamX.walk_ofTs (l := PySem.Challenge.rw_buddyyard_k13_shown_and_read) (n := 63) (k := 7) (x := "_law_script") (CX := fun _ => L2.CX0) rfl (by decide) rfl ⟨rfl, by decide, by decide⟩ (fun w h Y => PySem.W.km_in_of Y) ?F (fun _ _ _ _ _ h => h)
  case F =>
    intro w mg fa h Y KX G hmg
    refine' BY.all_mk KX G hmg ?g_YardError ?g_NoYard ?g_NoWish ?g_NoRoom ?g_NotOut ?g_NoNote ?g_Pool ?g_Yard ?a_is_size ?l_is_size ?c_is_size ?k_is_size ?a_size_for ?l_size_for ?c_size_for ?k_size_for ?a_twin_of ?l_twin_of ?c_twin_of ?k_twin_of ?a_rank ?l_rank ?c_rank ?k_rank ?a_Pool_init ?i_Pool_init ?l_Pool_init ?c_Pool_init ?k_Pool_init ?a_Pool_put ?i_Pool_put ?l_Pool_put ?c_Pool_put ?k_Pool_put ?a_Pool_drop ?i_Pool_drop ?l_Pool_drop ?c_Pool_drop ?k_Pool_drop ?a_Pool_has ?i_Pool_has ?l_Pool_has ?c_Pool_has ?k_Pool_has ?a_Pool_best ?i_Pool_best ?l_Pool_best ?c_Pool_best ?k_Pool_best ?a_Pool_pieces ?i_Pool_pieces ?l_Pool_pieces ?c_Pool_pieces ?k_Pool_pieces ?a_upper_halves ?l_upper_halves ?c_upper_halves ?k_upper_halves ?a_Yard_init ?i_Yard_init ?l_Yard_init ?c_Yard_init ?k_Yard_init ?a_Yard_give ?i_Yard_give ?l_Yard_give ?c_Yard_give ?k_Yard_give ?a_Yard_take_back ?i_Yard_take_back ?l_Yard_take_back ?c_Yard_take_back ?k_Yard_take_back ?a_Yard_resize ?i_Yard_resize ?l_Yard_resize ?c_Yard_resize ?k_Yard_resize ?a_Yard_free ?i_Yard_free ?l_Yard_free ?c_Yard_free ?k_Yard_free ?a_Yard_out ?i_Yard_out ?l_Yard_out ?c_Yard_out ?k_Yard_out ?a_Yard_owner ?i_Yard_owner ?l_Yard_owner ?c_Yard_owner ?k_Yard_owner ?a_Yard_fitting ?i_Yard_fitting ?l_Yard_fitting ?c_Yard_fitting ?k_Yard_fitting ?a_Yard_size_of ?i_Yard_size_of ?l_Yard_size_of ?c_Yard_size_of ?k_Yard_size_of ?a_Yard_cut ?i_Yard_cut ?l_Yard_cut ?c_Yard_cut ?k_Yard_cut ?a_Yard_grow ?i_Yard_grow ?l_Yard_grow ?c_Yard_grow ?k_Yard_grow ?a_Yard_join ?i_Yard_join ?l_Yard_join ?c_Yard_join ?k_Yard_join ?a_shown ?l_shown ?c_shown ?k_shown ?a_read ?l_read ?c_read ?k_read ?a_read_row ?l_read_row ?c_read_row ?k_read_row ?a_read_number ?l_read_number ?c_read_number ?k_read_number ?a_count_cells ?l_count_cells ?c_count_cells ?k_count_cells ?a_refuse_free_twins ?l_refuse_free_twins ?c_refuse_free_twins ?k_refuse_free_twins ?a_yard_of ?l_yard_of ?c_yard_of ?k_yard_of ?a_fitting_sizes ?l_fitting_sizes ?c_fitting_sizes ?k_fitting_sizes ?a_give_all ?l_give_all ?c_give_all ?lq_give_all ?pq_give_all ?nt_give_all ?hd_give_all ?tp_give_all ?k_give_all ?a_law_cell_at ?l_law_cell_at ?c_law_cell_at ?k_law_cell_at ?a_law_doubled ?l_law_doubled ?c_law_doubled ?k_law_doubled ?a_law_fitting ?l_law_fitting ?c_law_fitting ?k_law_fitting ?a_law_yard_size ?l_law_yard_size ?c_law_yard_size ?k_law_yard_size ?a_law_room ?l_law_room ?c_law_room ?k_law_room ?a_law_want ?l_law_want ?c_law_want ?k_law_want ?a_law_begun ?l_law_begun ?c_law_begun ?k_law_begun ?a_law_done ?l_law_done ?c_law_done ?k_law_done ?a_law_text ?l_law_text ?c_law_text ?k_law_text ?a_law_owner ?l_law_owner ?c_law_owner ?k_law_owner ?a_law_refused_so ?l_law_refused_so ?c_law_refused_so ?k_law_refused_so ?a_law_owners ?l_law_owners ?c_law_owners ?k_law_owners ?a_law_many ?l_law_many ?c_law_many ?k_law_many ?a_law_alike ?l_law_alike ?c_law_alike ?k_law_alike ?a_law ?l_law ?c_law ?k_law ?pg_Pool ?hd_Pool ?po_Pool ?sa_Pool ?mk_Pool ?kc_Pool ?n_Pool__places ?pg_Yard ?xa_Yard ?xm_Yard ?hd_Yard ?po_Yard ?sa_Yard ?mk_Yard ?kc_Yard ?n_Yard_cells ?n_Yard__sizes ?n_Yard__pool ?sp1 ?sp2 ?xx_YardError ?xk_YardError ?xt_YardError ?xc_YardError ?xg_YardError ?xh_YardError ?xs_YardError ?xd_YardError ?xa_YardError ?xm_YardError ?xv_YardError ?xx_NoYard ?xk_NoYard ?xt_NoYard ?xc_NoYard ?xg_NoYard ?xh_NoYard ?xs_NoYard ?xd_NoYard ?xa_NoYard ?xm_NoYard ?xv_NoYard ?xx_NoWish ?xk_NoWish ?xt_NoWish ?xc_NoWish ?xg_NoWish ?xh_NoWish ?xs_NoWish ?xd_NoWish ?xa_NoWish ?xm_NoWish ?xv_NoWish ?xx_NoRoom ?xk_NoRoom ?xt_NoRoom ?xc_NoRoom ?xg_NoRoom ?xh_NoRoom ?xs_NoRoom ?xd_NoRoom ?xa_NoRoom ?xm_NoRoom ?xv_NoRoom ?xx_NotOut ?xk_NotOut ?xt_NotOut ?xc_NotOut ?xg_NotOut ?xh_NotOut ?xs_NotOut ?xd_NotOut ?xa_NotOut ?xm_NotOut ?xv_NotOut ?xx_NoNote ?xk_NoNote ?xt_NoNote ?xc_NoNote ?xg_NoNote ?xh_NoNote ?xs_NoNote ?xd_NoNote ?xa_NoNote ?xm_NoNote ?xv_NoNote ?s_NoYard_YardError ?t_NoYard_YardError ?s_NoYard_NoYard ?t_NoYard_NoYard ?s_NoYard_NoWish ?t_NoYard_NoWish ?s_NoYard_NoRoom ?t_NoYard_NoRoom ?s_NoYard_NotOut ?t_NoYard_NotOut ?s_NoYard_NoNote ?t_NoYard_NoNote ?s_NoWish_YardError ?t_NoWish_YardError ?s_NoWish_NoYard ?t_NoWish_NoYard ?s_NoWish_NoWish ?t_NoWish_NoWish ?s_NoWish_NoRoom ?t_NoWish_NoRoom ?s_NoWish_NotOut ?t_NoWish_NotOut ?s_NoWish_NoNote ?t_NoWish_NoNote ?s_NoRoom_YardError ?t_NoRoom_YardError ?s_NoRoom_NoYard ?t_NoRoom_NoYard ?s_NoRoom_NoWish ?t_NoRoom_NoWish ?s_NoRoom_NoRoom ?t_NoRoom_NoRoom ?s_NoRoom_NotOut ?t_NoRoom_NotOut ?s_NoRoom_NoNote ?t_NoRoom_NoNote ?s_NotOut_YardError ?t_NotOut_YardError ?s_NotOut_NoYard ?t_NotOut_NoYard ?s_NotOut_NoWish ?t_NotOut_NoWish ?s_NotOut_NoRoom ?t_NotOut_NoRoom ?s_NotOut_NotOut ?t_NotOut_NotOut ?s_NotOut_NoNote ?t_NotOut_NoNote ?s_NoNote_YardError ?t_NoNote_YardError ?s_NoNote_NoYard ?t_NoNote_NoYard ?s_NoNote_NoWish ?t_NoNote_NoWish ?s_NoNote_NoRoom ?t_NoNote_NoRoom ?s_NoNote_NotOut ?t_NoNote_NotOut ?s_NoNote_NoNote ?t_NoNote_NoNote ?z_all ?z_any ?z_int ?z_isinstance ?z_len ?z_list ?z_max ?z_min ?z_range ?z_sorted ?z_str ?v_MOST ?v_OUT ?v_FREE
    (case g_YardError => k_is)
    (case g_NoYard => k_is)
    (case g_NoWish => k_is)
    (case g_NoRoom => k_is)
    (case g_NotOut => k_is)
    (case g_NoNote => k_is)
    (case g_Pool => k_is)
    (case g_Yard => k_is)
    (case a_is_size => k_is)
    (case l_is_size => k_is)
    (case c_is_size => k_is)
    (case k_is_size => k_is)
    (case a_size_for => k_is)
    (case l_size_for => k_is)
    (case c_size_for => k_is)
    (case k_size_for => k_is)
    (case a_twin_of => k_is)
    (case l_twin_of => k_is)
    (case c_twin_of => k_is)
    (case k_twin_of => k_is)
    (case a_rank => k_is)
    (case l_rank => k_is)
    (case c_rank => k_is)
    (case k_rank => k_is)
    (case a_Pool_init => k_is)
    (case i_Pool_init => k_is)
    (case l_Pool_init => k_is)
    (case c_Pool_init => k_is)
    (case k_Pool_init => k_is)
    (case a_Pool_put => k_is)
    (case i_Pool_put => k_is)
    (case l_Pool_put => k_is)
    (case c_Pool_put => k_is)
    (case k_Pool_put => k_is)
    (case a_Pool_drop => k_is)
    (case i_Pool_drop => k_is)
    (case l_Pool_drop => k_is)
    (case c_Pool_drop => k_is)
    (case k_Pool_drop => k_is)
    (case a_Pool_has => k_is)
    (case i_Pool_has => k_is)
    (case l_Pool_has => k_is)
    (case c_Pool_has => k_is)
    (case k_Pool_has => k_is)
    (case a_Pool_best => k_is)
    (case i_Pool_best => k_is)
    (case l_Pool_best => k_is)
    (case c_Pool_best => k_is)
    (case k_Pool_best => k_is)
    (case a_Pool_pieces => k_is)
    (case i_Pool_pieces => k_is)
    (case l_Pool_pieces => k_is)
    (case c_Pool_pieces => k_is)
    (case k_Pool_pieces => k_is)
    (case a_upper_halves => k_is)
    (case l_upper_halves => k_is)
    (case c_upper_halves => k_is)
    (case k_upper_halves => k_is)
    (case a_Yard_init => k_is)
    (case i_Yard_init => k_is)
    (case l_Yard_init => k_is)
    (case c_Yard_init => k_is)
    (case k_Yard_init => k_is)
    (case a_Yard_give => k_is)
    (case i_Yard_give => k_is)
    (case l_Yard_give => k_is)
    (case c_Yard_give => k_is)
    (case k_Yard_give => k_is)
    (case a_Yard_take_back => k_is)
    (case i_Yard_take_back => k_is)
    (case l_Yard_take_back => k_is)
    (case c_Yard_take_back => k_is)
    (case k_Yard_take_back => k_is)
    (case a_Yard_resize => k_is)
    (case i_Yard_resize => k_is)
    (case l_Yard_resize => k_is)
    (case c_Yard_resize => k_is)
    (case k_Yard_resize => k_is)
    (case a_Yard_free => k_is)
    (case i_Yard_free => k_is)
    (case l_Yard_free => k_is)
    (case c_Yard_free => k_is)
    (case k_Yard_free => k_is)
    (case a_Yard_out => k_is)
    (case i_Yard_out => k_is)
    (case l_Yard_out => k_is)
    (case c_Yard_out => k_is)
    (case k_Yard_out => k_is)
    (case a_Yard_owner => k_is)
    (case i_Yard_owner => k_is)
    (case l_Yard_owner => k_is)
    (case c_Yard_owner => k_is)
    (case k_Yard_owner => k_is)
    (case a_Yard_fitting => k_is)
    (case i_Yard_fitting => k_is)
    (case l_Yard_fitting => k_is)
    (case c_Yard_fitting => k_is)
    (case k_Yard_fitting => k_is)
    (case a_Yard_size_of => k_is)
    (case i_Yard_size_of => k_is)
    (case l_Yard_size_of => k_is)
    (case c_Yard_size_of => k_is)
    (case k_Yard_size_of => k_is)
    (case a_Yard_cut => k_is)
    (case i_Yard_cut => k_is)
    (case l_Yard_cut => k_is)
    (case c_Yard_cut => k_is)
    (case k_Yard_cut => k_is)
    (case a_Yard_grow => k_is)
    (case i_Yard_grow => k_is)
    (case l_Yard_grow => k_is)
    (case c_Yard_grow => k_is)
    (case k_Yard_grow => k_is)
    (case a_Yard_join => k_is)
    (case i_Yard_join => k_is)
    (case l_Yard_join => k_is)
    (case c_Yard_join => k_is)
    (case k_Yard_join => k_is)
    (case a_shown => k_is)
    (case l_shown => k_is)
    (case c_shown => k_is)
    (case k_shown => k_is)
    (case a_read => k_is)
    (case l_read => k_is)
    (case c_read => k_is)
    (case k_read => k_is)
    (case a_read_row => k_is)
    (case l_read_row => k_is)
    (case c_read_row => k_is)
    (case k_read_row => k_is)
    (case a_read_number => k_is)
    (case l_read_number => k_is)
    (case c_read_number => k_is)
    (case k_read_number => k_is)
    (case a_count_cells => k_is)
    (case l_count_cells => k_is)
    (case c_count_cells => k_is)
    (case k_count_cells => k_is)
    (case a_refuse_free_twins => k_is)
    (case l_refuse_free_twins => k_is)
    (case c_refuse_free_twins => k_is)
    (case k_refuse_free_twins => k_is)
    (case a_yard_of => k_is)
    (case l_yard_of => k_is)
    (case c_yard_of => k_is)
    (case k_yard_of => k_is)
    (case a_fitting_sizes => k_is)
    (case l_fitting_sizes => k_is)
    (case c_fitting_sizes => k_is)
    (case k_fitting_sizes => k_is)
    (case a_give_all => k_is)
    (case l_give_all => k_is)
    (case c_give_all => k_is)
    (case lq_give_all => k_is)
    (case pq_give_all => first | rfl | kernel_rfl | k_is)
    (case nt_give_all => first | kernel_rfl | k_is | rfl)
    (case hd_give_all => first | kernel_rfl | rfl)
    (case tp_give_all => exact PySem.W.km_tabs_of Y _ (by decide))
    (case k_give_all => k_is)
    (case a_law_cell_at => k_is)
    (case l_law_cell_at => k_is)
    (case c_law_cell_at => k_is)
    (case k_law_cell_at => k_is)
    (case a_law_doubled => k_is)
    (case l_law_doubled => k_is)
    (case c_law_doubled => k_is)
    (case k_law_doubled => k_is)
    (case a_law_fitting => k_is)
    (case l_law_fitting => k_is)
    (case c_law_fitting => k_is)
    (case k_law_fitting => k_is)
    (case a_law_yard_size => k_is)
    (case l_law_yard_size => k_is)
    (case c_law_yard_size => k_is)
    (case k_law_yard_size => k_is)
    (case a_law_room => k_is)
    (case l_law_room => k_is)
    (case c_law_room => k_is)
    (case k_law_room => k_is)
    (case a_law_want => k_is)
    (case l_law_want => k_is)
    (case c_law_want => k_is)
    (case k_law_want => k_is)
    (case a_law_begun => k_is)
    (case l_law_begun => k_is)
    (case c_law_begun => k_is)
    (case k_law_begun => k_is)
    (case a_law_done => k_is)
    (case l_law_done => k_is)
    (case c_law_done => k_is)
    (case k_law_done => k_is)
    (case a_law_text => k_is)
    (case l_law_text => k_is)
    (case c_law_text => k_is)
    (case k_law_text => k_is)
    (case a_law_owner => k_is)
    (case l_law_owner => k_is)
    (case c_law_owner => k_is)
    (case k_law_owner => k_is)
    (case a_law_refused_so => k_is)
    (case l_law_refused_so => k_is)
    (case c_law_refused_so => k_is)
    (case k_law_refused_so => k_is)
    (case a_law_owners => k_is)
    (case l_law_owners => k_is)
    (case c_law_owners => k_is)
    (case k_law_owners => k_is)
    (case a_law_many => k_is)
    (case l_law_many => k_is)
    (case c_law_many => k_is)
    (case k_law_many => k_is)
    (case a_law_alike => k_is)
    (case l_law_alike => k_is)
    (case c_law_alike => k_is)
    (case k_law_alike => k_is)
    (case a_law => k_is)
    (case l_law => k_is)
    (case c_law => k_is)
    (case k_law => k_is)
    (case pg_Pool => k_is)
    (case hd_Pool => k_is)
    (case po_Pool => k_is)
    (case sa_Pool => k_is)
    (case mk_Pool => k_is)
    (case kc_Pool => k_is)
    (case n_Pool__places => k_is)
    (case pg_Yard => k_is)
    (case xa_Yard => k_is)
    (case xm_Yard => k_is)
    (case hd_Yard => k_is)
    (case po_Yard => k_is)
    (case sa_Yard => k_is)
    (case mk_Yard => k_is)
    (case kc_Yard => k_is)
    (case n_Yard_cells => k_is)
    (case n_Yard__sizes => k_is)
    (case n_Yard__pool => k_is)
    (case sp1 => k_is)
    (case sp2 => k_is)
    (case xx_YardError => k_exc)
    (case xk_YardError => k_is)
    (case xt_YardError => k_is)
    (case xc_YardError => k_is)
    (case xg_YardError => k_is)
    (case xh_YardError => k_is)
    (case xs_YardError => k_is)
    (case xd_YardError => k_is)
    (case xa_YardError => k_is)
    (case xm_YardError => k_is)
    (case xv_YardError => k_is)
    (case xx_NoYard => k_exc)
    (case xk_NoYard => k_is)
    (case xt_NoYard => k_is)
    (case xc_NoYard => k_is)
    (case xg_NoYard => k_is)
    (case xh_NoYard => k_is)
    (case xs_NoYard => k_is)
    (case xd_NoYard => k_is)
    (case xa_NoYard => k_is)
    (case xm_NoYard => k_is)
    (case xv_NoYard => k_is)
    (case xx_NoWish => k_exc)
    (case xk_NoWish => k_is)
    (case xt_NoWish => k_is)
    (case xc_NoWish => k_is)
    (case xg_NoWish => k_is)
    (case xh_NoWish => k_is)
    (case xs_NoWish => k_is)
    (case xd_NoWish => k_is)
    (case xa_NoWish => k_is)
    (case xm_NoWish => k_is)
    (case xv_NoWish => k_is)
    (case xx_NoRoom => k_exc)
    (case xk_NoRoom => k_is)
    (case xt_NoRoom => k_is)
    (case xc_NoRoom => k_is)
    (case xg_NoRoom => k_is)
    (case xh_NoRoom => k_is)
    (case xs_NoRoom => k_is)
    (case xd_NoRoom => k_is)
    (case xa_NoRoom => k_is)
    (case xm_NoRoom => k_is)
    (case xv_NoRoom => k_is)
    (case xx_NotOut => k_exc)
    (case xk_NotOut => k_is)
    (case xt_NotOut => k_is)
    (case xc_NotOut => k_is)
    (case xg_NotOut => k_is)
    (case xh_NotOut => k_is)
    (case xs_NotOut => k_is)
    (case xd_NotOut => k_is)
    (case xa_NotOut => k_is)
    (case xm_NotOut => k_is)
    (case xv_NotOut => k_is)
    (case xx_NoNote => k_exc)
    (case xk_NoNote => k_is)
    (case xt_NoNote => k_is)
    (case xc_NoNote => k_is)
    (case xg_NoNote => k_is)
    (case xh_NoNote => k_is)
    (case xs_NoNote => k_is)
    (case xd_NoNote => k_is)
    (case xa_NoNote => k_is)
    (case xm_NoNote => k_is)
    (case xv_NoNote => k_is)
    (case s_NoYard_YardError => first | rfl | k_is)
    (case t_NoYard_YardError => first | rfl | k_is)
    (case s_NoYard_NoYard => first | rfl | k_is)
    (case t_NoYard_NoYard => first | rfl | k_is)
    (case s_NoYard_NoWish => first | rfl | k_is)
    (case t_NoYard_NoWish => first | rfl | k_is)
    (case s_NoYard_NoRoom => first | rfl | k_is)
    (case t_NoYard_NoRoom => first | rfl | k_is)
    (case s_NoYard_NotOut => first | rfl | k_is)
    (case t_NoYard_NotOut => first | rfl | k_is)
    (case s_NoYard_NoNote => first | rfl | k_is)
    (case t_NoYard_NoNote => first | rfl | k_is)
    (case s_NoWish_YardError => first | rfl | k_is)
    (case t_NoWish_YardError => first | rfl | k_is)
    (case s_NoWish_NoYard => first | rfl | k_is)
    (case t_NoWish_NoYard => first | rfl | k_is)
    (case s_NoWish_NoWish => first | rfl | k_is)
    (case t_NoWish_NoWish => first | rfl | k_is)
    (case s_NoWish_NoRoom => first | rfl | k_is)
    (case t_NoWish_NoRoom => first | rfl | k_is)
    (case s_NoWish_NotOut => first | rfl | k_is)
    (case t_NoWish_NotOut => first | rfl | k_is)
    (case s_NoWish_NoNote => first | rfl | k_is)
    (case t_NoWish_NoNote => first | rfl | k_is)
    (case s_NoRoom_YardError => first | rfl | k_is)
    (case t_NoRoom_YardError => first | rfl | k_is)
    (case s_NoRoom_NoYard => first | rfl | k_is)
    (case t_NoRoom_NoYard => first | rfl | k_is)
    (case s_NoRoom_NoWish => first | rfl | k_is)
    (case t_NoRoom_NoWish => first | rfl | k_is)
    (case s_NoRoom_NoRoom => first | rfl | k_is)
    (case t_NoRoom_NoRoom => first | rfl | k_is)
    (case s_NoRoom_NotOut => first | rfl | k_is)
    (case t_NoRoom_NotOut => first | rfl | k_is)
    (case s_NoRoom_NoNote => first | rfl | k_is)
    (case t_NoRoom_NoNote => first | rfl | k_is)
    (case s_NotOut_YardError => first | rfl | k_is)
    (case t_NotOut_YardError => first | rfl | k_is)
    (case s_NotOut_NoYard => first | rfl | k_is)
    (case t_NotOut_NoYard => first | rfl | k_is)
    (case s_NotOut_NoWish => first | rfl | k_is)
    (case t_NotOut_NoWish => first | rfl | k_is)
    (case s_NotOut_NoRoom => first | rfl | k_is)
    (case t_NotOut_NoRoom => first | rfl | k_is)
    (case s_NotOut_NotOut => first | rfl | k_is)
    (case t_NotOut_NotOut => first | rfl | k_is)
    (case s_NotOut_NoNote => first | rfl | k_is)
    (case t_NotOut_NoNote => first | rfl | k_is)
    (case s_NoNote_YardError => first | rfl | k_is)
    (case t_NoNote_YardError => first | rfl | k_is)
    (case s_NoNote_NoYard => first | rfl | k_is)
    (case t_NoNote_NoYard => first | rfl | k_is)
    (case s_NoNote_NoWish => first | rfl | k_is)
    (case t_NoNote_NoWish => first | rfl | k_is)
    (case s_NoNote_NoRoom => first | rfl | k_is)
    (case t_NoNote_NoRoom => first | rfl | k_is)
    (case s_NoNote_NotOut => first | rfl | k_is)
    (case t_NoNote_NotOut => first | rfl | k_is)
    (case s_NoNote_NoNote => first | rfl | k_is)
    (case t_NoNote_NoNote => first | rfl | k_is)
    (case z_all => k_is)
    (case z_any => k_is)
    (case z_int => k_is)
    (case z_isinstance => k_is)
    (case z_len => k_is)
    (case z_list => k_is)
    (case z_max => k_is)
    (case z_min => k_is)
    (case z_range => k_is)
    (case z_sorted => k_is)
    (case z_str => k_is)
    (case v_MOST => k_is)
    (case v_OUT => k_is)
    (case v_FREE => k_is)
