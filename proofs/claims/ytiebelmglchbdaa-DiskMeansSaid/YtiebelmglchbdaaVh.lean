/- A region that draws its order, stores and all: that what is told of each operation (planOkS, ObsS) tells the region (drawnS). No dump is imported. -/
import Derived.Test.YtiebelmglchbdaaVg
namespace Go.Proofs.Ytiebelmglchbdaa
set_option linter.unusedVariables false
set_option linter.unusedSimpArgs false
open Go Go.RowKit

section
variable {P : Program} {n : Nat} {w0 w w' : World} {a : Act} {e : Env} {h : Hep} {Q : Exit → Act → World → Prop} {ops : Array Oper} {plan : List It} {ms : List Nat}
structure MidS (plan : List It) (n : Nat) (w0 : World) (e : Env) (h : Hep) (l : Array Bool) (G : Nat → Nat) (a : Act) (w : World) : Prop where
  size : a.tmps.size = n
  defers : a.defers = []
  below : Below w0.heap.size w0 w
  env : ∀ p ∈ e, a.tmps[p.1]? = some p.2
  vals : ∀ (j : Nat) (it : It) (d : Nat), plan[j]? = some it → it.dst = some d → l.getD j false = true → a.tmps[d]? = some (it.out (G j))
  own : ∀ x ∈ h, w0.heap.size ≤ x.1 ∧ x.1 < w.heap.size
  apart : h.Pairwise (fun p q => p.1 ≠ q.1)
  baseA : ∀ (k : Nat) (x : Nat × Tid × Array Value), h[k]? = some x → (∀ j g t cs c ps, plan[j]? = some (.sto k g t cs c ps) → ¬ l.getD j false = true) → Blk w x.1 x.2.1 x.2.2
  baseB : ∀ (k : Nat) (x : Nat × Tid × Array Value) (j g : Nat) (t : Tid) (cs c : Array Value) (ps : List Nat), h[k]? = some x → plan[j]? = some (.sto k g t cs c ps) → l.getD j false = true → Blk w x.1 x.2.1 c
  news : ∀ (j d : Nat) (t : TypeId) (z : Array Value), plan[j]? = some (.new d t z) → l.getD j false = true → w0.heap.size ≤ G j ∧ G j < w.heap.size ∧ ∀ x ∈ h, x.1 ≠ G j
  newA : ∀ (j d : Nat) (t : TypeId) (z : Array Value), plan[j]? = some (.new d t z) → l.getD j false = true → (∀ i d' t' z' c ps, plan[i]? = some (.ston j d' t' z' c ps) → ¬ l.getD i false = true) → Blk w (G j) t z
  newB : ∀ (j d : Nat) (t : TypeId) (z : Array Value) (i d' : Nat) (t' : TypeId) (z' c : Array Value) (ps : List Nat), plan[j]? = some (.new d t z) → l.getD j false = true → plan[i]? = some (.ston j d' t' z' c ps) → l.getD i false = true → Blk w (G j) t c
  dist : ∀ (j k d : Nat) (t : TypeId) (z : Array Value) (d' : Nat) (t' : TypeId) (z' : Array Value), plan[j]? = some (.new d t z) → plan[k]? = some (.new d' t' z') → l.getD j false = true → l.getD k false = true → j ≠ k → G j ≠ G k
theorem set_other {l : Array Bool} {i j : Nat} (hne : j ≠ i) : (l.setIfInBounds i true).getD j false = l.getD j false := getD_set_ne false (Ne.symm hne)
theorem put_keep {a : Act} {d k : Nat} {v x : Value} (hne : k ≠ d) (hx : a.tmps[k]? = some x) : (a.put (some d) v).tmps[k]? = some x := by
  show (a.tmps.setIfInBounds d v)[k]? = some x
  rw [Array.getElem?_setIfInBounds_ne (Ne.symm hne)]
  exact hx
theorem MidS.put {l : Array Bool} {G : Nat → Nat} (H : MidS plan n w0 e h l G a w) {i d : Nat} {it : It} {v : Value} (hi : plan[i]? = some it) (hdst : it.dst = some d) (hv : ∀ g, it.out g = v) (hnew : ∀ d t z, it ≠ .new d t z) (hlt : d < n) (he : ∀ p ∈ e, p.1 ≠ d)
    (hd : ∀ (j : Nat) (jt : It) (x : Nat), plan[j]? = some jt → j ≠ i → jt.dst = some x → x ≠ d) (hb : Below w.heap.size w w') : MidS plan n w0 e h (l.setIfInBounds i true) G (a.put (some d) v) w' := by
  have hlt' : d < a.tmps.size := by rw [H.size]; exact hlt
  have ni : ∀ (j : Nat) (jt : It), plan[j]? = some jt → jt ≠ it → j ≠ i := fun j jt hj hne e1 => by
    subst e1
    rw [hi] at hj
    exact hne (Option.some.inj hj).symm
  have nsto : ∀ k g t cs c ps, It.sto k g t cs c ps ≠ it := fun k g t cs c ps e1 => by rw [← e1] at hdst; cases hdst
  have nston : ∀ j d t z c ps, It.ston j d t z c ps ≠ it := fun k g t cs c ps e1 => by rw [← e1] at hdst; cases hdst
  have nnew : ∀ d t z, It.new d t z ≠ it := fun d t z e1 => hnew d t z e1.symm
  refine ⟨by simp [Act.put, H.size], H.defers, H.below.trans (hb.mono H.below.size), fun p hp => put_keep (he p hp) (H.env p hp), fun j jt x hj hx hl => ?_, fun x hx => ⟨(H.own x hx).1, Nat.lt_of_lt_of_le (H.own x hx).2 hb.size⟩, H.apart, fun k x hx hno => ?_, fun k x j g t cs c ps hx hj hl => ?_, fun j d t z hj hl => ?_, fun j d t z hj hl hno => ?_, fun j d t z i' d' t' z' c ps hj hl hi' hl' => ?_, fun j k d t z d' t' z' hj hk hlj hlk hne => ?_⟩
  · by_cases hji : j = i
    · subst hji
      rw [hi] at hj
      injection hj with hj
      subst hj
      rw [hdst] at hx
      injection hx with hx
      subst hx
      rw [hv]
      show (a.tmps.setIfInBounds d v)[d]? = some v
      simp [hlt']
    · rw [set_other hji] at hl
      exact put_keep (hd j jt x hj hji hx) (H.vals j jt x hj hx hl)
  · have hB := H.baseA k x hx fun j g t cs c ps hj hl => hno j g t cs c ps hj (by rw [set_other (ni j _ hj (nsto _ _ _ _ _ _))]; exact hl)
    exact hB.below hb hB.lt
  · rw [set_other (ni j _ hj (nsto _ _ _ _ _ _))] at hl
    have hB := H.baseB k x j g t cs c ps hx hj hl
    exact hB.below hb hB.lt
  · rw [set_other (ni j _ hj (nnew _ _ _))] at hl
    obtain ⟨h1, h2, h3⟩ := H.news j d t z hj hl
    exact ⟨h1, Nat.lt_of_lt_of_le h2 hb.size, h3⟩
  · rw [set_other (ni j _ hj (nnew _ _ _))] at hl
    have hB := H.newA j d t z hj hl fun i' d' t' z' c ps hi' hl' => hno i' d' t' z' c ps hi' (by rw [set_other (ni i' _ hi' (nston _ _ _ _ _ _))]; exact hl')
    exact hB.below hb hB.lt
  · rw [set_other (ni j _ hj (nnew _ _ _))] at hl
    rw [set_other (ni i' _ hi' (nston _ _ _ _ _ _))] at hl'
    have hB := H.newB j d t z i' d' t' z' c ps hj hl hi' hl'
    exact hB.below hb hB.lt
  · rw [set_other (ni j _ hj (nnew _ _ _))] at hlj
    rw [set_other (ni k _ hk (nnew _ _ _))] at hlk
    exact H.dist j k d t z d' t' z' hj hk hlj hlk hne
theorem MidS.more {l : Array Bool} {G : Nat → Nat} (H : MidS plan n w0 e h l G a w) {i d : Nat} {t : TypeId} {z : Array Value} (hi : plan[i]? = some (.new d t z)) (hu : ∀ i' d' t' z' c ps, plan[i']? = some (.ston i d' t' z' c ps) → ¬ l.getD i' false = true) (hlt : d < n) (he : ∀ p ∈ e, p.1 ≠ d)
    (hd : ∀ (j : Nat) (jt : It) (x : Nat), plan[j]? = some jt → j ≠ i → jt.dst = some x → x ≠ d) : MidS plan n w0 e h (l.setIfInBounds i true) (fun j => if j = i then w.heap.size else G j) (a.put (some d) (.pointer (some ⟨w.heap.size, 0, none⟩))) (w.alloc (.cells z t)) := by
  have hlt' : d < a.tmps.size := by rw [H.size]; exact hlt
  have hsz : w.heap.size < (w.alloc (.cells z t)).heap.size := (Blk.new w t z).lt
  have nsto : ∀ (j k g : Nat) (t' : Tid) (cs c : Array Value) (ps : List Nat), plan[j]? = some (.sto k g t' cs c ps) → j ≠ i := fun j k g t' cs c ps hj e1 => by subst e1; rw [hi] at hj; cases hj
  have nston : ∀ (j k g : Nat) (t' : TypeId) (cs c : Array Value) (ps : List Nat), plan[j]? = some (.ston k g t' cs c ps) → j ≠ i := fun j k g t' cs c ps hj e1 => by subst e1; rw [hi] at hj; cases hj
  refine ⟨by simp [Act.put, H.size], H.defers, H.below.alloc H.below.size _, fun p hp => put_keep (he p hp) (H.env p hp), fun j jt x hj hx hl => ?_, fun x hx => ⟨(H.own x hx).1, Nat.lt_trans (H.own x hx).2 hsz⟩, H.apart, fun k x hx hno => ?_, fun k x j g t cs c ps hx hj hl => ?_, fun j d' t' z' hj hl => ?_, fun j d' t' z' hj hl hno => ?_, fun j d1 t1 z1 i' d' t' z' c ps hj hl hi' hl' => ?_, fun j k d1 t1 z1 d2 t2 z2 hj hk hlj hlk hne => ?_⟩
  · by_cases hji : j = i
    · subst hji
      rw [hi] at hj
      injection hj with hj
      subst hj
      injection hx with hx
      subst hx
      rw [if_pos rfl]
      show (a.tmps.setIfInBounds d _)[d]? = some _
      simp [hlt', It.out]
    · rw [set_other hji] at hl
      rw [if_neg hji]
      exact put_keep (hd j jt x hj hji hx) (H.vals j jt x hj hx hl)
  · exact (H.baseA k x hx fun j g t cs c ps hj hl => hno j g t cs c ps hj (by rw [set_other (nsto j k g t cs c ps hj)]; exact hl)).alloc _
  · rw [set_other (nsto j k g t cs c ps hj)] at hl
    exact (H.baseB k x j g t cs c ps hx hj hl).alloc _
  · by_cases hji : j = i
    · rw [if_pos hji]
      exact ⟨H.below.size, hsz, fun x hx => Nat.ne_of_lt (H.own x hx).2⟩
    · rw [set_other hji] at hl
      rw [if_neg hji]
      obtain ⟨h1, h2, h3⟩ := H.news j d' t' z' hj hl
      exact ⟨h1, Nat.lt_trans h2 hsz, h3⟩
  · by_cases hji : j = i
    · subst hji
      rw [hi] at hj
      injection hj with hj
      injection hj with h1 h2 h3
      subst h1 h2 h3
      rw [if_pos rfl]
      exact Blk.new _ _ _
    · rw [set_other hji] at hl
      rw [if_neg hji]
      exact (H.newA j d' t' z' hj hl fun i' d' t' z' c ps hi' hl' => hno i' d' t' z' c ps hi' (by rw [set_other (nston i' j d' t' z' c ps hi')]; exact hl')).alloc _
  · rw [set_other (nston i' j d' t' z' c ps hi')] at hl'
    by_cases hji : j = i
    · subst hji
      exact absurd hl' (hu i' d' t' z' c ps hi')
    · rw [set_other hji] at hl
      rw [if_neg hji]
      exact (H.newB j d1 t1 z1 i' d' t' z' c ps hj hl hi' hl').alloc _
  · by_cases hji : j = i
    · by_cases hki : k = i
      · omega
      · rw [set_other hki] at hlk
        rw [if_pos hji, if_neg hki]
        have := (H.news k d2 t2 z2 hk hlk).2.1
        omega
    · rw [set_other hji] at hlj
      by_cases hki : k = i
      · rw [if_neg hji, if_pos hki]
        have := (H.news j d1 t1 z1 hj hlj).2.1
        omega
      · rw [set_other hki] at hlk
        rw [if_neg hji, if_neg hki]
        exact H.dist j k d1 t1 z1 d2 t2 z2 hj hk hlj hlk hne
/-- A row is written. -/
theorem MidS.sto {l : Array Bool} {G : Nat → Nat} (H : MidS plan n w0 e h l G a w) {i k g : Nat} {t : Tid} {cs c : Array Value} {ps : List Nat} (hi : plan[i]? = some (.sto k g t cs c ps)) (hk : h[k]? = some (g, t, cs))
    (hinj : ∀ (j : Nat) (g' : Nat) (t' : Tid) (cs' c' : Array Value) (ps' : List Nat), plan[j]? = some (.sto k g' t' cs' c' ps') → j = i) (hil : i < l.size) (hs : Stores w w' g t c) : MidS plan n w0 e h (l.setIfInBounds i true) G a w' := by
  obtain ⟨hs1, hs2, hs3, hs4⟩ := hs
  have hm : (g, t, cs) ∈ h := List.mem_iff_getElem?.2 ⟨k, hk⟩
  have hg := H.own _ hm
  have ni : ∀ (j : Nat) (jt : It), plan[j]? = some jt → (∀ k g t cs c ps, jt ≠ .sto k g t cs c ps) → j ≠ i := fun j jt hj hne e1 => by
    subst e1
    rw [hi] at hj
    exact hne k g t cs c ps (Option.some.inj hj).symm
  refine ⟨H.size, H.defers, hs3 _ _ hg.1 H.below, H.env, fun j jt x hj hx hl => ?_, fun x hx => ⟨(H.own x hx).1, Nat.lt_of_lt_of_le (H.own x hx).2 hs4⟩, H.apart, fun k' x hx hno => ?_, fun k' x j g' t' cs' c' ps' hx hj hl => ?_, fun j d t z hj hl => ?_, fun j d t z hj hl hno => ?_, fun j d t z i' d' t' z' c ps hj hl hi' hl' => ?_, fun j k d t z d' t' z' hj hk hlj hlk hne => ?_⟩
  · have hji := ni j jt hj (fun k g t cs c ps e1 => by rw [e1] at hx; cases hx)
    rw [set_other hji] at hl
    exact H.vals j jt x hj hx hl
  · by_cases hkk : k' = k
    · subst hkk
      exact absurd (by simp [hil]) (hno i g t cs c ps hi)
    · exact hs2 _ _ _ (pw_ne H.apart hkk hx hk) (H.baseA k' x hx fun j g' t' cs' c' ps' hj hl => hno j g' t' cs' c' ps' hj (getD_set_true hl))
  · by_cases hji : j = i
    · subst hji
      rw [hi] at hj
      injection hj with hj
      injection hj with e1 e2 e3 e4 e5 e6
      subst e1 e5
      rw [hk] at hx
      injection hx with hx
      subst hx
      exact hs1
    · rw [set_other hji] at hl
      have hkk : k' ≠ k := fun e1 => hji (hinj j g' t' cs' c' ps' (by rw [← e1]; exact hj))
      exact hs2 _ _ _ (pw_ne H.apart hkk hx hk) (H.baseB k' x j g' t' cs' c' ps' hx hj hl)
  · rw [set_other (ni j _ hj (fun _ _ _ _ _ _ e1 => by cases e1))] at hl
    obtain ⟨h1, h2, h3⟩ := H.news j d t z hj hl
    exact ⟨h1, Nat.lt_of_lt_of_le h2 hs4, h3⟩
  · rw [set_other (ni j _ hj (fun _ _ _ _ _ _ e1 => by cases e1))] at hl
    have h3 := (H.news j d t z hj hl).2.2 _ hm
    exact hs2 _ _ _ (Ne.symm h3) (H.newA j d t z hj hl fun i' d' t' z' c ps hi' hl' => hno i' d' t' z' c ps hi' (getD_set_true hl'))
  · rw [set_other (ni j _ hj (fun _ _ _ _ _ _ e1 => by cases e1))] at hl
    rw [set_other (ni i' _ hi' (fun _ _ _ _ _ _ e1 => by cases e1))] at hl'
    have h3 := (H.news j d t z hj hl).2.2 _ hm
    exact hs2 _ _ _ (Ne.symm h3) (H.newB j d t z i' d' t' z' c ps hj hl hi' hl')
  · rw [set_other (ni j _ hj (fun _ _ _ _ _ _ e1 => by cases e1))] at hlj
    rw [set_other (ni k _ hk (fun _ _ _ _ _ _ e1 => by cases e1))] at hlk
    exact H.dist j k d t z d' t' z' hj hk hlj hlk hne
/-- A new variable's row is written. -/
theorem MidS.ston {l : Array Bool} {G : Nat → Nat} (H : MidS plan n w0 e h l G a w) {i j0 d0 : Nat} {t : TypeId} {z c : Array Value} {ps : List Nat} (hi : plan[i]? = some (.ston j0 d0 t z c ps)) (hj0 : plan[j0]? = some (.new d0 t z)) (hl0 : l.getD j0 false = true)
    (hinj : ∀ (j : Nat) (d' : Nat) (t' : TypeId) (z' c' : Array Value) (ps' : List Nat), plan[j]? = some (.ston j0 d' t' z' c' ps') → j = i) (hil : i < l.size) (hs : Stores w w' (G j0) t c) : MidS plan n w0 e h (l.setIfInBounds i true) G a w' := by
  obtain ⟨hs1, hs2, hs3, hs4⟩ := hs
  obtain ⟨hg1, hg2, hg3⟩ := H.news j0 d0 t z hj0 hl0
  have ni : ∀ (j : Nat) (jt : It), plan[j]? = some jt → (∀ k g t cs c ps, jt ≠ .ston k g t cs c ps) → j ≠ i := fun j jt hj hne e1 => by
    subst e1
    rw [hi] at hj
    exact hne j0 d0 t z c ps (Option.some.inj hj).symm
  refine ⟨H.size, H.defers, hs3 _ _ hg1 H.below, H.env, fun j jt x hj hx hl => ?_, fun x hx => ⟨(H.own x hx).1, Nat.lt_of_lt_of_le (H.own x hx).2 hs4⟩, H.apart, fun k' x hx hno => ?_, fun k' x j g' t' cs' c' ps' hx hj hl => ?_, fun j d t z hj hl => ?_, fun j d t z hj hl hno => ?_, fun j d1 t1 z1 i' d' t' z' c' ps' hj hl hi' hl' => ?_, fun j k d t z d' t' z' hj hk hlj hlk hne => ?_⟩
  · have hji := ni j jt hj (fun k g t cs c ps e1 => by rw [e1] at hx; cases hx)
    rw [set_other hji] at hl
    exact H.vals j jt x hj hx hl
  · exact hs2 _ _ _ (hg3 x (List.mem_iff_getElem?.2 ⟨k', hx⟩)) (H.baseA k' x hx fun j g' t' cs' c' ps' hj hl => hno j g' t' cs' c' ps' hj (getD_set_true hl))
  · rw [set_other (ni j _ hj (fun _ _ _ _ _ _ e1 => by cases e1))] at hl
    exact hs2 _ _ _ (hg3 x (List.mem_iff_getElem?.2 ⟨k', hx⟩)) (H.baseB k' x j g' t' cs' c' ps' hx hj hl)
  · rw [set_other (ni j _ hj (fun _ _ _ _ _ _ e1 => by cases e1))] at hl
    obtain ⟨h1, h2, h3⟩ := H.news j d t z hj hl
    exact ⟨h1, Nat.lt_of_lt_of_le h2 hs4, h3⟩
  · rw [set_other (ni j _ hj (fun _ _ _ _ _ _ e1 => by cases e1))] at hl
    by_cases hjj : j = j0
    · subst hjj
      exact absurd (by simp [hil]) (hno i d0 _ _ c ps hi)
    · exact hs2 _ _ _ (H.dist j j0 d t z d0 _ _ hj hj0 hl hl0 hjj) (H.newA j d t z hj hl fun i' d' t' z' c ps hi' hl' => hno i' d' t' z' c ps hi' (getD_set_true hl'))
  · rw [set_other (ni j _ hj (fun _ _ _ _ _ _ e1 => by cases e1))] at hl
    by_cases hii : i' = i
    · subst hii
      rw [hi] at hi'
      injection hi' with hi'
      injection hi' with e1 e2 e3 e4 e5 e6
      subst e1 e5
      rw [hj0] at hj
      injection hj with hj
      injection hj with f1 f2 f3
      subst f2
      exact hs1
    · rw [set_other hii] at hl'
      have hjj : j ≠ j0 := fun e1 => hii (hinj i' d' t' z' c' ps' (by rw [← e1]; exact hi'))
      exact hs2 _ _ _ (H.dist j j0 d1 t1 z1 d0 _ _ hj hj0 hl hl0 hjj) (H.newB j d1 t1 z1 i' d' t' z' c' ps' hj hl hi' hl')
  · rw [set_other (ni j _ hj (fun _ _ _ _ _ _ e1 => by cases e1))] at hlj
    rw [set_other (ni k _ hk (fun _ _ _ _ _ _ e1 => by cases e1))] at hlk
    exact H.dist j k d t z d' t' z' hj hk hlj hlk hne
theorem outS_mem {G : Nat → Nat} {k : Nat} {r : List It} {p : Nat × Value} (hp : p ∈ outS G k r) : ∃ (j : Nat) (it : It) (d : Nat), r[j]? = some it ∧ it.dst = some d ∧ p = (d, it.out (G (k + j))) := by
  induction r generalizing k with
  | nil => cases hp
  | cons it r ih =>
    have go : p ∈ outS G (k + 1) r → ∃ (j : Nat) (jt : It) (d : Nat), (it :: r)[j]? = some jt ∧ jt.dst = some d ∧ p = (d, jt.out (G (k + j))) := fun hp => by
      obtain ⟨j, it', d, h1, h2, rfl⟩ := ih hp
      exact ⟨j + 1, it', d, h1, h2, by rw [show k + (j + 1) = k + 1 + j by omega]⟩
    unfold outS at hp
    cases hd : it.dst with
    | none => rw [hd] at hp; exact go hp
    | some d =>
      rw [hd] at hp
      rcases List.mem_cons.1 hp with rfl | hp
      · exact ⟨0, it, d, rfl, hd, rfl⟩
      · exact go hp
theorem endB_spec {k : Nat} {cs : Array Value} (r : List It) : (∃ (j g : Nat) (t : Tid) (cs' c : Array Value) (ps : List Nat), r[j]? = some (.sto k g t cs' c ps) ∧ endB r k cs = c) ∨ ((∀ (j g : Nat) (t : Tid) (cs' c : Array Value) (ps : List Nat), r[j]? ≠ some (.sto k g t cs' c ps)) ∧ endB r k cs = cs) := by
  induction r with
  | nil => exact .inr ⟨(fun j g t cs' c ps hj => by cases hj), rfl⟩
  | cons it r ih =>
    have go : (∀ g t cs' c ps, it ≠ .sto k g t cs' c ps) → endB (it :: r) k cs = endB r k cs → (∃ (j g : Nat) (t : Tid) (cs' c : Array Value) (ps : List Nat), (it :: r)[j]? = some (.sto k g t cs' c ps) ∧ endB (it :: r) k cs = c) ∨ ((∀ (j g : Nat) (t : Tid) (cs' c : Array Value) (ps : List Nat), (it :: r)[j]? ≠ some (.sto k g t cs' c ps)) ∧ endB (it :: r) k cs = cs) := fun hne he => by
      rw [he]
      rcases ih with ⟨j, g, t, cs', c, ps, h1, h2⟩ | ⟨h1, h2⟩
      · exact .inl ⟨j + 1, g, t, cs', c, ps, h1, h2⟩
      · refine .inr ⟨fun j g t cs' c ps hj => ?_, h2⟩
        cases j with
        | zero => exact hne g t cs' c ps (Option.some.inj hj)
        | succ j => exact h1 j g t cs' c ps hj
    cases it with
    | val d v ps hs => exact go (fun _ _ _ _ _ e1 => by cases e1) rfl
    | off d ps => exact go (fun _ _ _ _ _ e1 => by cases e1) rfl
    | new d t z => exact go (fun _ _ _ _ _ e1 => by cases e1) rfl
    | ston j d t z c ps => exact go (fun _ _ _ _ _ e1 => by cases e1) rfl
    | sto k' g t cs' c ps =>
      cases hb : Nat.beq k' k with
      | true =>
        have hk := Nat.eq_of_beq_eq_true hb
        subst hk
        refine .inl ⟨0, g, t, cs', c, ps, rfl, ?_⟩
        unfold endB
        rw [hb]
        rfl
      | false =>
        refine go (fun _ _ _ _ _ e1 => ?_) ?_
        · injection e1 with e1
          rw [e1, Nat.beq_refl] at hb
          cases hb
        · show (bif Nat.beq k' k then c else endB r k cs) = _
          rw [hb]
          rfl
theorem endN_spec {k : Nat} {cs : Array Value} (r : List It) : (∃ (j g : Nat) (t : TypeId) (cs' c : Array Value) (ps : List Nat), r[j]? = some (.ston k g t cs' c ps) ∧ endN r k cs = c) ∨ ((∀ (j g : Nat) (t : TypeId) (cs' c : Array Value) (ps : List Nat), r[j]? ≠ some (.ston k g t cs' c ps)) ∧ endN r k cs = cs) := by
  induction r with
  | nil => exact .inr ⟨(fun j g t cs' c ps hj => by cases hj), rfl⟩
  | cons it r ih =>
    have go : (∀ g t cs' c ps, it ≠ .ston k g t cs' c ps) → endN (it :: r) k cs = endN r k cs → (∃ (j g : Nat) (t : TypeId) (cs' c : Array Value) (ps : List Nat), (it :: r)[j]? = some (.ston k g t cs' c ps) ∧ endN (it :: r) k cs = c) ∨ ((∀ (j g : Nat) (t : TypeId) (cs' c : Array Value) (ps : List Nat), (it :: r)[j]? ≠ some (.ston k g t cs' c ps)) ∧ endN (it :: r) k cs = cs) := fun hne he => by
      rw [he]
      rcases ih with ⟨j, g, t, cs', c, ps, h1, h2⟩ | ⟨h1, h2⟩
      · exact .inl ⟨j + 1, g, t, cs', c, ps, h1, h2⟩
      · refine .inr ⟨fun j g t cs' c ps hj => ?_, h2⟩
        cases j with
        | zero => exact hne g t cs' c ps (Option.some.inj hj)
        | succ j => exact h1 j g t cs' c ps hj
    cases it with
    | val d v ps hs => exact go (fun _ _ _ _ _ e1 => by cases e1) rfl
    | off d ps => exact go (fun _ _ _ _ _ e1 => by cases e1) rfl
    | new d t z => exact go (fun _ _ _ _ _ e1 => by cases e1) rfl
    | sto j d t z c ps => exact go (fun _ _ _ _ _ e1 => by cases e1) rfl
    | ston k' g t cs' c ps =>
      cases hb : Nat.beq k' k with
      | true =>
        have hk := Nat.eq_of_beq_eq_true hb
        subst hk
        refine .inl ⟨0, g, t, cs', c, ps, rfl, ?_⟩
        unfold endN
        rw [hb]
        rfl
      | false =>
        refine go (fun _ _ _ _ _ e1 => ?_) ?_
        · injection e1 with e1
          rw [e1, Nat.beq_refl] at hb
          cases hb
        · show (bif Nat.beq k' k then c else endN r k cs) = _
          rw [hb]
          rfl
theorem heapS_mem {k : Nat} {r : Hep} {p : Nat × Tid × Array Value} (hp : p ∈ heapS plan k r) : ∃ (j : Nat) (x : Nat × Tid × Array Value), r[j]? = some x ∧ p = (x.1, x.2.1, endB plan (k + j) x.2.2) := by
  induction r generalizing k with
  | nil => cases hp
  | cons x r ih =>
    rcases List.mem_cons.1 hp with rfl | hp
    · exact ⟨0, x, rfl, rfl⟩
    · obtain ⟨j, y, h1, rfl⟩ := ih hp
      exact ⟨j + 1, y, h1, by rw [show k + (j + 1) = k + 1 + j by omega]⟩
theorem heapS_pw {k : Nat} {r : Hep} (hp : r.Pairwise (fun p q => p.1 ≠ q.1)) : (heapS plan k r).Pairwise (fun p q => p.1 ≠ q.1) := by
  induction r generalizing k with
  | nil => exact List.Pairwise.nil
  | cons x r ih =>
    obtain ⟨h1, h2⟩ := List.pairwise_cons.1 hp
    refine List.pairwise_cons.2 ⟨fun p hp => ?_, ih h2⟩
    obtain ⟨j, y, hj, rfl⟩ := heapS_mem hp
    exact h1 y (List.mem_iff_getElem?.2 ⟨j, hj⟩)
theorem newS_mem {G : Nat → Nat} {k : Nat} {r : List It} {p : Nat × Tid × Array Value} (hp : p ∈ newS plan G k r) : ∃ (j d : Nat) (t : TypeId) (z : Array Value), r[j]? = some (.new d t z) ∧ p = (G (k + j), .ty t, endN plan (k + j) z) := by
  induction r generalizing k with
  | nil => cases hp
  | cons it r ih =>
    have go : p ∈ newS plan G (k + 1) r → ∃ (j d : Nat) (t : TypeId) (z : Array Value), (it :: r)[j]? = some (.new d t z) ∧ p = (G (k + j), .ty t, endN plan (k + j) z) := fun hp => by
      obtain ⟨j, d, t, z, h1, rfl⟩ := ih hp
      exact ⟨j + 1, d, t, z, h1, by rw [show k + (j + 1) = k + 1 + j by omega]⟩
    cases it with
    | val d v ps hs => exact go hp
    | off d ps => exact go hp
    | sto k g t cs c ps => exact go hp
    | ston k g t cs c ps => exact go hp
    | new d t z =>
      rcases List.mem_cons.1 hp with rfl | hp
      · exact ⟨0, d, t, z, rfl, rfl⟩
      · exact go hp
theorem newS_pw {G : Nat → Nat} {k : Nat} {r : List It} (hd : ∀ (i j d : Nat) (t : TypeId) (z : Array Value) (d' : Nat) (t' : TypeId) (z' : Array Value), r[i]? = some (.new d t z) → r[j]? = some (.new d' t' z') → i ≠ j → G (k + i) ≠ G (k + j)) : (newS plan G k r).Pairwise (fun p q => p.1 ≠ q.1) := by
  induction r generalizing k with
  | nil => exact List.Pairwise.nil
  | cons it r ih =>
    have go : (newS plan G (k + 1) r).Pairwise (fun p q => p.1 ≠ q.1) := ih fun i j d t z d' t' z' h1 h2 hne => by
      have := hd (i + 1) (j + 1) d t z d' t' z' h1 h2 (by omega)
      rw [show k + 1 + i = k + (i + 1) by omega, show k + 1 + j = k + (j + 1) by omega]
      exact this
    cases it with
    | val d v ps hs => exact go
    | off d ps => exact go
    | sto k g t cs c ps => exact go
    | ston k g t cs c ps => exact go
    | new d t z =>
      refine List.pairwise_cons.2 ⟨fun p hp => ?_, go⟩
      obtain ⟨j, d', t', z', h1, rfl⟩ := newS_mem hp
      have := hd 0 (j + 1) d t z d' t' z' rfl h1 (by omega)
      rw [show k + 1 + j = k + (j + 1) by omega]
      exact this
theorem MidS.all {l : Array Bool} {G : Nat → Nat} (H : MidS plan n w0 e h l G a w) (hl : ∀ i, i < plan.length → l.getD i false = true) : St n w0 a w (outS G 0 plan ++ e) (newS plan G 0 plan ++ heapS plan 0 h) := by
  have lt : ∀ {j : Nat} {it : It}, plan[j]? = some it → l.getD j false = true := fun hj => hl _ (List.getElem?_eq_some_iff.1 hj).1
  refine ⟨H.size, H.defers, fun p hp => ?_, H.below, fun p hp => ?_, fun p hp => ?_, List.pairwise_append.2 ⟨newS_pw fun i j d t z d' t' z' h1 h2 hne => ?_, heapS_pw H.apart, fun p hp q hq => ?_⟩⟩
  · rcases List.mem_append.1 hp with hp | hp
    · obtain ⟨j, it, d, h1, h2, rfl⟩ := outS_mem hp
      rw [Nat.zero_add]
      exact H.vals j it d h1 h2 (lt h1)
    · exact H.env p hp
  · rcases List.mem_append.1 hp with hp | hp
    · obtain ⟨j, d, t, z, h1, rfl⟩ := newS_mem hp
      rw [Nat.zero_add]
      rcases endN_spec (k := j) (cs := z) plan with ⟨i, d', t', z', c, ps, h2, h3⟩ | ⟨h2, h3⟩
      · rw [h3]
        exact H.newB j d t z i d' t' z' c ps h1 (lt h1) h2 (lt h2)
      · rw [h3]
        exact H.newA j d t z h1 (lt h1) fun i d' t' z' c ps hi _ => h2 i d' t' z' c ps hi
    · obtain ⟨k, x, h1, rfl⟩ := heapS_mem hp
      rw [Nat.zero_add]
      rcases endB_spec (k := k) (cs := x.2.2) plan with ⟨i, g, t', cs', c, ps, h2, h3⟩ | ⟨h2, h3⟩
      · rw [h3]
        exact H.baseB k x i g t' cs' c ps h1 h2 (lt h2)
      · rw [h3]
        exact H.baseA k x h1 fun i g t' cs' c ps hi _ => h2 i g t' cs' c ps hi
  · rcases List.mem_append.1 hp with hp | hp
    · obtain ⟨j, d, t, z, h1, rfl⟩ := newS_mem hp
      rw [Nat.zero_add]
      exact (H.news j d t z h1 (lt h1)).1
    · obtain ⟨k, x, h1, rfl⟩ := heapS_mem hp
      exact (H.own x (List.mem_iff_getElem?.2 ⟨k, h1⟩)).1
  · rw [Nat.zero_add, Nat.zero_add]
    exact H.dist i j d t z d' t' z' h1 h2 (lt h1) (lt h2) hne
  · obtain ⟨j, d, t, z, h1, rfl⟩ := newS_mem hp
    obtain ⟨k, x, h2, rfl⟩ := heapS_mem hq
    rw [Nat.zero_add]
    exact Ne.symm ((H.news j d t z h1 (lt h1)).2.2 x (List.mem_iff_getElem?.2 ⟨k, h2⟩))
theorem depS_mem {ps : List Nat} {p : Nat × Value} (hp : p ∈ depS plan ps) : ∃ j ∈ ps, ∃ (it : It) (d : Nat), plan[j]? = some it ∧ it.dst = some d ∧ ∀ g, p = (d, it.out g) := by
  induction ps with
  | nil => cases hp
  | cons k r ih =>
    have go : p ∈ depS plan r → ∃ j ∈ k :: r, ∃ (it : It) (d : Nat), plan[j]? = some it ∧ it.dst = some d ∧ ∀ g, p = (d, it.out g) := fun hp => by
      obtain ⟨j, hj, it, d, h1, h2, h3⟩ := ih hp
      exact ⟨j, List.mem_cons_of_mem _ hj, it, d, h1, h2, h3⟩
    unfold depS at hp
    cases hk : plan[k]? with
    | none => rw [hk] at hp; exact go hp
    | some it =>
      rw [hk] at hp
      cases it with
      | val d v qs hs =>
        rcases List.mem_cons.1 hp with rfl | hp
        · exact ⟨k, List.mem_cons_self, _, d, hk, rfl, fun _ => rfl⟩
        · exact go hp
      | off d qs =>
        rcases List.mem_cons.1 hp with rfl | hp
        · exact ⟨k, List.mem_cons_self, _, d, hk, rfl, fun _ => rfl⟩
        · exact go hp
      | new d t z => exact go hp
      | sto a b c d e f => exact go hp
      | ston a b c d e f => exact go hp
/-- What one hangs on: slots, and rows that nobody has written yet. -/
theorem MidS.part {l : Array Bool} {G : Nat → Nat} (H : MidS plan n w0 e h l G a w) {ps hs : List Nat} (hp : ∀ j ∈ ps, l.getD j false = true) (hr : rises hs = true) (hno : ∀ k ∈ hs, ∀ j g t cs c qs, plan[j]? = some (.sto k g t cs c qs) → ¬ l.getD j false = true) : St n w0 a w (depS plan ps ++ e) (picks h hs) := by
  refine ⟨H.size, H.defers, fun p hq => ?_, H.below, fun p hq => ?_, fun p hq => ?_, picks_pw H.apart hr⟩
  · rcases List.mem_append.1 hq with hq | hq
    · obtain ⟨j, hj, it, d, h1, h2, h3⟩ := depS_mem hq
      rw [h3 (G j)]
      exact H.vals j it d h1 h2 (hp j hj)
    · exact H.env p hq
  · obtain ⟨k, hk, hx⟩ := picks_get hq
    exact H.baseA k p hx (hno k hk)
  · obtain ⟨k, hk, hx⟩ := picks_get hq
    exact (H.own p (List.mem_iff_getElem?.2 ⟨k, hx⟩)).1
theorem obS_get {os : List Oper} {r : List It} (ho : ObsS P ops Q n w0 e h plan os r) : ∀ (j : Nat) (o : Oper) (it : It), os[j]? = some o → r[j]? = some it → it.ob P ops Q n w0 e h plan o := by
  induction os generalizing r with
  | nil => intro j o it h1; cases h1
  | cons o0 os ih =>
    cases r with
    | nil => intro j o it _ h2; cases h2
    | cons it0 r =>
      intro j o it h1 h2
      obtain ⟨ho1, ho2⟩ := ho
      cases j with
      | zero =>
        injection h1 with h1
        injection h2 with h2
        subst h1 h2
        exact ho1
      | succ j => exact ih ho2 j o it h1 h2
theorem dstS_get {os : List Oper} {r : List It} (hd : dstOkS os r = true) : ∀ (j : Nat) (o : Oper) (it : It), os[j]? = some o → r[j]? = some it → o.dst = it.dst := by
  induction os generalizing r with
  | nil => intro j o it h1; cases h1
  | cons o0 os ih =>
    cases r with
    | nil => intro j o it _ h2; cases h2
    | cons it0 r =>
      intro j o it h1 h2
      unfold dstOkS at hd
      rw [Bool.and_eq_true] at hd
      cases j with
      | zero =>
        injection h1 with h1
        injection h2 with h2
        subst h1 h2
        have := hd.1
        cases ho : o0.dst with
        | none =>
          cases hi : it0.dst with
          | none => rfl
          | some d => rw [ho, hi] at this; cases this
        | some d =>
          cases hi : it0.dst with
          | none => rw [ho, hi] at this; cases this
          | some d' =>
            rw [ho, hi] at this
            rw [Nat.eq_of_beq_eq_true this]
      | succ j => exact ih hd.2 j o it h1 h2
theorem psS_get {l : List Nat} {r : List It} (hp : psOkS l r = true) : ∀ (j m : Nat) (it : It), l[j]? = some m → r[j]? = some it → (∀ k ∈ it.ps, m.testBit k = true) ∧ rises it.hs = true ∧ ∀ k d t z c ps, it = .ston k d t z c ps → m.testBit k = true := by
  induction l generalizing r with
  | nil => intro j m it h1; cases h1
  | cons m0 l ih =>
    cases r with
    | nil => intro j m it _ h2; cases h2
    | cons it0 r =>
      intro j m it h1 h2
      unfold psOkS at hp
      simp only [Bool.and_eq_true] at hp
      obtain ⟨⟨⟨p1, p2⟩, p3⟩, p4⟩ := hp
      cases j with
      | zero =>
        injection h1 with h1
        injection h2 with h2
        subst h1 h2
        refine ⟨List.all_eq_true.1 p1, p3, fun k d t z c ps e1 => ?_⟩
        subst e1
        exact p2
      | succ j => exact ih p4 j m it h1 h2
theorem ends_has {r : List It} {j d : Nat} {it : It} (hj : r[j]? = some it) (hd : it.dst = some d) : d ∈ ends r := by
  induction r generalizing j with
  | nil => cases hj
  | cons it0 r ih =>
    unfold ends
    cases j with
    | zero =>
      injection hj with hj
      subst hj
      rw [hd]
      exact List.mem_cons_self
    | succ j =>
      cases h0 : it0.dst with
      | none => exact ih hj
      | some d0 => exact List.mem_cons_of_mem _ (ih hj)
theorem ends_inj {r : List It} (hd : distinct (ends r) = true) : ∀ (i j : Nat) (it jt : It) (x y : Nat), r[i]? = some it → r[j]? = some jt → i ≠ j → it.dst = some x → jt.dst = some y → x ≠ y := by
  induction r with
  | nil => intro i j it jt x y h1; cases h1
  | cons it0 r ih =>
    intro i j it jt x y h1 h2 hne hx hy
    unfold ends at hd
    have tail : distinct (ends r) = true := by
      cases h0 : it0.dst with
      | none => rw [h0] at hd; exact hd
      | some d0 =>
        rw [h0] at hd
        unfold distinct at hd
        rw [Bool.and_eq_true] at hd
        exact hd.2
    have head : ∀ d0, it0.dst = some d0 → ∀ z ∈ ends r, z ≠ d0 := fun d0 h0 z hz e1 => by
      rw [h0] at hd
      unfold distinct at hd
      rw [Bool.and_eq_true] at hd
      have := List.all_eq_true.1 hd.1 z hz
      rw [e1, Nat.beq_refl] at this
      cases this
    cases i with
    | zero =>
      cases j with
      | zero => exact absurd rfl hne
      | succ j =>
        injection h1 with h1
        subst h1
        exact Ne.symm (head x hx y (ends_has h2 hy))
    | succ i =>
      cases j with
      | zero =>
        injection h2 with h2
        subst h2
        exact head y hy x (ends_has h1 hx)
      | succ j => exact ih tail i j it jt x y h1 h2 (by omega) hx hy
theorem tgtB_has {r : List It} {j k g : Nat} {t : Tid} {cs c : Array Value} {ps : List Nat} (hj : r[j]? = some (.sto k g t cs c ps)) : k ∈ tgtB r := by
  induction r generalizing j with
  | nil => cases hj
  | cons it r ih =>
    cases j with
    | zero =>
      injection hj with hj
      subst hj
      exact List.mem_cons_self
    | succ j =>
      have := ih (j := j) hj
      cases it <;> first | exact this | exact List.mem_cons_of_mem _ this
theorem tgtB_inj {r : List It} (hd : distinct (tgtB r) = true) : ∀ (i j k g g' : Nat) (t t' : Tid) (cs cs' c c' : Array Value) (ps ps' : List Nat), r[i]? = some (.sto k g t cs c ps) → r[j]? = some (.sto k g' t' cs' c' ps') → j = i := by
  induction r with
  | nil => intro i j k g g' t t' cs cs' c c' ps ps' h1; cases h1
  | cons it r ih =>
    intro i j k g g' t t' cs cs' c c' ps ps' h1 h2
    have tail : distinct (tgtB r) = true := by
      cases it <;> first | exact hd | (unfold tgtB distinct at hd; rw [Bool.and_eq_true] at hd; exact hd.2)
    have head : ∀ k g t cs c ps, it = .sto k g t cs c ps → k ∉ tgtB r := fun k g t cs c ps e1 hk => by
      subst e1
      unfold tgtB distinct at hd
      rw [Bool.and_eq_true] at hd
      have := List.all_eq_true.1 hd.1 k hk
      rw [Nat.beq_refl] at this
      cases this
    cases i with
    | zero =>
      cases j with
      | zero => rfl
      | succ j => exact absurd (tgtB_has (j := j) h2) (head _ _ _ _ _ _ (Option.some.inj h1))
    | succ i =>
      cases j with
      | zero => exact absurd (tgtB_has (j := i) h1) (head _ _ _ _ _ _ (Option.some.inj h2))
      | succ j => rw [ih tail i j k g g' t t' cs cs' c c' ps ps' h1 h2]
theorem tgtN_has {r : List It} {j k g : Nat} {t : TypeId} {cs c : Array Value} {ps : List Nat} (hj : r[j]? = some (.ston k g t cs c ps)) : k ∈ tgtN r := by
  induction r generalizing j with
  | nil => cases hj
  | cons it r ih =>
    cases j with
    | zero =>
      injection hj with hj
      subst hj
      exact List.mem_cons_self
    | succ j =>
      have := ih (j := j) hj
      cases it <;> first | exact this | exact List.mem_cons_of_mem _ this
theorem tgtN_inj {r : List It} (hd : distinct (tgtN r) = true) : ∀ (i j k g g' : Nat) (t t' : TypeId) (cs cs' c c' : Array Value) (ps ps' : List Nat), r[i]? = some (.ston k g t cs c ps) → r[j]? = some (.ston k g' t' cs' c' ps') → j = i := by
  induction r with
  | nil => intro i j k g g' t t' cs cs' c c' ps ps' h1; cases h1
  | cons it r ih =>
    intro i j k g g' t t' cs cs' c c' ps ps' h1 h2
    have tail : distinct (tgtN r) = true := by
      cases it <;> first | exact hd | (unfold tgtN distinct at hd; rw [Bool.and_eq_true] at hd; exact hd.2)
    have head : ∀ k g t cs c ps, it = .ston k g t cs c ps → k ∉ tgtN r := fun k g t cs c ps e1 hk => by
      subst e1
      unfold tgtN distinct at hd
      rw [Bool.and_eq_true] at hd
      have := List.all_eq_true.1 hd.1 k hk
      rw [Nat.beq_refl] at this
      cases this
    cases i with
    | zero =>
      cases j with
      | zero => rfl
      | succ j => exact absurd (tgtN_has (j := j) h2) (head _ _ _ _ _ _ (Option.some.inj h1))
    | succ i =>
      cases j with
      | zero => exact absurd (tgtN_has (j := i) h1) (head _ _ _ _ _ _ (Option.some.inj h2))
      | succ j => rw [ih tail i j k g g' t t' cs cs' c c' ps ps' h1 h2]
theorem readOk_get (hr : readOk ms plan = true) {i j k g d : Nat} {t : Tid} {cs c : Array Value} {ps qs hs : List Nat} {v : Value} (hj : plan[j]? = some (.sto k g t cs c ps)) (hi : plan[i]? = some (.val d v qs hs)) (hk : k ∈ hs) : (closeM ms j (ms.getD j 0)).testBit i = true := by
  have h1 := List.all_eq_true.1 hr j (List.mem_range.2 (List.getElem?_eq_some_iff.1 hj).1)
  rw [hj] at h1
  have h2 := List.all_eq_true.1 h1 i (List.mem_range.2 (List.getElem?_eq_some_iff.1 hi).1)
  rw [hi] at h2
  have hc : hs.contains k = true := by simpa using hk
  simp only [hc] at h2
  simpa using h2
theorem any_planS (hm : masks ops = ms) (hk : planOkS ops n e plan ms = true) (ho : ObsS P ops Q n w0 e h plan ops.toList plan)
    (fin : ∀ (G : Nat → Nat) a w, St n w0 a w (outS G 0 plan ++ e) (newS plan G 0 plan ++ heapS plan 0 h) → Q .normal a w) :
    ∀ (fuel : Nat) (l : Array Bool) (a : Act) (w : World) (G : Nat → Nat), l.size = ops.size → Down ops l → left l plan.length ≤ fuel → MidS plan n w0 e h l G a w → wpAny P .any ops Q fuel l a w := by
  unfold planOkS at hk
  simp only [Bool.and_eq_true] at hk
  obtain ⟨⟨⟨⟨⟨⟨⟨⟨k1, k2⟩, k3⟩, k4⟩, k5⟩, k6⟩, k7⟩, k8⟩, k9⟩ := hk
  have hlen : plan.length = ops.size := Nat.eq_of_beq_eq_true k1
  have nothing : ∀ l : Array Bool, l.size = ops.size → (∀ j, j < plan.length → l.getD j false = true) → Region.ready .any ops l = [] := fun l hs hall => by
    apply List.eq_nil_iff_forall_not_mem.2
    intro i hi
    obtain ⟨_, o, hoo, _⟩ := mem_ready.1 hi
    exact not_listed hi (hall i (by have := (Array.getElem?_eq_some_iff.1 hoo).1; omega))
  intro fuel
  induction fuel with
  | zero =>
    intro l a w G hs hd hf H
    have hall := left_zero (l := l) (m := plan.length) (by omega)
    exact ⟨nothing l hs hall, fin G a w (H.all hall)⟩
  | succ fuel ih =>
    intro l a w G hs hd hf H
    by_cases hall : ∀ j, j < plan.length → l.getD j false = true
    · exact ⟨fun _ => fin G a w (H.all hall), fun i hi => by rw [nothing l hs hall] at hi; cases hi⟩
    · have hex : ∃ i, i < plan.length ∧ ¬ l.getD i false = true := Classical.byContradiction fun hn => hall fun j hj => Classical.byContradiction fun hu => hn ⟨j, hj, hu⟩
      obtain ⟨i0, hi0, hu0, hlow⟩ := first_left _ hex
      refine ⟨fun hnil => ?_, fun i hr => ?_⟩
      · exfalso
        have hlt : i0 < ops.size := by omega
        have hin : i0 ∈ Region.ready .any ops l := by
          refine mem_ready.2 ⟨?_, ops[i0], Array.getElem?_eq_getElem hlt, fun x hx hb => hlow _ ?_⟩
          · have hl2 : i0 < l.size := by omega
            simp [Array.getElem?_eq_getElem hl2] at hu0 ⊢
            exact hu0
          · have hg := masks_get hm (Array.getElem?_eq_getElem hlt)
            have hx2 : (maskOf (waits ops[i0])).testBit x.on = true := maskOf_bit.2 (mem_waits.2 ⟨x, hx, hb, rfl⟩)
            have := downs_get k2 i0 _ hg x.on hx2
            omega
        rw [hnil] at hin
        cases hin
      · have hu := not_listed hr
        have hios : i < ops.size := by
          obtain ⟨_, o, hoo, _⟩ := mem_ready.1 hr
          exact (Array.getElem?_eq_some_iff.1 hoo).1
        have hilt : i < plan.length := by omega
        have hil : i < l.size := by omega
        have hit : plan[i]? = some plan[i] := List.getElem?_eq_getElem hilt
        have hoi : ops[i]? = some ops[i] := Array.getElem?_eq_getElem hios
        have hoi2 : ops.toList[i]? = some ops[i] := by simp [hios]
        have hob := obS_get ho i _ _ hoi2 hit
        have hdst := dstS_get k4 i _ _ hoi2 hit
        have hg := masks_get hm hoi
        have e2 : ms.getD i 0 = maskOf (waits ops[i]) := by simp [hg]
        have rw_ := ready_waits hm hr
        rw [e2] at rw_
        obtain ⟨p1, p2, p3⟩ := psS_get k3 i _ _ hg hit
        have hps : ∀ j ∈ plan[i].ps, l.getD j false = true := fun j hj => rw_ j (p1 j hj)
        have hend : ∀ d, plan[i].dst = some d → d < n ∧ ∀ p ∈ e, p.1 ≠ d := fun d hdd => by
          have h6 := List.all_eq_true.1 k6 d (ends_has hit hdd)
          rw [Bool.and_eq_true] at h6
          refine ⟨by have := h6.1; rw [Nat.blt_eq] at this; exact this, fun p hp e1 => ?_⟩
          have := List.all_eq_true.1 h6.2 p hp
          rw [e1, Nat.beq_refl] at this
          cases this
        have hdd : ∀ d, plan[i].dst = some d → ∀ (j : Nat) (jt : It) (x : Nat), plan[j]? = some jt → j ≠ i → jt.dst = some x → x ≠ d := fun d hd0 j jt x hj hne hx => ends_inj k5 j i jt plan[i] x d hj hit hne hx hd0
        have hs2 : (l.setIfInBounds i true).size = ops.size := by simpa using hs
        have hd2 := down_set hd hr
        have hf2 : left (l.setIfInBounds i true) plan.length ≤ fuel := by
          have := left_set (l := l) (i := i) (by omega) hu plan.length hilt
          omega
        unfold wpOp
        rw [hoi]
        dsimp only
        generalize hI : plan[i] = it at *
        cases it with
        | val d v ps hs0 =>
          obtain ⟨hdo, hw⟩ := hob
          have hno : ∀ k ∈ hs0, ∀ j g t cs c qs, plan[j]? = some (.sto k g t cs c qs) → ¬ l.getD j false = true := fun k hk0 j g t cs c qs hj hl => by
            have hjo : j < ops.size := by have := (List.getElem?_eq_some_iff.1 hj).1; omega
            have hc := readOk_get k9 hj hit hk0
            refine hu (close_listed hm hd hs j _ (fun x hx => ?_) i hc)
            have hgj := masks_get hm (Array.getElem?_eq_getElem hjo)
            have e3 : ms.getD j 0 = maskOf (waits ops[j]) := by simp [hgj]
            rw [e3, maskOf_bit, mem_waits] at hx
            obtain ⟨y, hy, hb, rfl⟩ := hx
            exact hd j _ (Array.getElem?_eq_getElem hjo) hl y hy hb
          have hst := H.part hps p2 hno
          have hst0 := H.part (hs := []) hps rfl (fun k hk0 => by cases hk0)
          rw [hw _ _ hst0, if_pos rfl]
          refine .inl (Oper.wp_mono (fun a' w' hx => ?_) (hdo _ _ hst))
          obtain ⟨rfl, hb⟩ := hx
          rw [hdst]
          exact ih _ _ _ G hs2 hd2 hf2 (H.put hit rfl (fun _ => rfl) (fun _ _ _ hc => by cases hc) (hend d rfl).1 (hend d rfl).2 (hdd d rfl) hb)
        | off d ps =>
          have hst0 := H.part (hs := []) hps rfl (fun k hk0 => by cases hk0)
          rw [hob _ _ hst0]
          rw [hdst]
          exact ih _ _ _ G hs2 hd2 hf2 (H.put hit rfl (fun _ => rfl) (fun _ _ _ hc => by cases hc) (hend d rfl).1 (hend d rfl).2 (hdd d rfl) (Below.refl _ _))
        | new d t z =>
          obtain ⟨hn, hgd⟩ := hob
          have hw : Region.wanted ops[i] (yielded ops a.tmps) = true := by simp [Region.wanted, hgd]
          rw [hw, if_pos rfl]
          left
          unfold Oper.wp
          rw [hn a w]
          show wpAny P .any ops Q fuel (l.setIfInBounds i true) (a.put ops[i].dst _) (w.alloc (.cells z t))
          rw [hdst]
          refine ih _ _ _ _ hs2 hd2 hf2 (H.more hit (fun i' d' t' z' c ps hi' hl' => ?_) (hend d rfl).1 (hend d rfl).2 (hdd d rfl))
          -- who writes it waits for it
          have hjo : i' < ops.size := by have := (List.getElem?_eq_some_iff.1 hi').1; omega
          have hgj := masks_get hm (Array.getElem?_eq_getElem hjo)
          have hb := (psS_get k3 i' _ _ hgj hi').2.2 _ _ _ _ _ _ rfl
          rw [maskOf_bit, mem_waits] at hb
          obtain ⟨y, hy, hbb, e4⟩ := hb
          have := hd i' _ (Array.getElem?_eq_getElem hjo) hl' y hy hbb
          rw [e4] at this
          exact hu this
        | sto k g t cs c ps =>
          obtain ⟨h1, hgd, hsto⟩ := hob
          have hw : Region.wanted ops[i] (yielded ops a.tmps) = true := by simp [Region.wanted, hgd]
          rw [hw, if_pos rfl]
          have hm1 : (g, t, cs) ∈ h := List.mem_iff_getElem?.2 ⟨k, h1⟩
          have hB := H.baseA k _ h1 fun j g' t' cs' c' ps' hj hl => by
            have := tgtB_inj k7 i j k g g' t t' cs cs' c c' ps ps' hit hj
            subst this
            exact hu hl
          have hst : St n w0 a w (depS plan ps ++ e) [(g, t, cs)] := by
            have h0 := H.part (hs := []) hps rfl (fun k hk0 => by cases hk0)
            refine ⟨h0.size, h0.defers, h0.env, h0.below, fun p hp => ?_, fun p hp => ?_, List.pairwise_singleton _ _⟩
            · rw [List.mem_singleton.1 hp]
              exact hB
            · rw [List.mem_singleton.1 hp]
              exact (H.own _ hm1).1
          refine .inl (Oper.wp_mono (fun a' w' hx => ?_) (hsto _ _ hst))
          obtain ⟨rfl, hss⟩ := hx
          rw [hdst]
          exact ih _ _ _ G hs2 hd2 hf2 (H.sto hit h1 (fun j g' t' cs' c' ps' hj => tgtB_inj k7 i j k g g' t t' cs cs' c c' ps ps' hit hj) hil hss)
        | ston j0 d0 t z c ps =>
          obtain ⟨h1, hgd, hsto⟩ := hob
          have hw : Region.wanted ops[i] (yielded ops a.tmps) = true := by simp [Region.wanted, hgd]
          rw [hw, if_pos rfl]
          have hl0 : l.getD j0 false = true := rw_ j0 (p3 _ _ _ _ _ _ rfl)
          have hB := H.newA j0 d0 t z h1 hl0 fun i' d' t' z' c' ps' hi' hl' => by
            have := tgtN_inj k8 i i' j0 d0 d' t t' z z' c c' ps ps' hit hi'
            subst this
            exact hu hl'
          have hst : St n w0 a w ((d0, .pointer (some ⟨G j0, 0, none⟩)) :: (depS plan ps ++ e)) [(G j0, t, z)] := by
            have h0 := H.part (hs := []) hps rfl (fun k hk0 => by cases hk0)
            refine ⟨h0.size, h0.defers, fun p hp => ?_, h0.below, fun p hp => ?_, fun p hp => ?_, List.pairwise_singleton _ _⟩
            · rcases List.mem_cons.1 hp with rfl | hp
              · exact H.vals j0 _ d0 h1 rfl hl0
              · exact h0.env p hp
            · rw [List.mem_singleton.1 hp]
              exact hB
            · rw [List.mem_singleton.1 hp]
              exact (H.news j0 d0 t z h1 hl0).1
          refine .inl (Oper.wp_mono (fun a' w' hx => ?_) (hsto (G j0) _ _ hst))
          obtain ⟨rfl, hss⟩ := hx
          rw [hdst]
          exact ih _ _ _ G hs2 hd2 hf2 (H.ston hit h1 hl0 (fun j d' t' z' c' ps' hj => tgtN_inj k8 i j j0 d0 d' t t' z z' c c' ps ps' hit hj) hil hss)
/-- **The region.** -/
theorem drawnS {id : Nat} (plan : List It) (ms : List Nat) (hf : P.follows .mixedOrders = true) (hm : masks ops = ms) (hk : planOkS ops n e plan ms = true) (H : St n w0 a w e h) (ho : ObsS P ops Q n w0 e h plan ops.toList plan)
    (fin : ∀ (G : Nat → Nat) a w, St n w0 a w (outS G 0 plan ++ e) (newS plan G 0 plan ++ heapS plan 0 h) → Q .normal a w) : (Code.region id ops true).wp P Q a w := by
  refine wp_region_any hf ?_
  have none_ : ∀ i, ¬ (Array.replicate ops.size false).getD i false = true := fun i hi => by
    by_cases h : i < ops.size
    · simp [h] at hi
    · simp [h] at hi
  have hlen : plan.length = ops.size := by
    unfold planOkS at hk
    simp only [Bool.and_eq_true] at hk
    exact Nat.eq_of_beq_eq_true hk.1.1.1.1.1.1.1.1
  refine any_planS hm hk ho fin ops.size _ a w.drew (fun _ => 0) (by simp) (fun i o _ hi => absurd hi (none_ i)) ?_
    ⟨H.size, H.defers, H.below.drew, H.env, fun j _ _ _ _ hj => absurd hj (none_ j), fun x hx => ⟨H.own x hx, (H.heap x hx).lt⟩, H.apart, fun k x hx _ => H.heap x (List.mem_iff_getElem?.2 ⟨k, hx⟩), fun k x j _ _ _ _ _ _ _ hl => absurd hl (none_ j), fun j _ _ _ _ hl => absurd hl (none_ j), fun j _ _ _ _ hl => absurd hl (none_ j), fun j _ _ _ _ _ _ _ _ _ _ hl => absurd hl (none_ j), fun j _ _ _ _ _ _ _ _ _ hl => absurd hl (none_ j)⟩
  have := left_le (Array.replicate ops.size false) plan.length
  omega
end
end Go.Proofs.Ytiebelmglchbdaa
