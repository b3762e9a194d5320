/- Words, contracts and walks (Vh, Vk, Ga, Vf, Ls, Co, Uw, Ca, Re, Mp, Mo, Ra, Rmu, Rpo, Rmi, Rc, Rg, Ru, Rz, Kt, Fi, Fkn, Lk, Lm, Frt, Fru, Li0, Pv, Gb), laid together. No condition. -/
import Derived.Test.YtpagiffbjofihaaGreatDoorZb
import Derived.Laws.CopyRow
import Derived.Deep.MidRow
import Derived.Deep.RegionLaw
import Derived.Maps.AppendAt
import Derived.Laws.OwnMore
import Derived.Deep.DeepCutAuto
import Derived.Deep.CutBlock
import Derived.Deep.RegionWith
import Derived.Great.BuildSlice
import Derived.Great.Walk
import Derived.ArgAppend
namespace Go.Proofs.YtpagiffbjofihaaGreatDoor
set_option linter.unusedVariables false
set_option linter.unusedSimpArgs false
set_option maxHeartbeats 16000000
open Go
open _root_.Go.Proofs.Tryz renaming prog → zP
open List renaming getElem_toArray → lA,getElem_cons_succ → lB,getElem_cons_zero → lC,setIfInBounds_toArray → lD,set_cons_zero → lE,set_cons_succ → lF
section
open Go Go.RowKit
section
variable {P:Program} {n:Nat} {w0 w w':World} {a:Act} {e:Env} {h:Hep} {Q:Exit→Act→World→Prop} {ops:Array Oper} {plan:List It} {ms:List Nat}
structure MidS (plan:List It) (n:Nat) (w0:World) (e:Env) (h:Hep) (l:Array Bool) (G:Nat→Nat) (a:Act) (w:World):Prop where
 size:a.tmps.size=n
 defers:a.defers=[]
 below:Below w0.heap.size w0 w
 env:∀ p∈e,a.tmps[p.1]?=some p.2
 vals:∀ (j:Nat) (it:It) (d:Nat),plan[j]?=some it→it.dst=some d→l.getD j false=true→a.tmps[d]?=some (it.out (G j))
 own:∀ x∈h,w0.heap.size≤x.1∧x.1<w.heap.size
 apart:h.Pairwise (fun p q=>p.1≠q.1)
 baseA:∀ (k:Nat) (x:Nat × TypeId × Array Value),h[k]?=some x→(∀ j g t cs c ps,plan[j]?=some (.sto k g t cs c ps)→¬ l.getD j false=true)→Blk w x.1 x.2.1 x.2.2
 baseB:∀ (k:Nat) (x:Nat × TypeId × Array Value) (j g:Nat) (t:TypeId) (cs c:Array Value) (ps:List Nat),h[k]?=some x→plan[j]?=some (.sto k g t cs c ps)→l.getD j false=true→Blk w x.1 x.2.1 c
 news:∀ (j d:Nat) (t:TypeId) (z:Array Value),plan[j]?=some (.new d t z)→l.getD j false=true→w0.heap.size≤G j∧G j<w.heap.size∧∀ x∈h,x.1≠G j
 newA:∀ (j d:Nat) (t:TypeId) (z:Array Value),plan[j]?=some (.new d t z)→l.getD j false=true→(∀ i d' t' z' c ps,plan[i]?=some (.ston j d' t' z' c ps)→¬ l.getD i false=true)→Blk w (G j) t z
 newB:∀ (j d:Nat) (t:TypeId) (z:Array Value) (i d':Nat) (t':TypeId) (z' c:Array Value) (ps:List Nat),plan[j]?=some (.new d t z)→l.getD j false=true→plan[i]?=some (.ston j d' t' z' c ps)→l.getD i false=true→Blk w (G j) t c
 dist:∀ (j k d:Nat) (t:TypeId) (z:Array Value) (d':Nat) (t':TypeId) (z':Array Value),plan[j]?=some (.new d t z)→plan[k]?=some (.new d' t' z')→l.getD j false=true→l.getD k false=true→j≠k→G j≠G k
theorem bT {l:Array Bool} {i j:Nat} (hne:j≠i):(l.setIfInBounds i true).getD j false=l.getD j false:=getD_set_ne false (Ne.symm hne)
theorem oV {a:Act} {d k:Nat} {v x:Value} (hne:k≠d) (hx:a.tmps[k]?=some x):(a.put (some d) v).tmps[k]?=some x:=by
 show (a.tmps.setIfInBounds d v)[k]?=some x
 rw [Array.getElem?_setIfInBounds_ne (Ne.symm hne)]
 exact hx
theorem MidS.put {l:Array Bool} {G:Nat→Nat} (H:MidS plan n w0 e h l G a w) {i d:Nat} {it:It} {v:Value} (hi:plan[i]?=some it) (hdst:it.dst=some d) (hv:∀ g,it.out g=v) (hnew:∀ d t z,it≠.new d t z) (hlt:d<n) (he:∀ p∈e,p.1≠d)
  (hd:∀ (j:Nat) (jt:It) (x:Nat),plan[j]?=some jt→j≠i→jt.dst=some x→x≠d) (hb:Below w.heap.size w w'):MidS plan n w0 e h (l.setIfInBounds i true) G (a.put (some d) v) w':=by
 have hlt':d<a.tmps.size:=by rw [H.size];exact hlt
 have ni:∀ (j:Nat) (jt:It),plan[j]?=some jt→jt≠it→j≠i:=fun j jt hj hne e1=>by
  subst e1
  rw [hi] at hj
  exact hne (Option.some.inj hj).symm
 have nsto:∀ k g t cs c ps,It.sto k g t cs c ps≠it:=fun k g t cs c ps e1=>by rw [←e1] at hdst;cases hdst
 have nston:∀ j d t z c ps,It.ston j d t z c ps≠it:=fun k g t cs c ps e1=>by rw [←e1] at hdst;cases hdst
 have nnew:∀ d t z,It.new d t z≠it:=fun d t z e1=>hnew d t z e1.symm
 refine ⟨by simp [Act.put,H.size],H.defers,H.below.trans (hb.mono H.below.size),fun p hp=>oV (he p hp) (H.env p hp),fun j jt x hj hx hl=>?_,fun x hx=>⟨(H.own x hx).1,Nat.lt_of_lt_of_le (H.own x hx).2 hb.size⟩,H.apart,fun k x hx hno=>?_,fun k x j g t cs c ps hx hj hl=>?_,fun j d t z hj hl=>?_,fun j d t z hj hl hno=>?_,fun j d t z i' d' t' z' c ps hj hl hi' hl'=>?_,fun j k d t z d' t' z' hj hk hlj hlk hne=>?_⟩
 ·
  by_cases hji:j=i
  ·
   subst hji
   rw [hi] at hj
   injection hj with hj
   subst hj
   rw [hdst] at hx
   injection hx with hx
   subst hx
   rw [hv]
   show (a.tmps.setIfInBounds d v)[d]?=some v
   simp [hlt']
  ·
   rw [bT hji] at hl
   exact oV (hd j jt x hj hji hx) (H.vals j jt x hj hx hl)
 ·
  have hB:=H.baseA k x hx fun j g t cs c ps hj hl=>hno j g t cs c ps hj (by rw [bT (ni j _ hj (nsto _ _ _ _ _ _))];exact hl)
  exact hB.below hb hB.lt
 ·
  rw [bT (ni j _ hj (nsto _ _ _ _ _ _))] at hl
  have hB:=H.baseB k x j g t cs c ps hx hj hl
  exact hB.below hb hB.lt
 ·
  rw [bT (ni j _ hj (nnew _ _ _))] at hl
  obtain ⟨h1,h2,h3⟩:=H.news j d t z hj hl
  exact ⟨h1,Nat.lt_of_lt_of_le h2 hb.size,h3⟩
 ·
  rw [bT (ni j _ hj (nnew _ _ _))] at hl
  have hB:=H.newA j d t z hj hl fun i' d' t' z' c ps hi' hl'=>hno i' d' t' z' c ps hi' (by rw [bT (ni i' _ hi' (nston _ _ _ _ _ _))];exact hl')
  exact hB.below hb hB.lt
 ·
  rw [bT (ni j _ hj (nnew _ _ _))] at hl
  rw [bT (ni i' _ hi' (nston _ _ _ _ _ _))] at hl'
  have hB:=H.newB j d t z i' d' t' z' c ps hj hl hi' hl'
  exact hB.below hb hB.lt
 ·
  rw [bT (ni j _ hj (nnew _ _ _))] at hlj
  rw [bT (ni k _ hk (nnew _ _ _))] at hlk
  exact H.dist j k d t z d' t' z' hj hk hlj hlk hne
theorem MidS.more {l:Array Bool} {G:Nat→Nat} (H:MidS plan n w0 e h l G a w) {i d:Nat} {t:TypeId} {z:Array Value} (hi:plan[i]?=some (.new d t z)) (hu:∀ i' d' t' z' c ps,plan[i']?=some (.ston i d' t' z' c ps)→¬ l.getD i' false=true) (hlt:d<n) (he:∀ p∈e,p.1≠d)
  (hd:∀ (j:Nat) (jt:It) (x:Nat),plan[j]?=some jt→j≠i→jt.dst=some x→x≠d):MidS plan n w0 e h (l.setIfInBounds i true) (fun j=>if j=i then w.heap.size else G j) (a.put (some d) (.pointer (some ⟨w.heap.size,0,none⟩))) (w.alloc (.cells z t)):=by
 have hlt':d<a.tmps.size:=by rw [H.size];exact hlt
 have hsz:w.heap.size<(w.alloc (.cells z t)).heap.size:=(Blk.new w t z).lt
 have nsto:∀ (j k g:Nat) (t':TypeId) (cs c:Array Value) (ps:List Nat),plan[j]?=some (.sto k g t' cs c ps)→j≠i:=fun j k g t' cs c ps hj e1=>by subst e1;rw [hi] at hj;cases hj
 have nston:∀ (j k g:Nat) (t':TypeId) (cs c:Array Value) (ps:List Nat),plan[j]?=some (.ston k g t' cs c ps)→j≠i:=fun j k g t' cs c ps hj e1=>by subst e1;rw [hi] at hj;cases hj
 refine ⟨by simp [Act.put,H.size],H.defers,H.below.alloc H.below.size _,fun p hp=>oV (he p hp) (H.env p hp),fun j jt x hj hx hl=>?_,fun x hx=>⟨(H.own x hx).1,Nat.lt_trans (H.own x hx).2 hsz⟩,H.apart,fun k x hx hno=>?_,fun k x j g t cs c ps hx hj hl=>?_,fun j d' t' z' hj hl=>?_,fun j d' t' z' hj hl hno=>?_,fun j d1 t1 z1 i' d' t' z' c ps hj hl hi' hl'=>?_,fun j k d1 t1 z1 d2 t2 z2 hj hk hlj hlk hne=>?_⟩
 ·
  by_cases hji:j=i
  ·
   subst hji
   rw [hi] at hj
   injection hj with hj
   subst hj
   injection hx with hx
   subst hx
   rw [if_pos rfl]
   show (a.tmps.setIfInBounds d _)[d]?=some _
   simp [hlt',It.out]
  ·
   rw [bT hji] at hl
   rw [if_neg hji]
   exact oV (hd j jt x hj hji hx) (H.vals j jt x hj hx hl)
 ·
  exact (H.baseA k x hx fun j g t cs c ps hj hl=>hno j g t cs c ps hj (by rw [bT (nsto j k g t cs c ps hj)];exact hl)).alloc _
 ·
  rw [bT (nsto j k g t cs c ps hj)] at hl
  exact (H.baseB k x j g t cs c ps hx hj hl).alloc _
 ·
  by_cases hji:j=i
  ·
   rw [if_pos hji]
   exact ⟨H.below.size,hsz,fun x hx=>Nat.ne_of_lt (H.own x hx).2⟩
  ·
   rw [bT hji] at hl
   rw [if_neg hji]
   obtain ⟨h1,h2,h3⟩:=H.news j d' t' z' hj hl
   exact ⟨h1,Nat.lt_trans h2 hsz,h3⟩
 ·
  by_cases hji:j=i
  ·
   subst hji
   rw [hi] at hj
   injection hj with hj
   injection hj with h1 h2 h3
   subst h1 h2 h3
   rw [if_pos rfl]
   exact Blk.new _ _ _
  ·
   rw [bT hji] at hl
   rw [if_neg hji]
   exact (H.newA j d' t' z' hj hl fun i' d' t' z' c ps hi' hl'=>hno i' d' t' z' c ps hi' (by rw [bT (nston i' j d' t' z' c ps hi')];exact hl')).alloc _
 ·
  rw [bT (nston i' j d' t' z' c ps hi')] at hl'
  by_cases hji:j=i
  ·
   subst hji
   exact absurd hl' (hu i' d' t' z' c ps hi')
  ·
   rw [bT hji] at hl
   rw [if_neg hji]
   exact (H.newB j d1 t1 z1 i' d' t' z' c ps hj hl hi' hl').alloc _
 ·
  by_cases hji:j=i
  ·
   by_cases hki:k=i
   ·
    omega
   ·
    rw [bT hki] at hlk
    rw [if_pos hji,if_neg hki]
    have:=(H.news k d2 t2 z2 hk hlk).2.1
    omega
  ·
   rw [bT hji] at hlj
   by_cases hki:k=i
   ·
    rw [if_neg hji,if_pos hki]
    have:=(H.news j d1 t1 z1 hj hlj).2.1
    omega
   ·
    rw [bT hki] at hlk
    rw [if_neg hji,if_neg hki]
    exact H.dist j k d1 t1 z1 d2 t2 z2 hj hk hlj hlk hne
theorem MidS.sto {l:Array Bool} {G:Nat→Nat} (H:MidS plan n w0 e h l G a w) {i k g:Nat} {t:TypeId} {cs c:Array Value} {ps:List Nat} (hi:plan[i]?=some (.sto k g t cs c ps)) (hk:h[k]?=some (g,t,cs))
  (hinj:∀ (j:Nat) (g':Nat) (t':TypeId) (cs' c':Array Value) (ps':List Nat),plan[j]?=some (.sto k g' t' cs' c' ps')→j=i) (hil:i<l.size) (hs:Stores w w' g t c):MidS plan n w0 e h (l.setIfInBounds i true) G a w':=by
 obtain ⟨hs1,hs2,hs3,hs4⟩:=hs
 have hm:(g,t,cs)∈h:=List.mem_iff_getElem?.2 ⟨k,hk⟩
 have hg:=H.own _ hm
 have ni:∀ (j:Nat) (jt:It),plan[j]?=some jt→(∀ k g t cs c ps,jt≠.sto k g t cs c ps)→j≠i:=fun j jt hj hne e1=>by
  subst e1
  rw [hi] at hj
  exact hne k g t cs c ps (Option.some.inj hj).symm
 refine ⟨H.size,H.defers,hs3 _ _ hg.1 H.below,H.env,fun j jt x hj hx hl=>?_,fun x hx=>⟨(H.own x hx).1,Nat.lt_of_lt_of_le (H.own x hx).2 hs4⟩,H.apart,fun k' x hx hno=>?_,fun k' x j g' t' cs' c' ps' hx hj hl=>?_,fun j d t z hj hl=>?_,fun j d t z hj hl hno=>?_,fun j d t z i' d' t' z' c ps hj hl hi' hl'=>?_,fun j k d t z d' t' z' hj hk hlj hlk hne=>?_⟩
 ·
  have hji:=ni j jt hj (fun k g t cs c ps e1=>by rw [e1] at hx;cases hx)
  rw [bT hji] at hl
  exact H.vals j jt x hj hx hl
 ·
  by_cases hkk:k'=k
  ·
   subst hkk
   exact absurd (by simp [hil]) (hno i g t cs c ps hi)
  ·
   exact hs2 _ _ _ (pw_ne H.apart hkk hx hk) (H.baseA k' x hx fun j g' t' cs' c' ps' hj hl=>hno j g' t' cs' c' ps' hj (getD_set_true hl))
 ·
  by_cases hji:j=i
  ·
   subst hji
   rw [hi] at hj
   injection hj with hj
   injection hj with e1 e2 e3 e4 e5 e6
   subst e1 e5
   rw [hk] at hx
   injection hx with hx
   subst hx
   exact hs1
  ·
   rw [bT hji] at hl
   have hkk:k'≠k:=fun e1=>hji (hinj j g' t' cs' c' ps' (by rw [←e1];exact hj))
   exact hs2 _ _ _ (pw_ne H.apart hkk hx hk) (H.baseB k' x j g' t' cs' c' ps' hx hj hl)
 ·
  rw [bT (ni j _ hj (fun _ _ _ _ _ _ e1=>by cases e1))] at hl
  obtain ⟨h1,h2,h3⟩:=H.news j d t z hj hl
  exact ⟨h1,Nat.lt_of_lt_of_le h2 hs4,h3⟩
 ·
  rw [bT (ni j _ hj (fun _ _ _ _ _ _ e1=>by cases e1))] at hl
  have h3:=(H.news j d t z hj hl).2.2 _ hm
  exact hs2 _ _ _ (Ne.symm h3) (H.newA j d t z hj hl fun i' d' t' z' c ps hi' hl'=>hno i' d' t' z' c ps hi' (getD_set_true hl'))
 ·
  rw [bT (ni j _ hj (fun _ _ _ _ _ _ e1=>by cases e1))] at hl
  rw [bT (ni i' _ hi' (fun _ _ _ _ _ _ e1=>by cases e1))] at hl'
  have h3:=(H.news j d t z hj hl).2.2 _ hm
  exact hs2 _ _ _ (Ne.symm h3) (H.newB j d t z i' d' t' z' c ps hj hl hi' hl')
 ·
  rw [bT (ni j _ hj (fun _ _ _ _ _ _ e1=>by cases e1))] at hlj
  rw [bT (ni k _ hk (fun _ _ _ _ _ _ e1=>by cases e1))] at hlk
  exact H.dist j k d t z d' t' z' hj hk hlj hlk hne
theorem MidS.ston {l:Array Bool} {G:Nat→Nat} (H:MidS plan n w0 e h l G a w) {i j0 d0:Nat} {t:TypeId} {z c:Array Value} {ps:List Nat} (hi:plan[i]?=some (.ston j0 d0 t z c ps)) (hj0:plan[j0]?=some (.new d0 t z)) (hl0:l.getD j0 false=true)
  (hinj:∀ (j:Nat) (d':Nat) (t':TypeId) (z' c':Array Value) (ps':List Nat),plan[j]?=some (.ston j0 d' t' z' c' ps')→j=i) (hil:i<l.size) (hs:Stores w w' (G j0) t c):MidS plan n w0 e h (l.setIfInBounds i true) G a w':=by
 obtain ⟨hs1,hs2,hs3,hs4⟩:=hs
 obtain ⟨hg1,hg2,hg3⟩:=H.news j0 d0 t z hj0 hl0
 have ni:∀ (j:Nat) (jt:It),plan[j]?=some jt→(∀ k g t cs c ps,jt≠.ston k g t cs c ps)→j≠i:=fun j jt hj hne e1=>by
  subst e1
  rw [hi] at hj
  exact hne j0 d0 t z c ps (Option.some.inj hj).symm
 refine ⟨H.size,H.defers,hs3 _ _ hg1 H.below,H.env,fun j jt x hj hx hl=>?_,fun x hx=>⟨(H.own x hx).1,Nat.lt_of_lt_of_le (H.own x hx).2 hs4⟩,H.apart,fun k' x hx hno=>?_,fun k' x j g' t' cs' c' ps' hx hj hl=>?_,fun j d t z hj hl=>?_,fun j d t z hj hl hno=>?_,fun j d1 t1 z1 i' d' t' z' c' ps' hj hl hi' hl'=>?_,fun j k d t z d' t' z' hj hk hlj hlk hne=>?_⟩
 ·
  have hji:=ni j jt hj (fun k g t cs c ps e1=>by rw [e1] at hx;cases hx)
  rw [bT hji] at hl
  exact H.vals j jt x hj hx hl
 ·
  exact hs2 _ _ _ (hg3 x (List.mem_iff_getElem?.2 ⟨k',hx⟩)) (H.baseA k' x hx fun j g' t' cs' c' ps' hj hl=>hno j g' t' cs' c' ps' hj (getD_set_true hl))
 ·
  rw [bT (ni j _ hj (fun _ _ _ _ _ _ e1=>by cases e1))] at hl
  exact hs2 _ _ _ (hg3 x (List.mem_iff_getElem?.2 ⟨k',hx⟩)) (H.baseB k' x j g' t' cs' c' ps' hx hj hl)
 ·
  rw [bT (ni j _ hj (fun _ _ _ _ _ _ e1=>by cases e1))] at hl
  obtain ⟨h1,h2,h3⟩:=H.news j d t z hj hl
  exact ⟨h1,Nat.lt_of_lt_of_le h2 hs4,h3⟩
 ·
  rw [bT (ni j _ hj (fun _ _ _ _ _ _ e1=>by cases e1))] at hl
  by_cases hjj:j=j0
  ·
   subst hjj
   exact absurd (by simp [hil]) (hno i d0 _ _ c ps hi)
  ·
   exact hs2 _ _ _ (H.dist j j0 d t z d0 _ _ hj hj0 hl hl0 hjj) (H.newA j d t z hj hl fun i' d' t' z' c ps hi' hl'=>hno i' d' t' z' c ps hi' (getD_set_true hl'))
 ·
  rw [bT (ni j _ hj (fun _ _ _ _ _ _ e1=>by cases e1))] at hl
  by_cases hii:i'=i
  ·
   subst hii
   rw [hi] at hi'
   injection hi' with hi'
   injection hi' with e1 e2 e3 e4 e5 e6
   subst e1 e5
   rw [hj0] at hj
   injection hj with hj
   injection hj with f1 f2 f3
   subst f2
   exact hs1
  ·
   rw [bT hii] at hl'
   have hjj:j≠j0:=fun e1=>hii (hinj i' d' t' z' c' ps' (by rw [←e1];exact hi'))
   exact hs2 _ _ _ (H.dist j j0 d1 t1 z1 d0 _ _ hj hj0 hl hl0 hjj) (H.newB j d1 t1 z1 i' d' t' z' c' ps' hj hl hi' hl')
 ·
  rw [bT (ni j _ hj (fun _ _ _ _ _ _ e1=>by cases e1))] at hlj
  rw [bT (ni k _ hk (fun _ _ _ _ _ _ e1=>by cases e1))] at hlk
  exact H.dist j k d t z d' t' z' hj hk hlj hlk hne
theorem outS_mem {G:Nat→Nat} {k:Nat} {r:List It} {p:Nat × Value} (hp:p∈outS G k r):∃ (j:Nat) (it:It) (d:Nat),r[j]?=some it∧it.dst=some d∧p=(d,it.out (G (k+j))):=by
 induction r generalizing k with
 | nil=>cases hp
 | cons it r ih =>
  have go:p∈outS G (k+1) r→∃ (j:Nat) (jt:It) (d:Nat),(it::r)[j]?=some jt∧jt.dst=some d∧p=(d,jt.out (G (k+j))):=fun hp=>by
   obtain ⟨j,it',d,h1,h2,rfl⟩:=ih hp
   exact ⟨j+1,it',d,h1,h2,by rw [show k+(j+1)=k+1+j by omega]⟩
  unfold outS at hp
  cases hd:it.dst with
  | none=>rw [hd] at hp;exact go hp
  | some d =>
   rw [hd] at hp
   rcases List.mem_cons.1 hp with rfl | hp
   ·
    exact ⟨0,it,d,rfl,hd,rfl⟩
   ·
    exact go hp
theorem endB_spec {k:Nat} {cs:Array Value} (r:List It):(∃ (j g:Nat) (t:TypeId) (cs' c:Array Value) (ps:List Nat),r[j]?=some (.sto k g t cs' c ps)∧endB r k cs=c)∨((∀ (j g:Nat) (t:TypeId) (cs' c:Array Value) (ps:List Nat),r[j]?≠some (.sto k g t cs' c ps))∧endB r k cs=cs):=by
 induction r with
 | nil=>exact .inr ⟨(fun j g t cs' c ps hj=>by cases hj),rfl⟩
 | cons it r ih =>
  have go:(∀ g t cs' c ps,it≠.sto k g t cs' c ps)→endB (it::r) k cs=endB r k cs→(∃ (j g:Nat) (t:TypeId) (cs' c:Array Value) (ps:List Nat),(it::r)[j]?=some (.sto k g t cs' c ps)∧endB (it::r) k cs=c)∨((∀ (j g:Nat) (t:TypeId) (cs' c:Array Value) (ps:List Nat),(it::r)[j]?≠some (.sto k g t cs' c ps))∧endB (it::r) k cs=cs):=fun hne he=>by
   rw [he]
   rcases ih with ⟨j,g,t,cs',c,ps,h1,h2⟩ | ⟨h1,h2⟩
   ·
    exact .inl ⟨j+1,g,t,cs',c,ps,h1,h2⟩
   ·
    refine .inr ⟨fun j g t cs' c ps hj=>?_,h2⟩
    cases j with
    | zero=>exact hne g t cs' c ps (Option.some.inj hj)
    | succ j=>exact h1 j g t cs' c ps hj
  cases it with
  | val d v ps hs=>exact go (fun _ _ _ _ _ e1=>by cases e1) rfl
  | off d ps=>exact go (fun _ _ _ _ _ e1=>by cases e1) rfl
  | new d t z=>exact go (fun _ _ _ _ _ e1=>by cases e1) rfl
  | ston j d t z c ps=>exact go (fun _ _ _ _ _ e1=>by cases e1) rfl
  | sto k' g t cs' c ps =>
   cases hb:Nat.beq k' k with
   | true =>
    have hk:=Nat.eq_of_beq_eq_true hb
    subst hk
    refine .inl ⟨0,g,t,cs',c,ps,rfl,?_⟩
    unfold endB
    rw [hb]
    rfl
   | false =>
    refine go (fun _ _ _ _ _ e1=>?_) ?_
    ·
     injection e1 with e1
     rw [e1,Nat.beq_refl] at hb
     cases hb
    ·
     show (bif Nat.beq k' k then c else endB r k cs)=_
     rw [hb]
     rfl
theorem endN_spec {k:Nat} {cs:Array Value} (r:List It):(∃ (j g:Nat) (t:TypeId) (cs' c:Array Value) (ps:List Nat),r[j]?=some (.ston k g t cs' c ps)∧endN r k cs=c)∨((∀ (j g:Nat) (t:TypeId) (cs' c:Array Value) (ps:List Nat),r[j]?≠some (.ston k g t cs' c ps))∧endN r k cs=cs):=by
 induction r with
 | nil=>exact .inr ⟨(fun j g t cs' c ps hj=>by cases hj),rfl⟩
 | cons it r ih =>
  have go:(∀ g t cs' c ps,it≠.ston k g t cs' c ps)→endN (it::r) k cs=endN r k cs→(∃ (j g:Nat) (t:TypeId) (cs' c:Array Value) (ps:List Nat),(it::r)[j]?=some (.ston k g t cs' c ps)∧endN (it::r) k cs=c)∨((∀ (j g:Nat) (t:TypeId) (cs' c:Array Value) (ps:List Nat),(it::r)[j]?≠some (.ston k g t cs' c ps))∧endN (it::r) k cs=cs):=fun hne he=>by
   rw [he]
   rcases ih with ⟨j,g,t,cs',c,ps,h1,h2⟩ | ⟨h1,h2⟩
   ·
    exact .inl ⟨j+1,g,t,cs',c,ps,h1,h2⟩
   ·
    refine .inr ⟨fun j g t cs' c ps hj=>?_,h2⟩
    cases j with
    | zero=>exact hne g t cs' c ps (Option.some.inj hj)
    | succ j=>exact h1 j g t cs' c ps hj
  cases it with
  | val d v ps hs=>exact go (fun _ _ _ _ _ e1=>by cases e1) rfl
  | off d ps=>exact go (fun _ _ _ _ _ e1=>by cases e1) rfl
  | new d t z=>exact go (fun _ _ _ _ _ e1=>by cases e1) rfl
  | sto j d t z c ps=>exact go (fun _ _ _ _ _ e1=>by cases e1) rfl
  | ston k' g t cs' c ps =>
   cases hb:Nat.beq k' k with
   | true =>
    have hk:=Nat.eq_of_beq_eq_true hb
    subst hk
    refine .inl ⟨0,g,t,cs',c,ps,rfl,?_⟩
    unfold endN
    rw [hb]
    rfl
   | false =>
    refine go (fun _ _ _ _ _ e1=>?_) ?_
    ·
     injection e1 with e1
     rw [e1,Nat.beq_refl] at hb
     cases hb
    ·
     show (bif Nat.beq k' k then c else endN r k cs)=_
     rw [hb]
     rfl
theorem nE {k:Nat} {r:Hep} {p:Nat × TypeId × Array Value} (hp:p∈heapS plan k r):∃ (j:Nat) (x:Nat × TypeId × Array Value),r[j]?=some x∧p=(x.1,x.2.1,endB plan (k+j) x.2.2):=by
 induction r generalizing k with
 | nil=>cases hp
 | cons x r ih =>
  rcases List.mem_cons.1 hp with rfl | hp
  ·
   exact ⟨0,x,rfl,rfl⟩
  ·
   obtain ⟨j,y,h1,rfl⟩:=ih hp
   exact ⟨j+1,y,h1,by rw [show k+(j+1)=k+1+j by omega]⟩
theorem heapS_pw {k:Nat} {r:Hep} (hp:r.Pairwise (fun p q=>p.1≠q.1)):(heapS plan k r).Pairwise (fun p q=>p.1≠q.1):=by
 induction r generalizing k with
 | nil=>exact List.Pairwise.nil
 | cons x r ih =>
  obtain ⟨h1,h2⟩:=List.pairwise_cons.1 hp
  refine List.pairwise_cons.2 ⟨fun p hp=>?_,ih h2⟩
  obtain ⟨j,y,hj,rfl⟩:=nE hp
  exact h1 y (List.mem_iff_getElem?.2 ⟨j,hj⟩)
theorem pG {G:Nat→Nat} {k:Nat} {r:List It} {p:Nat × TypeId × Array Value} (hp:p∈newS plan G k r):∃ (j d:Nat) (t:TypeId) (z:Array Value),r[j]?=some (.new d t z)∧p=(G (k+j),t,endN plan (k+j) z):=by
 induction r generalizing k with
 | nil=>cases hp
 | cons it r ih =>
  have go:p∈newS plan G (k+1) r→∃ (j d:Nat) (t:TypeId) (z:Array Value),(it::r)[j]?=some (.new d t z)∧p=(G (k+j),t,endN plan (k+j) z):=fun hp=>by
   obtain ⟨j,d,t,z,h1,rfl⟩:=ih hp
   exact ⟨j+1,d,t,z,h1,by rw [show k+(j+1)=k+1+j by omega]⟩
  cases it with
  | val d v ps hs=>exact go hp
  | off d ps=>exact go hp
  | sto k g t cs c ps=>exact go hp
  | ston k g t cs c ps=>exact go hp
  | new d t z =>
   rcases List.mem_cons.1 hp with rfl | hp
   ·
    exact ⟨0,d,t,z,rfl,rfl⟩
   ·
    exact go hp
theorem newS_pw {G:Nat→Nat} {k:Nat} {r:List It} (hd:∀ (i j d:Nat) (t:TypeId) (z:Array Value) (d':Nat) (t':TypeId) (z':Array Value),r[i]?=some (.new d t z)→r[j]?=some (.new d' t' z')→i≠j→G (k+i)≠G (k+j)):(newS plan G k r).Pairwise (fun p q=>p.1≠q.1):=by
 induction r generalizing k with
 | nil=>exact List.Pairwise.nil
 | cons it r ih =>
  have go:(newS plan G (k+1) r).Pairwise (fun p q=>p.1≠q.1):=ih fun i j d t z d' t' z' h1 h2 hne=>by
   have:=hd (i+1) (j+1) d t z d' t' z' h1 h2 (by omega)
   rw [show k+1+i=k+(i+1) by omega,show k+1+j=k+(j+1) by omega]
   exact this
  cases it with
  | val d v ps hs=>exact go
  | off d ps=>exact go
  | sto k g t cs c ps=>exact go
  | ston k g t cs c ps=>exact go
  | new d t z =>
   refine List.pairwise_cons.2 ⟨fun p hp=>?_,go⟩
   obtain ⟨j,d',t',z',h1,rfl⟩:=pG hp
   have:=hd 0 (j+1) d t z d' t' z' rfl h1 (by omega)
   rw [show k+1+j=k+(j+1) by omega]
   exact this
theorem MidS.all {l:Array Bool} {G:Nat→Nat} (H:MidS plan n w0 e h l G a w) (hl:∀ i,i<plan.length→l.getD i false=true):St n w0 a w (outS G 0 plan++e) (newS plan G 0 plan++heapS plan 0 h):=by
 have lt:∀ {j:Nat} {it:It},plan[j]?=some it→l.getD j false=true:=fun hj=>hl _ (List.getElem?_eq_some_iff.1 hj).1
 refine ⟨H.size,H.defers,fun p hp=>?_,H.below,fun p hp=>?_,fun p hp=>?_,List.pairwise_append.2 ⟨newS_pw fun i j d t z d' t' z' h1 h2 hne=>?_,heapS_pw H.apart,fun p hp q hq=>?_⟩⟩
 ·
  rcases List.mem_append.1 hp with hp | hp
  ·
   obtain ⟨j,it,d,h1,h2,rfl⟩:=outS_mem hp
   rw [Nat.zero_add]
   exact H.vals j it d h1 h2 (lt h1)
  ·
   exact H.env p hp
 ·
  rcases List.mem_append.1 hp with hp | hp
  ·
   obtain ⟨j,d,t,z,h1,rfl⟩:=pG hp
   rw [Nat.zero_add]
   rcases endN_spec (k:=j) (cs:=z) plan with ⟨i,d',t',z',c,ps,h2,h3⟩ | ⟨h2,h3⟩
   ·
    rw [h3]
    exact H.newB j d t z i d' t' z' c ps h1 (lt h1) h2 (lt h2)
   ·
    rw [h3]
    exact H.newA j d t z h1 (lt h1) fun i d' t' z' c ps hi _=>h2 i d' t' z' c ps hi
  ·
   obtain ⟨k,x,h1,rfl⟩:=nE hp
   rw [Nat.zero_add]
   rcases endB_spec (k:=k) (cs:=x.2.2) plan with ⟨i,g,t',cs',c,ps,h2,h3⟩ | ⟨h2,h3⟩
   ·
    rw [h3]
    exact H.baseB k x i g t' cs' c ps h1 h2 (lt h2)
   ·
    rw [h3]
    exact H.baseA k x h1 fun i g t' cs' c ps hi _=>h2 i g t' cs' c ps hi
 ·
  rcases List.mem_append.1 hp with hp | hp
  ·
   obtain ⟨j,d,t,z,h1,rfl⟩:=pG hp
   rw [Nat.zero_add]
   exact (H.news j d t z h1 (lt h1)).1
  ·
   obtain ⟨k,x,h1,rfl⟩:=nE hp
   exact (H.own x (List.mem_iff_getElem?.2 ⟨k,h1⟩)).1
 ·
  rw [Nat.zero_add,Nat.zero_add]
  exact H.dist i j d t z d' t' z' h1 h2 (lt h1) (lt h2) hne
 ·
  obtain ⟨j,d,t,z,h1,rfl⟩:=pG hp
  obtain ⟨k,x,h2,rfl⟩:=nE hq
  rw [Nat.zero_add]
  exact Ne.symm ((H.news j d t z h1 (lt h1)).2.2 x (List.mem_iff_getElem?.2 ⟨k,h2⟩))
theorem depS_mem {ps:List Nat} {p:Nat × Value} (hp:p∈depS plan ps):∃ j∈ps,∃ (it:It) (d:Nat),plan[j]?=some it∧it.dst=some d∧∀ g,p=(d,it.out g):=by
 induction ps with
 | nil=>cases hp
 | cons k r ih =>
  have go:p∈depS plan r→∃ j∈k::r,∃ (it:It) (d:Nat),plan[j]?=some it∧it.dst=some d∧∀ g,p=(d,it.out g):=fun hp=>by
   obtain ⟨j,hj,it,d,h1,h2,h3⟩:=ih hp
   exact ⟨j,List.mem_cons_of_mem _ hj,it,d,h1,h2,h3⟩
  unfold depS at hp
  cases hk:plan[k]? with
  | none=>rw [hk] at hp;exact go hp
  | some it =>
   rw [hk] at hp
   cases it with
   | val d v qs hs =>
    rcases List.mem_cons.1 hp with rfl | hp
    ·
     exact ⟨k,List.mem_cons_self,_,d,hk,rfl,fun _=>rfl⟩
    ·
     exact go hp
   | off d qs =>
    rcases List.mem_cons.1 hp with rfl | hp
    ·
     exact ⟨k,List.mem_cons_self,_,d,hk,rfl,fun _=>rfl⟩
    ·
     exact go hp
   | new d t z=>exact go hp
   | sto a b c d e f=>exact go hp
   | ston a b c d e f=>exact go hp
theorem MidS.part {l:Array Bool} {G:Nat→Nat} (H:MidS plan n w0 e h l G a w) {ps hs:List Nat} (hp:∀ j∈ps,l.getD j false=true) (hr:rises hs=true) (hno:∀ k∈hs,∀ j g t cs c qs,plan[j]?=some (.sto k g t cs c qs)→¬ l.getD j false=true):St n w0 a w (depS plan ps++e) (picks h hs):=by
 refine ⟨H.size,H.defers,fun p hq=>?_,H.below,fun p hq=>?_,fun p hq=>?_,oY H.apart hr⟩
 ·
  rcases List.mem_append.1 hq with hq | hq
  ·
   obtain ⟨j,hj,it,d,h1,h2,h3⟩:=depS_mem hq
   rw [h3 (G j)]
   exact H.vals j it d h1 h2 (hp j hj)
  ·
   exact H.env p hq
 ·
  obtain ⟨k,hk,hx⟩:=kC hq
  exact H.baseA k p hx (hno k hk)
 ·
  obtain ⟨k,hk,hx⟩:=kC hq
  exact (H.own p (List.mem_iff_getElem?.2 ⟨k,hx⟩)).1
theorem obS_get {os:List Oper} {r:List It} (ho:ObsS P ops Q n w0 e h plan os r):∀ (j:Nat) (o:Oper) (it:It),os[j]?=some o→r[j]?=some it→it.ob P ops Q n w0 e h plan o:=by
 induction os generalizing r with
 | nil=>intro j o it h1;cases h1
 | cons o0 os ih =>
  cases r with
  | nil=>intro j o it _ h2;cases h2
  | cons it0 r =>
   intro j o it h1 h2
   obtain ⟨ho1,ho2⟩:=ho
   cases j with
   | zero =>
    injection h1 with h1
    injection h2 with h2
    subst h1 h2
    exact ho1
   | succ j=>exact ih ho2 j o it h1 h2
theorem dstS_get {os:List Oper} {r:List It} (hd:dstOkS os r=true):∀ (j:Nat) (o:Oper) (it:It),os[j]?=some o→r[j]?=some it→o.dst=it.dst:=by
 induction os generalizing r with
 | nil=>intro j o it h1;cases h1
 | cons o0 os ih =>
  cases r with
  | nil=>intro j o it _ h2;cases h2
  | cons it0 r =>
   intro j o it h1 h2
   unfold dstOkS at hd
   rw [Bool.and_eq_true] at hd
   cases j with
   | zero =>
    injection h1 with h1
    injection h2 with h2
    subst h1 h2
    have:=hd.1
    cases ho:o0.dst with
    | none =>
     cases hi:it0.dst with
     | none=>rfl
     | some d=>rw [ho,hi] at this;cases this
    | some d =>
     cases hi:it0.dst with
     | none=>rw [ho,hi] at this;cases this
     | some d' =>
      rw [ho,hi] at this
      rw [Nat.eq_of_beq_eq_true this]
   | succ j=>exact ih hd.2 j o it h1 h2
theorem psS_get {l:List Nat} {r:List It} (hp:psOkS l r=true):∀ (j m:Nat) (it:It),l[j]?=some m→r[j]?=some it→(∀ k∈it.ps,m.testBit k=true)∧rises it.hs=true∧∀ k d t z c ps,it=.ston k d t z c ps→m.testBit k=true:=by
 induction l generalizing r with
 | nil=>intro j m it h1;cases h1
 | cons m0 l ih =>
  cases r with
  | nil=>intro j m it _ h2;cases h2
  | cons it0 r =>
   intro j m it h1 h2
   unfold psOkS at hp
   simp only [Bool.and_eq_true] at hp
   obtain ⟨⟨⟨p1,p2⟩,p3⟩,p4⟩:=hp
   cases j with
   | zero =>
    injection h1 with h1
    injection h2 with h2
    subst h1 h2
    refine ⟨List.all_eq_true.1 p1,p3,fun k d t z c ps e1=>?_⟩
    subst e1
    exact p2
   | succ j=>exact ih p4 j m it h1 h2
theorem uJ {r:List It} {j d:Nat} {it:It} (hj:r[j]?=some it) (hd:it.dst=some d):d∈ends r:=by
 induction r generalizing j with
 | nil=>cases hj
 | cons it0 r ih =>
  unfold ends
  cases j with
  | zero =>
   injection hj with hj
   subst hj
   rw [hd]
   exact List.mem_cons_self
  | succ j =>
   cases h0:it0.dst with
   | none=>exact ih hj
   | some d0=>exact List.mem_cons_of_mem _ (ih hj)
theorem ends_inj {r:List It} (hd:distinct (ends r)=true):∀ (i j:Nat) (it jt:It) (x y:Nat),r[i]?=some it→r[j]?=some jt→i≠j→it.dst=some x→jt.dst=some y→x≠y:=by
 induction r with
 | nil=>intro i j it jt x y h1;cases h1
 | cons it0 r ih =>
  intro i j it jt x y h1 h2 hne hx hy
  unfold ends at hd
  have tail:distinct (ends r)=true:=by
   cases h0:it0.dst with
   | none=>rw [h0] at hd;exact hd
   | some d0 =>
    rw [h0] at hd
    unfold distinct at hd
    rw [Bool.and_eq_true] at hd
    exact hd.2
  have head:∀ d0,it0.dst=some d0→∀ z∈ends r,z≠d0:=fun d0 h0 z hz e1=>by
   rw [h0] at hd
   unfold distinct at hd
   rw [Bool.and_eq_true] at hd
   have:=List.all_eq_true.1 hd.1 z hz
   rw [e1,Nat.beq_refl] at this
   cases this
  cases i with
  | zero =>
   cases j with
   | zero=>exact absurd rfl hne
   | succ j =>
    injection h1 with h1
    subst h1
    exact Ne.symm (head x hx y (uJ h2 hy))
  | succ i =>
   cases j with
   | zero =>
    injection h2 with h2
    subst h2
    exact head y hy x (uJ h1 hx)
   | succ j=>exact ih tail i j it jt x y h1 h2 (by omega) hx hy
theorem tgtB_has {r:List It} {j k g:Nat} {t:TypeId} {cs c:Array Value} {ps:List Nat} (hj:r[j]?=some (.sto k g t cs c ps)):k∈tgtB r:=by
 induction r generalizing j with
 | nil=>cases hj
 | cons it r ih =>
  cases j with
  | zero =>
   injection hj with hj
   subst hj
   exact List.mem_cons_self
  | succ j =>
   have:=ih (j:=j) hj
   cases it<;>first | exact this | exact List.mem_cons_of_mem _ this
theorem tgtB_inj {r:List It} (hd:distinct (tgtB r)=true):∀ (i j k g g':Nat) (t t':TypeId) (cs cs' c c':Array Value) (ps ps':List Nat),r[i]?=some (.sto k g t cs c ps)→r[j]?=some (.sto k g' t' cs' c' ps')→j=i:=by
 induction r with
 | nil=>intro i j k g g' t t' cs cs' c c' ps ps' h1;cases h1
 | cons it r ih =>
  intro i j k g g' t t' cs cs' c c' ps ps' h1 h2
  have tail:distinct (tgtB r)=true:=by
   cases it<;>first | exact hd | (unfold tgtB distinct at hd;rw [Bool.and_eq_true] at hd;exact hd.2)
  have head:∀ k g t cs c ps,it=.sto k g t cs c ps→k ∉ tgtB r:=fun k g t cs c ps e1 hk=>by
   subst e1
   unfold tgtB distinct at hd
   rw [Bool.and_eq_true] at hd
   have:=List.all_eq_true.1 hd.1 k hk
   rw [Nat.beq_refl] at this
   cases this
  cases i with
  | zero =>
   cases j with
   | zero=>rfl
   | succ j=>exact absurd (tgtB_has (j:=j) h2) (head _ _ _ _ _ _ (Option.some.inj h1))
  | succ i =>
   cases j with
   | zero=>exact absurd (tgtB_has (j:=i) h1) (head _ _ _ _ _ _ (Option.some.inj h2))
   | succ j=>rw [ih tail i j k g g' t t' cs cs' c c' ps ps' h1 h2]
theorem tgtN_has {r:List It} {j k g:Nat} {t:TypeId} {cs c:Array Value} {ps:List Nat} (hj:r[j]?=some (.ston k g t cs c ps)):k∈tgtN r:=by
 induction r generalizing j with
 | nil=>cases hj
 | cons it r ih =>
  cases j with
  | zero =>
   injection hj with hj
   subst hj
   exact List.mem_cons_self
  | succ j =>
   have:=ih (j:=j) hj
   cases it<;>first | exact this | exact List.mem_cons_of_mem _ this
theorem tgtN_inj {r:List It} (hd:distinct (tgtN r)=true):∀ (i j k g g':Nat) (t t':TypeId) (cs cs' c c':Array Value) (ps ps':List Nat),r[i]?=some (.ston k g t cs c ps)→r[j]?=some (.ston k g' t' cs' c' ps')→j=i:=by
 induction r with
 | nil=>intro i j k g g' t t' cs cs' c c' ps ps' h1;cases h1
 | cons it r ih =>
  intro i j k g g' t t' cs cs' c c' ps ps' h1 h2
  have tail:distinct (tgtN r)=true:=by
   cases it<;>first | exact hd | (unfold tgtN distinct at hd;rw [Bool.and_eq_true] at hd;exact hd.2)
  have head:∀ k g t cs c ps,it=.ston k g t cs c ps→k ∉ tgtN r:=fun k g t cs c ps e1 hk=>by
   subst e1
   unfold tgtN distinct at hd
   rw [Bool.and_eq_true] at hd
   have:=List.all_eq_true.1 hd.1 k hk
   rw [Nat.beq_refl] at this
   cases this
  cases i with
  | zero =>
   cases j with
   | zero=>rfl
   | succ j=>exact absurd (tgtN_has (j:=j) h2) (head _ _ _ _ _ _ (Option.some.inj h1))
  | succ i =>
   cases j with
   | zero=>exact absurd (tgtN_has (j:=i) h1) (head _ _ _ _ _ _ (Option.some.inj h2))
   | succ j=>rw [ih tail i j k g g' t t' cs cs' c c' ps ps' h1 h2]
theorem readOk_get (hr:readOk ms plan=true) {i j k g d:Nat} {t:TypeId} {cs c:Array Value} {ps qs hs:List Nat} {v:Value} (hj:plan[j]?=some (.sto k g t cs c ps)) (hi:plan[i]?=some (.val d v qs hs)) (hk:k∈hs):(closeM ms j (ms.getD j 0)).testBit i=true:=by
 have h1:=List.all_eq_true.1 hr j (List.mem_range.2 (List.getElem?_eq_some_iff.1 hj).1)
 rw [hj] at h1
 have h2:=List.all_eq_true.1 h1 i (List.mem_range.2 (List.getElem?_eq_some_iff.1 hi).1)
 rw [hi] at h2
 have hc:hs.contains k=true:=by simpa using hk
 simp only [hc] at h2
 simpa using h2
theorem any_planS (hm:masks ops=ms) (hk:planOkS ops n e plan ms=true) (ho:ObsS P ops Q n w0 e h plan ops.toList plan)
  (fin:∀ (G:Nat→Nat) a w,St n w0 a w (outS G 0 plan++e) (newS plan G 0 plan++heapS plan 0 h)→Q .normal a w) :
  ∀ (fuel:Nat) (l:Array Bool) (a:Act) (w:World) (G:Nat→Nat),l.size=ops.size→Down ops l→left l plan.length≤fuel→MidS plan n w0 e h l G a w→wpAny P .any ops Q fuel l a w:=by
 unfold planOkS at hk
 simp only [Bool.and_eq_true] at hk
 obtain ⟨⟨⟨⟨⟨⟨⟨⟨k1,k2⟩,k3⟩,k4⟩,k5⟩,k6⟩,k7⟩,k8⟩,k9⟩:=hk
 have hlen:plan.length=ops.size:=Nat.eq_of_beq_eq_true k1
 have nothing:∀ l:Array Bool,l.size=ops.size→(∀ j,j<plan.length→l.getD j false=true)→Region.ready .any ops l=[]:=fun l hs hall=>by
  apply List.eq_nil_iff_forall_not_mem.2
  intro i hi
  obtain ⟨_,o,hoo,_⟩:=mem_ready.1 hi
  exact nX hi (hall i (by have:=(Array.getElem?_eq_some_iff.1 hoo).1;omega))
 intro fuel
 induction fuel with
 | zero =>
  intro l a w G hs hd hf H
  have hall:=qP (l:=l) (m:=plan.length) (by omega)
  exact ⟨nothing l hs hall,fin G a w (H.all hall)⟩
 | succ fuel ih =>
  intro l a w G hs hd hf H
  by_cases hall:∀ j,j<plan.length→l.getD j false=true
  ·
   exact ⟨fun _=>fin G a w (H.all hall),fun i hi=>by rw [nothing l hs hall] at hi;cases hi⟩
  ·
   have hex:∃ i,i<plan.length∧¬ l.getD i false=true:=Classical.byContradiction fun hn=>hall fun j hj=>Classical.byContradiction fun hu=>hn ⟨j,hj,hu⟩
   obtain ⟨i0,hi0,hu0,hlow⟩:=oH _ hex
   refine ⟨fun hnil=>?_,fun i hr=>?_⟩
   ·
    exfalso
    have hlt:i0<ops.size:=by omega
    have hin:i0∈Region.ready .any ops l:=by
     refine mem_ready.2 ⟨?_,ops[i0],Array.getElem?_eq_getElem hlt,fun x hx hb=>hlow _ ?_⟩
     ·
      have hl2:i0<l.size:=by omega
      simp [Array.getElem?_eq_getElem hl2] at hu0 ⊢
      exact hu0
     ·
      have hg:=dS hm (Array.getElem?_eq_getElem hlt)
      have hx2:(maskOf (waits ops[i0])).testBit x.on=true:=eJ.2 (fJ.2 ⟨x,hx,hb,rfl⟩)
      have:=nH k2 i0 _ hg x.on hx2
      omega
    rw [hnil] at hin
    cases hin
   ·
    have hu:=nX hr
    have hios:i<ops.size:=by
     obtain ⟨_,o,hoo,_⟩:=mem_ready.1 hr
     exact (Array.getElem?_eq_some_iff.1 hoo).1
    have hilt:i<plan.length:=by omega
    have hil:i<l.size:=by omega
    have hit:plan[i]?=some plan[i]:=List.getElem?_eq_getElem hilt
    have hoi:ops[i]?=some ops[i]:=Array.getElem?_eq_getElem hios
    have hoi2:ops.toList[i]?=some ops[i]:=by simp [hios]
    have hob:=obS_get ho i _ _ hoi2 hit
    have hdst:=dstS_get k4 i _ _ hoi2 hit
    have hg:=dS hm hoi
    have e2:ms.getD i 0=maskOf (waits ops[i]):=by simp [hg]
    have rw_:=iA hm hr
    rw [e2] at rw_
    obtain ⟨p1,p2,p3⟩:=psS_get k3 i _ _ hg hit
    have hps:∀ j∈plan[i].ps,l.getD j false=true:=fun j hj=>rw_ j (p1 j hj)
    have hend:∀ d,plan[i].dst=some d→d<n∧∀ p∈e,p.1≠d:=fun d hdd=>by
     have h6:=List.all_eq_true.1 k6 d (uJ hit hdd)
     rw [Bool.and_eq_true] at h6
     refine ⟨by have:=h6.1;rw [Nat.blt_eq] at this;exact this,fun p hp e1=>?_⟩
     have:=List.all_eq_true.1 h6.2 p hp
     rw [e1,Nat.beq_refl] at this
     cases this
    have hdd:∀ d,plan[i].dst=some d→∀ (j:Nat) (jt:It) (x:Nat),plan[j]?=some jt→j≠i→jt.dst=some x→x≠d:=fun d hd0 j jt x hj hne hx=>ends_inj k5 j i jt plan[i] x d hj hit hne hx hd0
    have hs2:(l.setIfInBounds i true).size=ops.size:=by simpa using hs
    have hd2:=down_set hd hr
    have hf2:left (l.setIfInBounds i true) plan.length≤fuel:=by
     have:=tZ (l:=l) (i:=i) (by omega) hu plan.length hilt
     omega
    unfold wpOp
    rw [hoi]
    dsimp only
    generalize hI:plan[i]=it at *
    cases it with
    | val d v ps hs0 =>
     obtain ⟨hdo,hw⟩:=hob
     have hno:∀ k∈hs0,∀ j g t cs c qs,plan[j]?=some (.sto k g t cs c qs)→¬ l.getD j false=true:=fun k hk0 j g t cs c qs hj hl=>by
      have hjo:j<ops.size:=by have:=(List.getElem?_eq_some_iff.1 hj).1;omega
      have hc:=readOk_get k9 hj hit hk0
      refine hu (eL hm hd hs j _ (fun x hx=>?_) i hc)
      have hgj:=dS hm (Array.getElem?_eq_getElem hjo)
      have e3:ms.getD j 0=maskOf (waits ops[j]):=by simp [hgj]
      rw [e3,eJ,fJ] at hx
      obtain ⟨y,hy,hb,rfl⟩:=hx
      exact hd j _ (Array.getElem?_eq_getElem hjo) hl y hy hb
     have hst:=H.part hps p2 hno
     have hst0:=H.part (hs:=[]) hps rfl (fun k hk0=>by cases hk0)
     rw [hw _ _ hst0,if_pos rfl]
     refine .inl (Oper.wp_mono (fun a' w' hx=>?_) (hdo _ _ hst))
     obtain ⟨rfl,hb⟩:=hx
     rw [hdst]
     exact ih _ _ _ G hs2 hd2 hf2 (H.put hit rfl (fun _=>rfl) (fun _ _ _ hc=>by cases hc) (hend d rfl).1 (hend d rfl).2 (hdd d rfl) hb)
    | off d ps =>
     have hst0:=H.part (hs:=[]) hps rfl (fun k hk0=>by cases hk0)
     rw [hob _ _ hst0]
     rw [hdst]
     exact ih _ _ _ G hs2 hd2 hf2 (H.put hit rfl (fun _=>rfl) (fun _ _ _ hc=>by cases hc) (hend d rfl).1 (hend d rfl).2 (hdd d rfl) (Below.refl _ _))
    | new d t z =>
     obtain ⟨hn,hgd⟩:=hob
     have hw:Region.wanted ops[i] (yielded ops a.tmps)=true:=by simp [Region.wanted,hgd]
     rw [hw,if_pos rfl]
     left
     unfold Oper.wp
     rw [hn a w]
     show wpAny P .any ops Q fuel (l.setIfInBounds i true) (a.put ops[i].dst _) (w.alloc (.cells z t))
     rw [hdst]
     refine ih _ _ _ _ hs2 hd2 hf2 (H.more hit (fun i' d' t' z' c ps hi' hl'=>?_) (hend d rfl).1 (hend d rfl).2 (hdd d rfl))
     -- who writes it waits for it
     have hjo:i'<ops.size:=by have:=(List.getElem?_eq_some_iff.1 hi').1;omega
     have hgj:=dS hm (Array.getElem?_eq_getElem hjo)
     have hb:=(psS_get k3 i' _ _ hgj hi').2.2 _ _ _ _ _ _ rfl
     rw [eJ,fJ] at hb
     obtain ⟨y,hy,hbb,e4⟩:=hb
     have:=hd i' _ (Array.getElem?_eq_getElem hjo) hl' y hy hbb
     rw [e4] at this
     exact hu this
    | sto k g t cs c ps =>
     obtain ⟨h1,hgd,hsto⟩:=hob
     have hw:Region.wanted ops[i] (yielded ops a.tmps)=true:=by simp [Region.wanted,hgd]
     rw [hw,if_pos rfl]
     have hm1:(g,t,cs)∈h:=List.mem_iff_getElem?.2 ⟨k,h1⟩
     have hB:=H.baseA k _ h1 fun j g' t' cs' c' ps' hj hl=>by
      have:=tgtB_inj k7 i j k g g' t t' cs cs' c c' ps ps' hit hj
      subst this
      exact hu hl
     have hst:St n w0 a w (depS plan ps++e) [(g,t,cs)]:=by
      have h0:=H.part (hs:=[]) hps rfl (fun k hk0=>by cases hk0)
      refine ⟨h0.size,h0.defers,h0.env,h0.below,fun p hp=>?_,fun p hp=>?_,List.pairwise_singleton _ _⟩
      ·
       rw [List.mem_singleton.1 hp]
       exact hB
      ·
       rw [List.mem_singleton.1 hp]
       exact (H.own _ hm1).1
     refine .inl (Oper.wp_mono (fun a' w' hx=>?_) (hsto _ _ hst))
     obtain ⟨rfl,hss⟩:=hx
     rw [hdst]
     exact ih _ _ _ G hs2 hd2 hf2 (H.sto hit h1 (fun j g' t' cs' c' ps' hj=>tgtB_inj k7 i j k g g' t t' cs cs' c c' ps ps' hit hj) hil hss)
    | ston j0 d0 t z c ps =>
     obtain ⟨h1,hgd,hsto⟩:=hob
     have hw:Region.wanted ops[i] (yielded ops a.tmps)=true:=by simp [Region.wanted,hgd]
     rw [hw,if_pos rfl]
     have hl0:l.getD j0 false=true:=rw_ j0 (p3 _ _ _ _ _ _ rfl)
     have hB:=H.newA j0 d0 t z h1 hl0 fun i' d' t' z' c' ps' hi' hl'=>by
      have:=tgtN_inj k8 i i' j0 d0 d' t t' z z' c c' ps ps' hit hi'
      subst this
      exact hu hl'
     have hst:St n w0 a w ((d0,.pointer (some ⟨G j0,0,none⟩))::(depS plan ps++e)) [(G j0,t,z)]:=by
      have h0:=H.part (hs:=[]) hps rfl (fun k hk0=>by cases hk0)
      refine ⟨h0.size,h0.defers,fun p hp=>?_,h0.below,fun p hp=>?_,fun p hp=>?_,List.pairwise_singleton _ _⟩
      ·
       rcases List.mem_cons.1 hp with rfl | hp
       ·
        exact H.vals j0 _ d0 h1 rfl hl0
       ·
        exact h0.env p hp
      ·
       rw [List.mem_singleton.1 hp]
       exact hB
      ·
       rw [List.mem_singleton.1 hp]
       exact (H.news j0 d0 t z h1 hl0).1
     refine .inl (Oper.wp_mono (fun a' w' hx=>?_) (hsto (G j0) _ _ hst))
     obtain ⟨rfl,hss⟩:=hx
     rw [hdst]
     exact ih _ _ _ G hs2 hd2 hf2 (H.ston hit h1 hl0 (fun j d' t' z' c' ps' hj=>tgtN_inj k8 i j j0 d0 d' t t' z z' c c' ps ps' hit hj) hil hss)
theorem drawnS {id:Nat} (plan:List It) (ms:List Nat) (hf:P.follows .mixedOrders=true) (hm:masks ops=ms) (hk:planOkS ops n e plan ms=true) (H:St n w0 a w e h) (ho:ObsS P ops Q n w0 e h plan ops.toList plan)
  (fin:∀ (G:Nat→Nat) a w,St n w0 a w (outS G 0 plan++e) (newS plan G 0 plan++heapS plan 0 h)→Q .normal a w):(Code.region id ops true).wp P Q a w:=by
 refine wp_region_any hf ?_
 have none_:∀ i,¬ (Array.replicate ops.size false).getD i false=true:=fun i hi=>by
  by_cases h:i<ops.size
  ·
   simp [h] at hi
  ·
   simp [h] at hi
 have hlen:plan.length=ops.size:=by
  unfold planOkS at hk
  simp only [Bool.and_eq_true] at hk
  exact Nat.eq_of_beq_eq_true hk.1.1.1.1.1.1.1.1
 refine any_planS hm hk ho fin ops.size _ a w.drew (fun _=>0) (by simp) (fun i o _ hi=>absurd hi (none_ i)) ?_
  ⟨H.size,H.defers,H.below.drew,H.env,fun j _ _ _ _ hj=>absurd hj (none_ j),fun x hx=>⟨H.own x hx,(H.heap x hx).lt⟩,H.apart,fun k x hx _=>H.heap x (List.mem_iff_getElem?.2 ⟨k,hx⟩),fun k x j _ _ _ _ _ _ _ hl=>absurd hl (none_ j),fun j _ _ _ _ hl=>absurd hl (none_ j),fun j _ _ _ _ hl=>absurd hl (none_ j),fun j _ _ _ _ _ _ _ _ _ _ hl=>absurd hl (none_ j),fun j _ _ _ _ _ _ _ _ _ hl=>absurd hl (none_ j)⟩
 have:=zB (Array.replicate ops.size false) plan.length
 omega
end
end
section
open Go Go.RowKit
structure Fct where
 d:Nat
 F:Value→World→Prop
 ps:List Nat
 til:Option Nat:=none
 own:Bool:=false
def Chain (plan:List Fct) (w:World) (K:Env→Prop):List Nat→Env→Prop
 | [],e=>K e
 | j::r,e=>match plan[j]? with
  | some it=>∀ v,it.F v w→Chain plan w K r ((it.d,v)::e)
  | none=>Chain plan w K r e
abbrev Rel:=World→World→Prop
def Fct.rel (R R':Rel) (it:Fct):Rel:=bif it.own then R' else R
def Fct.ob (P:Program) (R R':Rel) (ops:Array Oper) (Q:Exit→Act→World→Prop) (n:Nat) (w0:World) (e:Env) (h:Hep) (plan:List Fct) (o:Oper) (it:Fct):Prop :=
 (∀ a w,Chain plan w (fun e'=>St n w0 a w e' h→Region.wanted o (yielded ops a.tmps)=true∧o.wp P a w (fun a' w'=>∃ v,a'=a.put o.dst v∧it.rel R R' w w'∧it.F v w') Q) it.ps e)∧(∀ v w w',it.F v w→R w w'→it.F v w')∧(it.til=none→∀ v w w',it.F v w→R' w w'→it.F v w')
def ObsF (P:Program) (R R':Rel) (ops:Array Oper) (Q:Exit→Act→World→Prop) (n:Nat) (w0:World) (e:Env) (h:Hep) (plan:List Fct):List Oper→List Fct→Prop
 | o::os,it::r=>it.ob P R R' ops Q n w0 e h plan o∧ObsF P R R' ops Q n w0 e h plan os r
 | _,_=>True
def psOkF:List Nat→List Fct→Bool
 | m::ms,it::r=>it.ps.all (fun j=>Nat.testBit m j)&&psOkF ms r
 | _,[]=>true
 | [],_::_=>false
def dstOkF:List Oper→List Fct→Bool
 | o::os,it::r=>(match o.dst with | some d=>Nat.beq d it.d | none=>false)&&dstOkF os r
 | _,[]=>true
 | [],_::_=>false
def headOkF (ms:List Nat) (m:Nat):List Nat→Bool
 | []=>true
 | x::_=>sub2 (Nat.shiftLeft 1 m-1) (closeM ms m x)
def tilOk (plan:List Fct) (i:Nat) (j:Nat):Bool:=match plan[j]? with
 | some jt=>(match jt.til with | none=>true | some k=>Nat.beq k i)
 | none=>true
def ownOk (ms:List Nat) (plan:List Fct) (i:Nat):Bool:=(List.range plan.length).all fun j=>match plan[j]? with
 | some jt=>(match jt.til with | none=>true | some k=>Nat.beq k i || Nat.beq j i || Nat.testBit (closeM ms i (ms.getD i 0)) k || Nat.testBit (closeM ms j (ms.getD j 0)) i)
 | none=>true
def lastOk (ms:List Nat) (plan:List Fct):Bool:=(List.range plan.length).all fun i=>match plan[i]? with
 | some it=>it.ps.all (tilOk plan i)&&(!it.own || ownOk ms plan i)
 | none=>true
def planOkF (ops:Array Oper) (n:Nat) (e:Env) (plan:List Fct) (ms:List Nat):Bool :=
 Nat.ble plan.length ops.size&&downs 0 ms&&psOkF ms plan&&dstOkF ops.toList plan&&distinct (plan.map (·.d))&&plan.all (fun it=>Nat.blt it.d n&&e.all (fun p=>!Nat.beq p.1 it.d))&&lineUp ms plan.length plan.length (ms.drop plan.length)&&headOkF ms plan.length (ms.drop plan.length)&&lastOk ms plan
section
variable {P:Program} {n:Nat} {w0 w w':World} {a:Act} {e:Env} {h:Hep} {Q:Exit→Act→World→Prop} {ops:Array Oper} {plan:List Fct} {ms:List Nat} {rest:List Oper} {o:Oper} {R R':Rel}
structure MidF (plan:List Fct) (n:Nat) (w0:World) (e:Env) (h:Hep) (l:Array Bool) (a:Act) (w:World):Prop where
 base:St n w0 a w e h
 vals:∀ (j:Nat) (it:Fct),plan[j]?=some it→l.getD j false=true→(∀ k,it.til=some k→¬ l.getD k false=true)→∃ v,a.tmps[it.d]?=some v∧it.F v w
theorem Chain.get {K:Env→Prop} {ps:List Nat} (hv:∀ j∈ps,∀ (it:Fct),plan[j]?=some it→∃ v,a.tmps[it.d]?=some v∧it.F v w):∀ {e:Env},Chain plan w K ps e→St n w0 a w e h→∃ e',K e'∧St n w0 a w e' h:=by
 induction ps with
 | nil=>intro e hc he;exact ⟨e,hc,he⟩
 | cons j r ih =>
  intro e hc he
  unfold Chain at hc
  have hr:∀ j∈r,∀ (it:Fct),plan[j]?=some it→∃ v,a.tmps[it.d]?=some v∧it.F v w:=fun k hk=>hv k (List.mem_cons_of_mem _ hk)
  cases hj:plan[j]? with
  | none =>
   rw [hj] at hc
   exact ih hr hc he
  | some it =>
   rw [hj] at hc
   obtain ⟨v,h1,h2⟩:=hv j List.mem_cons_self it hj
   refine ih hr (hc v h2) ⟨he.size,he.defers,fun p hp=>?_,he.below,he.heap,he.own,he.apart⟩
   rcases List.mem_cons.1 hp with rfl | hp
   ·
    exact h1
   ·
    exact he.env p hp
theorem MidF.put {l:Array Bool} (H:MidF plan n w0 e h l a w) {i:Nat} {it:Fct} {v:Value} (hi:plan[i]?=some it) (hlt:it.d<n) (he:∀ p∈e,p.1≠it.d)
  (hd:∀ (j:Nat) (jt:Fct),plan[j]?=some jt→j≠i→jt.d≠it.d)
  (hst:∀ (j:Nat) (jt:Fct),plan[j]?=some jt→j≠i→l.getD j false=true→(∀ k,jt.til=some k→¬ (l.setIfInBounds i true).getD k false=true)→∀ (v:Value),jt.F v w→jt.F v w')
  (hb:St n w0 a w' e h) (hF:it.F v w'):MidF plan n w0 e h (l.setIfInBounds i true) (a.put (some it.d) v) w':=by
 have hlt':it.d<a.tmps.size:=by rw [H.base.size];exact hlt
 have keep:∀ k x,k≠it.d→a.tmps[k]?=some x→(a.put (some it.d) v).tmps[k]?=some x:=fun k x hne hx=>by
  show (a.tmps.setIfInBounds it.d v)[k]?=some x
  rw [Array.getElem?_setIfInBounds_ne (Ne.symm hne)]
  exact hx
 refine ⟨⟨by simp [Act.put,H.base.size],H.base.defers,fun p hp=>keep _ _ (he p hp) (H.base.env p hp),hb.below,hb.heap,hb.own,hb.apart⟩,fun j jt hj hl ht=>?_⟩
 by_cases hji:j=i
 ·
  subst hji
  rw [hi] at hj
  injection hj with hj
  subst hj
  refine ⟨v,?_,hF⟩
  show (a.tmps.setIfInBounds it.d v)[it.d]?=some v
  simp [hlt']
 ·
  have hl':=cO hl hji
  obtain ⟨u,h1,h2⟩:=H.vals j jt hj hl' (fun k hk h3=>ht k hk (getD_set_true h3))
  exact ⟨u,keep _ _ (hd j jt hj hji) h1,hst j jt hj hji hl' ht _ h2⟩
theorem ObsF_get {os:List Oper} {r:List Fct} (ho:ObsF P R R' ops Q n w0 e h plan os r):∀ (j:Nat) (o:Oper) (it:Fct),os[j]?=some o→r[j]?=some it→it.ob P R R' ops Q n w0 e h plan o:=by
 induction os generalizing r with
 | nil=>intro j o it h1;cases h1
 | cons o0 os ih =>
  cases r with
  | nil=>intro j o it _ h2;cases h2
  | cons it0 r =>
   intro j o it h1 h2
   obtain ⟨ho1,ho2⟩:=ho
   cases j with
   | zero =>
    injection h1 with h1
    injection h2 with h2
    subst h1 h2
    exact ho1
   | succ j=>exact ih ho2 j o it h1 h2
theorem dstOkF_get {os:List Oper} {r:List Fct} (hd:dstOkF os r=true):∀ (j:Nat) (o:Oper) (it:Fct),os[j]?=some o→r[j]?=some it→o.dst=some it.d:=by
 induction os generalizing r with
 | nil=>intro j o it h1;cases h1
 | cons o0 os ih =>
  cases r with
  | nil=>intro j o it _ h2;cases h2
  | cons it0 r =>
   intro j o it h1 h2
   unfold dstOkF at hd
   rw [Bool.and_eq_true] at hd
   cases j with
   | zero =>
    injection h1 with h1
    injection h2 with h2
    subst h1 h2
    have:=hd.1
    cases hdst:o0.dst with
    | none=>rw [hdst] at this;cases this
    | some d =>
     rw [hdst] at this
     rw [Nat.eq_of_beq_eq_true this]
   | succ j=>exact ih hd.2 j o it h1 h2
theorem psOkF_get {l:List Nat} {r:List Fct} (hp:psOkF l r=true):∀ (j m:Nat) (it:Fct),l[j]?=some m→r[j]?=some it→∀ k∈it.ps,m.testBit k=true:=by
 induction l generalizing r with
 | nil=>intro j m it h1;cases h1
 | cons m0 l ih =>
  cases r with
  | nil=>intro j m it _ h2;cases h2
  | cons it0 r =>
   intro j m it h1 h2 k hk
   unfold psOkF at hp
   rw [Bool.and_eq_true] at hp
   cases j with
   | zero =>
    injection h1 with h1
    injection h2 with h2
    subst h1 h2
    exact List.all_eq_true.1 hp.1 k hk
   | succ j=>exact ih hp.2 j m it h1 h2 k hk
def FreshAt (w:World) (v:Value):Prop:=∀ g,v=.pointer (some ⟨g,0,none⟩)→w.heap.size≤g
def DistAll (plan:List Fct) (nw:List Nat) (a:Act):Prop:=∀ (i j:Nat) (it jt:Fct),plan[i]?=some it→plan[j]?=some jt→i≠j→i∈nw→j∈nw→a.tmps[it.d]?≠a.tmps[jt.d]?
def Dist (plan:List Fct) (nw:List Nat) (l:Array Bool) (a:Act):Prop:=∀ (i j:Nat) (it jt:Fct),plan[i]?=some it→plan[j]?=some jt→i≠j→i∈nw→j∈nw→l.getD i false=true→l.getD j false=true→a.tmps[it.d]?≠a.tmps[jt.d]?
theorem Dist.put {nw:List Nat} {l:Array Bool} (D:Dist plan nw l a) {i:Nat} {it:Fct} {v:Value} (hi:plan[i]?=some it) (hd:∀ (j:Nat) (jt:Fct),plan[j]?=some jt→j≠i→jt.d≠it.d) (hlt:it.d<a.tmps.size)
  (hv:i∈nw→∀ (j:Nat) (jt:Fct),plan[j]?=some jt→j≠i→j∈nw→l.getD j false=true→a.tmps[jt.d]?≠some v):Dist plan nw (l.setIfInBounds i true) (a.put (some it.d) v):=by
 have hat:∀ k,(a.put (some it.d) v).tmps[k]?=if it.d=k then some v else a.tmps[k]?:=fun k=>by
  show (a.tmps.setIfInBounds it.d v)[k]?=_
  rw [Array.getElem?_setIfInBounds]
  by_cases hk:it.d=k
  ·
   rw [if_pos hk,if_pos hk,if_pos hlt]
  ·
   rw [if_neg hk,if_neg hk]
 intro j k jt kt hj hk hne hjn hkn hlj hlk
 rw [hat,hat]
 by_cases h1:j=i
 ·
  subst h1
  rw [hi] at hj
  injection hj with hj
  subst hj
  rw [if_pos rfl,if_neg (Ne.symm (hd k kt hk (Ne.symm hne)))]
  exact Ne.symm (hv hjn k kt hk (Ne.symm hne) hkn (cO hlk (Ne.symm hne)))
 ·
  by_cases h2:k=i
  ·
   subst h2
   rw [hi] at hk
   injection hk with hk
   subst hk
   rw [if_pos rfl,if_neg (Ne.symm (hd j jt hj hne))]
   exact hv hkn j jt hj hne hjn (cO hlj hne)
  ·
   rw [if_neg (Ne.symm (hd j jt hj h1)),if_neg (Ne.symm (hd k kt hk h2))]
   exact D j k jt kt hj hk hne hjn hkn (cO hlj h1) (cO hlk h2)
theorem any_planN {nw:List Nat} (hR:∀ a w w',St n w0 a w e h→R w w'→St n w0 a w' e h) (hR':∀ a w w',St n w0 a w e h→R' w w'→St n w0 a w' e h) (hm:masks ops=ms) (hk:planOkF ops n e plan ms=true) (ho:ObsF P R R' ops Q n w0 e h plan ops.toList plan)
  (hold:∀ (j:Nat) (it:Fct),plan[j]?=some it→j∈nw→it.til=none∧∀ v w,it.F v w→∃ g,v=.pointer (some ⟨g,0,none⟩)∧g<w.heap.size)
  (strong:∀ (j:Nat) (o:Oper) (it:Fct),ops[j]?=some o→plan[j]?=some it→j∈nw→∀ a w,St n w0 a w e h→o.wp P a w (fun a' w'=>∃ v,a'=a.put o.dst v∧it.rel R R' w w'∧it.F v w'∧FreshAt w v) Q)
  (tail:∀ a w,DistAll plan nw a→(∀ (j:Nat) (it:Fct),plan[j]?=some it→it.til=none→∃ v,a.tmps[it.d]?=some v∧it.F v w)→St n w0 a w e h→wpList P ops Q (ops.toList.drop plan.length) a w) :
  ∀ (fuel:Nat) (l:Array Bool) (a:Act) (w:World),l.size=ops.size→Down ops l→(∀ i,plan.length≤i→¬ l.getD i false=true)→ops.size-plan.length+left l plan.length≤fuel→MidF plan n w0 e h l a w→Dist plan nw l a→wpAny P .any ops Q fuel l a w:=by
 unfold planOkF at hk
 simp only [Bool.and_eq_true] at hk
 obtain ⟨⟨⟨⟨⟨⟨⟨⟨k1,k2⟩,k3⟩,k4⟩,k5⟩,k6⟩,k7⟩,k8⟩,k9⟩:=hk
 have hlen:plan.length≤ops.size:=Nat.le_of_ble_eq_true k1
 have hmsl:ms.length=ops.size:=by rw [←hm];simp [masks]
 have after_all:∀ (l:Array Bool) (i:Nat),l.size=ops.size→Down ops l→(∀ i,plan.length≤i→¬ l.getD i false=true)→i∈Region.ready .any ops l→plan.length≤i→∀ j,j<plan.length→l.getD j false=true:=by
  intro l i hs hd hB hr hge
  obtain ⟨_,o,hoo,_⟩:=mem_ready.1 hr
  have hilt:i<ops.size:=(Array.getElem?_eq_some_iff.1 hoo).1
  have hg:=dS hm hoo
  have e2:ms.getD i 0=maskOf (waits o):=by simp [hg]
  have hlist:∀ j,(closeM ms i (maskOf (waits o))).testBit j=true→l.getD j false=true:=fun j hc=>eL hm hd hs i (maskOf (waits o)) (fun j hj=>iA hm hr j (by rw [e2];exact hj)) j hc
  have hg2:(ms.drop plan.length)[i-plan.length]?=some (maskOf (waits o)):=by
   rw [List.getElem?_drop,show plan.length+(i-plan.length)=i by omega]
   exact hg
  have him:i=plan.length:=by
   apply Nat.le_antisymm _ hge
   apply Nat.le_of_not_lt
   intro hlt
   have hc:=tW (Nat.le_refl _) k7 (i-plan.length) _ hg2 plan.length (Nat.le_refl _) (by omega)
   rw [show plan.length+(i-plan.length)=i by omega] at hc
   exact hB plan.length (Nat.le_refl _) (hlist _ hc)
  subst him
  have hdr:ms.drop plan.length=maskOf (waits o)::ms.drop (plan.length+1):=by
   have hlt2:plan.length<ms.length:=by omega
   rw [List.drop_eq_getElem_cons hlt2]
   congr 1
   rw [List.getElem?_eq_getElem hlt2] at hg
   exact Option.some.inj hg
  rw [hdr] at k8
  unfold headOkF at k8
  intro j hj
  have hbit:(Nat.shiftLeft 1 plan.length-1).testBit j=true:=by rw [low_bit];exact decide_eq_true hj
  exact hlist j (sub2_get k8 hbit)
 have fin:∀ (fuel:Nat) (l:Array Bool) (a:Act) (w:World),l.size=ops.size→(∀ i,plan.length≤i→¬ l.getD i false=true)→(∀ j,j<plan.length→l.getD j false=true)→ops.size-plan.length≤fuel→MidF plan n w0 e h l a w→Dist plan nw l a→wpAny P .any ops Q fuel l a w:=by
  intro fuel l a w hs hB hall hf H D
  refine any_tail hm k2 k7 fuel plan.length l a w (Nat.le_refl _) hlen hf hs (fun i hi=>⟨fun h1=>?_,fun h1=>hall i h1⟩) (tail a w (fun i j it jt hi hj hne hin hjn=>D i j it jt hi hj hne hin hjn (hall i (List.getElem?_eq_some_iff.1 hi).1) (hall j (List.getElem?_eq_some_iff.1 hj).1)) (fun j it hj ht=>H.vals j it hj (hall j (List.getElem?_eq_some_iff.1 hj).1) (fun k hk=>by rw [ht] at hk;cases hk)) H.base)
  exact Classical.byContradiction fun hn=>hB i (by omega) h1
 intro fuel
 induction fuel with
 | zero =>
  intro l a w hs hd hB hf H D
  exact fin 0 l a w hs hB (qP (by omega)) (by omega) H D
 | succ fuel ih =>
  intro l a w hs hd hB hf H D
  by_cases hall:∀ j,j<plan.length→l.getD j false=true
  ·
   exact fin _ l a w hs hB hall (by omega) H D
  have hex:∃ i,i<plan.length∧¬ l.getD i false=true:=Classical.byContradiction fun hn=>hall fun j hj=>Classical.byContradiction fun hu=>hn ⟨j,hj,hu⟩
  obtain ⟨i0,hi0,hu0,hlow⟩:=oH _ hex
  refine ⟨fun hnil=>?_,fun i hr=>?_⟩
  ·
   exfalso
   have hlt:i0<ops.size:=by omega
   have hin:i0∈Region.ready .any ops l:=by
    refine mem_ready.2 ⟨?_,ops[i0],Array.getElem?_eq_getElem hlt,fun x hx hb=>hlow _ ?_⟩
    ·
     have hl2:i0<l.size:=by omega
     simp [Array.getElem?_eq_getElem hl2] at hu0 ⊢
     exact hu0
    ·
     have hg:=dS hm (Array.getElem?_eq_getElem hlt)
     have hx2:(maskOf (waits ops[i0])).testBit x.on=true:=eJ.2 (fJ.2 ⟨x,hx,hb,rfl⟩)
     have:=nH k2 i0 _ hg x.on hx2
     omega
   rw [hnil] at hin
   cases hin
  ·
   have hu:=nX hr
   have hilt:i<plan.length:=by
    apply Nat.lt_of_not_le
    intro hge
    exact hu0 (after_all l i hs hd hB hr hge i0 hi0)
   have hios:i<ops.size:=by omega
   have hit:plan[i]?=some plan[i]:=List.getElem?_eq_getElem hilt
   have hoi:ops[i]?=some ops[i]:=Array.getElem?_eq_getElem hios
   have hoi2:ops.toList[i]?=some ops[i]:=by simp [hios]
   have hob:=ObsF_get ho i _ _ hoi2 hit
   have hdst:=dstOkF_get k4 i _ _ hoi2 hit
   have hg:=dS hm hoi
   have e2:ms.getD i 0=maskOf (waits ops[i]):=by simp [hg]
   have hps:∀ j∈plan[i].ps,l.getD j false=true:=fun j hj=>iA hm hr j (by rw [e2];exact psOkF_get k3 i _ _ hg hit j hj)
   have h6:=List.all_eq_true.1 k6 _ (List.getElem_mem hilt)
   rw [Bool.and_eq_true] at h6
   have hdn:plan[i].d<n:=by
    have:=h6.1
    rw [Nat.blt_eq] at this
    exact this
   have hen:∀ p∈e,p.1≠plan[i].d:=fun p hp e1=>by
    have:=List.all_eq_true.1 h6.2 p hp
    rw [e1,Nat.beq_refl] at this
    cases this
   have hdd:∀ j jt,plan[j]?=some jt→j≠i→jt.d≠plan[i].d:=fun j jt hj hne =>
    zG k5 j i jt.d plan[i].d (by rw [List.getElem?_map,hj];rfl) (by rw [List.getElem?_map,hit];rfl) hne
   have hs2:(l.setIfInBounds i true).size=ops.size:=by simpa using hs
   have hd2:=down_set hd hr
   have hB2:∀ j,plan.length≤j→¬ (l.setIfInBounds i true).getD j false=true:=fun j hj hl=>hB j hj (cO hl (by omega))
   have hf2:ops.size-plan.length+left (l.setIfInBounds i true) plan.length≤fuel:=by
    have:=tZ (l:=l) (i:=i) (by omega) hu plan.length hilt
    omega
   unfold wpOp
   rw [hoi]
   dsimp only
   have hin:=List.all_eq_true.1 k9 i (List.mem_range.2 hilt)
   rw [hit] at hin
   simp only [Bool.and_eq_true] at hin
   obtain ⟨hin1,hin2⟩:=hin
   obtain ⟨e',hob2,hst⟩:=Chain.get (fun j hj it hjt=>H.vals j it hjt (hps j hj) (fun k hk hl=>by
    have:=List.all_eq_true.1 hin1 j hj
    unfold tilOk at this
    rw [hjt] at this
    simp only [hk] at this
    rw [Nat.eq_of_beq_eq_true this] at hl
    exact hu hl)) (hob.1 a w) H.base
   obtain ⟨hw,hwp⟩:=hob2 hst
   rw [hw,if_pos rfl]
   have hwp2:ops[i].wp P a w (fun a' w'=>∃ v,a'=a.put ops[i].dst v∧plan[i].rel R R' w w'∧plan[i].F v w'∧(i∈nw→FreshAt w v)) Q:=by
    by_cases hnw:i∈nw
    ·
     exact Oper.wp_mono (fun a' w' ⟨v,h1,h2,h3,h4⟩=>⟨v,h1,h2,h3,fun _=>h4⟩) (strong i _ _ hoi hit hnw a w H.base)
    ·
     exact Oper.wp_mono (fun a' w' ⟨v,h1,h2,h3⟩=>⟨v,h1,h2,h3,fun hh=>absurd hh hnw⟩) hwp
   refine .inl (Oper.wp_mono (fun a' w' hx=>?_) hwp2)
   obtain ⟨v,rfl,hb,hF,hfr⟩:=hx
   have D2:Dist plan nw (l.setIfInBounds i true) (a.put (some plan[i].d) v):=D.put hit hdd (by rw [H.base.size];exact hdn) (fun hin j jt hj hne hjn hlj=>by
    obtain ⟨ht,ho2⟩:=hold j jt hj hjn
    obtain ⟨u,hu1,hu2⟩:=H.vals j jt hj hlj (fun k hk=>by rw [ht] at hk;cases hk)
    obtain ⟨g,rfl,hg1⟩:=ho2 u w hu2
    rw [hu1]
    intro e1
    injection e1 with e1
    have:=hfr hin g e1.symm
    omega)
   rw [hdst]
   have stab:∀ (j:Nat) (jt:Fct),plan[j]?=some jt→(∀ v w w',jt.F v w→R w w'→jt.F v w')∧(jt.til=none→∀ v w w',jt.F v w→R' w w'→jt.F v w'):=fun j jt hj=>by
    have hjl:j<ops.size:=by have:=(List.getElem?_eq_some_iff.1 hj).1;omega
    exact (ObsF_get ho j ops[j] jt (by simp [hjl]) hj).2
   cases hown:plan[i].own with
   | false =>
    unfold Fct.rel at hb
    rw [hown] at hb
    exact ih _ _ _ hs2 hd2 hB2 hf2 (H.put hit hdn hen hdd (fun j jt hj _ _ _ v hv=>(stab j jt hj).1 v w w' hv hb) (hR _ _ _ H.base hb) hF) D2
   | true =>
    unfold Fct.rel at hb
    rw [hown] at hb
    rw [hown] at hin2
    have hin2:ownOk ms plan i=true:=by simpa using hin2
    refine ih _ _ _ hs2 hd2 hB2 hf2 (H.put hit hdn hen hdd (fun j jt hj hne hl ht v hv=>?_) (hR' _ _ _ H.base hb) hF) D2
    cases htil:jt.til with
    | none=>exact (stab j jt hj).2 htil v w w' hv hb
    | some k =>
     exfalso
     have hnk:=ht k htil
     have hjp:j<plan.length:=(List.getElem?_eq_some_iff.1 hj).1
     have hc:=List.all_eq_true.1 hin2 j (List.mem_range.2 hjp)
     rw [hj] at hc
     simp only [htil,Bool.or_eq_true] at hc
     rcases hc with ((hc | hc) | hc) | hc
     ·
      rw [Nat.eq_of_beq_eq_true hc] at hnk
      exact hnk (by simp [show i<l.size by omega])
     ·
      exact hne (Nat.eq_of_beq_eq_true hc)
     ·
      exact hnk (getD_set_true (eL hm hd hs i _ (iA hm hr) k hc))
     ·
      have hjo:j<ops.size:=by omega
      have hgj:=dS hm (Array.getElem?_eq_getElem hjo)
      have e3:ms.getD j 0=maskOf (waits ops[j]):=by simp [hgj]
      refine hu (eL hm hd hs j _ (fun m hm2=>?_) i hc)
      rw [e3,eJ,fJ] at hm2
      obtain ⟨x,hx,hb3,rfl⟩:=hm2
      exact hd j _ (Array.getElem?_eq_getElem hjo) hl x hx hb3
theorem drawnN {id:Nat} (nw:List Nat) (R R':Rel) (plan:List Fct) (ms js:List Nat) (hR:∀ a w w',St n w0 a w e h→R w w'→St n w0 a w' e h) (hR':∀ a w w',St n w0 a w e h→R' w w'→St n w0 a w' e h) (hf:P.follows .mixedOrders=true) (hm:masks ops=ms) (hk:planOkF ops n e plan ms=true) (H:St n w0 a w e h) (ho:ObsF P R R' ops Q n w0 e h plan ops.toList plan)
  (hl:js.all (fun j=>match plan[j]? with | some jt=>jt.til.isNone | none=>true)=true)
  (hold:∀ (j:Nat) (it:Fct),plan[j]?=some it→j∈nw→it.til=none∧∀ v w,it.F v w→∃ g,v=.pointer (some ⟨g,0,none⟩)∧g<w.heap.size)
  (strong:∀ (j:Nat) (o:Oper) (it:Fct),ops[j]?=some o→plan[j]?=some it→j∈nw→∀ a w,St n w0 a w e h→o.wp P a w (fun a' w'=>∃ v,a'=a.put o.dst v∧it.rel R R' w w'∧it.F v w'∧FreshAt w v) Q)
  (tail:∀ a w,Chain plan w (fun e'=>DistAll plan nw a→St n w0 a w e' h→wpList P ops Q (ops.toList.drop plan.length) a w) js e):(Code.region id ops true).wp P Q a w:=by
 refine wp_region_any hf ?_
 have none_:∀ i,¬ (Array.replicate ops.size false).getD i false=true:=fun i hi=>by
  by_cases h:i<ops.size
  ·
   simp [h] at hi
  ·
   simp [h] at hi
 refine any_planN hR hR' hm hk ho hold strong (fun a w hD hv hst=>?_) ops.size _ a w.drew (by simp) (fun i o _ hi=>absurd hi (none_ i)) (fun i _=>none_ i) ?_ ⟨H.drew,fun j _ _ hj=>absurd hj (none_ j)⟩ (fun i j _ _ _ _ _ _ _ hi=>absurd hi (none_ i))
 ·
  obtain ⟨e',h1,h2⟩:=Chain.get (fun j hjs it hj=>hv j it hj (by
   have:=List.all_eq_true.1 hl j hjs
   rw [hj] at this
   simpa using this)) (tail a w) hst
  exact h1 hD h2
 ·
  have:=zB (Array.replicate ops.size false) plan.length
  unfold planOkF at hk
  simp only [Bool.and_eq_true] at hk
  have:=Nat.le_of_ble_eq_true hk.1.1.1.1.1.1.1.1
  omega
theorem Chain.imp {w:World} {K K':Env→Prop} (h:∀ e,K e→K' e):∀ {js:List Nat} {e:Env},Chain plan w K js e→Chain plan w K' js e
 | [],e,hc=>h e hc
 | j::r,e,hc=>by
  unfold Chain at hc ⊢
  cases hj:plan[j]? with
  | none =>
   rw [hj] at hc
   exact Chain.imp h hc
  | some it =>
   rw [hj] at hc
   exact fun v hv=>Chain.imp h (hc v hv)
theorem drawnR {id:Nat} (R R':Rel) (plan:List Fct) (ms js:List Nat) (hR:∀ a w w',St n w0 a w e h→R w w'→St n w0 a w' e h) (hR':∀ a w w',St n w0 a w e h→R' w w'→St n w0 a w' e h) (hf:P.follows .mixedOrders=true) (hm:masks ops=ms) (hk:planOkF ops n e plan ms=true) (H:St n w0 a w e h) (ho:ObsF P R R' ops Q n w0 e h plan ops.toList plan)
  (hl:js.all (fun j=>match plan[j]? with | some jt=>jt.til.isNone | none=>true)=true)
  (tail:∀ a w,Chain plan w (fun e'=>St n w0 a w e' h→wpList P ops Q (ops.toList.drop plan.length) a w) js e):(Code.region id ops true).wp P Q a w :=
 drawnN [] R R' plan ms js hR hR' hf hm hk H ho hl (fun j it _ hj=>by cases hj) (fun j o it _ _ hj=>by cases hj) (fun a w=>Chain.imp (fun e' h _=>h) (tail a w))
end
structure Grow (B:Nat) (h:Hep) (w w':World):Prop where
 below:Below B w w'
 cells:∀ p:Addr,p.block<w.heap.size→w'.cell? p=w.cell? p
 objs:∀ (g:Nat) (C:Array Value) (t:TypeId) (fr:Nat × Nat),w.heap[g]?=some (.cells C t fr)→∃ fr',w'.heap[g]?=some (.cells C t fr')
 blks:∀ x∈h,x.1<w.heap.size→w'.heap[x.1]?=w.heap[x.1]?
theorem gro {B:Nat} {h:Hep} {w w':World} (hb:Below w.heap.size w w') (hB:B≤w.heap.size):Grow B h w w' :=
 ⟨hb.mono hB,fun p hp=>hb.cell hp,fun g C t fr hg=>⟨fr,(hb.block g (Array.getElem?_eq_some_iff.1 hg).1).trans hg⟩,fun x _ hx=>hb.block x.1 hx⟩
section
variable {P:Program} {n:Nat} {w0 w w':World} {a:Act} {e:Env} {h:Hep} {Q:Exit→Act→World→Prop} {ops:Array Oper} {rest:List Oper} {o:Oper}
theorem fL:∀ (a:Act) (w w':World),St n w0 a w e h→Grow w0.heap.size h w w'→St n w0 a w' e h:=fun a w w' H hb =>
 ⟨H.size,H.defers,H.env,H.below.trans hb.below,fun p hp=>(hb.blks p hp (H.heap p hp).lt).trans (H.heap p hp),H.own,H.apart⟩
theorem jR {d:Nat} {F:Value→World→Prop} (hob:Region.wanted o (yielded ops a.tmps)=true∧o.wp P a w (fun a' w'=>∃ v,a'=a.put o.dst v∧Grow w0.heap.size h w w'∧F v w') Q) (hdst:o.dst=some d) (hl:Nat.blt d n=true) (hf:e.all (fun p=>!Nat.beq p.1 d)=true)
  (H:St n w0 a w e h) (next:∀ v a w',F v w'→Grow w0.heap.size h w w'→St n w0 a w' ((d,v)::e) h→wpList P ops Q rest a w'):wpList P ops Q (o::rest) a w :=
 wpList_step fun K hK=>by
  rw [hob.1,if_pos rfl]
  exact Oper.wp_mono (fun a' w' hw=>by
   obtain ⟨v,rfl,hb,hF⟩:=hw
   refine hK _ _ (next v _ _ hF hb ?_)
   rw [hdst]
   exact (fL _ _ _ H hb).put v hl hf) hob.2
theorem aY {d:Nat} {F:Value→World→Prop} (hob:Region.wanted o (yielded ops a.tmps)=true∧o.wp P a w (fun a' w'=>∃ v,a'=a.put o.dst v∧Grow w0.heap.size h w w'∧F v w') Q) (hdst:o.dst=some d) (hl:Nat.blt d n=true) (hf:e.all (fun p=>!Nat.beq p.1 d)=true)
  (H:St n w0 a w e h) (next:∀ v a w',F v w'→St n w0 a w' ((d,v)::e) h→wpList P ops Q rest a w'):wpList P ops Q (o::rest) a w :=
 jR hob hdst hl hf H fun v a w' hF _=>next v a w' hF
abbrev Ob (P:Program) (ops:Array Oper) (Q:Exit→Act→World→Prop) (B:Nat) (h:Hep) (o:Oper) (a:Act) (w:World) (F:Value→World→Prop):Prop :=
 Region.wanted o (yielded ops a.tmps)=true∧o.wp P a w (fun a' w'=>∃ v,a'=a.put o.dst v∧Grow B h w w'∧F v w') Q
theorem aI {V:Value} (H:St n w0 a w e h) (hw:∀ a w,St n w0 a w e h→Region.wanted o (yielded ops a.tmps)=true) (hd:Does P Q n w0 e h o V):Ob P ops Q w0.heap.size h o a w (fun v _=>v=V) :=
 ⟨hw a w H,Oper.wp_mono (fun a' w' hx=>⟨V,hx.1,gro hx.2 H.below.size,rfl⟩) (hd a w H)⟩
theorem tN {F:Value→World→Prop} (H:St n w0 a w e h) (hw:∀ a w,St n w0 a w e h→Region.wanted o (yielded ops a.tmps)=true) (hr:∃ v w',(execOp a.eval o).run P w=.ok (.value v) w'∧Grow w0.heap.size h w w'∧F v w'):Ob P ops Q w0.heap.size h o a w F:=by
 refine ⟨hw a w H,?_⟩
 obtain ⟨v,w',h1,h2,h3⟩:=hr
 unfold Oper.wp
 rw [h1]
 exact ⟨v,rfl,h2,h3⟩
theorem mX {f:FuncId} {args:List Operand} {tys:Array TypeId} {vs:List Value} {F:Value→World→Prop} (H:St n w0 a w e h) (hw:∀ a w,St n w0 a w e h→Region.wanted o (yielded ops a.tmps)=true)
  (ho:o.op=.call { callee:=.value (.func f),args:=args.toArray,argTypes:=tys }) (hf:Ours P f) (hx:sevs e args=some vs)
  (hc:Calls P f vs.toArray w (fun r W'=>∃ v,r=.returned v∧Below w.heap.size w W'∧F v W')):Ob P ops Q w0.heap.size h o a w F:=by
 refine ⟨hw a w H,?_⟩
 unfold Oper.wp
 rw [sR ho hf rfl,H.evs hx,Oper.upon_enter]
 refine hc.mono ?_
 rintro r W' ⟨v,rfl,hb,hF⟩
 exact ⟨v,rfl,gro hb H.below.size,hF⟩
theorem cE {f:FuncId} {args:List Operand} {tys:Array TypeId} {vs:List Value} {V:Value} (H:St n w0 a w e h) (hw:∀ a w,St n w0 a w e h→Region.wanted o (yielded ops a.tmps)=true)
  (ho:o.op=.call { callee:=.value (.func f),args:=args.toArray,argTypes:=tys }) (hf:Ours P f) (hx:sevs e args=some vs)
  (hc:Calls P f vs.toArray w (fun r W'=>r=.returned V∧Below w.heap.size w W')):Ob P ops Q w0.heap.size h o a w (fun v _=>v=V) :=
 mX H hw ho hf hx (hc.mono fun r W' ⟨h1,h2⟩=>⟨V,h1,h2,rfl⟩)
def NewF (B:Nat) (h:Hep) (t:TypeId) (z:Array Value) (v:Value) (w:World):Prop:=∃ g,v=.pointer (some ⟨g,0,none⟩)∧Blk w g t z∧B≤g∧∀ p∈h,p.1≠g
theorem kU {t:TypeId} {z:Array Value} (H:St n w0 a w e h) (hn:News P o t z) (hg:o.guard=none):Region.wanted o (yielded ops a.tmps)=true∧o.wp P a w (fun a' w'=>∃ v,a'=a.put o.dst v∧Below w.heap.size w w'∧NewF w0.heap.size h t z v w') Q:=by
 refine ⟨by simp [Region.wanted,hg],?_⟩
 unfold Oper.wp
 rw [hn a w]
 exact ⟨_,rfl,(Below.refl _ _).alloc (Nat.le_refl _) _,_,rfl,Blk.new _ _ _,H.below.size,fun p hp=>Nat.ne_of_lt (H.heap p hp).lt⟩
theorem St.add (H:St n w0 a w e h) {g:Nat} {t:TypeId} {z:Array Value} (hb:Blk w g t z) (ho:w0.heap.size≤g) (hn:∀ p∈h,p.1≠g):St n w0 a w e ((g,t,z)::h):=by
 refine ⟨H.size,H.defers,H.env,H.below,fun p hp=>?_,fun p hp=>?_,List.pairwise_cons.2 ⟨fun p hp=>Ne.symm (hn p hp),H.apart⟩⟩
 ·
  rcases List.mem_cons.1 hp with rfl | hp
  ·
   exact hb
  ·
   exact H.heap p hp
 ·
  rcases List.mem_cons.1 hp with rfl | hp
  ·
   exact ho
  ·
   exact H.own p hp
theorem aB {R:Rel} {V:Value}:∀ (v:Value) (w w':World),v=V→R w w'→v=V:=fun _ _ _ h _=>h
theorem zL {g:Nat} {t:TypeId} {cs:Array Value} (hb:Blk w0 g t cs) (H:St n w0 a w e h):Blk w g t cs:=hb.below H.below hb.lt
theorem lH {t:TypeId} {x:Operand} {g:Nat} {t':TypeId} {cs:Array Value} {d:TypeDesc} (ho:o.op=.load t x) (hx:sev e x=some (.pointer (some ⟨g,0,none⟩))) (hb:Blk w0 g t' cs)
  (hu:P.underlying t=some d) (hd:(match d with | .struct _ | .array _ _=>true | _=>false)=true) (hi:(P.info? t).map (·.size)=some cs.size):Does P Q n w0 e h o (.agg cs):=fun a w H =>
 wp_load_row t x ho g (H.ev hx) t' cs (0,0) d (zL hb H) hu hd hi ⟨rfl,Below.refl _ _⟩
theorem St.blk (H:St n w0 a w e h) {k g:Nat} {t:TypeId} {cs:Array Value} (hk:h[k]?=some (g,t,cs)):Blk w g t cs:=H.heap (g,t,cs) (List.mem_iff_getElem?.2 ⟨k,hk⟩)
theorem bL {t:TypeId} {x:Operand} {lo hi:Option Operand} {u v:Value} {vl vh:Option Value} (ho:o.op=.slice t x lo hi none) (hx:sev e x=some u) (hl:lo.map (sev e)=vl.map some) (hh:hi.map (sev e)=vh.map some)
  (hv:∀ W,(Instr.sliceAt t u vl vh none).run P W=.ok v W):Does P Q n w0 e h o v:=iE fun a w H=>by
 unfold execOp
 have el:lo.map a.eval=vl:=by
  cases lo with
  | none=>cases vl with
   | none=>rfl
   | some _=>cases hl
  | some x=>cases vl with
   | none=>cases hl
   | some y=>injection hl with hl;exact congrArg some (H.ev hl)
 have eh:hi.map a.eval=vh:=by
  cases hi with
  | none=>cases vh with
   | none=>rfl
   | some _=>cases hh
  | some x=>cases vh with
   | none=>cases hh
   | some y=>injection hh with hh;exact congrArg some (H.ev hh)
 simp only [ho,H.ev hx,el,eh,Option.map_none,Sem.run_bind,hv,Result.andThen_ok,Sem.run_pure]
theorem eF {x:Operand} {t el:TypeId} {A:Option Addr} {k c:Nat} (hu:P.underlying t=some (.slice el)) (ho:o.op=.call { callee:=.builtin .len,args:=#[x],argTypes:=#[t] }) (hx:sev e x=some (.slice A k c)):Does P Q n w0 e h o (.int .i64 (k:Int)):=iE fun a w H=>by
 simp [execOp,ho,resolve,invoke,builtin,H.ev hx,Builtin.len_,Builtin.lenOf,goInt,run_underlying hu,Result.andThen]
def spliceA (cur:Array Value) (off:Nat) (cs:List Value):Array Value:=(cur.toList.take off++cs++cur.toList.drop (off+cs.length)).toArray
theorem gJ {x y:Operand} {d:Nat} {dT sT elem:TypeId} {g off dl dc k gs so sl sc k2 m:Nat} {t ts:TypeId} {cur src c:Array Value} (ho:o.op=.call { callee:=.builtin .copy,args:=#[x,y],argTypes:=#[dT,sT] })
  (hu:P.underlying dT=some (.slice elem)) (hsz:(P.info? elem).map (·.size)=some 1)
  (hx:sev e x=some (.slice (some ⟨g,off,none⟩) dl dc)) (hy:sev e y=some (.slice (some ⟨gs,so,none⟩) sl sc)) (hk:h[k]?=some (g,t,cur)) (hk2:h[k2]?=some (gs,ts,src))
  (hm:Nat.min sl dl=m) (hs:so+m≤src.size) (hd:off+m≤cur.size) (h1:src.all (·.oneCell')=true) (hc:spliceA cur off ((src.toList.drop so).take m)=c)
  (hg:o.guard=none) (hdst:o.dst=some d) (hl:Nat.blt d n=true) (hf:e.all (fun p=>!Nat.beq p.1 d)=true)
  (H:St n w0 a w e h) (next:∀ a w',St n w0 a w' ((d,.int .i64 (m:Int))::e) (h.set k (g,t,c))→wpList P ops Q rest a w'):wpList P ops Q (o::rest) a w :=
 wpList_plain hg fun K hK=>by
  have hb:=H.blk hk
  have hb2:=H.blk hk2
  have hlen:((src.toList.drop so).take m).length=m:=by simp;omega
  have hrun:=run_copy_row (P:=P) w dT sT o.type elem g off dl dc ⟨gs,so,none⟩ sl sc cur t ((src.toList.drop so).take m) hu hsz hb (by rw [hlen,hm]) (fun j v hv=>by
   rw [Addr.add_lit,hb2.cell]
   rw [List.getElem?_take] at hv
   split at hv
   ·
    rw [List.getElem?_drop] at hv
    rw [←Array.getElem?_toList]
    exact hv
   ·
    cases hv) (by rw [hlen];exact hd) (fun v hv=>by
   have:=List.mem_of_mem_drop (List.mem_of_mem_take hv)
   rw [Array.all_eq_true'] at h1
   exact h1 v (by simpa using this))
  rw [show (cur.toList.take off++(src.toList.drop so).take m++cur.toList.drop (off+((src.toList.drop so).take m).length)).toArray=c from hc] at hrun
  unfold Oper.wp
  simp [execOp,ho,resolve,invoke,builtin,H.ev hx,H.ev hy,hrun,Result.andThen]
  refine hK _ _ (next _ _ ?_)
  rw [hdst]
  have e1:min m (src.size-so)=m:=by omega
  simp only [e1]
  exact (H.setRow hk c).put _ hl hf
end
end
section
set_option maxRecDepth 99999
open Go Go.RowKit
def kby (n:Nat):List UInt8:=(kb n).map UInt8.ofNat
theorem fK (n:Nat):(kby n).length=32:=by rw [kby,List.length_map,dP]
theorem kb_lt (n:Nat):∀ x∈kb n,x<256:=by
 intro x hx
 unfold kb at hx
 obtain ⟨i,_,rfl⟩:=List.mem_map.1 hx
 exact Nat.mod_lt _ (by omega)
theorem nc_byte {x:Nat} (h:x<256):bv (UInt8.ofNat x)=nc .u8 x:=by
 unfold bv nc
 rw [UInt8.toNat_ofNat',Nat.mod_eq_of_lt (show x<2^8 by omega)]
theorem bvs_nat {l:List Nat} (h:∀ x∈l,x<256):bvs (l.map UInt8.ofNat)=ncs .u8 l:=by
 unfold bvs ncs
 rw [List.map_map]
 congr 1
 exact List.map_congr_left fun x hx=>nc_byte (h x hx)
theorem ks_kby (n:Nat):ks n=bvs (kby n):=(bvs_nat (kb_lt n)).symm
theorem scl_clamp (n:Nat):Scl.clampN n=putd 256 (putd 256 n 0 (n/256^0%256/8*8)) 31 (n/256^31%256%64+64):=rfl
theorem pJ:(115792089237316195423570985008687907853269984665640564039457584007913129639936:Nat)=256^32:=by decide +kernel
theorem tX:(13407807929942597099574024998205846127479365820592393377723561443721764030073546976801874298166903427690031858186486050853753882811946569946433649006084096:Nat)=256^64:=by decide +kernel
theorem kb_lo (n:Nat):kb (n%115792089237316195423570985008687907853269984665640564039457584007913129639936)=(Scl.lb n).take 32:=by
 have e:(Scl.lb n).take 32=(List.range 32).map fun i=>n/256^i%256:=by
  unfold Scl.lb
  rw [←List.map_take]
  rfl
 rw [e,pJ]
 unfold kb
 refine List.map_congr_left fun i hi=>?_
 rw [fX 256 n 32 i (by omega),if_pos (List.mem_range.1 hi)]
theorem wU (n:Nat):kb (n/115792089237316195423570985008687907853269984665640564039457584007913129639936)=(Scl.lb n).drop 32:=by
 have e:(Scl.lb n).drop 32=(List.range 32).map fun i=>n/256^(32+i)%256:=by
  unfold Scl.lb
  rw [←List.map_drop,show (List.range 64).drop 32=(List.range 32).map (fun i=>32+i) by rfl,List.map_map]
  rfl
 rw [e,pJ]
 unfold kb
 refine List.map_congr_left fun i hi=>?_
 rw [Nat.div_div_eq_div_mul,←Nat.pow_add]
theorem lb_join (a b:Nat) (ha:K256 a):Scl.lb (a+115792089237316195423570985008687907853269984665640564039457584007913129639936*b)=kb a++kb b:=by
 rw [←List.take_append_drop 32 (Scl.lb _),←kb_lo,←wU]
 congr 2
 ·
  rw [Nat.add_mul_mod_self_left,Nat.mod_eq_of_lt ha]
 ·
  rw [Nat.add_mul_div_left _ _ (by omega),Nat.div_eq_of_lt ha,Nat.zero_add]
theorem nA (n:Nat):(Scl.ls n).toList=(Scl.lb n).map (nc .u8):=by simp [Scl.ls,ncs]
theorem ks_toList (n:Nat):(ks n).toList=(kb n).map (nc .u8):=by simp [ks,ncs]
theorem fD (n:Nat):(Scl.ls n).all (·.oneCell')=true:=iH _ _
theorem vT (n:Nat):n=n%115792089237316195423570985008687907853269984665640564039457584007913129639936+115792089237316195423570985008687907853269984665640564039457584007913129639936*(n/115792089237316195423570985008687907853269984665640564039457584007913129639936):=(Nat.mod_add_div _ _).symm
theorem sL {cur:Array Value} {cs:List Value} (h:cur.size=cs.length):spliceA cur 0 cs=cs.toArray:=by
 unfold spliceA
 rw [List.take_zero,List.nil_append,Nat.zero_add,List.drop_of_length_le (by simp [h]),List.append_nil]
theorem mQ (m n:Nat):spliceA (ks m) 0 (((Scl.ls n).toList.drop 0).take 32)=ks (n%115792089237316195423570985008687907853269984665640564039457584007913129639936):=by
 have e:((Scl.ls n).toList.drop 0).take 32=(kb (n%115792089237316195423570985008687907853269984665640564039457584007913129639936)).map (nc .u8):=by
  rw [List.drop_zero,nA,←List.map_take,kb_lo]
 rw [e,sL (by rw [aG,List.length_map,dP])]
 rfl
theorem qG (m n:Nat):spliceA (ks m) 0 (((Scl.ls n).toList.drop 32).take 32)=ks (n/115792089237316195423570985008687907853269984665640564039457584007913129639936):=by
 have e:((Scl.ls n).toList.drop 32).take 32=(kb (n/115792089237316195423570985008687907853269984665640564039457584007913129639936)).map (nc .u8):=by
  rw [nA,←List.map_drop,←wU,←List.map_take,List.take_of_length_le (by rw [dP];omega)]
 rw [e,sL (by rw [aG,List.length_map,dP])]
 rfl
theorem wT (a:Nat):((ks a).toList.drop 0).take 32=(kb a).map (nc .u8):=by
 rw [List.drop_zero,ks_toList,List.take_of_length_le (by rw [List.length_map,dP];omega)]
theorem xZ (m a:Nat) (ha:K256 a):spliceA (Scl.ls m) 0 (((ks a).toList.drop 0).take 32)=Scl.ls (a+115792089237316195423570985008687907853269984665640564039457584007913129639936*(m/115792089237316195423570985008687907853269984665640564039457584007913129639936)):=by
 rw [wT]
 unfold spliceA
 have e:(Scl.ls (a+115792089237316195423570985008687907853269984665640564039457584007913129639936*(m/115792089237316195423570985008687907853269984665640564039457584007913129639936)))=((kb a).map (nc .u8)++((Scl.lb m).drop 32).map (nc .u8)).toArray:=by
  rw [Scl.ls,lb_join _ _ ha,wU,ncs,List.map_append]
 rw [e,List.take_zero,List.nil_append,nA,List.length_map,dP,←List.map_drop]
theorem vF (m b:Nat):spliceA (Scl.ls m) 32 (((ks b).toList.drop 0).take 32)=Scl.ls (m%115792089237316195423570985008687907853269984665640564039457584007913129639936+115792089237316195423570985008687907853269984665640564039457584007913129639936*b):=by
 rw [wT]
 unfold spliceA
 have e:(Scl.ls (m%115792089237316195423570985008687907853269984665640564039457584007913129639936+115792089237316195423570985008687907853269984665640564039457584007913129639936*b))=(((Scl.lb m).take 32).map (nc .u8)++(kb b).map (nc .u8)).toArray:=by
  rw [Scl.ls,lb_join _ _ (Nat.mod_lt _ (by omega)),kb_lo,ncs,List.map_append]
 rw [e,nA,←List.map_take,List.drop_of_length_le (by rw [List.length_map,List.length_map,dP,Scl.kW];omega),List.append_nil]
theorem join_lt {a b:Nat} (ha:K256 a) (hb:K256 b):a+115792089237316195423570985008687907853269984665640564039457584007913129639936*b<13407807929942597099574024998205846127479365820592393377723561443721764030073546976801874298166903427690031858186486050853753882811946569946433649006084096:=by omega
theorem join_lo {a b:Nat} (ha:K256 a):(a+115792089237316195423570985008687907853269984665640564039457584007913129639936*b)%115792089237316195423570985008687907853269984665640564039457584007913129639936=a:=by omega
theorem join_hi {a b:Nat} (ha:K256 a):(a+115792089237316195423570985008687907853269984665640564039457584007913129639936*b)/115792089237316195423570985008687907853269984665640564039457584007913129639936=b:=by omega
theorem uE {n:Nat} (hn:n<13407807929942597099574024998205846127479365820592393377723561443721764030073546976801874298166903427690031858186486050853753882811946569946433649006084096):n/115792089237316195423570985008687907853269984665640564039457584007913129639936<115792089237316195423570985008687907853269984665640564039457584007913129639936:=by omega
theorem lo_lt (n:Nat):n%115792089237316195423570985008687907853269984665640564039457584007913129639936<115792089237316195423570985008687907853269984665640564039457584007913129639936:=Nat.mod_lt _ (by omega)
def leN:List Nat→Nat
 | []=>0
 | x::r=>x+256*leN r
theorem leN_lt:∀ {l:List Nat},(∀ x∈l,x<256)→leN l<256^l.length
 | [],_=>by decide
 | x::r,h=>by
  have h1:=h x List.mem_cons_self
  have h2:=leN_lt (l:=r) fun y hy=>h y (List.mem_cons_of_mem _ hy)
  rw [List.length_cons,Nat.pow_succ]
  unfold leN
  omega
theorem leN_dig:∀ {l:List Nat},(∀ x∈l,x<256)→∀ {i x:Nat},l[i]?=some x→leN l/256^i%256=x
 | [],_,i,x,h=>by simp at h
 | y::r,h,0,x,hx=>by
  have h1:=h y List.mem_cons_self
  simp at hx
  subst hx
  unfold leN
  simp only [Nat.pow_zero,Nat.div_one]
  omega
 | y::r,h,i+1,x,hx=>by
  have h1:=h y List.mem_cons_self
  have h2:=leN_dig (l:=r) (fun y hy=>h y (List.mem_cons_of_mem _ hy)) (i:=i) (x:=x) (by simpa using hx)
  unfold leN
  rw [Nat.pow_succ,Nat.mul_comm (256^i) 256,←Nat.div_div_eq_div_mul,show (y+256*leN r)/256=leN r by omega]
  exact h2
theorem lb_leN {l:List Nat} (hl:l.length=64) (h:∀ x∈l,x<256):Scl.lb (leN l)=l:=by
 refine List.ext_getElem? fun i=>?_
 by_cases hi:i<64
 ·
  have hx:l[i]?=some l[i]:=List.getElem?_eq_getElem (by omega)
  rw [Scl.qQ _ hi,leN_dig h hx,hx]
 ·
  rw [List.getElem?_eq_none (by rw [Scl.kW];omega),List.getElem?_eq_none (by omega)]
theorem b8_lt (x:Nat):∀ y∈Sha.b8 x,y<256:=by
 intro y hy
 simp only [Sha.b8,List.mem_cons,List.not_mem_nil,or_false] at hy
 omega
theorem hashN_lt (l:List Nat):∀ x∈Sha.hashN l,x<256:=by
 intro x hx
 unfold Sha.hashN Sha.outS at hx
 simp only [List.mem_append] at hx
 rcases hx with h | h | h | h | h | h | h | h<;>exact b8_lt _ _ h
def hN (l:List UInt8):Nat:=leN (Sha.hashN (Sha.bn l))
theorem hN_lt (l:List UInt8):hN l<13407807929942597099574024998205846127479365820592393377723561443721764030073546976801874298166903427690031858186486050853753882811946569946433649006084096:=by
 rw [tX]
 exact leN_lt (hashN_lt _)
theorem hN_row (l:List UInt8):ncs .u8 (Sha.hashN (Sha.bn l))=Scl.ls (hN l):=by
 unfold Scl.ls hN
 rw [lb_leN rfl (hashN_lt _)]
attribute [irreducible] hN
def clampK (n:Nat):Nat:=Scl.clampN n
theorem clampK_lt {n:Nat}:clampK n<115792089237316195423570985008687907853269984665640564039457584007913129639936∨¬ n<115792089237316195423570985008687907853269984665640564039457584007913129639936:=by
 by_cases h:K256 n
 ·
  left
  unfold clampK
  rw [scl_clamp]
  unfold putd
  omega
 ·
  exact .inr h
def num (l:List UInt8):Nat:=hN l%LL'
theorem num_lt (l:List UInt8):num l<LL':=Nat.mod_lt _ (by decide)
def seedA (s:Nat):Nat:=clampK (hN (kby s)%115792089237316195423570985008687907853269984665640564039457584007913129639936)
def seedP (s:Nat):Nat:=hN (kby s)/115792089237316195423570985008687907853269984665640564039457584007913129639936
theorem mD (s:Nat):seedA s<115792089237316195423570985008687907853269984665640564039457584007913129639936:=clampK_lt.resolve_right (fun h=>h (lo_lt _))
def pubN (s:Nat):Nat:=pbn (BP.mul (seedA s))
theorem gI (s:Nat):pubN s<115792089237316195423570985008687907853269984665640564039457584007913129639936:=yO _
def sigR (s:Nat) (l:List UInt8):Nat:=num (kby (seedP s)++l)
def sigP (s:Nat) (l:List UInt8):Nat:=pbn (BP.mul (sigR s l))
theorem jC (s:Nat) (l:List UInt8):sigP s l<115792089237316195423570985008687907853269984665640564039457584007913129639936:=yO _
def sigH (r a:Nat) (l:List UInt8):Nat:=num (kby r++(kby a++l))
def sigS (s:Nat) (l:List UInt8):Nat:=(sigH (sigP s l) (pubN s) l*seedA s+sigR s l)%LL'
theorem LL'_lt:K256 LL':=by decide
theorem sigS_lt (s:Nat) (l:List UInt8):sigS s l<LL':=Nat.mod_lt _ (by decide)
def signN (s:Nat) (l:List UInt8):Nat:=sigP s l+115792089237316195423570985008687907853269984665640564039457584007913129639936*sigS s l
theorem eC (s:Nat) (l:List UInt8):signN s l<13407807929942597099574024998205846127479365820592393377723561443721764030073546976801874298166903427690031858186486050853753882811946569946433649006084096:=join_lt (jC _ _) (Nat.lt_trans (sigS_lt _ _) LL'_lt)
def chkP (p:Nat) (h:isPt p=true) (s e:Nat):Pt:=(BP.mul s).add ((ptOf p h).neg.mul e)
def checkN (p sig:Nat) (l:List UInt8):Bool :=
 if h:isPt p=true then decide (sig/115792089237316195423570985008687907853269984665640564039457584007913129639936<LL')&&decide (pbn (chkP p h (sig/115792089237316195423570985008687907853269984665640564039457584007913129639936) (sigH (sig%115792089237316195423570985008687907853269984665640564039457584007913129639936) p l))=sig%115792089237316195423570985008687907853269984665640564039457584007913129639936) else false
theorem xH {s t:Nat} {l:List UInt8} (h:t%115792089237316195423570985008687907853269984665640564039457584007913129639936=sigP s l):checkN (pubN s) t l=decide (t/115792089237316195423570985008687907853269984665640564039457584007913129639936=sigS s l):=by
 have hp:isPt (pubN s)=true:=isPt_pbn _
 have e:ptOf (pubN s) hp=BP.mul (seedA s):=tH _
 unfold checkN
 rw [dif_pos hp,h,Bool.eq_iff_iff,Bool.and_eq_true,decide_eq_true_eq,decide_eq_true_eq,decide_eq_true_eq]
 unfold chkP
 rw [e]
 generalize hx:t/115792089237316195423570985008687907853269984665640564039457584007913129639936=x
 constructor
 ·
  rintro ⟨h1,h2⟩
  exact (sig_only rfl h1).1 (pbn_inj h2)
 ·
  intro h1
  have h2:x<LL':=by rw [h1];exact sigS_lt s l
  exact ⟨h2,congrArg pbn ((sig_only rfl h2).2 h1)⟩
theorem iW (s:Nat) (l:List UInt8):checkN (pubN s) (signN s l) l=true:=by
 have h1:signN s l%115792089237316195423570985008687907853269984665640564039457584007913129639936=sigP s l:=join_lo (jC s l)
 rw [xH h1,decide_eq_true_eq]
 exact join_hi (jC s l)
end
section
set_option maxRecDepth 99999
open Go Go.RowKit
theorem cR (W:World):(Instr.alloc 56 true (.tuple #[])).run zP W=.ok (.pointer (some ⟨W.heap.size,0,none⟩)) (W.alloc (.cells #[.int .u64 0,.int .u64 0,.int .u64 0,.int .u64 0] 56)):=by kernel_rfl
theorem jO (x:Fin PP) (W:World):(Instr.box 56 (.agg (ev x))).run zP W=.ok (.pointer (some ⟨W.heap.size,0,none⟩)) (W.alloc (.cells (ev x) 56)):=by kernel_rfl
theorem uZ (W:World):(Instr.build 56 ([]:List (Nat × Value)).toArray).run zP W=.ok (.agg (ev 0)) W:=by kernel_rfl
theorem addP {x y z:Fin PP} (h:z=x+y) (w:World) (hp:PG w):Calls zP 73 #[.agg (ev x),.agg (ev y)] w (EPost z w):=by rw [h];exact addF x y w hp
theorem subP {x y z:Fin PP} (h:z=x-y) (w:World) (hp:PG w):Calls zP 71 #[.agg (ev x),.agg (ev y)] w (EPost z w):=by rw [h];exact subF x y w hp
theorem mulP {x y z:Fin PP} (h:z=x*y) (w:World) (hp:PG w):Calls zP 72 #[.agg (ev x),.agg (ev y)] w (EPost z w):=by rw [h];exact mulF x y w hp
theorem squareP {x z:Fin PP} (h:z=x*x) (w:World) (hp:PG w):Calls zP 108 #[.agg (ev x)] w (EPost z w):=by rw [h];exact squareF x w hp
theorem negP {x z:Fin PP} (h:z=-x) (w:World) (hp:PG w):Calls zP 68 #[.agg (ev x)] w (EPost z w):=by rw [h];exact negF x w hp
theorem smallP {z:Fin PP} (n:Nat) (h:z=sm n) (hn:n<18446744073709551616) (w:World):Calls zP 107 #[.int .u64 (n:Int)] w (EPost z w):=by rw [h];exact smallF n w hn
theorem equalB {x y:Fin PP} {b:Bool} (h:decide (x=y)=b) (w:World):Calls zP 110 #[.agg (ev x),.agg (ev y)] w (BPost b w):=by subst h;exact equalF x y w
end
section
set_option maxRecDepth 99999
open Go Go.RowKit
def sv (s:L4 PP):Array Value:=ev s.a++ev s.b++ev s.c++ev s.d
theorem aX (s:L4 PP):(sv s).size=16:=rfl
theorem sv_list (s:L4 PP):(sv s).toList=(ev s.a).toList++(ev s.b).toList++(ev s.c).toList++(ev s.d).toList:=by simp [sv]
theorem dY (s:L4 PP):(sv s).all (·.oneCell')=true:=by
 have h:∀ x:Fin PP,∀ v∈(ev x).toList,v.oneCell'=true:=fun x v hv=>(Array.all_eq_true_iff_forall_mem.1 (cP x)) v (by simpa using hv)
 refine Array.all_eq_true_iff_forall_mem.2 fun v hv=>?_
 have hm:v∈(sv s).toList:=by simpa using hv
 rw [sv_list] at hm
 simp only [List.mem_append] at hm
 rcases hm with ((hm | hm) | hm) | hm
 ·
  exact h _ v hm
 ·
  exact h _ v hm
 ·
  exact h _ v hm
 ·
  exact h _ v hm
def L4.at4 (s:L4 PP):Nat→Fin PP
 | 0=>s.a
 | 1=>s.b
 | 2=>s.c
 | _=>s.d
theorem at_sv (s:L4 PP) {k j:Nat} (hk:k<4) (v:Value) (h:(ev (s.at4 k)).toList[j]?=some v):(sv s)[4*k+j]?=some v:=by
 have hj:j<4:=by have:=(List.getElem?_eq_some_iff.1 h).1;exact this
 have hl:(sv s)[4*k+j]?=(sv s).toList[4*k+j]?:=by simp
 rw [hl,sv_list]
 rcases (show k=0∨k=1∨k=2∨k=3 by omega) with rfl | rfl | rfl | rfl<;>rcases (show j=0∨j=1∨j=2∨j=3 by omega) with rfl | rfl | rfl | rfl<;>exact h
theorem range_sv {W:World} {g:Nat} {t:TypeId} {s:L4 PP} (h:Blk W g t (sv s)) {k:Nat} (hk:k<4):W.rangeAt g (4*k) (ev (s.at4 k)).toList:=fun j v hv=>by
 rw [h.cell]
 exact at_sv s hk v hv
def setL (cs:Array Value) (o:Nat):List Value→Array Value
 | []=>cs
 | v::r=>setL (cs.setIfInBounds o v) (o+1) r
attribute [local irreducible] ev
theorem Fr.setCells {w:World} {g:Nat} {t:TypeId} {L:List (Nat × TypeId × Array Value)} {R:List (Nat × TypeId × Nat)} (hL:∀ p∈L,p.1≠g) (hR:∀ p∈R,p.1≠g) (hw:w.heap.size≤g) :
  ∀ (vs:List Value) (o:Nat) (cs:Array Value) (W:World),Fr w W ((g,t,cs)::L) R→Fr w (W.setCells g o vs) ((g,t,setL cs o vs)::L) R
 | [],_,_,_,h=>h
 | v::r,o,cs,W,h=>Fr.setCells hL hR hw r (o+1) _ _ (h.setHead hL hR o v hw)
attribute [local irreducible] sv
end
section
open Go Go.RowKit
def dval:List Nat→Nat
 | []=>0
 | x::r=>x+65536*dval r
theorem mJ:∀ (l:List Nat) (j x:Nat),j<l.length→dval (l.set j x)+65536^j*l.getD j 0=dval l+65536^j*x
 | [],j,x,h=>absurd h (by simp)
 | y::r,0,x,_=>by simp [dval];omega
 | y::r,j+1,x,h=>by
  have ih:=mJ r j x (by simpa using h)
  show y+65536*dval (r.set j x)+65536^(j+1)*(r.getD j 0)=y+65536*dval r+65536^(j+1)*x
  rw [Nat.pow_succ,Nat.mul_comm (65536^j) 65536,Nat.mul_assoc,Nat.mul_assoc]
  omega
theorem uM:∀ n,dval (List.replicate n 0)=0
 | 0=>rfl
 | n+1=>by rw [List.replicate_succ,dval,uM n]
theorem iV:∀ (l:List Nat) (j:Nat),j<l.length→dval (l.take (j+1))=dval (l.take j)+65536^j*l.getD j 0
 | [],j,h=>absurd h (by simp)
 | y::r,0,_=>by simp [dval]
 | y::r,j+1,h=>by
  have ih:=iV r j (by simpa using h)
  show y+65536*dval (r.take (j+1))=y+65536*dval (r.take j)+65536^(j+1)*(r.getD j 0)
  rw [ih,Nat.pow_succ,Nat.mul_comm (65536^j) 65536,Nat.mul_assoc]
  omega
theorem kY:∀ (l:List Nat) (j:Nat),dval l=dval (l.take j)+65536^j*dval (l.drop j)
 | l,0=>by simp [dval]
 | [],j+1=>by simp [dval]
 | y::r,j+1=>by
  have ih:=kY r j
  show y+65536*dval r=y+65536*dval (r.take j)+65536^(j+1)*dval (r.drop j)
  rw [ih,Nat.pow_succ,Nat.mul_comm (65536^j) 65536,Nat.mul_assoc]
  omega
theorem dval_drop (l:List Nat) (j:Nat) (h:j<l.length):dval (l.drop j)=l.getD j 0+65536*dval (l.drop (j+1)):=by
 rw [List.drop_eq_getElem_cons h]
 simp [dval,List.getD,List.getElem?_eq_getElem h]
theorem eO (l:List Nat) (i j x:Nat) (h:i<l.length):(l.set i x).getD j 0=if j=i then x else l.getD j 0:=by
 by_cases e:j=i
 ·
  subst e
  simp [List.getD,List.getElem?_set,h]
 ·
  have:i≠j:=fun h=>e h.symm
  simp [List.getD,List.getElem?_set,this,e]
def ovr (l:List Nat) (j:Nat):Nat:=dval (l.take j)/65536^j
theorem pC (l:List Nat):ovr l 0=0:=by simp [ovr,dval]
theorem tK (l:List Nat) (j:Nat) (h:j<l.length):(l.getD j 0+ovr l j)/65536=ovr l (j+1):=by
 unfold ovr
 rw [iV l j h,Nat.pow_succ,←Nat.div_div_eq_div_mul,Nat.add_mul_div_left _ _ (Nat.pow_pos (by omega)),Nat.add_comm]
theorem wK (l:List Nat) (j:Nat) (h:j<l.length):(l.getD j 0+ovr l j)%65536=dval l/65536^j%65536:=by
 unfold ovr
 conv=>rhs;rw [kY l j,Nat.add_mul_div_left _ _ (Nat.pow_pos (by omega)),dval_drop l j h]
 omega
theorem ovr_all (l:List Nat):dval l/65536^l.length=ovr l l.length:=by
 unfold ovr
 rw [List.take_of_length_le (Nat.le_refl _)]
def ColAt (n x y z i:Nat) (l:List Nat):Prop:=l.length=n∧dval l=z%65536^i+x%65536^i*y∧∀ j,l.getD j 0≤4300000000*i
def ColIn (n x y v i k:Nat) (l:List Nat):Prop:=l.length=n∧dval l=v+65536^i*(x/65536^i%65536)*(y%65536^k)∧(∀ j,l.getD j 0≤4300000000*(i+1))∧∀ j,i+k≤j→l.getD j 0≤4300000000*i+65535
theorem xG (n x y z:Nat):ColAt n x y z 0 (List.replicate n 0):=by
 refine ⟨by simp,?_,fun j=>?_⟩
 ·
  rw [uM,Nat.pow_zero,Nat.mod_one,Nat.mod_one]
  simp
 ·
  by_cases h:j<n<;>simp [List.getD,List.getElem?_replicate,h]
theorem col_in {n x y z i:Nat} {l:List Nat} (hi:i<n) (h:ColAt n x y z i l):ColIn n x y (z%65536^(i+1)+x%65536^i*y) i 0 (l.set i (l.getD i 0+z/65536^i%65536)):=by
 obtain ⟨h1,h2,h3⟩:=h
 have hz:z/65536^i%65536<65536:=Nat.mod_lt _ (by omega)
 refine ⟨by rw [List.length_set,h1],?_,fun j=>?_,fun j _=>?_⟩
 ·
  have hs:=mJ l i (l.getD i 0+z/65536^i%65536) (by omega)
  rw [Nat.pow_zero,Nat.mod_one,Nat.mul_zero,Nat.add_zero,Nat.mod_pow_succ]
  rw [Nat.mul_add,h2] at hs
  omega
 ·
  have hl:i<l.length:=by omega
  clear h2
  rw [eO _ _ _ _ hl]
  have e:4300000000*(i+1)=4300000000*i+4300000000:=Nat.mul_succ _ _
  have k1:=h3 j
  have k2:=h3 i
  generalize 4300000000*(i+1)=X at *
  generalize 4300000000*i=Y at *
  split<;>omega
 ·
  have hl:i<l.length:=by omega
  clear h2
  rw [eO _ _ _ _ hl]
  have e:4300000000*(i+1)=4300000000*i+4300000000:=Nat.mul_succ _ _
  have k1:=h3 j
  have k2:=h3 i
  generalize 4300000000*(i+1)=X at *
  generalize 4300000000*i=Y at *
  split<;>omega
theorem col_in0 {n x y i:Nat} {l:List Nat} (h:ColAt n x y 0 i l):ColIn n x y (x%65536^i*y) i 0 l:=by
 obtain ⟨h1,h2,h3⟩:=h
 refine ⟨h1,?_,fun j=>?_,fun j _=>?_⟩
 ·
  rw [Nat.pow_zero,Nat.mod_one,Nat.mul_zero,Nat.add_zero,h2,Nat.zero_mod,Nat.zero_add]
 ·
  have e:4300000000*(i+1)=4300000000*i+4300000000:=Nat.mul_succ _ _
  have k1:=h3 j
  clear h2 h3
  generalize 4300000000*(i+1)=X at *
  generalize 4300000000*i=Y at *
  omega
 ·
  have e:4300000000*(i+1)=4300000000*i+4300000000:=Nat.mul_succ _ _
  have k1:=h3 j
  clear h2 h3
  generalize 4300000000*(i+1)=X at *
  generalize 4300000000*i=Y at *
  omega
theorem col_step {n x y v i k:Nat} {l:List Nat} (hk:i+k<n) (h:ColIn n x y v i k l) :
  ColIn n x y v i (k+1) (l.set (i+k) (l.getD (i+k) 0+x/65536^i%65536*(y/65536^k%65536)))∧l.getD (i+k) 0≤4300000000*i+65535∧x/65536^i%65536*(y/65536^k%65536)≤4294836225:=by
 obtain ⟨h1,h2,h3,h4⟩:=h
 have hp:x/65536^i%65536*(y/65536^k%65536)≤65535*65535:=by
  have hx:=Nat.mod_lt (x/65536^i) (show 0<65536 by omega)
  have hy:=Nat.mod_lt (y/65536^k) (show 0<65536 by omega)
  exact Nat.mul_le_mul (by omega) (by omega)
 have hc:=h4 (i+k) (Nat.le_refl _)
 refine ⟨⟨by rw [List.length_set,h1],?_,fun j=>?_,fun j hj=>?_⟩,hc,by omega⟩
 ·
  have hs:=mJ l (i+k) (l.getD (i+k) 0+x/65536^i%65536*(y/65536^k%65536)) (by omega)
  rw [Nat.mod_pow_succ,Nat.mul_add]
  rw [Nat.mul_add,h2] at hs
  have e:65536^i*(x/65536^i%65536)*(65536^k*(y/65536^k%65536))=65536^(i+k)*(x/65536^i%65536*(y/65536^k%65536)):=by
   rw [Nat.pow_add]
   ac_rfl
  rw [e]
  omega
 ·
  rw [eO _ _ _ _ (by omega)]
  have:=h3 j
  split<;>omega
 ·
  rw [eO _ _ _ _ (by omega),if_neg (by omega)]
  exact h4 j (by omega)
theorem col_end {n x y z i:Nat} {l:List Nat} (hy:y<65536^16) (h:ColIn n x y (z%65536^(i+1)+x%65536^i*y) i 16 l):ColAt n x y z (i+1) l:=by
 obtain ⟨h1,h2,h3,h4⟩:=h
 refine ⟨h1,?_,h3⟩
 rw [h2,Nat.mod_eq_of_lt hy,Nat.mod_pow_succ (b:=65536) (x:=x),Nat.add_mul]
 omega
theorem col_all {n x y z:Nat} {l:List Nat} (hx:x<65536^16) (hz:z<65536^16) (h:ColAt n x y z 16 l):dval l=x*y+z:=by
 rw [h.2.1,Nat.mod_eq_of_lt hx,Nat.mod_eq_of_lt hz,Nat.add_comm]
def cs64 (l:List Nat):Array Value:=ncs .u64 l
theorem cs64_size (l:List Nat):(cs64 l).size=l.length:=dL _ _
theorem pS (l:List Nat) {j:Nat} (h:j<l.length):(cs64 l)[j]?=some (.int .u64 ((l.getD j 0:Nat):Int)):=by
 rw [cs64,dW]
 simp [List.getD,List.getElem?_eq_getElem h]
 rfl
theorem uS (l:List Nat) (j x:Nat):(cs64 l).setIfInBounds j (.int .u64 (x:Int))=cs64 (l.set j x):=dV _ _ _ _
theorem mT {P:Program} (t e:TypeId) (ht:P.underlying t=some (.slice e)) (he:(P.info? e).map (fun i=>(i.zero,i.size,i.bytes))=some (some (.int .u64 0),1,8)) (n:Nat) (hn:n≤1000000) (W:World) :
  (Instr.makeSlice t (.int .i64 (n:Int)) (.int .i64 (n:Int))).run P W=.ok (.slice (some ⟨W.heap.size,0,none⟩) n n) (W.alloc (.cells (cs64 (List.replicate n 0)) e)):=by
 obtain ⟨i,hi,hz,hs,hb⟩:=info_parts he
 have h:=run_make (P:=P) W t e i _ ht hi hz .i64 .i64 (n:Int) (n:Int) (by omega) (by omega) (by rw [hb];omega) (by omega)
 simp only [Int.toNat_natCast,hs,Nat.mul_one] at h
 rw [h]
 have:madeCells (Value.int .u64 0).cells n=cs64 (List.replicate n 0):=by
  apply Array.toList_inj.1
  show (madeCells #[Value.int .u64 0] n).toList=_
  rw [toList_madeCells_one]
  simp [cs64,ncs,nc,List.map_replicate]
 rw [this]
theorem cN:(zP.info? 29).map (fun i=>(i.zero,i.size,i.bytes))=some (some (.int .u64 0),1,8):=by kernel_rfl
end
section
open Go Go.RowKit
theorem cs64_at (l:List Nat) (i:Nat):(cs64 l)[i]?=l[i]?.map (nc .u64):=dW _ _ _
theorem nc_def (x:Nat):nc .u64 x=.int .u64 (x:Int):=rfl
structure US (w:World) (B:Nat) (A:Option Addr) (n c:Nat) (l:List Nat):Prop where
 len:l.length=n
 cap:n≤c
 nil_:A=none→c=0
 at_:0<n→∃ b o,A=some ⟨b,o,none⟩∧b<B∧∀ (j x:Nat),l[j]?=some x→w.cell? ⟨b,o+j,none⟩=some (.int .u64 (x:Int))
section
variable {w w':World} {B B' n c:Nat} {A:Option Addr} {l:List Nat}
theorem US.nil (w:World) (B:Nat):US w B none 0 0 []:=⟨rfl,Nat.le_refl _,fun _=>rfl,fun h=>absurd h (by omega)⟩
theorem US.keep (h:US w B A n c l) (hk:∀ p:Addr,p.block<B→w'.cell? p=w.cell? p):US w' B A n c l :=
 ⟨h.len,h.cap,h.nil_,fun hn=>by
  obtain ⟨b,o,e,hb,hc⟩:=h.at_ hn
  exact ⟨b,o,e,hb,fun j x hx=>(hk _ hb).trans (hc j x hx)⟩⟩
theorem US.more (h:US w B A n c l) (hB:B≤B'):US w B' A n c l :=
 ⟨h.len,h.cap,h.nil_,fun hn=>by
  obtain ⟨b,o,e,hb,hc⟩:=h.at_ hn
  exact ⟨b,o,e,by omega,hc⟩⟩
theorem US.below (h:US w B A n c l) (hb:Below B w w'):US w' B A n c l:=h.keep fun _ hp=>hb.cell hp
theorem US.drew (h:US w B A n c l):US w.drew B A n c l:=⟨h.1,h.2,h.3,h.4⟩
theorem US.alloc (h:US w B A n c l) (hB:B≤w.heap.size) (o:Obj):US (w.alloc o) B A n c l:=h.keep fun p hp=>World.cell?_alloc_lt w o p (by omega)
theorem US.setCell (h:US w B A n c l) {p:Addr} (hB:B≤p.block) (u:Value):US (w.setCell p u) B A n c l :=
 h.keep fun q hq=>World.cell?_setCell_other w p q u (fun e=>by subst e;omega)
theorem US.grown (h:US w B A n c l) {row:Option Nat} (hg:w.grownBy w' row) (hB:B≤w.heap.size) (hr:∀ g,row=some g→B≤g):US w' B A n c l :=
 h.keep fun p hp=>World.cell?_of_block (hg.block p.block (by omega) (fun e=>by have:=hr _ e.symm;omega))
theorem US.ofBlk {g:Nat} {t:TypeId} (h:Blk w g t (cs64 l)) (n:Nat) (hn:n=l.length) (B:Nat) (hB:g<B):US w B (some ⟨g,0,none⟩) n n l :=
 ⟨hn.symm,Nat.le_refl _,(by intro e;cases e),fun _=>⟨g,0,rfl,hB,fun j x hx=>by rw [Nat.zero_add,h.cell,cs64_at,hx];rfl⟩⟩
theorem US.at' (h:US w B A n c l) {k:Nat} (hk:k<n):∃ b o x,A=some ⟨b,o,none⟩∧b<B∧l[k]?=some x∧w.cell? ⟨b,o+k,none⟩=some (.int .u64 (x:Int)):=by
 obtain ⟨b,o,e,hb,hc⟩:=h.at_ (by omega)
 have hl:k<l.length:=by have:=h.len;omega
 exact ⟨b,o,l[k],e,hb,List.getElem?_eq_getElem hl,hc k _ (List.getElem?_eq_getElem hl)⟩
end
def OwnU (w:World) (base:Nat) (e:TypeId) (v:Value) (l:List Nat):Prop:=w.ownsRow base e 1 v l.length (l.map (nc .u64))
section
variable {w w':World} {base:Nat} {e:TypeId} {v:Value} {l:List Nat}
theorem OwnU.nil (w:World) (base:Nat) (e:TypeId):OwnU w base e (.slice none 0 0) []:=⟨rfl,.inl ⟨rfl,rfl⟩⟩
theorem OwnU.alloc (h:OwnU w base e v l) (o:Obj):OwnU (w.alloc o) base e v l:=World.ownsRow.alloc h o
theorem OwnU.drew (h:OwnU w base e v l):OwnU w.drew base e v l:=h
theorem OwnU.ofBlk {g:Nat} (h:Blk w g e (cs64 l)) (n:Nat) (hn:n=l.length) (hm:n≤maxLen) (hb:base≤g):OwnU w base e (.slice (some ⟨g,0,none⟩) n n) l:=by
 subst hn
 exact ⟨by simp,.inr ⟨g,_,_,rfl,hb,h,Nat.le_refl _,hm,by simp [cs64,ncs],by rw [List.take_of_length_le (by simp [cs64_size])];simp [cs64,ncs]⟩⟩
theorem OwnU.form (h:OwnU w base e v l):∃ A n c,v=.slice A n c∧US w w.heap.size A n c l∧∀ g,v.ownBlock=some g→base≤g:=by
 have hlt:=World.ownsRow.lt h
 rcases h.2 with ⟨rfl,h0⟩ | ⟨g,cap,cur,rfl,hb,hh,hc,hm,hs,ht⟩
 ·
  obtain rfl:l=[]:=List.eq_nil_of_length_eq_zero h0
  exact ⟨none,0,0,rfl,US.nil _ _,fun g hg=>(hlt g hg).1⟩
 ·
  refine ⟨_,_,_,rfl,⟨rfl,hc,by intro e;(cases e),fun _=>⟨g,0,rfl,(hlt g rfl).2,fun j x hx=>?_⟩⟩,fun g hg=>(hlt g hg).1⟩
  have:=World.ownsRow.cells h (g:=g) rfl j (nc .u64 x) (by simp [hx])
  rw [Addr.add_lit] at this
  exact this
theorem OwnU.own (h:OwnU w base e v l) {g:Nat} (hg:v.ownBlock=some g):base≤g∧g<w.heap.size:=World.ownsRow.lt h g hg
end
section
variable {P:Program} {w:World} {ops:Array Oper} {rest:List Oper} {o:Oper} {a:Act} {Q:Exit→Act→World→Prop}
theorem jX {B:Nat} {A:Option Addr} {m c:Nat} {l:List Nat} (hr:US w B A m c l):∀ ad,A=some ad→∀ j u,(l.map (nc .u64))[j]?=some u→w.cell? (ad.add j)=some u:=by
 rintro ad rfl j u hu
 rw [List.getElem?_map] at hu
 obtain ⟨x,hx,rfl⟩:=Option.map_eq_some_iff.1 hu
 obtain ⟨b,o,e,_,hc⟩:=hr.at_ (by have:=hr.len;have:=(List.getElem?_eq_some_iff.1 hx).1;omega)
 injection e with e
 subst e
 rw [Addr.add_lit]
 exact hc j x hx
theorem qN (l:List Nat):∀ u∈l.map (nc .u64),u.oneCell'=true:=by
 intro u hu
 obtain ⟨_,_,rfl⟩:=List.mem_map.1 hu
 rfl
theorem fI (t ty:TypeId)
  (e:TypeId) (ht:P.underlying t=some (.slice e)) (he:(P.info? e).map (fun i=>(i.zero,i.size,i.bytes))=some (some (.int .u64 0),1,8))
  (base:Nat) (v:Value) (l:List Nat) (hown:OwnU w base e v l)
  (B m c:Nat) (A:Option Addr) (l2:List Nat) (hr:US w B A m c l2) (hbig:l.length+m≤1000000) (hbase:base≤w.heap.size) :
  ∃ v' w',(Builtin.append_ #[t,t] ty #[v,.slice A m c]).run P w=.ok v' w'∧OwnU w' base e v' (l++l2)∧w.grownBy w' v.ownBlock∧(v'.ownBlock=v.ownBlock∨v'.ownBlock=some w.heap.size):=by
 obtain ⟨i,hi,hz,hsz,hby⟩:=info_parts he
 have hm:=hr.len
 subst hm
 rcases A with _ | ad
 ·
  have h0:=hr.nil_ rfl
  have h1:=hr.cap
  obtain rfl:l2=[]:=List.eq_nil_of_length_eq_zero (by omega)
  subst h0
  exact ⟨v,w,run_append_owned_none (P:=P) w base t ty e i 1 ht hi v _ _ hown,by simpa using hown,World.grownBy.refl _ _,.inl rfl⟩
 ·
  obtain ⟨v',w',h1,h2,h3,_,h5⟩:=run_append_own_at (P:=P) w base t ty e i _ 1 8 ht hi hz hsz hby rfl (by omega) v _ _ hown ad l2.length c (l2.map (nc .u64)) (by simp) (jX hr _ rfl) (qN _) (by simp only [maxLen];omega) (by omega) hbase
  exact ⟨v',w',h1,by unfold OwnU;rw [List.length_append,List.map_append];exact h2,h3,h5⟩
theorem dD (hg:o.guard=none) (s x:Operand) (t:TypeId) (ho:o.op=.call { callee:=.builtin .append,args:=#[s,x],argTypes:=#[t,t] })
  (e:TypeId) (ht:P.underlying t=some (.slice e)) (he:(P.info? e).map (fun i=>(i.zero,i.size,i.bytes))=some (some (.int .u64 0),1,8))
  (base:Nat) (v:Value) (l:List Nat) (hs:a.eval s=v) (hown:OwnU w base e v l)
  (B m c:Nat) (A:Option Addr) (l2:List Nat) (hx:a.eval x=.slice A m c) (hr:US w B A m c l2) (hbig:l.length+m≤1000000) (hbase:base≤w.heap.size)
  (h:∀ v' w',OwnU w' base e v' (l++l2)→w.grownBy w' v.ownBlock→(v'.ownBlock=v.ownBlock∨v'.ownBlock=some w.heap.size)→wpList P ops Q rest (a.put o.dst v') w'):wpList P ops Q (o::rest) a w:=by
 refine wpList_plain hg fun K hK=>?_
 obtain ⟨v',w',hrun,h1,h2,h3⟩:=fI (P:=P) (w:=w) t o.type e ht he base v l hown B m c A l2 hr hbig hbase
 unfold Oper.wp
 simp [execOp,ho,resolve,invoke,builtin,hs,hx,hrun,Result.andThen]
 exact hK _ _ (h v' w' h1 h2 h3)
end
section
variable {P:Program} {w:World} {ops:Array Oper} {o:Oper} {a:Act} {K:Act→World→Prop} {Q:Exit→Act→World→Prop} {E:Prop}
theorem nN (hg:o.guard=none) (s x:Operand) (t:TypeId) (ho:o.op=.call { callee:=.builtin .append,args:=#[s,x],argTypes:=#[t,t] })
  (e:TypeId) (ht:P.underlying t=some (.slice e)) (he:(P.info? e).map (fun i=>(i.zero,i.size,i.bytes))=some (some (.int .u64 0),1,8))
  (base:Nat) (v:Value) (l:List Nat) (hs:a.eval s=v) (hown:OwnU w base e v l)
  (B m c:Nat) (A:Option Addr) (l2:List Nat) (hx:a.eval x=.slice A m c) (hr:US w B A m c l2) (hbig:l.length+m≤1000000) (hbase:base≤w.heap.size)
  (h:∀ v' w',OwnU w' base e v' (l++l2)→w.grownBy w' v.ownBlock→(v'.ownBlock=v.ownBlock∨v'.ownBlock=some w.heap.size)→K (a.put o.dst v') w') :
  if Region.wanted o (yielded ops a.tmps)=true then Oper.wp P o a w K Q else E:=by
 have hw:Region.wanted o (yielded ops a.tmps)=true:=by simp [Region.wanted,hg]
 rw [if_pos hw]
 obtain ⟨v',w',hrun,h1,h2,h3⟩:=fI (P:=P) (w:=w) t o.type e ht he base v l hown B m c A l2 hr hbig hbase
 unfold Oper.wp
 simp [execOp,ho,resolve,invoke,builtin,hs,hx,hrun,Result.andThen]
 exact h v' w' h1 h2 h3
end
end
section
open Go Go.RowKit
def dgl (T m:Nat):List Nat:=(List.range m).map fun t=>T/65536^t%65536
theorem dF (T m:Nat):(dgl T m).length=m:=by simp [dgl]
theorem dgl_get (T m:Nat) {j:Nat} (h:j<m):(dgl T m).getD j 0=T/65536^j%65536:=by simp [dgl,List.getD,h]
theorem dgl_step (T m:Nat):dgl T (m+1)=dgl T m++[T/65536^m%65536]:=by simp [dgl,List.range_succ]
theorem gZ (T m j:Nat):(dgl T m).getD j 0<65536:=by
 by_cases h:j<m
 ·
  rw [dgl_get T m h]
  exact Nat.mod_lt _ (by omega)
 ·
  simp [List.getD,dgl,h]
theorem mK:∀ (l r:List Nat),dval (l++r)=dval l+65536^l.length*dval r
 | [],r=>by simp [dval]
 | x::l,r=>by
  have ih:=mK l r
  show x+65536*dval (l++r)=x+65536*dval l+65536^(l.length+1)*dval r
  rw [ih,Nat.pow_succ,Nat.mul_comm (65536^l.length) 65536,Nat.mul_assoc]
  omega
theorem gU (T:Nat):∀ m,dval (dgl T m)=T%65536^m
 | 0=>by simp [dgl,dval,Nat.mod_one]
 | m+1=>by
  rw [dgl_step,mK,gU T m,dF,Nat.mod_pow_succ]
  simp [dval]
def car (l:List Nat) (j:Nat):List Nat:=(List.range l.length).map fun t=>if t<j then dval l/65536^t%65536 else l.getD t 0
theorem zH (l:List Nat) (j:Nat):(car l j).length=l.length:=by simp [car]
theorem car_zero (l:List Nat):car l 0=l:=by
 apply List.ext_getElem?
 intro t
 by_cases h:t<l.length
 ·
  simp [car,h,List.getD,List.getElem?_eq_getElem h]
 ·
  simp [car,h]
theorem car_all (l:List Nat):car l l.length=dgl (dval l) l.length:=by
 apply List.ext_getElem?
 intro t
 by_cases h:t<l.length
 ·
  simp [car,dgl,h]
 ·
  simp [car,dgl,h]
theorem car_at (l:List Nat) {j:Nat} (h:j<l.length):(car l j)[j]?=some (l.getD j 0):=by simp [car,h]
theorem car_step (l:List Nat) {j:Nat} (h:j<l.length):(car l j).set j (dval l/65536^j%65536)=car l (j+1):=by
 apply List.ext_getElem?
 intro t
 rw [List.getElem?_set]
 by_cases ht:t<l.length
 ·
  by_cases e:j=t
  ·
   subst e
   simp [car,h]
  ·
   have e2:(t<j+1)=(t<j):=by rw [eq_iff_iff];omega
   simp [car,ht,e,e2]
 ·
  have:j≠t:=by omega
  simp [car,ht,this]
theorem wL (l:List Nat) (hb:∀ j,l.getD j 0≤1099511627776):∀ j,j≤l.length→ovr l j≤1099511627776
 | 0,_=>by rw [pC];omega
 | j+1,h=>by
  have ih:=wL l hb j (by omega)
  have hj:=hb j
  rw [←tK l j (by omega)]
  omega
theorem OwnU.slice {w:World} {base:Nat} {e:TypeId} {v:Value} {l:List Nat} (h:OwnU w base e v l) (hl:0<l.length):∃ g cap,v=.slice (some ⟨g,0,none⟩) l.length cap∧base≤g∧g<w.heap.size:=by
 rcases h.2 with ⟨_,h0⟩ | ⟨g,cap,cur,rfl,hb,hg,_⟩
 ·
  omega
 ·
  exact ⟨g,cap,rfl,hb,(Array.getElem?_eq_some_iff.1 hg).1⟩
theorem OwnU.cell {w:World} {base g n cap:Nat} {e:TypeId} {l:List Nat} (h:OwnU w base e (.slice (some ⟨g,0,none⟩) n cap) l) (hn:n=l.length) {j x:Nat} (hx:l[j]?=some x):w.cell? ⟨g,j,none⟩=some (.int .u64 (x:Int)):=by
 subst hn
 have hj:=(List.getElem?_eq_some_iff.1 hx).1
 have h2:=World.ownsRow.cellAt (size:=1) h j (by omega)
 rw [h2,List.getElem?_map,hx]
 rfl
theorem OwnU.set {w:World} {base g n cap:Nat} {e:TypeId} {l:List Nat} (h:OwnU w base e (.slice (some ⟨g,0,none⟩) n cap) l) (hn:n=l.length) (j x:Nat) :
  OwnU (w.setCell ⟨g,j,none⟩ (.int .u64 (x:Int))) base e (.slice (some ⟨g,0,none⟩) n cap) (l.set j x)∧w.grownBy (w.setCell ⟨g,j,none⟩ (.int .u64 (x:Int))) (some g):=by
 subst hn
 obtain ⟨h1,h2⟩:=World.ownsRow.stored (size:=1) h j (.int .u64 (x:Int))
 refine ⟨?_,h2⟩
 unfold OwnU
 rw [List.length_set,List.map_set]
 exact h1
theorem uF {a b c:World} {row:Option Nat} {r2:Option Nat} (h:a.grownBy b row) (k:b.grownBy c r2) (hr:r2=row∨∀ g,r2=some g→a.heap.size≤g):a.grownBy c row :=
 ⟨k.os.trans h.os,k.tape.trans h.tape,k.output.trans h.output,Nat.le_trans h.size k.size,fun i hi hne=>(k.block i (Nat.lt_of_lt_of_le hi h.size) (fun e=>by
  rcases hr with rfl | hr
  ·
   exact hne e
  ·
   have:=hr i e.symm
   omega)).trans (h.block i hi hne)⟩
theorem fW (w:World) (t:TypeId) (v:Int) (x:Nat) (hv:v=(x:Int)):US (w.alloc (.cells #[.int .u64 v] t)) (w.heap.size+1) (some ⟨w.heap.size,0,none⟩) 1 1 [x]:=by
 subst hv
 exact US.ofBlk (l:=[x]) (Blk.new w t #[.int .u64 (x:Int)]) 1 rfl _ (by omega)
def CarPost (base g:Nat) (l:List Nat) (w:World) (e:Ending) (w':World):Prop :=
 ∃ v' m,e=.returned v'∧OwnU w' base 29 v' (dgl (dval l) m)∧w.grownBy w' (some g)∧(v'.ownBlock=some g∨∀ k,v'.ownBlock=some k→w.heap.size≤k)∧l.length≤m∧dval l<65536^m∧(m=l.length∨65536^(m-1)≤dval l)
set_option maxRecDepth 100000 in
theorem jM (base g cap:Nat) (l:List Nat) (w:World) (hown:OwnU w base 29 (.slice (some ⟨g,0,none⟩) l.length cap) l) (hl:0<l.length) (hb:∀ j,l.getD j 0≤1099511627776) (hlen:l.length≤1000) (hbase:base≤w.heap.size) :
  Calls zP 86 #[.slice (some ⟨g,0,none⟩) l.length cap] w (CarPost base g l w):=by
 have hg:=hown.own (g:=g) rfl
 have hov:=wL l hb
 obtain ⟨n,hn⟩:∃ n,n=l.length:=⟨_,rfl⟩
 rw [←hn] at hown ⊢
 have HN:=Lib.hid hn
 have hbl:n≤1000:=by omega
 have HB:=Lib.hid hb
 have HOV:=Lib.hid hov
 clear hb hov hn hl hlen
 go_enter Tryz.func86,Tryz.ntmps86
 go_wp2_with (fail)
 go_loopw [4,3] (fun i c wr=>∃ j:Nat,j≤n∧i=.int .i64 j∧c=.int .u64 (ovr l j:Int)∧OwnU wr base 29 (.slice (some ⟨g,0,none⟩) n cap) (car l j)∧w.grownBy wr (some g)) (fun i _ _=>n-(intOf i).toNat)
 case atStart=>exact ⟨0,by omega,rfl,by rw [pC];rfl,by rw [car_zero];exact hown,World.grownBy.refl _ _⟩
 case round =>
  obtain ⟨j,hj,rfl,rfl,hO,hG⟩:=hrel
  have hn:=HN.out
  by_cases hlt:j<n
  ·
   have cd:=hO.cell (by rw [zH,hn]) (car_at l (j:=j) (by omega))
   have hf:wr.frozen? ⟨g,j,none⟩=false:=by
    have h2:=hO
    unfold OwnU at h2
    rw [show (car l j).length=n by rw [zH,hn]] at h2
    exact World.ownsRow.frozenAt (size:=1) h2 j
   have hbd:=HB.out j
   have hob:=HOV.out j (by omega)
   have hdig:=wK l j (by omega)
   have hst:=tK l j (by omega)
   have hcs:=car_step l (j:=j) (by omega)
   obtain ⟨x,hx⟩:∃ x,x=l.getD j 0+ovr l j:=⟨_,rfl⟩
   rw [←hx] at hdig hst
   have hsum:IntKind.u64.wrap (((l.getD j 0:Nat):Int)+((ovr l j:Nat):Int))=(x:Int):=by rw [IntKind.wrap_u64];omega
   obtain ⟨hS1,hS2⟩:=hO.set (by rw [zH,hn]) j (x%65536)
   rw [hdig] at hS1 hS2
   rw [hcs] at hS1
   have hxl:x≤2199023255552:=by omega
   have HS1:=Lib.hid hS1
   have HG:=Lib.hid (eG hG hS2)
   have HST:=Lib.hid hst
   have HDG:=Lib.hid hdig
   clear hS1 hS2 hst hdig hcs hO hG hbd hob hx hn
   generalize l.getD j 0=dj at *
   generalize ovr l j=oj at *
   have j33:(j:Int)<(n:Int):=by omega
   go_wp2
   go_roundw
   case rel =>
    have e1:(x:Int)%65536=((dval l/65536^j%65536:Nat):Int):=by rw [←HDG.out];omega
    have e2:(x:Int)/65536=((ovr l (j+1):Nat):Int):=by rw [←HST.out];omega
    rw [e1,e2]
    exact ⟨j+1,by omega,by go_num,rfl,HS1.out,HG.out⟩
   case measure=>simp [intOf]<;>omega
  ·
   obtain rfl:j=n:=by omega
   have hca:=car_all l
   rw [←hn] at hca
   rw [hca] at hO
   have hoe:=ovr_all l
   rw [←hn] at hoe
   rw [←hoe]
   have HO:=Lib.hid hO
   have HG:=Lib.hid hG
   clear hca hoe hO hG
   obtain ⟨T,hT⟩:∃ T,T=dval l:=⟨_,rfl⟩
   rw [←hT] at HO ⊢
   have HT:=Lib.hid hT
   clear hT
   have htl:T/65536^j≤1099511627776:=by
    have:=HOV.out j (by omega)
    have h2:=ovr_all l
    rw [←hn] at h2
    rw [HT.out]
    omega
   clear hn hown
   go_wp2_with (fail)
   go_loopw [0,3] (fun d c wq=>∃ k:Nat,c=.int .u64 ((T/65536^(j+k):Nat):Int)∧T/65536^(j+k)≤1099511627776∧k≤100∧T/65536^(j+k)<65536^(100-k)∧OwnU wq base 29 d (dgl T (j+k))∧(k=0∨65536^(j+k-1)≤T)∧w.grownBy wq (some g)∧(d.ownBlock=some g∨∀ q,d.ownBlock=some q→w.heap.size≤q)) (fun _ c _=>(intOf c).toNat)
   case atStart=>exact ⟨0,rfl,htl,by omega,by refine Nat.lt_of_le_of_lt htl ?_;exact Nat.lt_of_lt_of_le (show 1099511627776<65536^3 by decide) (Nat.pow_le_pow_right (by omega) (by omega)),HO.out,.inl rfl,HG.out,.inl rfl⟩
   case round =>
    obtain ⟨k,rfl,htk,hk,hp,hO,hm,hG,hown2⟩:=hrel
    clear HO HG
    obtain ⟨c,hc⟩:∃ c,c=T/65536^(j+k):=⟨_,rfl⟩
    have hnext:T/65536^(j+(k+1))=c/65536:=by rw [hc,←Nat.add_assoc,Nat.pow_succ,←Nat.div_div_eq_div_mul]
    have hdn:=dgl_step T (j+k)
    rw [←hc] at htk hp hdn
    rw [←hc]
    by_cases hz:c=0
    ·
     subst hz
     have hT0:T<65536^(j+k):=by
      apply Nat.lt_of_not_le
      intro h
      have:=Nat.div_pos h (Nat.pow_pos (by omega))
      omega
     rw [HT.out] at hT0 hm
     rw [HT.out] at hO
     have HO:=Lib.hid hO
     have HM:=Lib.hid hm
     have HT0:=Lib.hid hT0
     clear hO hm hT0 hdn hnext hc hp
     go_wp2_with (fail)
     go_ret
     refine ⟨_,j+k,rfl,HO.out,hG,hown2,by have:=HN.out;omega,HT0.out,?_⟩
     rcases HM.out with h | h
     ·
      exact .inl (by have:=HN.out;omega)
     ·
      exact .inr h
    ·
     have hTle:65536^(j+k)≤T:=by
      apply Nat.le_of_not_lt
      intro h
      rw [Nat.div_eq_of_lt h] at hc
      exact hz hc
     have hk1:k<100:=by
      apply Nat.lt_of_not_le
      intro h
      obtain rfl:k=100:=by omega
      rw [Nat.sub_self,Nat.pow_zero] at hp
      omega
     have hp2:c/65536<65536^(100-(k+1)):=by
      rw [Nat.div_lt_iff_lt_mul (by omega),←Nat.pow_succ,show (100-(k+1)).succ=100-k by omega]
      exact hp
     have hbig:(dgl T (j+k)).length+1≤1000000:=by rw [dF];omega
     have hcm:(c:Int)%65536=((c%65536:Nat):Int):=by omega
     have HP2:=Lib.hid hp2
     have HTL:=Lib.hid hTle
     have HNX:=Lib.hid hnext
     have HDN:=Lib.hid hdn
     have HBG:=Lib.hid hbig
     have HCM:=Lib.hid hcm
     have hgs:=hG.size
     clear hp2 hTle hnext hdn hbig hcm hp hc hm
     have c0:(0:Int)<(c:Int):=by omega
     go_wp2_with (at_builtin;refine dD rfl (.tmp 27) (.tmp 30) 26 rfl 29 Tryz.underlying26 cN base u0 (dgl T (j+k)) rfl (by exact hO.alloc _) (wr.heap.size+1) 1 1 (some ⟨wr.heap.size,0,none⟩) [c%65536] rfl (by exact fW wr 29 _ _ HCM.out) HBG.out (by simp<;>omega) ?_;intro v1 w1 hown1 hg1 hat1)
     go_roundw
     case rel =>
      refine ⟨k+1,by rw [HNX.out];rfl,by rw [HNX.out];omega,by omega,by rw [HNX.out];exact HP2.out,by rw [←Nat.add_assoc,HDN.out];exact hown1,.inr (by rw [show j+(k+1)-1=j+k by omega];exact HTL.out),?_,?_⟩
      ·
       exact uF (uF hG (World.grownBy_alloc wr _ none) (.inr (fun _ h=>by cases h))) hg1 hown2
      ·
       rcases hat1 with h | h
       ·
        rw [h]
        exact hown2
       ·
        refine .inr fun q hq=>?_
        rw [h] at hq
        injection hq with hq
        simp at hq
        omega
     case measure=>simp [intOf]<;>omega
end
section
open Go.RowKit
theorem and_digit (x:Nat) (hx:x<18446744073709551616):bits .and .u64 (x:Int) 65535=((x%65536:Nat):Int):=by
 have h:=bits_and_u64_nat x 65535 hx (by omega)
 have e:x &&& 65535=x%65536:=Nat.and_two_pow_sub_one_eq_mod x 16
 rw [e] at h
 exact h
theorem shr_digit (n k:Nat) (hn:n<18446744073709551616):bits .and .u64 ((n:Int)/2^(16*k)) 65535=((n/65536^k%65536:Nat):Int):=by
 have h:(n:Int)/2^(16*k)=((n/65536^k:Nat):Int):=by
  rw [show (65536:Nat)^k=2^(16*k) by rw [Nat.pow_mul]]
  simp
 rw [h,and_digit _ (Nat.lt_of_le_of_lt (Nat.div_le_self _ _) hn)]
set_option maxRecDepth 100000 in
theorem sU (n:Nat) (w:World) (hn:n<18446744073709551616) :
  Calls zP 41 #[.int .u64 n] w (NumPost n w):=by
 have hfr:=(((Fr.start w).any (ds 0) 31 16 (aS 0) (g:=w.heap.size) rfl).row (ds 0) 31 (g:=w.heap.size+1) (by simp))
 rw [dC] at hfr
 have HFR:=Lib.hid hfr
 clear hfr
 go_enter Tryz.func41,Tryz.ntmps41
 go_wp2_with (fail)
 go_loopw [4] (fun c wr=>∃ k:Nat,k≤4∧c=.int .i64 k∧Fr w wr [(w.heap.size+1,31,ds (n%65536^k))] [(w.heap.size,31,16)]) (fun c _=>4-(intOf c).toNat)
 case atStart=>exact ⟨0,by omega,rfl,by have:=HFR.out;rw [Nat.pow_zero,Nat.mod_one,dC];exact this⟩
 case round =>
  obtain ⟨k,hk,rfl,hF⟩:=hrel
  by_cases hlt:k<4
  ·
   have hB:=hF.get (g:=w.heap.size+1) (t:=31) (cs:=ds (n%65536^k)) (by simp)
   have hd:wr.cell? ⟨w.heap.size+1,k,none⟩=some (.int .u64 ((n%65536^k/65536^k%65536:Nat):Int)):=by rw [hB.cell,fF _ (by omega)]
   have hf:=hB.frozen k
   have hst:=ds_step n k (by omega)
   have HS:=Lib.hid hst
   have HF:=Lib.hid hF
   clear hst hF hB
   generalize n%65536^k/65536^k%65536=z at *
   go_wp2
   refine ⟨⟨k+1,by omega,by go_num,?_⟩,by simp [intOf];omega⟩
   rw [shr_digit n k hn,←HS.out]
   exact HF.out.setHead (by simp<;>omega) (by simp<;>omega) _ _ (by omega)
  ·
   obtain rfl:k=4:=by omega
   have e16:n%65536^4=n:=Nat.mod_eq_of_lt hn
   rw [e16] at hF
   have kT:=hF.get (g:=w.heap.size+1) (t:=31) (cs:=ds n) (by simp)
   obtain ⟨old,hold,kR⟩:=hF.old (g:=w.heap.size) (t:=31) (n:=16) (by simp)
   have kS:=kR.setRow_same (ds n)
   have hB:=below_setRow hF.below (show w.heap.size≤w.heap.size by omega) (ds n)
   have hold':old.size=(ds n).size:=by rw [hold,aS]
   have HF:=Lib.hid hF
   have HS:=Lib.hid kS
   have HB:=Lib.hid hB
   have HO:=Lib.hid hold'
   clear hF e16 kS hB hold hold'
   go_wp2_with (first | (refine wpList_load_row rfl 31 (.tmp 3) rfl (w.heap.size+1) rfl 31 (ds n) (0,0) _ kT Tryz.underlying31 rfl (bG n) ?_) | (refine wpList_store_row rfl 31 (.tmp 2) (.tmp 17) rfl (w.heap.size) (ds n) rfl rfl 31 old kR (bG n) HO.out (cU _) ?_))
   exact bodyPost_ret (results_cell_row rfl _ _ (w.heap.size) 31 (ds n) (0,0) _ rfl HS.out Tryz.underlying31 rfl (bG n)) rfl ⟨rfl,HB.out⟩
def pc (k:Nat):Array Value:=ncs .u64 ((List.range 16).map fun i=>if i<k then 65535 else 0)
theorem pc_get (k:Nat) {i:Nat} (h:i<16):(pc k)[i]?=some (.int .u64 ((if i<k then 65535 else 0:Nat):Int)):=by
 rw [pc,dW]
 simp [h]
 rfl
theorem pc_step (k:Nat) (hk:k<16):(pc k).setIfInBounds k (.int .u64 65535)=pc (k+1):=by
 rw [pc,show (Value.int .u64 65535)=.int .u64 ((65535:Nat):Int) from rfl,dV,pc]
 congr 1
 apply List.ext_getElem?
 intro i
 rw [List.getElem?_set]
 by_cases hi:i<16
 ·
  by_cases e:k=i
  ·
   subst e
   simp [hi]
  ·
   have h:i<k+1↔i<k:=by omega
   simp [hi,e,h]
 ·
  have:k≠i:=by omega
  simp [hi,this]
theorem pc_zero:pc 0=ds 0:=by kernel_rfl
theorem pc_end:((pc 16).setIfInBounds 0 (.int .u64 65517)).setIfInBounds 15 (.int .u64 32767)=ds PP:=by kernel_rfl
set_option maxRecDepth 100000 in
theorem fC (w:World):Calls zP 77 #[] w (NumPost PP w):=by
 have hfr:=(((Fr.start w).any (ds 0) 31 16 (aS 0) (g:=w.heap.size) rfl).row (ds 0) 31 (g:=w.heap.size+1) (by simp))
 rw [dC] at hfr
 have HFR:=Lib.hid hfr
 clear hfr
 go_enter Tryz.func77,Tryz.ntmps77
 go_wp2_with (fail)
 go_loopw [2] (fun c wr=>∃ k:Nat,k≤16∧c=.int .i64 k∧Fr w wr [(w.heap.size+1,31,pc k)] [(w.heap.size,31,16)]) (fun c _=>16-(intOf c).toNat)
 case atStart=>exact ⟨0,by omega,rfl,by have:=HFR.out;rw [pc_zero,dC];exact this⟩
 case round =>
  obtain ⟨k,hk,rfl,hF⟩:=hrel
  by_cases hlt:k<16
  ·
   have hB:=hF.get (g:=w.heap.size+1) (t:=31) (cs:=pc k) (by simp)
   have hd:wr.cell? ⟨w.heap.size+1,k,none⟩=some (.int .u64 ((if k<k then 65535 else 0:Nat):Int)):=by rw [hB.cell,pc_get _ (by omega)]
   rw [if_neg (Nat.lt_irrefl k)] at hd
   have hf:=hB.frozen k
   have hst:=pc_step k (by omega)
   have HS:=Lib.hid hst
   have HF:=Lib.hid hF
   clear hst hF hB
   go_wp2
   refine ⟨⟨k+1,by omega,by go_num,?_⟩,by simp [intOf];omega⟩
   rw [←HS.out]
   exact HF.out.setHead (by simp<;>omega) (by simp<;>omega) _ _ (by omega)
  ·
   obtain rfl:k=16:=by omega
   have hB:=hF.get (g:=w.heap.size+1) (t:=31) (cs:=pc 16) (by simp)
   have d0:wr.cell? ⟨w.heap.size+1,0,none⟩=some (.int .u64 65535):=by rw [hB.cell,pc_get _ (by omega)];rfl
   have d1:wr.cell? ⟨w.heap.size+1,15,none⟩=some (.int .u64 65535):=by rw [hB.cell,pc_get _ (by omega)];rfl
   have f0:=hB.frozen 0
   have f1:=hB.frozen 15
   have hF2:=(hF.setHead (by simp) (by simp) 0 (.int .u64 65517) (by omega)).setHead (by simp) (by simp) 15 (.int .u64 32767) (by omega)
   rw [pc_end] at hF2
   have kT:=hF2.get (g:=w.heap.size+1) (t:=31) (cs:=ds PP) (by simp)
   obtain ⟨old,hold,kR⟩:=hF2.old (g:=w.heap.size) (t:=31) (n:=16) (by simp)
   have kS:=kR.setRow_same (ds PP)
   have hB2:=below_setRow hF2.below (show w.heap.size≤w.heap.size by omega) (ds PP)
   have hold':old.size=(ds PP).size:=by rw [hold,aS]
   have HF:=Lib.hid hF
   have HS:=Lib.hid kS
   have HB:=Lib.hid hB2
   have HO:=Lib.hid hold'
   have KT:=Lib.hid kT
   have KR:=Lib.hid kR
   clear hF hF2 kS hB hB2 hold hold' kT kR
   go_wp2_with (first | (refine wpList_load_row rfl 31 (.tmp 1) rfl (w.heap.size+1) rfl 31 (ds PP) (0,0) _ KT.out Tryz.underlying31 rfl (bG PP) ?_) | (refine wpList_store_row rfl 31 (.tmp 0) (.tmp 11) rfl (w.heap.size) (ds PP) rfl rfl 31 old KR.out (bG PP) HO.out (cU _) ?_))
   exact bodyPost_ret (results_cell_row rfl _ _ (w.heap.size) 31 (ds PP) (0,0) _ rfl HS.out Tryz.underlying31 rfl (bG PP)) rfl ⟨rfl,HB.out⟩
end
section
open Go Go.RowKit
def natOfO:Option Value→Nat
 | some (.int _ n)=>n.toNat
 | _=>0
def readU (w:World):Value→Nat
 | .slice (some a) n _=>dval ((List.range n).map fun j=>natOfO (w.cell? (a.add j)))
 | _=>0
def lenU:Value→Nat
 | .slice _ n _=>n
 | _=>0
theorem tD {w:World} {B n c:Nat} {A:Option Addr} {l:List Nat} (h:US w B A n c l) (hn:0<n):readU w (.slice A n c)=dval l:=by
 obtain ⟨b,o,rfl,hb,hc⟩:=h.at_ hn
 show dval _=dval l
 congr 1
 apply List.ext_getElem?
 intro j
 by_cases hj:j<n
 ·
  have hl:j<l.length:=by rw [h.len];exact hj
  have:=hc j l[j] (List.getElem?_eq_getElem hl)
  rw [List.getElem?_eq_getElem hl]
  simp [hj,Addr.add_lit,this,natOfO]
 ·
  rw [List.getElem?_eq_none (by simp;omega),List.getElem?_eq_none (by rw [h.len];omega)]
theorem run_headU {P:Program} (t e:TypeId) (ht:P.underlying t=some (.slice e)) (he:(P.info? e).map (fun i=>(i.zero,i.size,i.bytes))=some (some (.int .u64 0),1,8)) (A:Option Addr) (n c k:Nat) (hk:k≤c) (W:World) :
  (Instr.slice t (.slice A n c) none (some (.int .i64 (k:Int))) none).run P W=.ok (.slice A k c) W:=by
 have hel:P.elem t=e:=by simp [Program.elem,ht]
 obtain ⟨i,hi,hz,hs,hb⟩:=info_parts he
 have hsz:(sizeOf e).run P W=.ok 1 W:=by simp [sizeOf,typeInfo,hi,hs]
 rw [run_slice_h W t A n c (by rw [hel];exact ht) _ _ (by omega) (by omega),hel,hsz]
 simp only [Result.andThen,sliced,Int.toNat_natCast,Nat.zero_mul,Nat.sub_zero,zA]
 split<;>rfl
theorem US.head {w:World} {B n c:Nat} {A:Option Addr} {l:List Nat} (h:US w B A n c l) {k:Nat} (hk:k≤n):US w B A k c (l.take k) :=
 ⟨by rw [List.length_take,h.len];omega,by have:=h.cap;omega,h.nil_,fun hp=>by
  obtain ⟨b,o,e,hb,hc⟩:=h.at_ (by omega)
  refine ⟨b,o,e,hb,fun j x hx=>hc j x ?_⟩
  rw [List.getElem?_take] at hx
  split at hx
  ·
   exact hx
  ·
   cases hx⟩
def lowl (l:List Nat) (j:Nat):List Nat:=(List.range 16).map fun t=>l.getD t 0+if t<j then 38*l.getD (16+t) 0 else 0
theorem eN (l:List Nat) (j:Nat):(lowl l j).length=16:=by simp [lowl]
theorem wQ (l:List Nat) (h:16≤l.length):lowl l 0=l.take 16:=by
 apply List.ext_getElem?
 intro t
 by_cases ht:t<16
 ·
  simp [lowl,ht,List.getD,List.getElem?_take,List.getElem?_eq_getElem (show t<l.length by omega)]
 ·
  simp [lowl,ht,List.getElem?_take]
theorem lowl_at (l:List Nat) {j:Nat} (h:j<16):(lowl l j)[j]?=some (l.getD j 0):=by simp [lowl,h]
theorem wR (l:List Nat) {j:Nat} (h:j<16):(lowl l j).set j (l.getD j 0+38*l.getD (16+j) 0)=lowl l (j+1):=by
 apply List.ext_getElem?
 intro t
 rw [List.getElem?_set]
 by_cases ht:t<16
 ·
  by_cases e:j=t
  ·
   subst e
   simp [lowl,h]
  ·
   have e2:(t<j+1)=(t<j):=by rw [eq_iff_iff];omega
   simp [lowl,ht,e,e2]
 ·
  have:j≠t:=by omega
  simp [lowl,ht,this]
theorem vL (l:List Nat) {j:Nat} (h:j<16):dval (lowl l (j+1))=dval (lowl l j)+65536^j*(38*l.getD (16+j) 0):=by
 have hs:=mJ (lowl l j) j (l.getD j 0+38*l.getD (16+j) 0) (by rw [eN];exact h)
 rw [wR l h] at hs
 have e:(lowl l j).getD j 0=l.getD j 0:=by simp [List.getD,lowl_at l h]
 rw [e,Nat.mul_add] at hs
 omega
theorem xC (l:List Nat) (hl:16≤l.length):∀ j,j≤16→16+j≤l.length→dval (lowl l j)=dval (l.take 16)+38*dval ((l.drop 16).take j)
 | 0,_,_=>by rw [wQ l hl];simp [dval]
 | j+1,h,h2=>by
  rw [vL l (by omega),xC l hl j (by omega) (by omega),iV (l.drop 16) j (by rw [List.length_drop];omega)]
  have e:(l.drop 16).getD j 0=l.getD (16+j) 0:=by simp [List.getD]
  rw [e,Nat.mul_add]
  have e2:65536^j*(38*l.getD (16+j) 0)=38*(65536^j*l.getD (16+j) 0):=by ac_rfl
  omega
theorem xD (l:List Nat) {n:Nat} (hn:l.length=n) (h1:16≤n) (h2:n≤32):dval (lowl l (n-16))=dval (l.take 16)+38*dval (l.drop 16):=by
 have e:(l.drop 16).take (n-16)=l.drop 16:=List.take_of_length_le (by rw [List.length_drop];omega)
 rw [xC l (by omega) _ (by omega) (by omega),e]
theorem kZ:∀ (l:List Nat) (M:Nat),(∀ j,l.getD j 0≤M)→65535*dval l+M≤M*65536^l.length
 | [],M,_=>by simp [dval]
 | x::r,M,h=>by
  have h0:x≤M:=by have:=h 0;simpa using this
  have ih:=kZ r M (fun j=>by have:=h (j+1);simpa using this)
  show 65535*(x+65536*dval r)+M≤M*65536^(r.length+1)
  rw [Nat.pow_succ,←Nat.mul_assoc,Nat.mul_comm _ 65536,Nat.mul_add]
  have e:65535*(65536*dval r)=65536*(65535*dval r):=by ac_rfl
  have h3:65535*x≤65535*M:=Nat.mul_le_mul_left _ h0
  rw [e]
  generalize 65535*dval r=Z at *
  generalize M*65536^r.length=Y at *
  omega
theorem pow16:(65536:Nat)^16=2*PP+38:=by decide +kernel
theorem fold_mod (l:List Nat) {n:Nat} (hn:l.length=n) (h1:16≤n) (h2:n≤32):dval (lowl l (n-16))%PP=dval l%PP:=by
 rw [xD l hn h1 h2]
 conv=>rhs;rw [kY l 16,pow16]
 rw [Nat.add_mul]
 generalize dval (l.take 16)=x
 generalize dval (l.drop 16)=y
 rw [show x+(2*PP*y+38*y)=x+38*y+PP*(2*y) by rw [Nat.mul_comm 2 PP,Nat.mul_assoc];omega,Nat.add_mul_mod_self_left]
theorem sM (l:List Nat) (h:∀ j,l.getD j 0<65536):dval l<65536^l.length:=by
 have h2:=kZ l 65535 (fun j=>by have:=h j;omega)
 generalize 65536^l.length=P at *
 omega
end
section
open Go Go.RowKit
def Cols (n:Nat) (l:List Nat):Prop:=16≤n∧n≤32∧(n=16∨∀ j,l.getD j 0<65536)∧∀ j,l.getD j 0≤1048576
theorem cols_low {n:Nat} {l:List Nat} (h:Cols n l) (hl:l.length=n):∀ j,(lowl l (n-16)).getD j 0≤40894464:=by
 intro j
 by_cases hj:j<16
 ·
  have h1:=h.2.2.2 j
  have h2:=h.2.2.2 (16+j)
  simp only [lowl,List.getD,List.getElem?_map,List.getElem?_range hj,Option.map_some,Option.getD_some] at h1 h2 ⊢
  split<;>omega
 ·
  simp [lowl,List.getD,hj]
theorem tU {n m:Nat} {l:List Nat} (h:Cols n l) (hl:l.length=n) (hm:16≤m) (hm2:m=16∨65536^(m-1)≤dval (lowl l (n-16))):m≤17:=by
 rcases hm2 with h2 | h2
 ·
  omega
 ·
  have hb:=kZ (lowl l (n-16)) 40894464 (cols_low h hl)
  rw [eN] at hb
  have h3:65535*65536^(m-1)≤40894464*65536^16:=by
   have:=Nat.mul_le_mul_left 65535 h2
   omega
  apply Nat.le_of_not_lt
  intro hlt
  have h4:65536^17≤65536^(m-1):=Nat.pow_le_pow_right (by omega) (by omega)
  have h5:(65536:Nat)^17=65536*65536^16:=by rw [Nat.pow_succ,Nat.mul_comm]
  have hp:0<(65536:Nat)^16:=Nat.pow_pos (by omega)
  generalize (65536:Nat)^16=P at *
  omega
theorem fold_less {n m:Nat} {l:List Nat} (h:Cols n l) (hl:l.length=n) (hn:16<n) (hm:16≤m) (hm2:m=16∨65536^(m-1)≤dval (lowl l (n-16))):64*dval (lowl l (n-16))+m<64*dval l+n:=by
 have hm17:=tU h hl hm hm2
 have hsm:∀ j,l.getD j 0<65536:=by
  rcases h.2.2.1 with h3 | h3
  ·
   omega
  ·
   exact h3
 have hsp:=kY l 16
 have hf:=xD l hl h.1 h.2.1
 have hp:(65536:Nat)^16=115792089237316195423570985008687907853269984665640564039457584007913129639936:=d16
 have ht:dval (l.take 16)<65536^16:=by
  have:=sM (l.take 16) (fun j=>by
   by_cases hj:j<16
   ·
    have:=hsm j
    simpa [List.getD,List.getElem?_take,hj] using this
   ·
    simp [List.getD,List.getElem?_take,hj])
  rw [List.length_take] at this
  refine Nat.lt_of_lt_of_le this (Nat.pow_le_pow_right (by omega) (by omega))
 rw [hf] at hm2 ⊢
 rw [hp] at hsp ht
 generalize dval (l.take 16)=x at *
 generalize dval (l.drop 16)=y at *
 rcases Nat.eq_zero_or_pos y with h0 | h0
 ·
  subst h0
  rcases hm2 with h2 | h2
  ·
   omega
  ·
   have h4:(65536:Nat)^16≤65536^(m-1)∨m=16:=by
    by_cases hmm:m=16
    ·
     exact .inr hmm
    ·
     exact .inl (Nat.pow_le_pow_right (by omega) (by omega))
   rw [hp] at h4
   rcases h4 with h4 | h4<;>omega
 ·
  omega
theorem uT {T m:Nat} (h1:16≤m) (h2:m≤17):Cols m (dgl T m):=⟨h1,by omega,.inr (gZ T m),fun j=>by have:=gZ T m j;omega⟩
theorem Fr.grow {w W W':World} {L:List (Nat × TypeId × Array Value)} {R:List (Nat × TypeId × Nat)} {row:Option Nat} (h:Fr w W L R) (hg:W.grownBy W' row) (hL:∀ p∈L,some p.1≠row) (hR:∀ p∈R,some p.1≠row) (hw:∀ g,row=some g→w.heap.size≤g):Fr w W' L R :=
 ⟨h.below.grown hg h.below.size hw,fun p hp=>(h.rows p hp).grown hg (hL p hp),fun p hp=>by
  obtain ⟨cs,e,k⟩:=h.some_ p hp
  exact ⟨cs,e,k.grown hg (hR p hp)⟩,h.own⟩
theorem Fr.keep {w W W':World} {L:List (Nat × TypeId × Array Value)} {R:List (Nat × TypeId × Nat)} {B:Nat} (h:Fr w W L R) (hb:Below B W W') (hB:w.heap.size≤B) (hL:∀ p∈L,p.1<B) (hR:∀ p∈R,p.1<B):Fr w W' L R :=
 ⟨h.below.trans (hb.mono hB),fun p hp=>(h.rows p hp).below hb (hL p hp),fun p hp=>by
  obtain ⟨cs,e,k⟩:=h.some_ p hp
  exact ⟨cs,e,k.below hb (hR p hp)⟩,h.own⟩
theorem ds_dgl (T:Nat):ds T=cs64 (dgl T 16):=rfl
theorem vU (x T:Nat):(splice (ds x).toList 0 ((dgl T 16).map (nc .u64))).toArray=ds T:=by
 have h1:(ds x).toList.length=16:=by rw [Array.length_toList,aS]
 have h2:((dgl T 16).map (nc .u64)).length=16:=by rw [List.length_map,dF]
 unfold splice
 rw [h2,List.take_zero,List.nil_append,List.drop_eq_nil_of_le (by omega),List.append_nil]
 rfl
theorem top_mod {t h:Nat} (hh:h=t/65536^15):t=putd 65536 t 15 (h%32768)+57896044618658097711785492504343953926634992332820282019728792003956564819968*(h/32768)∨¬ t<65536^16:=by
 by_cases ht:t<65536^16
 ·
  left
  have hp:=eU 65536 t 15 (h%32768)
  have e:(65536:Nat)^15=1766847064778384329583297500742918515827483896875618958121606201292619776:=by decide
  rw [←hh] at hp
  rw [e] at hp hh
  have h1:h<65536:=by rw [d16] at ht;omega
  rw [Nat.mod_eq_of_lt h1] at hp
  omega
 ·
  exact .inr ht
theorem dgl_at0 (T:Nat):(dgl T 16)[0]?=some (T%65536):=by simp [dgl]
theorem PP_255:PP+19=57896044618658097711785492504343953926634992332820282019728792003956564819968:=by rw [eH]
theorem top_fold {t h t1:Nat} (hh:h=t/65536^15) (ht:t<65536^16) (hb:32767<h) (hl:h<65536) (h1:t1=putd 65536 t 15 (h%32768)):t1<65536^16∧(t1+19*(h/32768))<65536^16∧(t1+19*(h/32768))%PP=t%PP∧t1+19*(h/32768)<t:=by
 have e:t=t1+57896044618658097711785492504343953926634992332820282019728792003956564819968*(h/32768):=by
  rcases top_mod hh with e | e
  ·
   rw [h1]
   exact e
  ·
   exact absurd ht e
 clear h1 hh
 have h3:h/32768=1:=by omega
 have hp:=PP_255
 rw [d16] at ht ⊢
 rw [h3] at e ⊢
 clear h3 hb hl
 have e2:t=(t1+19*1)+PP:=by omega
 refine ⟨by omega,by omega,?_,by omega⟩
 rw [e2,Nat.add_mod_right]
theorem OwnU.frozen {w:World} {base g n cap:Nat} {e:TypeId} {l:List Nat} (h:OwnU w base e (.slice (some ⟨g,0,none⟩) n cap) l) (hn:n=l.length) (j:Nat):w.frozen? ⟨g,j,none⟩=false:=by
 subst hn
 exact World.ownsRow.frozenAt (size:=1) h j
theorem us_ds {W:World} {g t:Nat} (h:Blk W g 31 (ds t)) {B:Nat} (hB:g<B):US W B (some ⟨g,0,none⟩) 16 16 (dgl t 16):=by
 rw [ds_dgl] at h
 exact US.ofBlk h 16 (by rw [dF]) B hB
theorem read_ds {W:World} {g t:Nat} (h:Blk W g 31 (ds t)) (ht:t<65536^16):readU W (.slice (some ⟨g,0,none⟩) 16 16)=t:=by
 rw [tD (us_ds h h.lt) (by omega),gU,Nat.mod_eq_of_lt ht]
def ModOf (n:Nat) (l:List Nat):Prop:=∀ (A:Option Addr) (c B:Nat) (w:World),US w B A n c l→B≤w.heap.size→Calls zP 83 #[.slice A n c] w (NumPost (dval l%PP) w)
set_option maxRecDepth 100000 in
theorem mod_gen (norm:Bool) (hrec:norm=false→∀ T,ModOf 17 (dgl T 17)) (n:Nat) (l:List Nat) (hcol:Cols n l) (hnorm:norm=true→∀ j,l.getD j 0<65536):ModOf n l:=by
 intro A c B w hl hB
 have hfr:=(Fr.start w).any (ds 0) 31 16 (aS 0) (g:=w.heap.size) rfl
 rw [dC] at hfr
 have HFR:=Lib.hid hfr
 obtain ⟨V,hV⟩:∃ V,V=dval l%PP:=⟨_,rfl⟩
 rw [←hV]
 have HV:=Lib.hid hV
 have HC:=Lib.hid hcol
 have HN:=Lib.hid hnorm
 have HREC:=Lib.hid hrec
 clear hfr hV hcol hnorm hrec
 have hl2:=(hl.alloc hB (.cells #[Value.int .u64 0,Value.int .u64 0,Value.int .u64 0,Value.int .u64 0,Value.int .u64 0,Value.int .u64 0,Value.int .u64 0,Value.int .u64 0,Value.int .u64 0,Value.int .u64 0,Value.int .u64 0,Value.int .u64 0,Value.int .u64 0,Value.int .u64 0,Value.int .u64 0,Value.int .u64 0] 31)).more (B':=w.heap.size+1) (by omega)
 have HL:=Lib.hid hl2
 clear hl hl2
 go_enter Tryz.func83,Tryz.ntmps83
 go_wp2_with (fail)
 go_loopw [0] (fun d wr=>∃ A n c l,d=.slice A n c∧US wr wr.heap.size A n c l∧Cols n l∧dval l%PP=V∧(norm=true→∀ j,l.getD j 0<65536)∧Fr w wr [] [(w.heap.size,31,16)]) (fun d wr=>64*readU wr d+lenU d)
 case atStart=>exact ⟨A,n,c,l,rfl,HL.out.more (by simp),HC.out,HV.out.symm,HN.out,HFR.out⟩
 case round =>
  obtain ⟨A,n,c,l,rfl,hU,hC,hM,hN,hF⟩:=hrel
  clear HFR HL HC HN
  by_cases hgt:16<n
  ·
   have hlen:=hU.len
   have hcap:=hU.cap
   have hread:=tD hU (by omega)
   have hhead:=fun W=>run_headU (P:=zP) 26 29 Tryz.underlying26 cN A n c 16 (by omega) W
   rw [show ((16:Nat):Int)=16 from rfl] at hhead
   have ngt:(16:Int)<(n:Int):=by omega
   have hU16:=hU.head (k:=16) (by omega)
   have HREAD:=Lib.hid hread
   have HM:=Lib.hid hM
   have HC:=Lib.hid hC
   have HN2:=Lib.hid hN
   have HF:=Lib.hid hF
   have HUU:=Lib.hid hU
   clear hread hM hC hN hF hU
   go_wp2_with (at_builtin;refine dD rfl (.tmp 11) (.tmp 13) 26 rfl 29 Tryz.underlying26 cN wr.heap.size (.slice none 0 0) [] rfl (OwnU.nil _ _ _) wr.heap.size 16 c A (l.take 16) rfl hU16 (by simp) (Nat.le_refl _) ?_;intro v1 w1 hown1 hg1 hat1)
   rw [List.nil_append,←wQ l (by omega)] at hown1
   obtain ⟨gl,cap,rfl,hgl1,hgl2⟩:=hown1.slice (by rw [eN];omega)
   rw [eN] at hown1 ⊢
   have hU1:=HUU.out.grown hg1 (Nat.le_refl _) (by intro g h;cases h)
   have hF1:=HF.out.grow hg1 (by simp) (by simp [Value.ownBlock]) (by intro g h;cases h)
   have hres:w.heap.size<wr.heap.size:=by obtain ⟨cs,_,k⟩:=HF.out.old (g:=w.heap.size) (t:=31) (n:=16) (by simp);exact k.lt
   have hsw1:=hg1.size
   have hsw0:=HF.out.size
   obtain ⟨b0,hb0⟩:∃ b0,b0=wr.heap.size:=⟨_,rfl⟩
   rw [←hb0] at hown1 hgl1 hU1 hres hsw1 hsw0
   have HU1:=Lib.hid hU1
   have HF1:=Lib.hid hF1
   have HO1:=Lib.hid hown1
   clear hU1 hF1 hown1 hg1 hat1 hhead hU16
   try rw [decide_eq_true ngt]
   go_loopw [3,4] (fun v i wq=>∃ j:Nat,j≤n-16∧i=.int .i64 (16+(j:Int))∧v=.slice (some ⟨gl,0,none⟩) 16 cap∧OwnU wq b0 29 (.slice (some ⟨gl,0,none⟩) 16 cap) (lowl l j)∧US wq b0 A n c l∧b0≤wq.heap.size∧Fr w wq [] [(w.heap.size,31,16)]) (fun _ i _=>n-(intOf i).toNat)
   case atStart=>exact ⟨0,by omega,rfl,rfl,HO1.out,HU1.out,hsw1,HF1.out⟩
   case round =>
    obtain ⟨j,hj,rfl,rfl,hO,hU,hwq,hF⟩:=hrel
    clear HO1 HU1 HF1
    by_cases hlt:j<n-16
    ·
     have hC:=HC.out
     have cl:=hO.cell (by rw [eN]) (lowl_at l (j:=j) (by have:=hC.2.1;omega))
     have hf:wr.frozen? ⟨gl,j,none⟩=false:=by have h2:=hO;unfold OwnU at h2;rw [eN] at h2;exact World.ownsRow.frozenAt (size:=1) h2 j
     obtain ⟨b,o,x,rfl,hbb,hx,cx⟩:=hU.at' (k:=16+j) (by omega)
     have hxd:l.getD (16+j) 0=x:=by simp [List.getD,hx]
     have hxb:=hC.2.2.2 (16+j)
     rw [hxd] at hxb
     have hyb:=hC.2.2.2 j
     have hst:=wR l (j:=j) (by have:=hC.2.1;omega)
     rw [hxd] at hst
     obtain ⟨hS1,hS2⟩:=hO.set (by rw [eN]) j (l.getD j 0+38*x)
     rw [hst] at hS1
     have hU2:=hU.grown hS2 hwq (by intro g h;injection h with h;omega)
     have hF2:=hF.grow hS2 (by simp) (by simp<;>omega) (by intro g h;injection h with h;omega)
     have hsz2:=hS2.size
     have HS1:=Lib.hid hS1
     have HU2:=Lib.hid hU2
     have HF2:=Lib.hid hF2
     have hj16:j<16:=by have:=hC.2.1;omega
     clear hS1 hS2 hU2 hF2 hO hU hF hst hxd hx hC
     generalize l.getD j 0=y at *
     have hsum:IntKind.u64.wrap ((y:Int)+38*(x:Int))=((y+38*x:Nat):Int):=by rw [IntKind.wrap_u64];omega
     have b2:(16:Int)+(j:Int)<(n:Int):=by omega
     have b1:(0:Int)≤16+(j:Int):=by omega
     have bw:IntKind.i64.wrap ((16:Int)+(j:Int)-16)=(j:Int):=by rw [IntKind.wrap_i64];omega
     have hm38:IntKind.u64.wrap (38*(x:Int))=38*(x:Int):=by rw [IntKind.wrap_u64];omega
     have b3:((16:Int)+(j:Int)).toNat=16+j:=by omega
     have j16:(j:Int)<16:=by omega
     have hne:gl≠b:=by omega
     go_wp2_with (fail)
     refine wp_region_held_drew (S:=fun W=>W.cell? ⟨b,o+(16+j),none⟩=some (.int .u64 (x:Int))) (by kernel_rfl) ?_ (fun hHeld=>?_)
     ·
      exact cx
     refine tk 0 hHeld ?_
     try simp only [Act.put,lA,lB,lC,lD,lE,lF]
     refine tk 1 hHeld ?_
     try simp only [Act.put,lA,lB,lC,lD,lE,lF]
     refine tk 2 hHeld ?_
     try simp only [Act.put,lA,lB,lC,lD,lE,lF]
     refine tk 3 hHeld ?_
     try simp only [Act.put,lA,lB,lC,lD,lE,lF]
     refine tk 4 hHeld ?_
     try simp only [Act.put,lA,lB,lC,lD,lE,lF]
     refine tk 5 hHeld ?_
     try simp only [Act.put,lA,lB,lC,lD,lE,lF]
     refine tk 6 hHeld ?_
     try simp only [Act.put,lA,lB,lC,lD,lE,lF]
     refine tk 8 hHeld ?_
     try simp only [Act.put,lA,lB,lC,lD,lE,lF]
     refine tk 9 hHeld ?_
     try simp only [Act.put,lA,lB,lC,lD,lE,lF]
     refine tk 10 hHeld ?_
     try simp only [Act.put,lA,lB,lC,lD,lE,lF]
     refine tk 11 hHeld ?_
     try simp only [Act.put,lA,lB,lC,lD,lE,lF]
     refine tk 12 hHeld ?_
     try simp only [Act.put,lA,lB,lC,lD,lE,lF]
     refine wpAnyH_ready (rs:=[7]) (by kernel_rfl) (by simp) (AllReadyH.cons rfl (fun K hK=>?_) AllReadyH.nil)
     have h0:=hHeld
     clear hHeld
     try simp only [lA,lB,lC]
     go_simp
     refine hK.out _ _ (h0) (fun hHeld=>?_)
     clear hK K h0
     try simp only [Act.put,lA,lB,lC,lD,lE,lF]
     refine tk 13 hHeld ?_
     try simp only [Act.put,lA,lB,lC,lD,lE,lF]
     refine tk 14 hHeld ?_
     try simp only [Act.put,lA,lB,lC,lD,lE,lF]
     refine wpAnyH_ready (rs:=[15]) (by kernel_rfl) (by simp) (AllReadyH.cons rfl (fun K hK=>?_) AllReadyH.nil)
     have h0:=hHeld
     clear hHeld
     try simp only [lA,lB,lC]
     go_simp
     refine hK.out _ _ ((World.cell?_setCell_far _ _ _ _ (by simp<;>omega)).trans h0) (fun hHeld=>?_)
     clear hK K h0
     try simp only [Act.put,lA,lB,lC,lD,lE,lF]
     refine wpAnyH_done (by kernel_rfl) ?_ _
     go_wp2_with (fail)
     go_roundw
     case rel=>exact ⟨j+1,by omega,by go_num,rfl,HS1.out,HU2.out.drew,by simp at hsz2 ⊢;omega,HF2.out.drew⟩
     case measure=>simp [intOf]<;>omega
    ·
     obtain rfl:j=n-16:=by omega
     have hcar:=jM b0 gl cap (lowl l (n-16)) wr (by rw [eN];exact hO) (by rw [eN];omega) (fun j=>by have:=cols_low HC.out hlen j;omega) (by rw [eN];omega) hwq
     rw [eN] at hcar
     have HCAR:=Lib.hid hcar
     have HF:=Lib.hid hF
     have hsq:=hF.size
     have eni:(16:Int)+((n-16:Nat):Int)=(n:Int):=by omega
     rw [eni]
     clear hcar hF hO hU eni
     go_wp2_with (fail)
     refine HCAR.out.mono ?_
     rintro e w3 ⟨v',m,rfl,hown3,hg3,hown4,hm16,hTm,hm2⟩
     rw [eN] at hm16 hm2
     have hF3:=HF.out.grow hg3 (by simp) (by simp<;>omega) (by intro g h;injection h with h;omega)
     obtain ⟨A3,n3,c3,rfl,hU3,_⟩:=hown3.form
     have hl3:=hU3.len
     rw [dF] at hl3
     subst hl3
     have hm17:=tU HC.out hlen hm16 hm2
     have hlt2:=fold_less HC.out hlen (by omega) hm16 hm2
     have hfm:=fold_mod l hlen HC.out.1 HC.out.2.1
     have hdd:dval (dgl (dval (lowl l (n-16))) m)=dval (lowl l (n-16)):=by rw [gU,Nat.mod_eq_of_lt hTm]
     have hr3:=tD hU3 (by omega)
     rw [hdd] at hr3
     have HU3:=Lib.hid hU3
     have HF3:=Lib.hid hF3
     have HL2:=Lib.hid hlt2
     have HFM:=Lib.hid hfm
     have HDD:=Lib.hid hdd
     have HR3:=Lib.hid hr3
     clear hown3 hg3 hown4 hTm hm2 hU3 hF3 hlt2 hfm hdd hr3
     go_wp2_with (fail)
     go_roundw
     case rel=>exact ⟨A3,m,c3,_,rfl,HU3.out,uT hm16 hm17,by rw [HDD.out,HFM.out,HM.out],fun _=>gZ _ _,HF3.out⟩
     case measure =>
      show 64*readU w3 (.slice A3 m c3)+m<64*readU _ (.slice A n c)+n
      rw [HR3.out,HREAD.out]
      exact HL2.out
  ·
   obtain rfl:n=16:=by have:=hC.1;omega
   have hlen:=hU.len
   have hTb:=kZ l 1048576 hC.2.2.2
   rw [hlen] at hTb
   obtain ⟨T,hT⟩:∃ T,T=dval l:=⟨_,rfl⟩
   have hns:norm=true→T<65536^16:=fun h=>by rw [hT];have:=sM l (hN h);rwa [hlen] at this
   have HC:=Lib.hid hC
   have HM:=Lib.hid hM
   have HNS:=Lib.hid hns
   have HF:=Lib.hid hF
   have HT:=Lib.hid hT
   have HTB:=Lib.hid hTb
   have HUU:=Lib.hid hU
   clear hC hM hN hns hF hT hTb hgt
   go_wp2_with (at_builtin;refine dD rfl (.const (.slice none 0 0)) (.tmp 49) 26 rfl 29 Tryz.underlying26 cN wr.heap.size (.slice none 0 0) [] rfl (OwnU.nil _ _ _) wr.heap.size 16 c A l rfl HUU.out (by simp) (Nat.le_refl _) ?_;intro v1 w1 hown1 hg1 hat1)
   rw [List.nil_append] at hown1
   obtain ⟨gc,cap,rfl,hgc1,hgc2⟩:=hown1.slice (by rw [hlen];omega)
   have hsw1:=hg1.size
   have hF1:=HF.out.grow hg1 (by simp) (by simp [Value.ownBlock]) (by intro g h;cases h)
   have hres:w.heap.size<wr.heap.size:=by obtain ⟨cs,_,k⟩:=HF.out.old (g:=w.heap.size) (t:=31) (n:=16) (by simp);exact k.lt
   have hsw0:=HF.out.size
   have hcar:=jM wr.heap.size gc cap l w1 hown1 (by rw [hlen];omega) (fun j=>by have:=HC.out.2.2.2 j;omega) (by rw [hlen];omega) hsw1
   rw [hlen] at hcar ⊢
   have HCAR:=Lib.hid hcar
   have HF1:=Lib.hid hF1
   clear hcar hF1 hown1 hg1 hat1 HF
   refine HCAR.out.mono ?_
   rintro e w3 ⟨v',m,rfl,hown3,hg3,hown4,hm16,hTm,hm2⟩
   rw [hlen] at hm16 hm2
   rw [←HT.out] at hown3 hTm hm2
   have hF3:=HF1.out.grow hg3 (by simp) (by simp<;>omega) (by intro g h;injection h with h;omega)
   obtain ⟨A3,n3,c3,rfl,hU3,_⟩:=hown3.form
   have hl3:=hU3.len
   rw [dF] at hl3
   subst hl3
   have hm17:m≤17:=by
    rcases hm2 with h | h
    ·
     omega
    ·
     apply Nat.le_of_not_lt
     intro hlt
     have h4:65536^17≤65536^(m-1):=Nat.pow_le_pow_right (by omega) (by omega)
     have h5:(65536:Nat)^17=65536*65536^16:=by rw [Nat.pow_succ,Nat.mul_comm]
     have h6:=HTB.out
     rw [←HT.out] at h6
     have hp:0<(65536:Nat)^16:=Nat.pow_pos (by omega)
     generalize (65536:Nat)^16=P at *
     omega
   have HU3:=Lib.hid hU3
   have HF3:=Lib.hid hF3
   have hdd:dval (dgl T m)=T:=by rw [gU,Nat.mod_eq_of_lt hTm]
   have HDD:=Lib.hid hdd
   have HTM:=Lib.hid hTm
   have hMT:=HM.out
   rw [←HT.out] at hMT
   have HMT:=Lib.hid hMT
   have hm2':=hm2
   have HM2:=Lib.hid hm2'
   clear hown3 hg3 hown4 hTm hm2 hm2' hU3 hF3 hdd hMT HF1 HCAR HM HTB HUU HC
   go_wp2_with (fail)
   go_loopw [54] (fun _ wq=>wq=w3) (fun _ _=>0)
   case atStart=>rfl
   case round =>
    obtain rfl:wr=w3:=hrel
    rcases (show m=17∨m=16 by omega) with rfl | rfl
    ·
     have hnf:norm=false:=by
      cases hb:norm with
      | false=>rfl
      | true =>
       have h1:=HNS.out hb
       rcases HM2.out with h2 | h2
       ·
        omega
       ·
        exact absurd h1 (by omega)
     have hmod:=HREC.out hnf T A3 c3 wr.heap.size wr HU3.out (Nat.le_refl _)
     rw [HDD.out,HMT.out] at hmod
     have HMOD:=Lib.hid hmod
     clear hmod hnf
     go_wp2_with (fail)
     refine HMOD.out.mono ?_
     rintro e v2 ⟨rfl,hb⟩
     have hf:=HF3.out.ext hb
     obtain ⟨old,hold,kR⟩:=hf.old (g:=w.heap.size) (t:=31) (n:=16) (by simp)
     have kS:=kR.setRow_same (ds V)
     have hB2:=below_setRow hf.below (Nat.le_refl _) (ds V)
     have hold':old.size=(ds V).size:=by rw [hold,aS]
     have HS:=Lib.hid kS
     have HB2:=Lib.hid hB2
     have HO:=Lib.hid hold'
     clear hb hf kS hB2 hold hold'
     go_wp2_with (first | (refine wpList_store_row rfl 31 (.tmp 2) (.tmp 56) rfl (w.heap.size) (ds V) rfl rfl 31 old kR (bG V) HO.out (cU _) ?_))
     exact bodyPost_ret (results_cell_row rfl _ _ (w.heap.size) 31 (ds V) (0,0) _ rfl HS.out Tryz.underlying31 rfl (bG V)) rfl ⟨rfl,HB2.out⟩
    ·
     have hTm:=HTM.out
     obtain ⟨ad,had⟩:∃ ad,A3=some ad:=by obtain ⟨b,o,e,_⟩:=HU3.out.at_ (by omega);exact ⟨_,e⟩
     subst had
     have hres3:w.heap.size<wr.heap.size:=by obtain ⟨cs,_,k⟩:=HF3.out.old (g:=w.heap.size) (t:=31) (n:=16) (by simp);exact k.lt
     have hsw3:=HF3.out.size
     have hz:=(Blk.new wr 31 (ds 0))
     rw [dC] at hz
     have hz2:(wr.alloc (.cells #[.int .u64 0,.int .u64 0,.int .u64 0,.int .u64 0,.int .u64 0,.int .u64 0,.int .u64 0,.int .u64 0,.int .u64 0,.int .u64 0,.int .u64 0,.int .u64 0,.int .u64 0,.int .u64 0,.int .u64 0,.int .u64 0] 31)).heap[wr.heap.size]?=some (.cells (ds 0).toList.toArray 31 (0,0)):=by rw [Array.toArray_toList,dC];exact hz
     have HZ2:=Lib.hid hz2
     clear hz hz2
     go_wp2_with (with_reducible refine wpList_copy_splice rfl (.tmp 57) (.tmp 58) 26 26 rfl 29 Tryz.underlying26 (by kernel_rfl) (some ⟨wr.heap.size,0,none⟩) (some ad) 16 16 16 c3 rfl rfl wr.heap.size 0 (ds 0).toList 31 HZ2.out ((dgl T 16).map (nc .u64)) (by simp [dF]) (fun _=>⟨rfl,ad,rfl,jX (HU3.out.alloc (Nat.le_refl _) _) ad rfl⟩) (by simp [aS,dF]) (qN _) wr.heap.size wr ((Below.refl _ wr).alloc (Nat.le_refl _) _) (Nat.le_refl _) ?_;intro w4 hg4 hb4)
     have hk4:Blk w4 wr.heap.size 31 (ds T):=by have:=hg4.out;rw [vU] at this;exact this
     have hF4:=(HF3.out.keep hb4 hsw3 (by simp) (by simp<;>omega)).more hk4
     obtain ⟨gn,hgn⟩:∃ gn,gn=wr.heap.size:=⟨_,rfl⟩
     rw [←hgn] at hF4 hres3 hsw3 ⊢
     have HF4:=Lib.hid hF4
     clear hF4 hk4 hg4 hb4 HZ2 HU3 HF3 hgn
     go_loopw [6,7] (fun _ _ wq=>∃ t:Nat,t<65536^16∧t%PP=V∧Fr w wq [(gn,31,ds t)] [(w.heap.size,31,16)]) (fun _ _ wq=>readU wq (.slice (some ⟨gn,0,none⟩) 16 16))
     case atStart=>exact ⟨T,HTM.out,HMT.out,HF4.out⟩
     case round =>
      obtain ⟨t,ht,htV,hF⟩:=hrel
      clear HF4
      have hK:=hF.get (g:=gn) (t:=31) (cs:=ds t) (by simp)
      have c15:wr.cell? ⟨gn,15,none⟩=some (.int .u64 ((t/65536^15%65536:Nat):Int)):=by rw [hK.cell,fF _ (by omega)]
      have hh15:t/65536^15%65536=t/65536^15:=Nat.mod_eq_of_lt (by rw [Nat.div_lt_iff_lt_mul (Nat.pow_pos (by omega))];rw [Nat.pow_succ,Nat.mul_comm] at ht;exact ht)
      rw [hh15] at c15
      have hl15:t/65536^15<65536:=by rw [←hh15];exact Nat.mod_lt _ (by omega)
      have htop:=top_mod (t:=t) rfl
      have HTOP:=Lib.hid htop
      have HT4:=Lib.hid ht
      have HV4:=Lib.hid htV
      have HF:=Lib.hid hF
      have HK:=Lib.hid hK
      have f15:=hK.frozen 15
      obtain ⟨h,hh⟩:∃ h,h=t/65536^15:=⟨_,rfl⟩
      rw [←hh] at c15 hl15 HTOP
      have HH:=Lib.hid hh
      clear htop ht htV hF hK hh15 hh
      by_cases hbig:32767<h
      ·
       obtain ⟨t1,ht1⟩:∃ t1,t1=putd 65536 t 15 (h%32768):=⟨_,rfl⟩
       obtain ⟨q1,q2,q3,q4⟩:=top_fold HH.out HT4.out hbig hl15 ht1
       have hpt:=uP (n:=t) (k:=15) (x:=h%32768) (by omega) (by omega)
       rw [←ht1] at hpt
       have hcast:((h%32768:Nat):Int)=(h:Int)%32768:=by omega
       rw [hcast] at hpt
       have hreadt:=read_ds HK.out HT4.out
       have hF1:=HF.out.setHead (by simp) (by simp<;>omega) 15 (.int .u64 ((h:Int)%32768)) (by omega)
       rw [hpt] at hF1
       have hK1:=hF1.get (g:=gn) (t:=31) (cs:=ds t1) (by simp)
       have hus:=us_ds hK1 HK.out.lt
       have hgnl:=HK.out.lt
       have hsw:=HF.out.size
       have hd0:t1%65536<65536:=Nat.mod_lt _ (by omega)
       have HF1:=Lib.hid hF1
       have HK1:=Lib.hid hK1
       have HUS:=Lib.hid hus
       have HRT:=Lib.hid hreadt
       have HQ1:=Lib.hid q1
       have HQ2:=Lib.hid q2
       have HQ3:=Lib.hid q3
       have HQ4:=Lib.hid q4
       clear hF1 hK1 hus hreadt q1 q2 q3 q4 hpt ht1 HF HH HTOP HK
       have hda:=dgl_at0 t1
       generalize hdd:t1%65536=d0 at *
       have HDA:=Lib.hid hda
       have HDD:=Lib.hid hdd
       clear hda hdd
       have hbg:decide ((32767:Int)<(h:Int))=true:=decide_eq_true (by omega)
       clear hcast
       have hw1:IntKind.u64.wrap (19*((h:Int)/32768))=19*((h:Int)/32768):=by rw [IntKind.wrap_u64];omega
       have hw2:IntKind.u64.wrap ((d0:Int)+19*((h:Int)/32768))=(d0:Int)+19*((h:Int)/32768):=by rw [IntKind.wrap_u64];omega
       go_upto_region 21 with (at_builtin;refine dD rfl (.tmp 70) (.tmp 71) 26 rfl 29 Tryz.underlying26 cN wr.heap.size (.slice none 0 0) [] rfl (OwnU.nil _ _ _) wr.heap.size 16 16 (some ⟨gn,0,none⟩) (dgl t1 16) rfl HUS.out (by simp) (by simp) ?_;intro v5 w5 hown5 hg5 hat5;rw [List.nil_append] at hown5;obtain ⟨ge,cap5,rfl,hge1,hge2⟩:=hown5.slice (by rw [dF];omega);rw [dF] at hown5 ⊢;have c50:=hown5.cell (by rw [dF]) HDA.out;have f50:=hown5.frozen (by rw [dF]) 0;have HO5:=Lib.hid hown5;have HG5:=Lib.hid hg5;have HGE1:=Lib.hid hge1;have HGE2:=Lib.hid hge2;clear hown5 hg5 hat5 hge1 hge2)
       rw [dF]
       go_wp2_with (fail)
       have hown5:=HO5.out
       have hg5:=HG5.out
       have hge1:=HGE1.out
       have hge2:=HGE2.out
       clear HO5 HG5 HGE1 HGE2
       obtain ⟨le,hle⟩:∃ le,le=(dgl t1 16).set 0 (d0+19*(h/32768)):=⟨_,rfl⟩
       obtain ⟨hS1,hS2⟩:=hown5.set (by rw [dF]) 0 (d0+19*(h/32768))
       rw [←hle] at hS1
       have hcst:((d0+19*(h/32768):Nat):Int)=(d0:Int)+19*((h:Int)/32768):=by omega
       rw [hcst] at hS1 hS2
       have hlel:le.length=16:=by rw [hle,List.length_set,dF]
       have hled:dval le=t1+19*(h/32768):=by
        have h5:=mJ (dgl t1 16) 0 (d0+19*(h/32768)) (by rw [dF];omega)
        rw [←hle,gU,Nat.mod_eq_of_lt HQ1.out,dgl_get t1 16 (by omega),Nat.pow_zero,Nat.div_one,HDD.out] at h5
        omega
       have hleb:∀ j,le.getD j 0≤1099511627776:=by
        intro j
        rw [hle,eO _ _ _ _ (by rw [dF];omega)]
        have:=gZ t1 16 j
        split<;>omega
       have hsz5:=hg5.size
       simp at hsz5
       have hF6:=(((HF1.out.sub (L':=[]) (R':=[(w.heap.size,31,16)]) (by simp) (by simp)).grow hg5 (by simp) (by simp [Value.ownBlock]) (by intro g h;cases h))).grow hS2 (by simp) (by simp<;>omega) (by intro g h;injection h with h;omega)
       have hK6:=(HK1.out.grown hg5 (by simp [Value.ownBlock])).grown hS2 (by intro e;injection e with e;omega)
       have hsz6:=hS2.size
       obtain ⟨w6,hw6⟩:∃ w6,w6=w5.setCell ⟨ge,0,none⟩ (.int .u64 ((d0:Int)+19*((h:Int)/32768))):=⟨_,rfl⟩
       rw [←hw6] at hS1 hF6 hK6 hsz6 ⊢
       clear hw6 hS2 hown5 hg5 c50 f50
       have hcar:=jM wr.heap.size ge cap5 le w6.drew (by rw [hlel];exact hS1.drew) (by omega) hleb (by omega) (by simp;omega)
       rw [hlel] at hcar
       have HCAR:=Lib.hid hcar
       have HF6:=Lib.hid hF6
       have KZ:=Lib.hid hK6.drew
       have HLD:=Lib.hid hled
       have HLL:=Lib.hid hlel
       clear hcar hF6 hK6 hled hleb hle hS1 hlel hcst
       go_wp2_with (fail)
       refine wp_region_held_drew (S:=fun W=>Fr w W [] [(w.heap.size,31,16)]) (by kernel_rfl) ?_ (fun hHeld=>?_)
       ·
        exact HF6.out.drew
       refine tk 0 hHeld ?_
       try simp only [Act.put,lA,lB,lC,lD,lE,lF]
       refine tk 1 hHeld ?_
       try simp only [Act.put,lA,lB,lC,lD,lE,lF]
       refine wpAnyH_ready (rs:=[2]) (by kernel_rfl) (by simp) (AllReadyH.cons rfl (fun K hK=>?_) AllReadyH.nil)
       have h0:=hHeld
       clear hHeld
       try simp only [lA,lB,lC]
       go_simp
       go_at_call 86
       refine HCAR.out.mono ?_
       rintro e w7 ⟨v',m,rfl,hown7,hg7,hown8,hm16,hTm,hm2⟩
       rw [HLL.out] at hm16 hm2
       rw [HLD.out] at hown7 hTm hm2
       have hm:m=16:=by
        rcases hm2 with h2 | h2
        ·
         exact h2
        ·
         have h3:=HQ2.out
         apply Nat.le_antisymm _ hm16
         apply Nat.le_of_not_lt
         intro hlt
         have h4:65536^16≤65536^(m-1):=Nat.pow_le_pow_right (by omega) (by omega)
         omega
       subst hm
       obtain ⟨A7,n7,c7,rfl,hU7,_⟩:=hown7.form
       have hl7:=hU7.len
       rw [dF] at hl7
       subst hl7
       have h1:=h0.grow hg7 (by simp) (by simp<;>omega) (by intro g h;injection h with h;omega)
       have kz7:=KZ.out.grown hg7 (by intro e;injection e with e;omega)
       have HU7:=Lib.hid hU7
       have KZ7:=Lib.hid kz7
       clear hown7 hg7 hown8 hTm hm2 hm16 h0 kz7 hU7 KZ HCAR
       go_wp2_with (fail)
       refine hK.out _ _ h1 (fun hHeld=>?_)
       clear hK K h1
       try simp only [Act.put,lA,lB,lC,lD,lE,lF]
       obtain ⟨ad,had⟩:∃ ad,A7=some ad:=by obtain ⟨b,o,e,_⟩:=HU7.out.at_ (by omega);exact ⟨_,e⟩
       subst had
       have hz7:w7.heap[gn]?=some (.cells (ds t1).toList.toArray 31 (0,0)):=by rw [Array.toArray_toList];exact KZ7.out
       have hgn7:=KZ7.out.lt
       refine wpAnyH_ready (rs:=[3]) (by kernel_rfl) (by simp) (AllReadyH.cons rfl (fun K hK=>?_) AllReadyH.nil)
       have h0:=hHeld
       clear hHeld
       refine step_copy_splice rfl (.tmp 81) (.tmp 83) 26 26 rfl 29 Tryz.underlying26 (by kernel_rfl) (some ⟨gn,0,none⟩) (some ad) 16 16 16 c7 rfl rfl gn 0 (ds t1).toList 31 hz7 ((dgl (t1+19*(h/32768)) 16).map (nc .u64)) (by simp [dF]) (fun _=>⟨rfl,ad,rfl,jX HU7.out ad rfl⟩) (by simp [aS,dF]) (qN _) gn w7 (Below.refl _ w7) (Nat.le_refl _) ?_
       intro w8 hg8 hb8
       have hk8:Blk w8 gn 31 (ds (t1+19*(h/32768))):=by have:=hg8.out;rw [vU] at this;exact this
       have HK8:=Lib.hid hk8
       refine hK.out _ _ (h0.keep hb8 (by omega) (by simp) (by simp<;>omega)) (fun hHeld=>?_)
       clear hK K h0 hk8 hg8 hb8
       try simp only [Act.put,lA,lB,lC,lD,lE,lF]
       refine wpAnyH_done (by kernel_rfl) ?_ _
       have hF8:=hHeld.more HK8.out
       have HF8:=Lib.hid hF8
       clear hHeld hF8
       have hr8:=read_ds HK8.out HQ2.out
       have HR8:=Lib.hid hr8
       clear hr8
       go_wp2_with (fail)
       refine ⟨?_,?measure⟩
       ·
        (repeat apply Exists.intro)
        refine ⟨?rel,rfl⟩
        exact ⟨t1+19*(h/32768),HQ2.out,by rw [HQ3.out,HV4.out],HF8.out⟩
       case measure =>
        show readU w8 _<readU wr _
        rw [HR8.out,HRT.out]
        exact HQ4.out
      ·
       have ht255:t<57896044618658097711785492504343953926634992332820282019728792003956564819968:=by
        have h1:=HH.out
        have h2:=HT4.out
        have e:(65536:Nat)^15=1766847064778384329583297500742918515827483896875618958121606201292619776:=by decide
        rw [e] at h1
        omega
       have HT5:=Lib.hid ht255
       clear ht255
       have hnb:decide ((32767:Int)<(h:Int))=false:=decide_eq_false (by omega)
       go_wp2_with (fail)
       have hPl:K256 PP:=by rw [eH];omega
       have htl:=HT4.out
       rw [d16] at htl
       have hless:=fun W=>jZ t PP W htl hPl
       have HPL:=Lib.hid hPl
       have HTL:=Lib.hid htl
       by_cases hc:t<PP
       ·
        rw [decide_eq_true hc] at hless
        have htv:=HV4.out
        rw [Nat.mod_eq_of_lt hc] at htv
        have hlv:=hless
        have HLESS:=Lib.hid hless
        have HTV:=Lib.hid htv
        clear hless hlv htv hPl htl
        refine wp_region_held_drew (S:=fun W=>Fr w W [(gn,31,ds t)] [(w.heap.size,31,16)]) (by kernel_rfl) ?_ (fun hHeld=>?_)
        ·
         exact HF.out.drew
        refine wpAnyH_take (i:=0) (v:=.agg (ds t)) rfl (by kernel_rfl) (by kernel_rfl) (by kernel_rfl) (fun _ _ _ h=>h) (cY (by rfl) 31 (.tmp 5) rfl (gn) rfl 31 (ds t) _ (fun W (h:Fr _ W _ _)=>h.get (by simp)) Tryz.underlying31 rfl (bG _)) hHeld ?_
        try simp only [Act.put,lA,lB,lC,lD,lE,lF]
        refine wpAnyH_ready (rs:=[1]) (by kernel_rfl) (by simp) (AllReadyH.cons rfl (fun K hK=>?_) AllReadyH.nil)
        have h0:=hHeld
        clear hHeld
        try simp only [lA,lB,lC]
        have H0:=Lib.hid h0
        clear h0
        go_simp
        go_at_call 77
        refine (fC _).mono ?_
        rintro e vv ⟨rfl,hb⟩
        have h1:=H0.out.ext hb
        clear hb H0
        go_wp2_with (fail)
        refine hK.out _ _ h1 (fun hHeld=>?_)
        clear hK K h1
        try simp only [Act.put,lA,lB,lC,lD,lE,lF]
        refine wpAnyH_ready (rs:=[2]) (by kernel_rfl) (by simp) (AllReadyH.cons rfl (fun K hK=>?_) AllReadyH.nil)
        have h0:=hHeld
        clear hHeld
        try simp only [lA,lB,lC]
        have H0:=Lib.hid h0
        clear h0
        go_simp
        go_at_call 76
        refine (HLESS.out _).mono ?_
        rintro e vv ⟨rfl,hb⟩
        have h1:=H0.out.ext hb
        clear hb H0
        go_wp2_with (fail)
        refine hK.out _ _ h1 (fun hHeld=>?_)
        clear hK K h1
        try simp only [Act.put,lA,lB,lC,lD,lE,lF]
        refine tk 3 hHeld ?_
        try simp only [Act.put,lA,lB,lC,lD,lE,lF]
        refine wpAnyH_done (by kernel_rfl) ?_ _
        have HFF:=Lib.hid hHeld
        clear hHeld
        have hfv:=HFF.out
        rw [HTV.out] at hfv
        clear HFF
        have HFF:=Lib.hid hfv
        clear hfv
        obtain ⟨old,hold,kR⟩:=HFF.out.old (g:=w.heap.size) (t:=31) (n:=16) (by simp)
        have kT:=HFF.out.get (g:=gn) (t:=31) (cs:=ds V) (by simp)
        have kS:=kR.setRow_same (ds V)
        have hB2:=below_setRow HFF.out.below (Nat.le_refl _) (ds V)
        have hold':old.size=(ds V).size:=by rw [hold,aS]
        have HS:=Lib.hid kS
        have HB2:=Lib.hid hB2
        have HO:=Lib.hid hold'
        clear kS hB2 hold hold'
        go_wp2_with (first | (refine wpList_load_row rfl 31 (.tmp 5) rfl gn rfl 31 (ds V) (0,0) _ kT Tryz.underlying31 rfl (bG _) ?_) | (refine wpList_store_row rfl 31 (.tmp 2) (.tmp 92) rfl (w.heap.size) (ds V) rfl rfl 31 old kR (bG _) HO.out (cU _) ?_))
        exact bodyPost_ret (results_cell_row rfl _ _ (w.heap.size) 31 (ds V) (0,0) _ rfl HS.out Tryz.underlying31 rfl (bG _)) rfl ⟨rfl,HB2.out⟩
       ·
        rw [decide_eq_false hc] at hless
        have htv:t-PP=V:=by rw [←HV4.out,Nat.mod_eq_sub_mod (by omega),Nat.mod_eq_of_lt (by have:=HT5.out;rw [eH] at hc ⊢;omega)]
        have HLESS:=Lib.hid hless
        have HTV:=Lib.hid htv
        have hmin:=fun W=>nV t PP W HTL.out (by omega)
        rw [htv] at hmin
        have HMIN:=Lib.hid hmin
        clear hless htv hPl htl hmin
        refine wp_region_held_drew (S:=fun W=>Fr w W [(gn,31,ds t)] [(w.heap.size,31,16)]) (by kernel_rfl) ?_ (fun hHeld=>?_)
        ·
         exact HF.out.drew
        refine wpAnyH_take (i:=0) (v:=.agg (ds t)) rfl (by kernel_rfl) (by kernel_rfl) (by kernel_rfl) (fun _ _ _ h=>h) (cY (by rfl) 31 (.tmp 5) rfl (gn) rfl 31 (ds t) _ (fun W (h:Fr _ W _ _)=>h.get (by simp)) Tryz.underlying31 rfl (bG _)) hHeld ?_
        try simp only [Act.put,lA,lB,lC,lD,lE,lF]
        refine wpAnyH_ready (rs:=[1]) (by kernel_rfl) (by simp) (AllReadyH.cons rfl (fun K hK=>?_) AllReadyH.nil)
        have h0:=hHeld
        clear hHeld
        try simp only [lA,lB,lC]
        have H0:=Lib.hid h0
        clear h0
        go_simp
        go_at_call 77
        refine (fC _).mono ?_
        rintro e vv ⟨rfl,hb⟩
        have h1:=H0.out.ext hb
        clear hb H0
        go_wp2_with (fail)
        refine hK.out _ _ h1 (fun hHeld=>?_)
        clear hK K h1
        try simp only [Act.put,lA,lB,lC,lD,lE,lF]
        refine wpAnyH_ready (rs:=[2]) (by kernel_rfl) (by simp) (AllReadyH.cons rfl (fun K hK=>?_) AllReadyH.nil)
        have h0:=hHeld
        clear hHeld
        try simp only [lA,lB,lC]
        have H0:=Lib.hid h0
        clear h0
        go_simp
        go_at_call 76
        refine (HLESS.out _).mono ?_
        rintro e vv ⟨rfl,hb⟩
        have h1:=H0.out.ext hb
        clear hb H0
        go_wp2_with (fail)
        refine hK.out _ _ h1 (fun hHeld=>?_)
        clear hK K h1
        try simp only [Act.put,lA,lB,lC,lD,lE,lF]
        refine tk 3 hHeld ?_
        try simp only [Act.put,lA,lB,lC,lD,lE,lF]
        refine wpAnyH_done (by kernel_rfl) ?_ _
        have HFF:=Lib.hid hHeld
        clear hHeld
        go_wp2_with (fail)
        have kz:=HFF.out.get (g:=gn) (t:=31) (cs:=ds t) (by simp)
        have hS2:=HFF.out.sub (L':=[]) (R':=[(w.heap.size,31,16)]) (by simp) (by simp)
        have KZ:=Lib.hid kz.drew
        have HS2:=Lib.hid hS2
        clear kz hS2 HFF
        refine wp_region_held_drew (S:=fun W=>Fr w W [] [(w.heap.size,31,16)]) (by kernel_rfl) ?_ (fun hHeld=>?_)
        ·
         exact HS2.out.drew
        refine wpAnyH_ready (rs:=[0,1]) (by kernel_rfl) (by simp) (AllReadyH.cons rfl (fun K hK=>?_) (AllReadyH.cons rfl (fun K hK=>?_) AllReadyH.nil))
        ·
         have h0:=hHeld
         clear hHeld
         try simp only [lA,lB,lC]
         rw [if_pos (by rfl)]
         refine wp_load_row 31 (.tmp 5) rfl (gn) rfl 31 (ds t) (0,0) _ KZ.out Tryz.underlying31 rfl (bG _) ?_
         refine hK.out _ _ h0 (fun hHeld=>?_)
         clear hK K h0
         try simp only [Act.put,lA,lB,lC,lD,lE,lF]
         refine wpAnyH_ready (rs:=[1]) (by kernel_rfl) (by simp) (AllReadyH.cons rfl (fun K hK=>?_) AllReadyH.nil)
         have h0:=hHeld
         clear hHeld
         try simp only [lA,lB,lC]
         have H0:=Lib.hid h0
         clear h0
         go_simp
         go_at_call 77
         refine (fC _).mono ?_
         rintro e vv ⟨rfl,hb⟩
         have kz:=KZ.out.below hb KZ.out.lt
         clear KZ
         have KZ:=Lib.hid kz
         clear kz
         have h1:=H0.out.ext hb
         clear hb H0
         go_wp2_with (fail)
         refine hK.out _ _ h1 (fun hHeld=>?_)
         clear hK K h1
         try simp only [Act.put,lA,lB,lC,lD,lE,lF]
         refine wpAnyH_ready (rs:=[2]) (by kernel_rfl) (by simp) (AllReadyH.cons rfl (fun K hK=>?_) AllReadyH.nil)
         have h0:=hHeld
         clear hHeld
         try simp only [lA,lB,lC]
         have H0:=Lib.hid h0
         clear h0
         go_simp
         go_at_call 85
         refine (HMIN.out _).mono ?_
         rintro e vv ⟨rfl,hb⟩
         have kz:=KZ.out.below hb KZ.out.lt
         clear KZ
         have KZ:=Lib.hid kz
         clear kz
         have h1:=H0.out.ext hb
         clear hb H0
         go_wp2_with (fail)
         refine hK.out _ _ h1 (fun hHeld=>?_)
         clear hK K h1
         try simp only [Act.put,lA,lB,lC,lD,lE,lF]
         refine wpAnyH_ready (rs:=[3]) (by kernel_rfl) (by simp) (AllReadyH.cons rfl (fun K hK=>?_) AllReadyH.nil)
         have h0:=hHeld
         clear hHeld
         try simp only [lA,lB,lC]
         rw [if_pos (by rfl)]
         refine wp_store_row 31 (.tmp 5) (.tmp 91) rfl (gn) (ds V) rfl rfl 31 _ KZ.out (bG _) (by rw [aS,aS]) (cU _) ?_
         refine hK.out _ _ (Fr.setOut h0 (g:=gn) (by omega) (by simp<;>omega) (by simp<;>omega) _) (fun hHeld=>?_)
         have kb:=KZ.out.setRow_same (ds V)
         clear hK K h0
         try simp only [Act.put,lA,lB,lC,lD,lE,lF]
         refine wpAnyH_done (by kernel_rfl) ?_ _
         have hff:=hHeld.more kb
         have HFF:=Lib.hid hff
         clear hHeld hff kb
         obtain ⟨old,hold,kR⟩:=HFF.out.old (g:=w.heap.size) (t:=31) (n:=16) (by simp)
         have kT:=HFF.out.get (g:=gn) (t:=31) (cs:=ds V) (by simp)
         have kS:=kR.setRow_same (ds V)
         have hB2:=below_setRow HFF.out.below (Nat.le_refl _) (ds V)
         have hold':old.size=(ds V).size:=by rw [hold,aS]
         have HS:=Lib.hid kS
         have HB2:=Lib.hid hB2
         have HO:=Lib.hid hold'
         clear kS hB2 hold hold'
         go_wp2_with (first | (refine wpList_load_row rfl 31 (.tmp 5) rfl gn rfl 31 (ds V) (0,0) _ kT Tryz.underlying31 rfl (bG _) ?_) | (refine wpList_store_row rfl 31 (.tmp 2) (.tmp 92) rfl (w.heap.size) (ds V) rfl rfl 31 old kR (bG _) HO.out (cU _) ?_))
         exact bodyPost_ret (results_cell_row rfl _ _ (w.heap.size) 31 (ds V) (0,0) _ rfl HS.out Tryz.underlying31 rfl (bG _)) rfl ⟨rfl,HB2.out⟩
        ·
         have h0:=hHeld
         clear hHeld
         try simp only [lA,lB,lC]
         have H0:=Lib.hid h0
         clear h0
         go_simp
         go_at_call 77
         refine (fC _).mono ?_
         rintro e vv ⟨rfl,hb⟩
         have kz:=KZ.out.below hb KZ.out.lt
         clear KZ
         have KZ:=Lib.hid kz
         clear kz
         have h1:=H0.out.ext hb
         clear hb H0
         go_wp2_with (fail)
         refine hK.out _ _ h1 (fun hHeld=>?_)
         clear hK K h1
         try simp only [Act.put,lA,lB,lC,lD,lE,lF]
         refine wpAnyH_ready (rs:=[0]) (by kernel_rfl) (by simp) (AllReadyH.cons rfl (fun K hK=>?_) AllReadyH.nil)
         have h0:=hHeld
         clear hHeld
         try simp only [lA,lB,lC]
         rw [if_pos (by rfl)]
         refine wp_load_row 31 (.tmp 5) rfl (gn) rfl 31 (ds t) (0,0) _ KZ.out Tryz.underlying31 rfl (bG _) ?_
         refine hK.out _ _ h0 (fun hHeld=>?_)
         clear hK K h0
         try simp only [Act.put,lA,lB,lC,lD,lE,lF]
         refine wpAnyH_ready (rs:=[2]) (by kernel_rfl) (by simp) (AllReadyH.cons rfl (fun K hK=>?_) AllReadyH.nil)
         have h0:=hHeld
         clear hHeld
         try simp only [lA,lB,lC]
         have H0:=Lib.hid h0
         clear h0
         go_simp
         go_at_call 85
         refine (HMIN.out _).mono ?_
         rintro e vv ⟨rfl,hb⟩
         have kz:=KZ.out.below hb KZ.out.lt
         clear KZ
         have KZ:=Lib.hid kz
         clear kz
         have h1:=H0.out.ext hb
         clear hb H0
         go_wp2_with (fail)
         refine hK.out _ _ h1 (fun hHeld=>?_)
         clear hK K h1
         try simp only [Act.put,lA,lB,lC,lD,lE,lF]
         refine wpAnyH_ready (rs:=[3]) (by kernel_rfl) (by simp) (AllReadyH.cons rfl (fun K hK=>?_) AllReadyH.nil)
         have h0:=hHeld
         clear hHeld
         try simp only [lA,lB,lC]
         rw [if_pos (by rfl)]
         refine wp_store_row 31 (.tmp 5) (.tmp 91) rfl (gn) (ds V) rfl rfl 31 _ KZ.out (bG _) (by rw [aS,aS]) (cU _) ?_
         refine hK.out _ _ (Fr.setOut h0 (g:=gn) (by omega) (by simp<;>omega) (by simp<;>omega) _) (fun hHeld=>?_)
         have kb:=KZ.out.setRow_same (ds V)
         clear hK K h0
         try simp only [Act.put,lA,lB,lC,lD,lE,lF]
         refine wpAnyH_done (by kernel_rfl) ?_ _
         have hff:=hHeld.more kb
         have HFF:=Lib.hid hff
         clear hHeld hff kb
         obtain ⟨old,hold,kR⟩:=HFF.out.old (g:=w.heap.size) (t:=31) (n:=16) (by simp)
         have kT:=HFF.out.get (g:=gn) (t:=31) (cs:=ds V) (by simp)
         have kS:=kR.setRow_same (ds V)
         have hB2:=below_setRow HFF.out.below (Nat.le_refl _) (ds V)
         have hold':old.size=(ds V).size:=by rw [hold,aS]
         have HS:=Lib.hid kS
         have HB2:=Lib.hid hB2
         have HO:=Lib.hid hold'
         clear kS hB2 hold hold'
         go_wp2_with (first | (refine wpList_load_row rfl 31 (.tmp 5) rfl gn rfl 31 (ds V) (0,0) _ kT Tryz.underlying31 rfl (bG _) ?_) | (refine wpList_store_row rfl 31 (.tmp 2) (.tmp 92) rfl (w.heap.size) (ds V) rfl rfl 31 old kR (bG _) HO.out (cU _) ?_))
         exact bodyPost_ret (results_cell_row rfl _ _ (w.heap.size) 31 (ds V) (0,0) _ rfl HS.out Tryz.underlying31 rfl (bG _)) rfl ⟨rfl,HB2.out⟩
end
section
open Go Go.RowKit
theorem mod_norm (T:Nat):ModOf 17 (dgl T 17):=mod_gen true (fun h=>by cases h) 17 (dgl T 17) (uT (by omega) (by omega)) (fun _=>gZ T 17)
theorem yX {n:Nat} {l:List Nat} (h:Cols n l):ModOf n l:=mod_gen false (fun _=>mod_norm) n l h (fun h=>by cases h)
theorem mod_dgl (T m:Nat) (h1:16≤m) (h2:m≤17) (hT:T<65536^m) (A:Option Addr) (c B:Nat) (w:World) (hU:US w B A m c (dgl T m)) (hB:B≤w.heap.size):Calls zP 83 #[.slice A m c] w (NumPost (T%PP) w):=by
 have:=yX (uT (T:=T) h1 h2) A c B w hU hB
 rw [gU,Nat.mod_eq_of_lt hT] at this
 exact this
theorem oN:K256 PP:=by rw [eH];omega
theorem tT (n:Nat):n%PP<PP:=Nat.mod_lt _ (by rw [eH];omega)
def AllPost (n:Nat) (w:World) (e:Ending) (w':World):Prop:=∃ A c,e=.returned (.slice A 16 c)∧US w' w'.heap.size A 16 c (dgl n 16)∧Below w.heap.size w w'
set_option maxRecDepth 100000 in
theorem rall_any (n:Nat) (w:World):Calls zP 84 #[.agg (ds n)] w (AllPost n w):=by
 have hfr:=(Fr.start w).row (ds n) 31 (g:=w.heap.size) rfl
 have hus:=us_ds (hfr.get (g:=w.heap.size) (t:=31) (cs:=ds n) (by simp)) (B:=w.heap.size+1) (by omega)
 have HFR:=Lib.hid hfr
 have HUS:=Lib.hid hus
 clear hfr hus
 go_enter Tryz.func84,Tryz.ntmps84
 go_wp2_with (at_builtin;refine dD rfl (.const (.slice none 0 0)) (.tmp 3) 26 rfl 29 Tryz.underlying26 cN (w.heap.size+1) (.slice none 0 0) [] rfl (OwnU.nil _ _ _) (w.heap.size+1) 16 16 (some ⟨w.heap.size,0,none⟩) (dgl n 16) rfl HUS.out (by simp) (by simp) ?_;intro v1 w1 hown1 hg1 hat1)
 rw [List.nil_append] at hown1
 obtain ⟨A,m,c,rfl,hU,_⟩:=hown1.form
 have hl:=hU.len
 rw [dF] at hl
 subst hl
 have hb:=HFR.out.below.grown hg1 (by simp) (by intro g h;cases h)
 go_ret
 exact ⟨A,c,rfl,hU,hb⟩
def addl (a b k:Nat):List Nat:=(List.range k).map fun t=>a/65536^t%65536+b/65536^t%65536
theorem iY (a b k:Nat):(addl a b k).length=k:=by simp [addl]
theorem xR (a b k:Nat):addl a b (k+1)=addl a b k++[a/65536^k%65536+b/65536^k%65536]:=by simp [addl,List.range_succ]
theorem addl_small (a b k j:Nat):(addl a b k).getD j 0≤1048576:=by
 by_cases h:j<k
 ·
  have h1:=Nat.mod_lt (a/65536^j) (show 0<65536 by omega)
  have h2:=Nat.mod_lt (b/65536^j) (show 0<65536 by omega)
  simp [addl,List.getD,h]
  omega
 ·
  simp [addl,List.getD,h]
theorem xE (a b:Nat):∀ k,dval (addl a b k)=a%65536^k+b%65536^k
 | 0=>by simp [addl,dval,Nat.mod_one]
 | k+1=>by
  rw [xR,mK,xE a b k,iY,Nat.mod_pow_succ,Nat.mod_pow_succ]
  simp [dval,Nat.mul_add]
  omega
theorem cols_addl (a b:Nat):Cols 16 (addl a b 16):=⟨by omega,by omega,.inl rfl,addl_small a b 16⟩
end
section
open Go Go.RowKit
theorem prod_digits {a b m:Nat} (ha:a<65536^16) (hb:b<65536^16) (h:m=31∨65536^(m-1)≤a*b):m≤32:=by
 rcases h with h | h
 ·
  omega
 ·
  apply Nat.le_of_not_lt
  intro hlt
  have h1:65536^32≤65536^(m-1):=Nat.pow_le_pow_right (by omega) (by omega)
  have h2:a*b<65536^16*65536^16:=Nat.mul_lt_mul'' ha hb
  rw [←Nat.pow_add] at h2
  omega
theorem cols_prod (T:Nat) {m:Nat} (h1:31≤m) (h2:m≤32):Cols m (dgl T m):=⟨by omega,h2,.inr (gZ T m),fun j=>by have:=gZ T m j;omega⟩
theorem maxLen_31:31≤maxLen:=by simp only [maxLen];omega
set_option maxRecDepth 100000 in
theorem sZ (a b:Nat) (w:World) (ha:K256 a) (hb:K256 b):Calls zP 40 #[.agg (ds a),.agg (ds b)] w (NumPost (a*b%PP) w):=by
 have hfr:=((((Fr.start w).row (ds a) 31 (g:=w.heap.size) rfl).row (ds b) 31 (g:=w.heap.size+1) (by simp)).any (ds 0) 31 16 (aS 0) (g:=w.heap.size+1+1) (by simp)).row (cs64 (List.replicate 31 0)) 29 (g:=w.heap.size+1+1+1) (by simp)
 rw [dC] at hfr
 have hcol:=xG 31 a b 0
 have ha':a<65536^16:=by rw [d16];exact ha
 have hb':b<65536^16:=by rw [d16];exact hb
 have HA:=Lib.hid ha'
 have HB:=Lib.hid hb'
 have HFR:=Lib.hid hfr
 have HCOL:=Lib.hid hcol
 clear hfr hcol ha hb ha' hb'
 obtain ⟨V,hV⟩:∃ V,V=a*b%PP:=⟨_,rfl⟩
 rw [←hV]
 have HV:=Lib.hid hV
 clear hV
 have hmk:=mT (P:=zP) 26 29 Tryz.underlying26 cN 31 (by omega) (((w.alloc (.cells (ds a) 31)).alloc (.cells (ds b) 31)).alloc (.cells #[.int .u64 0,.int .u64 0,.int .u64 0,.int .u64 0,.int .u64 0,.int .u64 0,.int .u64 0,.int .u64 0,.int .u64 0,.int .u64 0,.int .u64 0,.int .u64 0,.int .u64 0,.int .u64 0,.int .u64 0,.int .u64 0] 31))
 rw [show ((31:Nat):Int)=31 from rfl] at hmk
 go_enter Tryz.func40,Tryz.ntmps40
 go_wp2_with (fail)
 clear hmk
 go_loopw [6] (fun i wr=>∃ (j:Nat) (l:List Nat),j≤16∧i=.int .i64 j∧ColAt 31 a b 0 j l∧Fr w wr [(w.heap.size+1+1+1,29,cs64 l),(w.heap.size+1,31,ds b),(w.heap.size,31,ds a)] [(w.heap.size+1+1,31,16)]) (fun i _=>16-(intOf i).toNat)
 case atStart=>exact ⟨0,_,by omega,rfl,HCOL.out,HFR.out⟩
 case round =>
  obtain ⟨j,l,hj,rfl,hC,hF⟩:=hrel
  clear HFR HCOL
  by_cases hlt:j<16
  ·
   have hin0:=col_in0 hC
   obtain ⟨V2,hV2⟩:∃ V2,V2=0%65536^(j+1)+a%65536^j*b:=⟨_,rfl⟩
   have hV3:a%65536^j*b=V2:=by rw [hV2,Nat.zero_mod,Nat.zero_add]
   rw [hV3] at hin0
   have HV2:=Lib.hid hV2
   have HIN:=Lib.hid hin0
   have HF:=Lib.hid hF
   clear hin0 hV2 hV3 hC hF
   have hdt:decide ((j:Int)<16)=true:=decide_eq_true (by omega)
   go_wp2_with (fail)
   try rw [decide_eq_true (show (j:Int)<16 by omega)]
   go_loopw [7] (fun i wq=>∃ (k:Nat) (l:List Nat),k≤16∧i=.int .i64 k∧ColIn 31 a b V2 j k l∧Fr w wq [(w.heap.size+1+1+1,29,cs64 l),(w.heap.size+1,31,ds b),(w.heap.size,31,ds a)] [(w.heap.size+1+1,31,16)]) (fun i _=>16-(intOf i).toNat)
   case atStart=>exact ⟨0,_,by omega,rfl,HIN.out,HF.out⟩
   case round =>
    obtain ⟨k,m,hk,rfl,hC,hF⟩:=hrel
    clear HF HIN
    by_cases hkt:k<16
    ·
     have hml:=hC.1
     have hD:=hF.get (g:=w.heap.size+1+1+1) (t:=29) (cs:=cs64 m) (by simp)
     have hX:=hF.get (g:=w.heap.size) (t:=31) (cs:=ds a) (by simp)
     have hY:=hF.get (g:=w.heap.size+1) (t:=31) (cs:=ds b) (by simp)
     have cd:wr.cell? ⟨w.heap.size+1+1+1,j+k,none⟩=some (.int .u64 ((m.getD (j+k) 0:Nat):Int)):=by rw [hD.cell,pS _ (by omega)]
     have cx:wr.cell? ⟨w.heap.size,j,none⟩=some (.int .u64 ((a/65536^j%65536:Nat):Int)):=by rw [hX.cell,fF _ hlt]
     have cy:wr.cell? ⟨w.heap.size+1,k,none⟩=some (.int .u64 ((b/65536^k%65536:Nat):Int)):=by rw [hY.cell,fF _ hkt]
     have hf:=hD.frozen (j+k)
     obtain ⟨hin,hbd,hpl⟩:=col_step (k:=k) (by omega) hC
     have hst:=uS m (j+k) (m.getD (j+k) 0+a/65536^j%65536*(b/65536^k%65536))
     have HST:=Lib.hid hst
     have HIN:=Lib.hid hin
     have HF:=Lib.hid hF
     clear hst hin hF hC hD hX hY
     have hxy:IntKind.u64.wrap (((a/65536^j%65536:Nat):Int)*((b/65536^k%65536:Nat):Int))=((a/65536^j%65536*(b/65536^k%65536):Nat):Int):=by rw [←Int.natCast_mul,IntKind.wrap_u64];omega
     generalize m.getD (j+k) 0=dj at *
     generalize a/65536^j%65536=x at *
     generalize b/65536^k%65536=y at *
     obtain ⟨p,hp⟩:∃ p,p=x*y:=⟨_,rfl⟩
     rw [←hp] at hxy HST HIN hpl
     clear hp
     obtain ⟨sj,hsj⟩:∃ sj,sj=dj+p:=⟨_,rfl⟩
     rw [←hsj] at HST HIN
     have hsum:IntKind.u64.wrap ((dj:Int)+(p:Int))=(sj:Int):=by rw [IntKind.wrap_u64];omega
     clear hbd hpl hsj
     have b0:IntKind.i64.wrap ((j:Int)+(k:Int))=(j:Int)+(k:Int):=by rw [IntKind.wrap_i64];omega
     have b1:(0:Int)≤(j:Int)+(k:Int):=by omega
     have b2:(j:Int)+(k:Int)<31:=by omega
     have b3:((j:Int)+(k:Int)).toNat=j+k:=by omega
     have j16:(j:Int)<16:=by omega
     have k16:(k:Int)<16:=by omega
     have n7:w.heap.size+1+1+1≠w.heap.size:=by omega
     have n8:w.heap.size+1+1+1≠w.heap.size+1:=by omega
     go_wp2_with (fail)
     refine wp_region_held_drew (S:=fun W=>W.cell? ⟨w.heap.size,j,none⟩=some (.int .u64 (x:Int))∧W.cell? ⟨w.heap.size+1,k,none⟩=some (.int .u64 (y:Int))) (by kernel_rfl) ?_ (fun hHeld=>?_)
     ·
      exact ⟨cx,cy⟩
     refine tk 0 hHeld ?_
     try simp only [Act.put,lA,lB,lC,lD,lE,lF]
     refine tk 1 hHeld ?_
     try simp only [Act.put,lA,lB,lC,lD,lE,lF]
     refine tk 2 hHeld ?_
     try simp only [Act.put,lA,lB,lC,lD,lE,lF]
     refine tk 3 hHeld ?_
     try simp only [Act.put,lA,lB,lC,lD,lE,lF]
     refine tk 4 hHeld ?_
     try simp only [Act.put,lA,lB,lC,lD,lE,lF]
     refine tk 5 hHeld ?_
     try simp only [Act.put,lA,lB,lC,lD,lE,lF]
     refine tk 6 hHeld ?_
     try simp only [Act.put,lA,lB,lC,lD,lE,lF]
     refine tk 7 hHeld ?_
     try simp only [Act.put,lA,lB,lC,lD,lE,lF]
     refine tk 8 hHeld ?_
     try simp only [Act.put,lA,lB,lC,lD,lE,lF]
     refine tk 10 hHeld ?_
     try simp only [Act.put,lA,lB,lC,lD,lE,lF]
     refine tk 11 hHeld ?_
     try simp only [Act.put,lA,lB,lC,lD,lE,lF]
     refine tk 12 hHeld ?_
     try simp only [Act.put,lA,lB,lC,lD,lE,lF]
     refine tk 13 hHeld ?_
     try simp only [Act.put,lA,lB,lC,lD,lE,lF]
     refine tk 14 hHeld ?_
     try simp only [Act.put,lA,lB,lC,lD,lE,lF]
     refine tk 15 hHeld ?_
     try simp only [Act.put,lA,lB,lC,lD,lE,lF]
     refine tk 16 hHeld ?_
     try simp only [Act.put,lA,lB,lC,lD,lE,lF]
     refine wpAnyH_ready (rs:=[9]) (by kernel_rfl) (by simp) (AllReadyH.cons rfl (fun K hK=>?_) AllReadyH.nil)
     have h0:=hHeld
     clear hHeld
     try simp only [lA,lB,lC]
     go_simp
     refine hK.out _ _ (h0) (fun hHeld=>?_)
     clear hK K h0
     try simp only [Act.put,lA,lB,lC,lD,lE,lF]
     refine tk 17 hHeld ?_
     try simp only [Act.put,lA,lB,lC,lD,lE,lF]
     refine tk 18 hHeld ?_
     try simp only [Act.put,lA,lB,lC,lD,lE,lF]
     refine wpAnyH_ready (rs:=[19]) (by kernel_rfl) (by simp) (AllReadyH.cons rfl (fun K hK=>?_) AllReadyH.nil)
     have h0:=hHeld
     clear hHeld
     try simp only [lA,lB,lC]
     go_simp
     refine hK.out _ _ (⟨(World.cell?_setCell_far _ _ _ _ (by simp<;>omega)).trans h0.1,(World.cell?_setCell_far _ _ _ _ (by simp<;>omega)).trans h0.2⟩) (fun hHeld=>?_)
     clear hK K h0
     try simp only [Act.put,lA,lB,lC,lD,lE,lF]
     refine wpAnyH_done (by kernel_rfl) ?_ _
     go_wp2_with (fail)
     go_roundw
     case rel =>
      refine ⟨k+1,_,by omega,by go_num,HIN.out,?_⟩
      rw [←HST.out]
      exact HF.out.drew.setHead (by simp<;>omega) (by simp<;>omega) _ _ (by omega)
     case measure=>simp [intOf]<;>omega
    ·
     obtain rfl:k=16:=by omega
     simp only [show ((16:Nat):Int)=16 from rfl]
     rw [HV2.out] at hC
     have hat:=col_end HB.out hC
     have HAT:=Lib.hid hat
     have HF:=Lib.hid hF
     clear hat hC hF HV2
     go_wp2_with (fail)
     go_roundw
     case rel=>exact ⟨j+1,m,by omega,by go_num,HAT.out,HF.out⟩
     case measure=>simp [intOf]<;>omega
  ·
   obtain rfl:j=16:=by omega
   simp only [show ((16:Nat):Int)=16 from rfl]
   have hTd:dval l=a*b:=by have:=col_all HA.out (Nat.pow_pos (by omega)) hC;omega
   have hll:=hC.1
   have hbd:=hC.2.2
   have kd:=hF.get (g:=w.heap.size+1+1+1) (t:=29) (cs:=cs64 l) (by simp)
   have hown:=OwnU.ofBlk kd 31 hll.symm maxLen_31 (Nat.le_refl (w.heap.size+1+1+1))
   have hgl:=kd.lt
   have hF2:=hF.sub (L':=[]) (R':=[(w.heap.size+1+1,31,16)]) (by simp) (by simp)
   have hcar:=jM (w.heap.size+1+1+1) (w.heap.size+1+1+1) 31 l wr (by rw [hll];exact hown) (by omega) (fun j=>by have:=hbd j;omega) (by omega) (by omega)
   rw [hll] at hcar
   have HCAR:=Lib.hid hcar
   have HF:=Lib.hid hF2
   have HTD:=Lib.hid hTd
   have hsw:=hF2.size
   clear hcar hF hF2 hC hTd hown kd hbd
   go_wp2_with (fail)
   refine HCAR.out.mono ?_
   rintro e w3 ⟨v',m,rfl,hown3,hg3,hown4,hm31,hTm,hm2⟩
   rw [hll] at hm31 hm2
   rw [HTD.out] at hown3 hTm hm2
   have hm32:=prod_digits HA.out HB.out hm2
   have hF3:=HF.out.grow hg3 (by simp) (by simp<;>omega) (by intro g h;injection h with h;omega)
   obtain ⟨A3,n3,c3,rfl,hU3,_⟩:=hown3.form
   have hl3:=hU3.len
   rw [dF] at hl3
   subst hl3
   have hmod:=yX (cols_prod (a*b) hm31 hm32) A3 c3 w3.heap.size w3 hU3 (Nat.le_refl _)
   rw [gU,Nat.mod_eq_of_lt hTm,←HV.out] at hmod
   have HMOD:=Lib.hid hmod
   have HF3:=Lib.hid hF3
   clear hmod hF3 hU3 hown3 hg3 hown4 hTm hm2 HF HCAR
   go_wp2_with (fail)
   refine HMOD.out.mono ?_
   rintro e v2 ⟨rfl,hb⟩
   have hf:=HF3.out.ext hb
   obtain ⟨old,hold,kR⟩:=hf.old (g:=w.heap.size+1+1) (t:=31) (n:=16) (by simp)
   have kS:=kR.setRow_same (ds V)
   have hB2:=below_setRow hf.below (show w.heap.size≤w.heap.size+1+1 by omega) (ds V)
   have hold':old.size=(ds V).size:=by rw [hold,aS]
   have HS:=Lib.hid kS
   have HB2:=Lib.hid hB2
   have HO:=Lib.hid hold'
   clear hb hf kS hB2 hold hold'
   go_wp2_with (first | (refine wpList_store_row rfl 31 (.tmp 4) (.tmp 38) rfl (w.heap.size+1+1) (ds V) rfl rfl 31 old kR (bG V) HO.out (cU _) ?_))
   exact bodyPost_ret (results_cell_row rfl _ _ (w.heap.size+1+1) 31 (ds V) (0,0) _ rfl HS.out Tryz.underlying31 rfl (bG V)) rfl ⟨rfl,HB2.out⟩
end
section
open Go Go.RowKit
def pn (x e n:Nat):Nat:=x^(e/2^n)%PP
theorem tmod_bit (x k:Nat):((x:Int)/2^k).tmod 2=((x/2^k%2:Nat):Int):=by
 have h:(x:Int)/2^k=((x/2^k:Nat):Int):=by simp
 rw [h]
 generalize x/2^k=y
 rw [Int.tmod_eq_emod_of_nonneg (by omega)]
 omega
theorem pn_lt (x e n:Nat):pn x e n<PP:=Nat.mod_lt _ (by rw [eH];omega)
theorem pn_top (x e:Nat) (he:e<2^256):pn x e 256=1:=by
 unfold pn
 rw [Nat.div_eq_of_lt he,Nat.pow_zero,eH]
theorem pn_zero (x e:Nat):pn x e 0=x^e%PP:=by
 unfold pn
 rw [Nat.pow_zero,Nat.div_one]
theorem pn_half (e n:Nat):e/2^n=2*(e/2^(n+1))+e/2^n%2:=by
 rw [Nat.pow_succ,←Nat.div_div_eq_div_mul]
 omega
theorem pn_no (x e n:Nat) (hb:e/2^n%2=0):pn x e (n+1)*pn x e (n+1)%PP=pn x e n:=by
 unfold pn
 rw [pn_half e n,hb,Nat.add_zero,←Nat.mul_mod,←Nat.pow_add]
 congr 2
 omega
theorem pn_yes (x e n:Nat) (hb:e/2^n%2=1):pn x e (n+1)*pn x e (n+1)%PP*x%PP=pn x e n:=by
 unfold pn
 rw [pn_half e n,hb,←Nat.mul_mod,←Nat.pow_add,Nat.mod_mul_mod,←Nat.pow_succ]
 congr 2
 omega
set_option maxRecDepth 100000 in
theorem sW (a e:Nat) (w:World) (ha:K256 a) (he:K256 e) :
  Calls zP 87 #[.agg (ds a),.agg (ks e)] w (NumPost (a^e%PP) w):=by
 have hfr:=(((Fr.start w).row (ds a) 31 (g:=w.heap.size) rfl).row (ks e) 23 (g:=w.heap.size+1) (by simp)).any (ds 0) 31 16 (aS 0) (g:=w.heap.size+1+1) (by simp)
 rw [dC] at hfr
 have htop:=pn_top a e (by rw [show (2:Nat)^256=115792089237316195423570985008687907853269984665640564039457584007913129639936 by decide];exact he)
 have hend:=pn_zero a e
 have hmulA:=fun r W h=>sZ r a W h ha
 obtain ⟨V,hV⟩:∃ V,V=a^e%PP:=⟨_,rfl⟩
 rw [←hV] at hend ⊢
 have HFR:=Lib.hid hfr
 have HTOP:=Lib.hid htop
 have HEND:=Lib.hid hend
 have HMA:=Lib.hid hmulA
 clear hfr htop hend hmulA hV ha he
 go_enter Tryz.func87,Tryz.ntmps87
 go_wp2_with (fail)
 refine (sU 1 _ (by omega)).mono ?_
 rintro r v ⟨rfl,hb⟩
 have hf0:=HFR.out.ext hb
 have hf:=hf0.row (ds 0) 31 (g:=v.heap.size) rfl
 have ka:=hf.get (g:=v.heap.size) (t:=31) (cs:=ds 0) (by simp)
 have hz1:w.heap.size+1<v.heap.size:=(hf0.get (g:=w.heap.size+1) (t:=23) (cs:=ks e) (by simp)).lt
 have hz2:w.heap.size+1+1<v.heap.size:=by obtain ⟨cs,_,k⟩:=hf0.old (g:=w.heap.size+1+1) (t:=31) (n:=16) (by simp);exact k.lt
 have hf2:=hf.setRowHead (by simp<;>omega) (by simp<;>omega) (ds 1) (by omega)
 rw [dC] at hf2 ka
 have hso:(#[.int .u64 0,.int .u64 0,.int .u64 0,.int .u64 0,.int .u64 0,.int .u64 0,.int .u64 0,.int .u64 0,.int .u64 0,.int .u64 0,.int .u64 0,.int .u64 0,.int .u64 0,.int .u64 0,.int .u64 0,.int .u64 0]:Array Value).size=(ds 1).size:=by rw [aS];rfl
 have KA:=Lib.hid ka
 have HSO:=Lib.hid hso
 have HF0:=Lib.hid hf2
 clear hb hf0 hf hf2 ka hso HFR
 go_wp2_with (first | (refine wpList_store_row rfl 31 (.tmp 5) (.tmp 7) rfl (v.heap.size) (ds 1) rfl rfl 31 _ KA.out (bG _) HSO.out (cU _) ?_))
 clear KA HSO
 generalize hgp:v.heap.size=gp at *
 have HGP:=Lib.hid hgp
 clear hgp
 go_loopw [6] (fun c wr=>∃ n:Nat,n≤256∧c=.int .i64 ((n:Int)-1)∧Fr w wr [(gp,31,ds (pn a e n)),(w.heap.size+1,23,ks e),(w.heap.size,31,ds a)] [(w.heap.size+1+1,31,16)]) (fun c _=>(intOf c+1).toNat)
 case atStart=>exact ⟨256,by omega,rfl,by rw [HTOP.out];exact HF0.out⟩
 case round =>
  obtain ⟨n,hn,rfl,hF⟩:=hrel
  clear HF0
  cases n with
  | succ n =>
   have hr:=pn_lt a e (n+1)
   have k5:=hF.get (g:=gp) (t:=31) (cs:=ds (pn a e (n+1))) (by simp)
   have kk:=hF.get (g:=w.heap.size+1) (t:=23) (cs:=ks e) (by simp)
   have hc:∀ W,Blk W (w.heap.size+1) 23 (ks e)→W.cell? ⟨w.heap.size+1,n/8,none⟩=some (.int .u8 ((e/256^(n/8)%256:Nat):Int)):=fun W h=>by rw [h.cell,dR _ (by omega)]
   have hbt:=uX e n
   have hno:=pn_no a e n
   have hyes:=pn_yes a e n
   have hxl:e/256^(n/8)%256<256:=Nat.mod_lt _ (by omega)
   have hPl:=oN
   have hsq:=fun W=>sZ (pn a e (n+1)) (pn a e (n+1)) W (by omega) (by omega)
   obtain ⟨r2,hq2⟩:∃ r2,r2=pn a e (n+1)*pn a e (n+1)%PP:=⟨_,rfl⟩
   have hr2:r2<PP:=by rw [hq2];exact tT _
   have hma:=fun W=>HMA.out r2 W (by omega)
   rw [←hq2] at hsq hno hyes
   have HSQ:=Lib.hid hsq
   have HM2:=Lib.hid hma
   have HN:=Lib.hid hno
   have HY:=Lib.hid hyes
   have HF:=Lib.hid hF
   have HC:=Lib.hid hc
   have e1:((n+1:Nat):Int)-1=(n:Int):=by omega
   rw [e1]
   clear hq2 hsq hma hno hyes hF hc hr hr2 hPl e1
   generalize pn a e (n+1)=r0 at *
   generalize e/256^(n/8)%256=x at *
   have b1:(0:Int)≤(n:Int)/8:=by omega
   have b2:(n:Int)/8<32:=by omega
   have b3:((n:Int)%8)<65:=by omega
   have b4:(0:Int)≤(n:Int)%8:=by omega
   have b5:decide ((0:Int)≤(n:Int))=true:=decide_eq_true (by omega)
   have hw8:IntKind.u64.wrap ((n:Int)%8)=(n:Int)%8:=by rw [IntKind.wrap_u64];omega
   go_wp2_with (first | (refine wpList_load_row rfl 31 (.tmp 5) rfl gp rfl 31 (ds r0) (0,0) _ k5 Tryz.underlying31 rfl (bG _) ?_))
   refine (HSQ.out _).mono ?_
   rintro r v1 ⟨rfl,hb⟩
   have f1:=HF.out.ext hb
   have k6:=f1.get (g:=gp) (t:=31) (cs:=ds r0) (by simp)
   have hz6:(ds r0).size=(ds r2).size:=by rw [aS,aS]
   have f2:=f1.setRowHead (by simp<;>omega) (by simp<;>omega) (ds r2) (by omega)
   have k7:=f2.get (g:=w.heap.size+1) (t:=23) (cs:=ks e) (by simp)
   have cx:=HC.out _ k7
   have F2:=Lib.hid f2
   have HZ6:=Lib.hid hz6
   clear f1 f2 hb k5 kk hz6 k7
   have hbb:x/2^(n%8)%2=0∨x/2^(n%8)%2=1:=by omega
   rcases hbb with hbv | hbv
   ·
    have hst:=HN.out (by rw [←hbt];exact hbv)
    have HST:=Lib.hid hst
    have hbi:((x:Int)/2^(n%8)).tmod 2=0:=by rw [tmod_bit,hbv];rfl
    clear hbv hst hbt HN HY
    go_wp2_with (first | (refine wpList_store_row rfl 31 (.tmp 5) (.tmp 14) rfl gp (ds r2) rfl rfl 31 (ds r0) k6 (bG _) HZ6.out (cU _) ?_))
    go_roundw
    case rel=>exact ⟨n,by omega,rfl,by rw [←HST.out];exact F2.out⟩
    case measure=>simp [intOf]<;>omega
   ·
    have hst:=HY.out (by rw [←hbt];exact hbv)
    have HST:=Lib.hid hst
    have hbi:((x:Int)/2^(n%8)).tmod 2=1:=by rw [tmod_bit,hbv];rfl
    clear hbv hst hbt HN HY
    have k8:=F2.out.get (g:=gp) (t:=31) (cs:=ds r2) (by simp)
    have k9:=F2.out.get (g:=w.heap.size) (t:=31) (cs:=ds a) (by simp)
    go_wp2_with (first | (refine wpList_store_row rfl 31 (.tmp 5) (.tmp 14) rfl gp (ds r2) rfl rfl 31 (ds r0) k6 (bG _) HZ6.out (cU _) ?_) | (refine wpList_load_row rfl 31 (.tmp 5) rfl gp rfl 31 (ds r2) (0,0) _ k8 Tryz.underlying31 rfl (bG _) ?_) | (refine wpList_load_row rfl 31 (.tmp 2) rfl w.heap.size rfl 31 (ds a) (0,0) _ k9 Tryz.underlying31 rfl (bG _) ?_))
    refine (HM2.out _).mono ?_
    rintro r v2 ⟨rfl,hb⟩
    rw [HST.out]
    have f3:=F2.out.ext hb
    have ka:=f3.get (g:=gp) (t:=31) (cs:=ds r2) (by simp)
    have hza:(ds r2).size=(ds (pn a e n)).size:=by rw [aS,aS]
    have f4:=f3.setRowHead (by simp<;>omega) (by simp<;>omega) (ds (pn a e n)) (by omega)
    have F4:=Lib.hid f4
    have KA:=Lib.hid ka
    have HZA:=Lib.hid hza
    clear f3 f4 hb k6 k8 k9 ka hza
    obtain ⟨r3,hr3⟩:∃ r3,r3=pn a e n:=⟨_,rfl⟩
    rw [←hr3] at F4 HZA ⊢
    have HR3:=Lib.hid hr3
    clear hr3
    go_wp2_with (first | (refine wpList_store_row rfl 31 (.tmp 5) (.tmp 27) rfl gp (ds r3) rfl rfl 31 (ds r2) KA.out (bG _) HZA.out (cU _) ?_))
    go_roundw
    case rel=>exact ⟨n,by omega,rfl,by rw [←HR3.out];exact F4.out⟩
    case measure=>simp [intOf]<;>omega
  | zero =>
   rw [HEND.out] at hF
   have kT:=hF.get (g:=gp) (t:=31) (cs:=ds V) (by simp)
   obtain ⟨old,hold,kR⟩:=hF.old (g:=w.heap.size+1+1) (t:=31) (n:=16) (by simp)
   have kS:=kR.setRow_same (ds V)
   have hB2:=below_setRow hF.below (show w.heap.size≤w.heap.size+1+1 by omega) (ds V)
   have hold':old.size=(ds V).size:=by rw [hold,aS]
   have HS:=Lib.hid kS
   have HB2:=Lib.hid hB2
   have HO:=Lib.hid hold'
   clear hF kS hB2 hold hold'
   go_wp2_with (first | (refine wpList_load_row rfl 31 (.tmp 5) rfl gp rfl 31 (ds V) (0,0) _ kT Tryz.underlying31 rfl (bG _) ?_) | (refine wpList_store_row rfl 31 (.tmp 4) (.tmp 28) rfl (w.heap.size+1+1) (ds V) rfl rfl 31 old kR (bG _) HO.out (cU _) ?_))
   exact bodyPost_ret (results_cell_row rfl _ _ (w.heap.size+1+1) 31 (ds V) (0,0) _ rfl HS.out Tryz.underlying31 rfl (bG V)) rfl ⟨rfl,HB2.out⟩
end
section
open Go Go.RowKit
def hgl (N i:Nat):List Nat:=(List.range 16).map fun j=>if j<i then N/2/65536^j%65536 else N/65536^j%65536
def hg (N i:Nat):Array Value:=ncs .u64 (hgl N i)
theorem hg_size (N i:Nat):(hg N i).size=16:=by simp [hg,hgl,dL]
theorem hg_get (N i:Nat) {j:Nat} (h:j<16) (hj:i≤j):(hg N i)[j]?=some (.int .u64 ((N/65536^j%65536:Nat):Int)):=by
 rw [hg,dW]
 simp [hgl,h,Nat.not_lt.2 hj,nc_def]
theorem hg_zero (N:Nat):hg N 0=ds N:=by simp [hg,hgl,ds,dg]
theorem hg_all (N:Nat):hg N 16=ds (N/2):=by
 have h:hgl N 16=dg (N/2):=by
  unfold hgl dg
  apply List.map_congr_left
  intro j hj
  rw [if_pos (List.mem_range.1 hj)]
 exact congrArg (ncs .u64) h
theorem half_digit (N i:Nat):N/2/65536^i%65536=N/65536^i%65536/2+N/65536^(i+1)%65536%2*32768:=by
 have h1:N/2/65536^i=N/65536^i/2:=by rw [Nat.div_div_eq_div_mul,Nat.div_div_eq_div_mul,Nat.mul_comm]
 have h2:N/65536^(i+1)=N/65536^i/65536:=by rw [Nat.pow_succ,Nat.div_div_eq_div_mul]
 rw [h1,h2]
 generalize N/65536^i=M
 omega
theorem hg_step (N:Nat) {i:Nat} (h:i<16) (x:Nat) (hx:x=N/2/65536^i%65536):(hg N i).setIfInBounds i (.int .u64 (x:Int))=hg N (i+1):=by
 subst hx
 rw [hg,dV,hg]
 congr 1
 apply List.ext_getElem?
 intro t
 rw [List.getElem?_set]
 by_cases ht:t<16
 ·
  by_cases e:i=t
  ·
   subst e
   simp [hgl,h]
  ·
   have e2:(t<i+1)=(t<i):=by rw [eq_iff_iff];omega
   simp [hgl,ht,e,e2]
 ·
  have:i≠t:=by omega
  simp [hgl,ht,this]
theorem set_set (a:Array Value) (i:Nat) (x y:Value):(a.setIfInBounds i x).setIfInBounds i y=a.setIfInBounds i y:=by
 simp
theorem top_digit {N:Nat} (h:N<65536^16):N/65536^(15+1)%65536=0:=by rw [Nat.div_eq_of_lt h]
theorem ds_less {n:Nat} (h:n≤18):(ds PP).setIfInBounds 0 (.int .u64 ((65517-n:Nat):Int))=ds (PP-n):=by
 rw [uP (by omega) (by omega)]
 congr 1
 have h1:=eU 65536 PP 0 (65517-n)
 have h2:PP/65536^0%65536=65517:=by decide +kernel
 rw [h2,Nat.pow_zero] at h1
 have h3:65517≤PP:=by rw [eH];omega
 omega
theorem ds_PP0:(ds PP)[0]?=some (.int .u64 65517):=by kernel_rfl
set_option maxRecDepth 100000 in
theorem tA (n t:Nat) (w:World) (hn:n≤18) (ht:t≤8):Calls zP 88 #[.int .u64 (n:Int),.int .i64 (t:Int)] w (KeyPost ((PP-n)/2^t) w):=by
 have hfr:=(Fr.start w).any (ks 0) 23 32 (aG 0) (g:=w.heap.size) rfl
 rw [dK] at hfr
 have hls:=ds_less hn
 obtain ⟨M,hM⟩:∃ M,M=PP-n:=⟨_,rfl⟩
 rw [←hM] at hls ⊢
 have hMl:M<65536^16:=by rw [hM,d16];have:=oN;omega
 have HFR:=Lib.hid hfr
 have HLS:=Lib.hid hls
 have HML:=Lib.hid hMl
 clear hfr hls hM hMl
 go_enter Tryz.func88,Tryz.ntmps88
 go_wp2_with (fail)
 refine (fC _).mono ?_
 rintro r v ⟨rfl,hb⟩
 have hf0:=HFR.out.ext hb
 have hz1:w.heap.size<v.heap.size:=by obtain ⟨cs,_,k⟩:=hf0.old (g:=w.heap.size) (t:=23) (n:=32) (by simp);exact k.lt
 have hf:=hf0.row (ds 0) 31 (g:=v.heap.size) rfl
 have ka:=hf.get (g:=v.heap.size) (t:=31) (cs:=ds 0) (by simp)
 have hf2:=hf.setRowHead (by simp<;>omega) (by simp<;>omega) (ds PP) (by omega)
 have kb:=hf2.get (g:=v.heap.size) (t:=31) (cs:=ds PP) (by simp)
 have hc0:=kb.cell 0
 rw [ds_PP0] at hc0
 have hfz:=kb.frozen 0
 have hf3:=hf2.setHead (by simp) (by simp<;>omega) 0 (.int .u64 ((65517-n:Nat):Int)) (by omega)
 rw [HLS.out] at hf3
 have hw:IntKind.u64.wrap (65517-(n:Int))=((65517-n:Nat):Int):=by rw [IntKind.wrap_u64];omega
 rw [dC] at hf2 hf3 ka kb hc0 hfz
 have hso:(#[.int .u64 0,.int .u64 0,.int .u64 0,.int .u64 0,.int .u64 0,.int .u64 0,.int .u64 0,.int .u64 0,.int .u64 0,.int .u64 0,.int .u64 0,.int .u64 0,.int .u64 0,.int .u64 0,.int .u64 0,.int .u64 0]:Array Value).size=(ds PP).size:=by rw [aS];rfl
 have KA:=Lib.hid ka
 have HSO:=Lib.hid hso
 have HF0:=Lib.hid hf3
 clear hb hf0 hf hf2 hf3 ka kb hso HFR HLS
 go_wp2_with (first | (refine wpList_store_row rfl 31 (.tmp 5) (.tmp 8) rfl (v.heap.size) (ds PP) rfl rfl 31 _ KA.out (bG _) HSO.out (cU _) ?_))
 clear KA HSO hc0 hfz
 obtain ⟨gp,hgp⟩:∃ gp,gp=v.heap.size:=⟨_,rfl⟩
 simp only [←hgp] at hz1 HF0 ⊢
 clear hgp
 go_loopw [6] (fun i wr=>∃ j:Nat,j≤t∧i=.int .i64 j∧Fr w wr [(gp,31,ds (M/2^j))] [(w.heap.size,23,32)]) (fun i _=>t-(intOf i).toNat)
 case atStart=>exact ⟨0,by omega,rfl,by rw [Nat.pow_zero,Nat.div_one];exact HF0.out⟩
 case round =>
  obtain ⟨j,hj,rfl,hF⟩:=hrel
  clear HF0
  by_cases hlt:j<t
  ·
   obtain ⟨N,hN⟩:∃ N,N=M/2^j:=⟨_,rfl⟩
   rw [←hN] at hF
   have hNl:N<65536^16:=by rw [hN];exact Nat.lt_of_le_of_lt (Nat.div_le_self _ _) HML.out
   have hN2:N/2=M/2^(j+1):=by rw [hN,Nat.pow_succ,Nat.div_div_eq_div_mul]
   have HNL:=Lib.hid hNl
   have HN2:=Lib.hid hN2
   rw [←hg_zero] at hF
   have HF:=Lib.hid hF
   clear hNl hN2 hN hF
   have hdt:decide ((j:Int)<(t:Int))=true:=decide_eq_true (by omega)
   go_wp2_with (fail)
   try rw [decide_eq_true (show (j:Int)<(t:Int) by omega)]
   go_loopw [7] (fun i wq=>∃ k:Nat,k≤16∧i=.int .i64 k∧Fr w wq [(gp,31,hg N k)] [(w.heap.size,23,32)]) (fun i _=>16-(intOf i).toNat)
   case atStart=>exact ⟨0,by omega,rfl,HF.out⟩
   case round =>
    obtain ⟨k,hk,rfl,hF⟩:=hrel
    clear HF
    by_cases hkt:k<16
    ·
     have hD:=hF.get (g:=gp) (t:=31) (cs:=hg N k) (by simp)
     have hf:=hD.frozen k
     have ck:wr.cell? ⟨gp,k,none⟩=some (.int .u64 ((N/65536^k%65536:Nat):Int)):=by rw [hD.cell,hg_get _ _ hkt (Nat.le_refl _)]
     have hhd:=half_digit N k
     have hstp:=fun x hx=>@hg_step N k hkt x hx
     have hx:N/65536^k%65536<65536:=Nat.mod_lt _ (by omega)
     have hdt:decide ((k:Int)<16)=true:=decide_eq_true (by omega)
     have k16:(k:Int)<16:=by omega
     by_cases h15:k<15
     ·
      have cn:wr.cell? ⟨gp,k+1,none⟩=some (.int .u64 ((N/65536^(k+1)%65536:Nat):Int)):=by rw [hD.cell,hg_get _ _ (by omega) (by omega)]
      have hy:N/65536^(k+1)%65536<65536:=Nat.mod_lt _ (by omega)
      have HHD:=Lib.hid hhd
      have HST:=Lib.hid hstp
      have HF:=Lib.hid hF
      clear hhd hstp hF hD
      generalize N/65536^k%65536=x at *
      generalize N/65536^(k+1)%65536=y at *
      obtain ⟨z,hz⟩:∃ z,z=x/2+y%2*32768:=⟨_,rfl⟩
      rw [←hz] at HHD
      have hst2:=HST.out z HHD.out.symm
      have hw1:IntKind.u64.wrap ((y:Int)%2*32768)=(y:Int)%2*32768:=by rw [IntKind.wrap_u64];omega
      have hw2:IntKind.u64.wrap ((x:Int)/2+(y:Int)%2*32768)=(z:Int):=by rw [IntKind.wrap_u64];omega
      have hw3:IntKind.i64.wrap ((k:Int)+1)=(k:Int)+1:=by rw [IntKind.wrap_i64];omega
      have b0:(0:Int)≤(k:Int)+1:=by omega
      have b1:(k:Int)+1<16:=by omega
      have b2:((k:Int)+1).toNat=k+1:=by omega
      have h15i:(k:Int)<15:=by omega
      have hzI:(z:Int)=(x:Int)/2+(y:Int)%2*32768:=by omega
      have HST2:=Lib.hid hst2
      clear hz hst2
      have hf1:=HF.out.setHead (by simp) (by simp<;>omega) k (.int .u64 ((x:Int)/2)) (by omega)
      have kk1:=hf1.get (g:=gp) (t:=31) (cs:=(hg N k).setIfInBounds k (.int .u64 ((x:Int)/2))) (by simp)
      have c1:(wr.setCell ⟨gp,k,none⟩ (.int .u64 ((x:Int)/2))).cell? ⟨gp,k,none⟩=some (.int .u64 ((x:Int)/2)):=by rw [kk1.cell];simp [hg_size,hkt]
      have c2:(wr.setCell ⟨gp,k,none⟩ (.int .u64 ((x:Int)/2))).cell? ⟨gp,k+1,none⟩=some (.int .u64 (y:Int)):=by rw [World.cell?_setCell_other _ _ _ _ (by intro e;injection e with e1 e2;omega)];exact cn
      have hf2:=kk1.frozen k
      have HF1:=Lib.hid hf1
      clear hf1 kk1
      go_wp2_with (fail)
      try rw [decide_eq_true (show (k:Int)<15 by omega)]
      refine wp_region_held_drew (S:=fun W=>W.cell? ⟨gp,k+1,none⟩=some (.int .u64 (y:Int))) (by kernel_rfl) ?_ (fun hHeld=>?_)
      ·
       exact c2
      refine tk 0 hHeld ?_
      try simp only [Act.put,lA,lB,lC,lD,lE,lF]
      refine tk 1 hHeld ?_
      try simp only [Act.put,lA,lB,lC,lD,lE,lF]
      refine tk 2 hHeld ?_
      try simp only [Act.put,lA,lB,lC,lD,lE,lF]
      refine tk 4 hHeld ?_
      try simp only [Act.put,lA,lB,lC,lD,lE,lF]
      refine tk 5 hHeld ?_
      try simp only [Act.put,lA,lB,lC,lD,lE,lF]
      refine tk 6 hHeld ?_
      try simp only [Act.put,lA,lB,lC,lD,lE,lF]
      refine tk 7 hHeld ?_
      try simp only [Act.put,lA,lB,lC,lD,lE,lF]
      refine tk 8 hHeld ?_
      try simp only [Act.put,lA,lB,lC,lD,lE,lF]
      refine tk 9 hHeld ?_
      try simp only [Act.put,lA,lB,lC,lD,lE,lF]
      refine wpAnyH_ready (rs:=[3]) (by kernel_rfl) (by simp) (AllReadyH.cons rfl (fun K hK=>?_) AllReadyH.nil)
      have h0:=hHeld
      clear hHeld
      try simp only [lA,lB,lC]
      go_simp
      refine hK.out _ _ (h0) (fun hHeld=>?_)
      clear hK K h0
      try simp only [Act.put,lA,lB,lC,lD,lE,lF]
      refine tk 10 hHeld ?_
      try simp only [Act.put,lA,lB,lC,lD,lE,lF]
      refine tk 11 hHeld ?_
      try simp only [Act.put,lA,lB,lC,lD,lE,lF]
      refine wpAnyH_ready (rs:=[12]) (by kernel_rfl) (by simp) (AllReadyH.cons rfl (fun K hK=>?_) AllReadyH.nil)
      have h0:=hHeld
      clear hHeld
      try simp only [lA,lB,lC]
      go_simp
      refine hK.out _ _ ((World.cell?_setCell_other _ _ _ _ (by intro e;injection e with e1 e2;omega)).trans h0) (fun hHeld=>?_)
      clear hK K h0
      try simp only [Act.put,lA,lB,lC,lD,lE,lF]
      refine wpAnyH_done (by kernel_rfl) ?_ _
      have hf3:=(HF1.out.setHead (by simp) (by simp<;>omega) k (.int .u64 (z:Int)) (by omega)).drew
      rw [set_set,HST2.out,hzI] at hf3
      have HF3:=Lib.hid hf3
      clear hf3 hHeld
      go_wp2_with (fail)
      go_roundw
      case rel=>exact ⟨k+1,by omega,by go_num,HF3.out⟩
      case measure=>simp [intOf]<;>omega
     ·
      obtain rfl:k=15:=by omega
      rw [top_digit HNL.out,Nat.zero_mod,Nat.zero_mul,Nat.add_zero] at hhd
      have hst2:=hstp _ hhd.symm
      have HST2:=Lib.hid hst2
      clear hst2 hhd hstp
      generalize N/65536^15%65536=x at *
      have hf1:=hF.setHead (by simp) (by simp<;>omega) 15 (.int .u64 ((x/2:Nat):Int)) (by omega)
      rw [HST2.out] at hf1
      have HF1:=Lib.hid hf1
      clear hf1 hF hD HST2
      simp only [show ((15:Nat):Int)=15 from rfl]
      have hcst:((x/2:Nat):Int)=(x:Int)/2:=by omega
      rw [hcst] at HF1
      clear hcst
      go_wp2_with (fail)
      go_roundw
      case rel=>exact ⟨16,by omega,by go_num,HF1.out⟩
      case measure=>simp [intOf]<;>omega
    ·
     obtain rfl:k=16:=by omega
     simp only [show ((16:Nat):Int)=16 from rfl]
     rw [hg_all,HN2.out] at hF
     have HF:=Lib.hid hF
     clear hF HN2
     go_wp2_with (fail)
     go_roundw
     case rel=>exact ⟨j+1,by omega,by go_num,HF.out⟩
     case measure=>simp [intOf]<;>omega
  ·
   obtain rfl:j=t:=by omega
   have hNl:M/2^j<115792089237316195423570985008687907853269984665640564039457584007913129639936:=by rw [←d16];exact Nat.lt_of_le_of_lt (Nat.div_le_self _ _) HML.out
   obtain ⟨N,hN⟩:∃ N,N=M/2^j:=⟨_,rfl⟩
   rw [←hN] at hF hNl ⊢
   have hby:=fun W=>nW N W hNl
   have HBY:=Lib.hid hby
   have kN:=hF.get (g:=gp) (t:=31) (cs:=ds N) (by simp)
   have HF:=Lib.hid hF
   have hdt:decide ((j:Int)<(j:Int))=false:=decide_eq_false (by omega)
   have HNE:=Lib.hid hN
   clear hby hF hN hNl
   go_wp2_with (first | (refine wpList_load_row rfl 31 (.tmp 5) rfl gp rfl 31 (ds N) (0,0) _ kN Tryz.underlying31 rfl (bG _) ?_))
   refine (HBY.out _).mono ?_
   rintro r v1 ⟨rfl,hb⟩
   have hf:=HF.out.ext hb
   obtain ⟨old,hold,kR⟩:=hf.old (g:=w.heap.size) (t:=23) (n:=32) (by simp)
   have kS:=kR.setRow_same (ks N)
   have hB2:=below_setRow hf.below (Nat.le_refl _) (ks N)
   have hold':old.size=(ks N).size:=by rw [hold,aG]
   have HS:=Lib.hid kS
   have HB2:=Lib.hid hB2
   have HO:=Lib.hid hold'
   clear hb hf kS hB2 hold hold'
   go_wp2_with (first | (refine wpList_store_row rfl 23 (.tmp 4) (.tmp 44) rfl (w.heap.size) (ks N) rfl rfl 23 old kR (aL N) HO.out (bU _) ?_))
   rw [←HNE.out]
   exact gN (g:=w.heap.size) rfl rfl rfl HS.out HB2.out
set_option maxRecDepth 100000 in
theorem rinv_any (a:Nat) (w:World) (ha:K256 a):Calls zP 42 #[.agg (ds a)] w (NumPost (a^(PP-2)%PP) w):=by
 have hfr:=((Fr.start w).row (ds a) 31 (g:=w.heap.size) rfl).any (ds 0) 31 16 (aS 0) (g:=w.heap.size+1) (by simp)
 rw [dC] at hfr
 have hmi:=fun W=>tA 2 0 W (by omega) (by omega)
 rw [Nat.pow_zero,Nat.div_one] at hmi
 have hpo:=fun W=>sW a (PP-2) W ha (by have:=oN;omega)
 obtain ⟨E,hE⟩:∃ E,E=PP-2:=⟨_,rfl⟩
 rw [←hE] at hmi hpo ⊢
 obtain ⟨V,hV⟩:∃ V,V=a^E%PP:=⟨_,rfl⟩
 rw [←hV] at hpo ⊢
 have HFR:=Lib.hid hfr
 have HMI:=Lib.hid hmi
 have HPO:=Lib.hid hpo
 clear hfr hmi hpo hE hV ha
 go_enter Tryz.func42,Tryz.ntmps42
 go_wp2_with (fail)
 refine wp_region_held_drew (S:=fun W=>Fr w W [(w.heap.size,31,ds a)] [(w.heap.size+1,31,16)]) (by kernel_rfl) ?_ (fun hHeld=>?_)
 ·
  exact HFR.out.drew
 refine wpAnyH_take (i:=0) (v:=.agg (ds a)) rfl (by kernel_rfl) (by kernel_rfl) (by kernel_rfl) (fun _ _ _ h=>h) (cY (by rfl) 31 (.tmp 1) rfl (w.heap.size) rfl 31 (ds a) _ (fun W (h:Fr _ W _ _)=>h.get (by simp)) Tryz.underlying31 rfl (bG _)) hHeld ?_
 try simp only [Act.put,lA,lB,lC,lD,lE,lF]
 refine wpAnyH_ready (rs:=[1]) (by kernel_rfl) (by simp) (AllReadyH.cons rfl (fun K hK=>?_) AllReadyH.nil)
 have h0:=hHeld
 clear hHeld
 try simp only [lA,lB,lC]
 have H0:=Lib.hid h0
 clear h0
 go_simp
 go_at_call 88
 refine (HMI.out _).mono ?_
 rintro e vv ⟨rfl,hb⟩
 have h1:=H0.out.ext hb
 clear hb H0
 go_wp2_with (fail)
 refine hK.out _ _ h1 (fun hHeld=>?_)
 clear hK K h1
 try simp only [Act.put,lA,lB,lC,lD,lE,lF]
 refine wpAnyH_ready (rs:=[2]) (by kernel_rfl) (by simp) (AllReadyH.cons rfl (fun K hK=>?_) AllReadyH.nil)
 have h0:=hHeld
 clear hHeld
 try simp only [lA,lB,lC]
 have H0:=Lib.hid h0
 clear h0
 go_simp
 go_at_call 87
 refine (HPO.out _).mono ?_
 rintro e vv ⟨rfl,hb⟩
 have h1:=H0.out.ext hb
 clear hb H0
 go_wp2_with (fail)
 refine hK.out _ _ h1 (fun hHeld=>?_)
 clear hK K h1
 try simp only [Act.put,lA,lB,lC,lD,lE,lF]
 refine wpAnyH_ready (rs:=[3]) (by kernel_rfl) (by simp) (AllReadyH.cons rfl (fun K hK=>?_) AllReadyH.nil)
 have h0:=hHeld
 clear hHeld
 try simp only [lA,lB,lC]
 rw [if_pos (by rfl)]
 obtain ⟨old,hold,kold⟩:=Fr.old h0 (g:=w.heap.size+1) (t:=31) (n:=16) (by simp)
 refine wp_store_row 31 (.tmp 2) (.tmp 5) rfl (w.heap.size+1) (ds V) rfl rfl 31 old kold (bG _) hold (cU _) ?_
 refine hK.out _ _ (Fr.setAny h0 (g:=w.heap.size+1) (t:=31) (aS _) (by simp) (by simp<;>omega)) (fun hHeld=>?_)
 have kb:=kold.setRow_same (ds V)
 clear hK K h0 hold
 try simp only [Act.put,lA,lB,lC,lD,lE,lF]
 refine wpAnyH_done (by kernel_rfl) ?_ _
 have HK:=Lib.hid kb
 have HF:=Lib.hid hHeld
 clear kb hHeld
 go_wp2_with (fail)
 exact bodyPost_ret (results_cell_row rfl _ _ (w.heap.size+1) 31 (ds V) (0,0) _ rfl HK.out Tryz.underlying31 rfl (bG V)) rfl ⟨rfl,HF.out.below⟩
end
section
open Go Go.RowKit
set_option maxRecDepth 100000 in
theorem radd_any (a b:Nat) (w:World) (ha:K256 a) (hb:K256 b):Calls zP 79 #[.agg (ds a),.agg (ds b)] w (NumPost ((a+b)%PP) w):=by
 have hfr:=(((Fr.start w).row (ds a) 31 (g:=w.heap.size) rfl).row (ds b) 31 (g:=w.heap.size+1) (by simp)).any (ds 0) 31 16 (aS 0) (g:=w.heap.size+1+1) (by simp)
 rw [dC] at hfr
 have HFR:=Lib.hid hfr
 have hda:dval (addl a b 16)=a+b:=by rw [xE,d16,Nat.mod_eq_of_lt ha,Nat.mod_eq_of_lt hb]
 have HDA:=Lib.hid hda
 clear hfr ha hb hda
 obtain ⟨V,hV⟩:∃ V,V=(a+b)%PP:=⟨_,rfl⟩
 rw [←hV]
 have HV:=Lib.hid hV
 clear hV
 go_enter Tryz.func79,Tryz.ntmps79
 go_wp2_with (fail)
 obtain ⟨wb,hwb⟩:∃ wb:World,wb=((w.alloc (.cells (ds a) 31)).alloc (.cells (ds b) 31)).alloc (.cells #[.int .u64 0,.int .u64 0,.int .u64 0,.int .u64 0,.int .u64 0,.int .u64 0,.int .u64 0,.int .u64 0,.int .u64 0,.int .u64 0,.int .u64 0,.int .u64 0,.int .u64 0,.int .u64 0,.int .u64 0,.int .u64 0] 31):=⟨_,rfl⟩
 rw [←hwb] at HFR ⊢
 clear hwb
 have hsb:=HFR.out.size
 have hl0:w.heap.size<wb.heap.size:=(HFR.out.get (g:=w.heap.size) (t:=31) (cs:=ds a) (by simp)).lt
 have hl1:w.heap.size+1<wb.heap.size:=(HFR.out.get (g:=w.heap.size+1) (t:=31) (cs:=ds b) (by simp)).lt
 have hl2:w.heap.size+1+1<wb.heap.size:=by obtain ⟨cs,_,k⟩:=HFR.out.old (g:=w.heap.size+1+1) (t:=31) (n:=16) (by simp);exact k.lt
 go_loopw [5,6] (fun v i wq=>∃ j:Nat,j≤16∧i=.int .i64 j∧OwnU wq wb.heap.size 29 v (addl a b j)∧wb.heap.size≤wq.heap.size∧Fr w wq [(w.heap.size+1,31,ds b),(w.heap.size,31,ds a)] [(w.heap.size+1+1,31,16)]) (fun _ i _=>16-(intOf i).toNat)
 case atStart=>exact ⟨0,by omega,rfl,OwnU.nil _ _ _,Nat.le_refl _,HFR.out⟩
 case round =>
  obtain ⟨j,hj,rfl,hO,hwq,hF⟩:=hrel
  clear HFR
  by_cases hlt:j<16
  ·
   have kA:=hF.get (g:=w.heap.size) (t:=31) (cs:=ds a) (by simp)
   have kB:=hF.get (g:=w.heap.size+1) (t:=31) (cs:=ds b) (by simp)
   have ca:wr.cell? ⟨w.heap.size,j,none⟩=some (.int .u64 ((a/65536^j%65536:Nat):Int)):=by rw [kA.cell,fF _ hlt]
   have cb:wr.cell? ⟨w.heap.size+1,j,none⟩=some (.int .u64 ((b/65536^j%65536:Nat):Int)):=by rw [kB.cell,fF _ hlt]
   have hx:a/65536^j%65536<65536:=Nat.mod_lt _ (by omega)
   have hy:b/65536^j%65536<65536:=Nat.mod_lt _ (by omega)
   have hst:=xR a b j
   have hln:=iY a b j
   have HST:=Lib.hid hst
   have HF:=Lib.hid hF
   have HLN:=Lib.hid hln
   clear hst hF kA kB hln
   generalize a/65536^j%65536=x at *
   generalize b/65536^j%65536=y at *
   obtain ⟨z,hz⟩:∃ z,z=x+y:=⟨_,rfl⟩
   rw [←hz] at HST
   have hsum:IntKind.u64.wrap ((x:Int)+(y:Int))=(z:Int):=by rw [IntKind.wrap_u64];omega
   clear hz hx hy
   have hlq:w.heap.size+1<wr.heap.size:=by omega
   have j16:(j:Int)<16:=by omega
   have hdt:decide ((j:Int)<16)=true:=decide_eq_true (by omega)
   go_wp2_with (fail)
   refine wp_region_held_drew (S:=fun W=>(W.cell? ⟨w.heap.size,j,none⟩=some (.int .u64 (x:Int))∧W.cell? ⟨w.heap.size+1,j,none⟩=some (.int .u64 (y:Int)))∧w.heap.size+1<W.heap.size) (by kernel_rfl) ?_ (fun hHeld=>?_)
   ·
    exact ⟨⟨ca,cb⟩,hlq⟩
   refine tk 0 hHeld ?_
   try simp only [Act.put,lA,lB,lC,lD,lE,lF]
   refine tk 1 hHeld ?_
   try simp only [Act.put,lA,lB,lC,lD,lE,lF]
   refine tk 2 hHeld ?_
   try simp only [Act.put,lA,lB,lC,lD,lE,lF]
   refine tk 3 hHeld ?_
   try simp only [Act.put,lA,lB,lC,lD,lE,lF]
   refine tk 4 hHeld ?_
   try simp only [Act.put,lA,lB,lC,lD,lE,lF]
   refine tk 5 hHeld ?_
   try simp only [Act.put,lA,lB,lC,lD,lE,lF]
   refine tk 6 hHeld ?_
   try simp only [Act.put,lA,lB,lC,lD,lE,lF]
   refine tk 7 hHeld ?_
   try simp only [Act.put,lA,lB,lC,lD,lE,lF]
   refine wpAnyH_ready (rs:=[8]) (by kernel_rfl) (by simp) (AllReadyH.cons rfl (fun K hK=>?_) AllReadyH.nil)
   have h0:=hHeld
   clear hHeld
   try simp only [lA,lB,lC]
   go_simp
   refine hK.out _ _ (⟨⟨(World.cell?_alloc_lt _ _ _ (by simp<;>omega)).trans h0.1.1,(World.cell?_alloc_lt _ _ _ (by simp<;>omega)).trans h0.1.2⟩,by simp<;>omega⟩) (fun hHeld=>?_)
   clear hK K h0
   try simp only [Act.put,lA,lB,lC,lD,lE,lF]
   refine wpAnyH_ready (rs:=[9]) (by kernel_rfl) (by simp) (AllReadyH.cons rfl (fun K hK=>?_) AllReadyH.nil)
   have h0:=hHeld
   clear hHeld
   refine nN rfl (.tmp 11) (.tmp 19) 26 rfl 29 Tryz.underlying26 cN wb.heap.size u5 (addl a b j) rfl ((hO.drew).alloc _) (wr.heap.size+1) 1 1 (some ⟨wr.heap.size,0,none⟩) [z] rfl (fW wr.drew 29 _ z rfl) (by rw [HLN.out];simp<;>omega) (by simp<;>omega) ?_
   intro v1 w1 hown1 hg1 hat1
   have HOW:=Lib.hid hown1
   have HG:=Lib.hid hg1
   have hs1:=hg1.size
   clear hown1 hat1
   have hne:∀ k,k<wb.heap.size→some k≠u5.ownBlock:=fun k hk e=>by have:=(World.ownsRow.lt hO k e.symm).1;omega
   refine hK.out _ _ (⟨⟨(World.cell?_of_block (hg1.block w.heap.size (by simp<;>omega) (hne _ hl0))).trans h0.1.1,(World.cell?_of_block (hg1.block (w.heap.size+1) (by simp<;>omega) (hne _ hl1))).trans h0.1.2⟩,by simp at hs1;omega⟩) (fun hHeld=>?_)
   clear hK K h0 hg1
   try simp only [Act.put,lA,lB,lC,lD,lE,lF]
   refine tk 10 hHeld ?_
   try simp only [Act.put,lA,lB,lC,lD,lE,lF]
   refine wpAnyH_done (by kernel_rfl) ?_ _
   have hF2:=((HF.out.drew).pass (.cells #[.int .u64 (z:Int)] 29)).grow (by have:=HG.out;exact this) (fun p hp e=>by simp at hp;rcases hp with rfl | rfl<;>exact hne _ (by assumption) e) (fun p hp e=>by simp at hp;subst hp;exact hne _ hl2 e) (fun g hg=>by have:=(World.ownsRow.lt hO g hg).1;omega)
   have HF2:=Lib.hid hF2
   clear hF2
   go_wp2_with (fail)
   go_roundw
   case rel=>exact ⟨j+1,by omega,by go_num,by rw [HST.out];exact HOW.out,by simp at hs1;omega,HF2.out⟩
   case measure=>simp [intOf]<;>omega
  ·
   obtain rfl:j=16:=by omega
   obtain ⟨A9,n9,c9,rfl,hU,_⟩:=hO.form
   have hl:=hU.len
   rw [iY] at hl
   subst hl
   have hmod:=yX (cols_addl a b) A9 c9 wr.heap.size wr hU (Nat.le_refl _)
   rw [HDA.out,←HV.out] at hmod
   have HMOD:=Lib.hid hmod
   have HF:=Lib.hid hF
   clear hmod hF hO hU
   go_wp2_with (fail)
   refine HMOD.out.mono ?_
   rintro e v2 ⟨rfl,hb⟩
   have hf:=HF.out.ext hb
   obtain ⟨old,hold,kR⟩:=hf.old (g:=w.heap.size+1+1) (t:=31) (n:=16) (by simp)
   have kS:=kR.setRow_same (ds V)
   have hB2:=below_setRow hf.below (show w.heap.size≤w.heap.size+1+1 by omega) (ds V)
   have hold':old.size=(ds V).size:=by rw [hold,aS]
   have HS:=Lib.hid kS
   have HB2:=Lib.hid hB2
   have HO:=Lib.hid hold'
   clear hb hf kS hB2 hold hold'
   go_wp2_with (first | (refine wpList_store_row rfl 31 (.tmp 4) (.tmp 22) rfl (w.heap.size+1+1) (ds V) rfl rfl 31 old kR (bG V) HO.out (cU _) ?_))
   exact bodyPost_ret (results_cell_row rfl _ _ (w.heap.size+1+1) 31 (ds V) (0,0) _ rfl HS.out Tryz.underlying31 rfl (bG V)) rfl ⟨rfl,HB2.out⟩
end
section
open Go Go.RowKit
set_option maxRecDepth 100000 in
theorem rneg_any (a:Nat) (w:World) (ha:K256 a):Calls zP 39 #[.agg (ds a)] w (NumPost ((PP-a%PP)%PP) w):=by
 have hfr:=((Fr.start w).row (ds a) 31 (g:=w.heap.size) rfl).any (ds 0) 31 16 (aS 0) (g:=w.heap.size+1) (by simp)
 rw [dC] at hfr
 have hus:=us_ds (hfr.get (g:=w.heap.size) (t:=31) (cs:=ds a) (by simp)) (B:=w.heap.size+1) (by omega)
 obtain ⟨m,hm⟩:∃ m,m=a%PP:=⟨_,rfl⟩
 have hml:m<PP:=by rw [hm];exact tT a
 obtain ⟨r,hr⟩:∃ r,r=PP-m:=⟨_,rfl⟩
 obtain ⟨V,hV⟩:∃ V,V=r%PP:=⟨_,rfl⟩
 have hrl:r<65536^16:=by rw [hr,d16];have:=oN;omega
 have hmod:=fun W hu=>mod_dgl a 16 (by omega) (by omega) (by rw [d16];exact ha) (some ⟨w.heap.size,0,none⟩) 16 (w.heap.size+1) W hu
 rw [←hm] at hmod ⊢
 rw [←hr,←hV]
 have hmin:=fun W=>nV PP m W oN (by omega)
 rw [←hr] at hmin
 have hmod2:=fun A c B W=>mod_dgl r 16 (by omega) (by omega) hrl A c B W
 rw [←hV] at hmod2
 have HFR:=Lib.hid hfr
 have HUS:=Lib.hid hus
 have HMOD:=Lib.hid hmod
 have HMIN:=Lib.hid hmin
 have HMOD2:=Lib.hid hmod2
 clear hfr hus hmod hmin hmod2 hV hr hm hml hrl ha
 go_enter Tryz.func39,Tryz.ntmps39
 go_wp2_with (fail)
 refine (HMOD.out _ HUS.out (by simp)).mono ?_
 rintro e v1 ⟨rfl,hb⟩
 have hf:=HFR.out.ext hb
 have k0:=hf.get (g:=w.heap.size) (t:=31) (cs:=ds a) (by simp)
 have hz0:(ds a).size=(ds m).size:=by rw [aS,aS]
 have hf1:=(Fr.setOut (hf.sub (L':=[]) (R':=[(w.heap.size+1,31,16)]) (by simp) (by simp)) (g:=w.heap.size) (Nat.le_refl _) (by simp) (by simp) (ds m)).more (k0.setRow_same (ds m))
 have HF1:=Lib.hid hf1
 have HZ0:=Lib.hid hz0
 clear hb hf hf1 hz0
 go_wp2_with (first | (refine wpList_store_row rfl 31 (.tmp 1) (.tmp 4) rfl (w.heap.size) (ds m) rfl rfl 31 (ds a) k0 (bG m) HZ0.out (cU _) ?_))
 clear k0
 refine wp_region_held_drew (S:=fun W=>Fr w W [(w.heap.size,31,ds m)] [(w.heap.size+1,31,16)]) (by kernel_rfl) ?_ (fun hHeld=>?_)
 ·
  exact HF1.out.drew
 refine wpAnyH_take (i:=1) (v:=.agg (ds m)) rfl (by kernel_rfl) (by kernel_rfl) (by kernel_rfl) (fun _ _ _ h=>h) (cY (by rfl) 31 (.tmp 1) rfl (w.heap.size) rfl 31 (ds m) _ (fun W (h:Fr _ W _ _)=>h.get (by simp)) Tryz.underlying31 rfl (bG _)) hHeld ?_
 try simp only [Act.put,lA,lB,lC,lD,lE,lF]
 refine wpAnyH_ready (rs:=[0]) (by kernel_rfl) (by simp) (AllReadyH.cons rfl (fun K hK=>?_) AllReadyH.nil)
 have h0:=hHeld
 clear hHeld
 try simp only [lA,lB,lC]
 have H0:=Lib.hid h0
 clear h0
 go_simp
 go_at_call 77
 refine (fC _).mono ?_
 rintro e vv ⟨rfl,hb⟩
 have h1:=H0.out.ext hb
 clear hb H0
 go_wp2_with (fail)
 refine hK.out _ _ h1 (fun hHeld=>?_)
 clear hK K h1
 try simp only [Act.put,lA,lB,lC,lD,lE,lF]
 refine wpAnyH_ready (rs:=[2]) (by kernel_rfl) (by simp) (AllReadyH.cons rfl (fun K hK=>?_) AllReadyH.nil)
 have h0:=hHeld
 clear hHeld
 try simp only [lA,lB,lC]
 have H0:=Lib.hid h0
 clear h0
 go_simp
 go_at_call 85
 refine (HMIN.out _).mono ?_
 rintro e vv ⟨rfl,hb⟩
 have h1:=H0.out.ext hb
 clear hb H0
 go_wp2_with (fail)
 refine hK.out _ _ h1 (fun hHeld=>?_)
 clear hK K h1
 try simp only [Act.put,lA,lB,lC,lD,lE,lF]
 refine wpAnyH_ready (rs:=[3]) (by kernel_rfl) (by simp) (AllReadyH.cons rfl (fun K hK=>?_) AllReadyH.nil)
 have h0:=hHeld
 clear hHeld
 try simp only [lA,lB,lC]
 have H0:=Lib.hid h0
 clear h0
 go_simp
 go_at_call 84
 refine (rall_any r _).mono ?_
 rintro e vv ⟨A9,c9,rfl,hu,hb⟩
 have HU9:=Lib.hid hu
 clear hu
 have h1:=H0.out.ext hb
 clear hb H0
 go_wp2_with (fail)
 refine hK.out _ _ h1 (fun hHeld=>?_)
 clear hK K h1
 try simp only [Act.put,lA,lB,lC,lD,lE,lF]
 refine wpAnyH_ready (rs:=[4]) (by kernel_rfl) (by simp) (AllReadyH.cons rfl (fun K hK=>?_) AllReadyH.nil)
 have h0:=hHeld
 clear hHeld
 try simp only [lA,lB,lC]
 have H0:=Lib.hid h0
 clear h0
 go_simp
 go_at_call 83
 refine (HMOD2.out A9 c9 _ _ HU9.out (Nat.le_refl _)).mono ?_
 rintro e vv ⟨rfl,hb⟩
 have h1:=H0.out.ext hb
 clear hb H0
 go_wp2_with (fail)
 refine hK.out _ _ h1 (fun hHeld=>?_)
 clear hK K h1
 try simp only [Act.put,lA,lB,lC,lD,lE,lF]
 refine wpAnyH_ready (rs:=[5]) (by kernel_rfl) (by simp) (AllReadyH.cons rfl (fun K hK=>?_) AllReadyH.nil)
 have h0:=hHeld
 clear hHeld
 try simp only [lA,lB,lC]
 rw [if_pos (by rfl)]
 obtain ⟨old,hold,kold⟩:=Fr.old h0 (g:=w.heap.size+1) (t:=31) (n:=16) (by simp)
 refine wp_store_row 31 (.tmp 2) (.tmp 9) rfl (w.heap.size+1) (ds V) rfl rfl 31 old kold (bG _) hold (cU _) ?_
 refine hK.out _ _ (Fr.setAny h0 (g:=w.heap.size+1) (t:=31) (aS _) (by simp) (by simp<;>omega)) (fun hHeld=>?_)
 have kb:=kold.setRow_same (ds V)
 clear hK K h0 hold
 try simp only [Act.put,lA,lB,lC,lD,lE,lF]
 refine wpAnyH_done (by kernel_rfl) ?_ _
 have HK:=Lib.hid kb
 have HF:=Lib.hid hHeld
 clear kb hHeld
 go_wp2_with (fail)
 exact bodyPost_ret (results_cell_row rfl _ _ (w.heap.size+1) 31 (ds V) (0,0) _ rfl HK.out Tryz.underlying31 rfl (bG V)) rfl ⟨rfl,HF.out.below⟩
end
section
open Go Go.RowKit
set_option maxRecDepth 100000 in
theorem rsub_any (a b:Nat) (w:World) (ha:K256 a) (hb:K256 b):Calls zP 80 #[.agg (ds a),.agg (ds b)] w (NumPost ((a+(PP-b%PP)%PP)%PP) w):=by
 have hfr:=(((Fr.start w).row (ds a) 31 (g:=w.heap.size) rfl).row (ds b) 31 (g:=w.heap.size+1) (by simp)).any (ds 0) 31 16 (aS 0) (g:=w.heap.size+1+1) (by simp)
 rw [dC] at hfr
 have hneg:=fun W=>rneg_any b W hb
 have hadd:=fun W=>radd_any a ((PP-b%PP)%PP) W ha (by have:=tT (PP-b%PP);have:=oN;omega)
 obtain ⟨c,hc⟩:∃ c,c=(PP-b%PP)%PP:=⟨_,rfl⟩
 rw [←hc] at hneg hadd ⊢
 obtain ⟨V,hV⟩:∃ V,V=(a+c)%PP:=⟨_,rfl⟩
 rw [←hV] at hadd ⊢
 have HFR:=Lib.hid hfr
 have HNEG:=Lib.hid hneg
 have HADD:=Lib.hid hadd
 clear hfr hneg hadd hV hc ha hb
 go_enter Tryz.func80,Tryz.ntmps80
 go_wp2_with (fail)
 refine wp_region_held_drew (S:=fun W=>Fr w W [(w.heap.size+1,31,ds b),(w.heap.size,31,ds a)] [(w.heap.size+1+1,31,16)]) (by kernel_rfl) ?_ (fun hHeld=>?_)
 ·
  exact HFR.out.drew
 refine wpAnyH_take (i:=0) (v:=.agg (ds a)) rfl (by kernel_rfl) (by kernel_rfl) (by kernel_rfl) (fun _ _ _ h=>h) (cY (by rfl) 31 (.tmp 2) rfl (w.heap.size) rfl 31 (ds a) _ (fun W (h:Fr _ W _ _)=>h.get (by simp)) Tryz.underlying31 rfl (bG _)) hHeld ?_
 try simp only [Act.put,lA,lB,lC,lD,lE,lF]
 refine wpAnyH_take (i:=1) (v:=.agg (ds b)) rfl (by kernel_rfl) (by kernel_rfl) (by kernel_rfl) (fun _ _ _ h=>h) (cY (by rfl) 31 (.tmp 3) rfl (w.heap.size+1) rfl 31 (ds b) _ (fun W (h:Fr _ W _ _)=>h.get (by simp)) Tryz.underlying31 rfl (bG _)) hHeld ?_
 try simp only [Act.put,lA,lB,lC,lD,lE,lF]
 refine wpAnyH_ready (rs:=[2]) (by kernel_rfl) (by simp) (AllReadyH.cons rfl (fun K hK=>?_) AllReadyH.nil)
 have h0:=hHeld
 clear hHeld
 try simp only [lA,lB,lC]
 have H0:=Lib.hid h0
 clear h0
 go_simp
 go_at_call 39
 refine (HNEG.out _).mono ?_
 rintro e vv ⟨rfl,hb⟩
 have h1:=H0.out.ext hb
 clear hb H0
 go_wp2_with (fail)
 refine hK.out _ _ h1 (fun hHeld=>?_)
 clear hK K h1
 try simp only [Act.put,lA,lB,lC,lD,lE,lF]
 refine wpAnyH_ready (rs:=[3]) (by kernel_rfl) (by simp) (AllReadyH.cons rfl (fun K hK=>?_) AllReadyH.nil)
 have h0:=hHeld
 clear hHeld
 try simp only [lA,lB,lC]
 have H0:=Lib.hid h0
 clear h0
 go_simp
 go_at_call 79
 refine (HADD.out _).mono ?_
 rintro e vv ⟨rfl,hb⟩
 have h1:=H0.out.ext hb
 clear hb H0
 go_wp2_with (fail)
 refine hK.out _ _ h1 (fun hHeld=>?_)
 clear hK K h1
 try simp only [Act.put,lA,lB,lC,lD,lE,lF]
 refine wpAnyH_ready (rs:=[4]) (by kernel_rfl) (by simp) (AllReadyH.cons rfl (fun K hK=>?_) AllReadyH.nil)
 have h0:=hHeld
 clear hHeld
 try simp only [lA,lB,lC]
 rw [if_pos (by rfl)]
 obtain ⟨old,hold,kold⟩:=Fr.old h0 (g:=w.heap.size+1+1) (t:=31) (n:=16) (by simp)
 refine wp_store_row 31 (.tmp 4) (.tmp 8) rfl (w.heap.size+1+1) (ds V) rfl rfl 31 old kold (bG _) hold (cU _) ?_
 refine hK.out _ _ (Fr.setAny h0 (g:=w.heap.size+1+1) (t:=31) (aS _) (by simp) (by simp<;>omega)) (fun hHeld=>?_)
 have kb:=kold.setRow_same (ds V)
 clear hK K h0 hold
 try simp only [Act.put,lA,lB,lC,lD,lE,lF]
 refine wpAnyH_done (by kernel_rfl) ?_ _
 have HK:=Lib.hid kb
 have HF:=Lib.hid hHeld
 clear kb hHeld
 go_wp2_with (fail)
 exact bodyPost_ret (results_cell_row rfl _ _ (w.heap.size+1+1) 31 (ds V) (0,0) _ rfl HK.out Tryz.underlying31 rfl (bG V)) rfl ⟨rfl,HF.out.below⟩
end
section
open Go.RowKit
def dv (x:Fin PP):Array Value:=ds x.val
theorem aZ (x:Fin PP):(dv x).size=16:=aS _
theorem cJ (x:Fin PP):(dv x).all (·.oneCell')=true:=cU _
theorem aW (x:Fin PP):(zP.info? 31).map (·.size)=some (dv x).size:=bG _
def DPost (x:Fin PP) (w:World) (e:Ending) (w':World):Prop:=e=.returned (.agg (dv x))∧Below w.heap.size w w'
theorem lim {x:Fin PP}:K256 x.val:=by have:=x.isLt;have:=oN;omega
theorem npost {n:Nat} {x:Fin PP} (h:n=x.val) {w:World} {e:Ending} {w':World} (hp:NumPost n w e w'):DPost x w e w':=by subst h;exact hp
theorem neg_neg_sub (x y:Fin PP):x-y=x+-y:=by grind
section
variable {x y z:Fin PP}
theorem addD' (h:z=x+y) (w:World):Calls zP 79 #[.agg (dv x),.agg (dv y)] w (DPost z w) :=
 (radd_any x.val y.val w lim lim).mono fun e w' hp=>npost (by rw [h,Fin.val_add]) hp
theorem negD (h:z=-x) (w:World):Calls zP 39 #[.agg (dv x)] w (DPost z w) :=
 (rneg_any x.val w lim).mono fun e w' hp=>npost (by rw [h,Fin.val_neg',Nat.mod_eq_of_lt x.isLt]) hp
theorem subD (h:z=x-y) (w:World):Calls zP 80 #[.agg (dv x),.agg (dv y)] w (DPost z w) :=
 (rsub_any x.val y.val w lim lim).mono fun e w' hp=>npost (by rw [h,neg_neg_sub,Fin.val_add,Fin.val_neg',Nat.mod_eq_of_lt y.isLt]) hp
theorem mulD (h:z=x*y) (w:World):Calls zP 40 #[.agg (dv x),.agg (dv y)] w (DPost z w) :=
 (sZ x.val y.val w lim lim).mono fun e w' hp=>npost (by rw [h,Fin.val_mul]) hp
theorem powerD {e:Nat} (h:z=x^e) (he:K256 e) (w:World):Calls zP 87 #[.agg (dv x),.agg (ks e)] w (DPost z w) :=
 (sW x.val e w lim he).mono fun r w' hp=>npost (by rw [h,gY]) hp
theorem invD (h:z=x^(PP-2)) (w:World):Calls zP 42 #[.agg (dv x)] w (DPost z w) :=
 (rinv_any x.val w lim).mono fun r w' hp=>npost (by rw [h,gY]) hp
theorem bytesD (x:Fin PP) (w:World):Calls zP 57 #[.agg (dv x)] w (KeyPost x.val w):=nW x.val w lim
theorem smallD (n:Nat) (h:z=sm n) (hn:n<18446744073709551616) (w:World):Calls zP 41 #[.int .u64 (n:Int)] w (DPost z w) :=
 (sU n w hn).mono fun r w' hp=>npost (by
  rw [h]
  show n=n%PP
  rw [Nat.mod_eq_of_lt (by rw [eH];omega)]) hp
end
end
section
open Go.RowKit
theorem oA {n k x:Nat} (hk:k<32) (hx:x<256):(ks n).setIfInBounds k (.int .u8 (x:Int))=ks (putd 256 n k x):=by
 rw [ks,dV,ks]
 congr 1
 apply List.ext_getElem?
 intro j
 rw [List.getElem?_set]
 by_cases hj:j<32
 ·
  rw [fQ (putd 256 n k x) hj,kI (by omega) hx (eU 256 n k x) j]
  by_cases e:k=j
  ·
   subst e
   rw [if_pos rfl,if_pos rfl,dP,if_pos hk]
  ·
   rw [if_neg e,if_neg (fun h=>e h.symm),fQ n hj]
 ·
  have:k≠j:=by omega
  rw [if_neg this,List.getElem?_eq_none (by rw [dP];omega),List.getElem?_eq_none (by rw [dP];omega)]
theorem yJ {n:Nat} (hn:K256 n):putd 256 n 31 (n/256^31%256%128)=n%57896044618658097711785492504343953926634992332820282019728792003956564819968:=by
 have h:=eU 256 n 31 (n/256^31%256%128)
 have e:(256:Nat)^31=452312848583266388373324160190187140051835877600158453279131187530910662656:=by decide
 rw [e] at h ⊢
 omega
end
section
set_option maxRecDepth 99999
open Go.RowKit
theorem inv_num:num4 18446744073709551595 18446744073709551615 18446744073709551615 9223372036854775807=PP-2:=by decide +kernel
theorem es_inv:es (PP-2)=#[.int .u64 18446744073709551595,.int .u64 18446744073709551615,.int .u64 18446744073709551615,.int .u64 9223372036854775807]:=oJ inv_num.symm (by decide) (by decide) (by decide) (by decide)
theorem info_w4s (n:Nat):(zP.info? 54).map (·.size)=some (es n).size:=hH
theorem inv_any (x:Fin PP) (w:World) (hpg:PG w):Calls zP 95 #[.agg (ev x)] w (EPost (x^(PP-2)) w):=by
 have hfr:=(((Fr.start w).row (ev x) 56 (g:=w.heap.size) rfl).any (es 0) 56 4 rfl (g:=w.heap.size+1) (by simp)).row (es (PP-2)) 54 (g:=w.heap.size+1+1) (by simp)
 rw [jJ] at hfr
 have hfr2:=hfr
 rw [es_inv] at hfr2
 have HFR:=Lib.hid hfr2
 clear hfr hfr2
 have HPG:=Lib.hid hpg
 obtain ⟨hz,p0,p1,p2,p3⟩:=hpg
 have e1:¬ (1=w.heap.size):=by omega
 have e2:¬ (w.heap.size=1):=by omega
 have e3:¬ (w.heap.size=0):=by omega
 have e4:¬ (1=w.heap.size+1):=by omega
 have e5:1<w.heap.size+1+1:=by omega
 have e6:1<w.heap.size+1:=by omega
 have e7:1<w.heap.size+1+1+1:=by omega
 go_enter Tryz.func95,Tryz.ntmps95
 go_wp2_with (fail)
 refine wp_region_held_drew (S:=fun W=>Fr w W [(w.heap.size+1+1,54,es (PP-2)),(w.heap.size,56,ev x)] [(w.heap.size+1,56,4)]) (by kernel_rfl) ?_ (fun hHeld=>?_)
 ·
  exact (by rw [es_inv];exact HFR.out.drew)
 refine wpAnyH_take (i:=0) (v:=.agg (ev x)) rfl (by kernel_rfl) (by kernel_rfl) (by kernel_rfl) (fun _ _ _ h=>h) (cY (by rfl) 56 (.tmp 1) rfl (w.heap.size) rfl 56 (ev x) _ (fun W (h:Fr _ W _ _)=>h.get (by simp)) Tryz.underlying56 rfl (aV _)) hHeld ?_
 try simp only [Act.put,lA,lB,lC,lD,lE,lF]
 refine wpAnyH_take (i:=1) (v:=.agg (es (PP-2))) rfl (by kernel_rfl) (by kernel_rfl) (by kernel_rfl) (fun _ _ _ h=>h) (cY (by rfl) 54 (.tmp 3) rfl (w.heap.size+1+1) rfl 54 (es (PP-2)) _ (fun W (h:Fr _ W _ _)=>h.get (by simp)) Tryz.underlying54 rfl (info_w4s _)) hHeld ?_
 try simp only [Act.put,lA,lB,lC,lD,lE,lF]
 refine wpAnyH_ready (rs:=[2]) (by kernel_rfl) (by simp) (AllReadyH.cons rfl (fun K hK=>?_) AllReadyH.nil)
 have h0:=hHeld
 clear hHeld
 try simp only [lA,lB,lC]
 have H0:=Lib.hid h0
 clear h0
 go_simp
 go_at_call 96
 refine (gF (PP-2) _ (by decide +kernel)).mono ?_
 rintro e vv ⟨rfl,hb⟩
 have h1:=H0.out.ext hb
 clear hb H0
 go_wp2_with (fail)
 refine hK.out _ _ h1 (fun hHeld=>?_)
 clear hK K h1
 try simp only [Act.put,lA,lB,lC,lD,lE,lF]
 refine wpAnyH_ready (rs:=[3]) (by kernel_rfl) (by simp) (AllReadyH.cons rfl (fun K hK=>?_) AllReadyH.nil)
 have h0:=hHeld
 clear hHeld
 try simp only [lA,lB,lC]
 have H0:=Lib.hid h0
 clear h0
 go_simp
 go_at_call 119
 refine (powerF x _ (PP-2) (Fr.pg H0.out HPG.out) (by decide +kernel)).mono ?_
 rintro e vv ⟨rfl,hb⟩
 have h1:=H0.out.ext hb
 clear hb H0
 go_wp2_with (fail)
 refine hK.out _ _ h1 (fun hHeld=>?_)
 clear hK K h1
 try simp only [Act.put,lA,lB,lC,lD,lE,lF]
 refine wpAnyH_ready (rs:=[4]) (by kernel_rfl) (by simp) (AllReadyH.cons rfl (fun K hK=>?_) AllReadyH.nil)
 have h0:=hHeld
 clear hHeld
 try simp only [lA,lB,lC]
 rw [if_pos (by rfl)]
 obtain ⟨old,hold,kold⟩:=Fr.old h0 (g:=w.heap.size+1) (t:=56) (n:=4) (by simp)
 refine wp_store_row 56 (.tmp 2) (.tmp 12) rfl (w.heap.size+1) (ev (x^(PP-2))) rfl rfl 56 old kold (aV _) hold (cP _) ?_
 refine hK.out _ _ (Fr.setAny h0 (g:=w.heap.size+1) (t:=56) (aU _) (by simp) (by simp<;>omega)) (fun hHeld=>?_)
 have kb:=kold.setRow_same (ev (x^(PP-2)))
 clear hK K h0 hold
 try simp only [Act.put,lA,lB,lC,lD,lE,lF]
 refine wpAnyH_done (by kernel_rfl) ?_ _
 have HF:=Lib.hid hHeld
 clear hHeld
 go_wp2_with (fail)
 exact gT (g:=w.heap.size+1) rfl rfl rfl kb HF.out.below
end
section
set_option maxRecDepth 99999
open Go.RowKit
theorem invR {x y:Fin PP} (h:y=x^(PP-2)) (w:World) (hp:PG w):Calls zP 95 #[.agg (ev x)] w (EPost y w):=by
 have h2:=inv_any x w hp
 rw [←h] at h2
 exact h2
end
section
set_option maxRecDepth 99999
open Go.RowKit
theorem ofR {n:Nat} {x:Fin PP} (h:x=ofK n) (w:World) (hp:PG w) (hn:K256 n):Calls zP 62 #[.agg (ks n)] w (EPost x w):=by
 rw [h]
 exact ofF n w hp hn
theorem kM:sm 1=1:=rfl
theorem dig_all:∀ (k n m:Nat),n<256^k→m<256^k→(∀ i,i<k→n/256^i%256=m/256^i%256)→n=m
 | 0,n,m,h1,h2,_=>by simp at h1 h2;omega
 | k+1,n,m,h1,h2,h=>by
  rw [Nat.pow_succ] at h1 h2
  have h0:=h 0 (by omega)
  simp at h0
  have:=dig_all k (n/256) (m/256) (by omega) (by omega) (fun i hi=>by
   have:=h (i+1) (by omega)
   rw [Nat.pow_succ',←Nat.div_div_eq_div_mul,←Nat.div_div_eq_div_mul] at this
   exact this)
  omega
theorem kb_inj {n m:Nat} (hn:K256 n) (hm:K256 m) (h:kb n=kb m):n=m:=by
 refine dig_all 32 n m hn hm fun i hi=>?_
 have h1:=fQ n hi
 rw [h,fQ m hi] at h1
 injection h1 with h1
 exact h1.symm
theorem size_u8' (W:World):(sizeOf 5).run zP W=.ok 1 W:=by kernel_rfl
theorem keys_eq {n m:Nat} {b:Bool} (hn:K256 n) (hm:K256 m) (h:decide (n=m)=b) (W:World):(Op.equalIn 10000 23 (.agg (ks n)) (.agg (ks m))).run zP W=.ok b W:=by
 have h2:=eD (P:=zP) W 9998 23 5 32 .u8 Tryz.underlying23 Tryz.underlying5 size_u8' (kb n) (kb m) (dP n) (dP m)
 have e:(kb n == kb m)=b:=by
  rw [←h,Bool.eq_iff_iff]
  simp
  exact ⟨fun h=>kb_inj hn hm h,fun h=>by rw [h]⟩
 rw [e] at h2
 exact h2
end
section
open Go.RowKit
theorem bor_p (n:Nat) (hn:K256 n):((bor (n+115792089237316195423570985008687907853269984665640564039457584007913129639936-num4 18446744073709551597 18446744073709551615 18446744073709551615 9223372036854775807):Int) == 1)=decide (n<PP):=by
 have h:num4 18446744073709551597 18446744073709551615 18446744073709551615 9223372036854775807=PP:=by decide +kernel
 rw [h,eH]
 unfold bor wd4
 rw [Bool.eq_iff_iff]
 simp only [beq_iff_eq,decide_eq_true_eq]
 omega
set_option maxRecDepth 100000 in
theorem vN (n:Nat) (w:World) (hpg:PG w) (hn:K256 n):Calls zP 61 #[.agg (ks n)] w (BPost (decide (n<PP)) w):=by
 have hfr:=(Fr.start w).row (ks n) 23 (g:=w.heap.size) rfl
 have HFR:=Lib.hid hfr
 have HPG:=Lib.hid hpg
 have hbo:=bor_p n hn
 have hwo:=fun W=>jB n W hn
 have hmi:=fun W=>iL (wd0 n) (wd1 n) (wd2 n) (wd3 n) 18446744073709551597 18446744073709551615 18446744073709551615 9223372036854775807 W (cZ n) (fP n) (fO n) (fA n) (by omega) (by omega) (by omega) (by omega)
 rw [gL hn] at hmi
 generalize n+115792089237316195423570985008687907853269984665640564039457584007913129639936-num4 18446744073709551597 18446744073709551615 18446744073709551615 9223372036854775807=m at *
 have HBO:=Lib.hid hbo
 have HWO:=Lib.hid hwo
 have HMI:=Lib.hid hmi
 clear hfr hpg hbo hwo hmi hn
 go_enter Tryz.func61,Tryz.ntmps61
 go_wp2_with (fail)
 refine wp_region_held_drew (S:=fun W=>Fr w W [(w.heap.size,23,ks n)] []) (by kernel_rfl) ?_ (fun hHeld=>?_)
 ·
  exact HFR.out.drew
 refine wpAnyH_take (i:=0) (v:=.agg (ks n)) rfl (by kernel_rfl) (by kernel_rfl) (by kernel_rfl) (fun _ _ _ h=>h) (cY (by rfl) 23 (.tmp 1) rfl (w.heap.size) rfl 23 (ks n) _ (fun W (h:Fr _ W _ _)=>h.get (by simp)) Tryz.underlying23 rfl (aL _)) hHeld ?_
 try simp only [Act.put,lA,lB,lC,lD,lE,lF]
 refine wpAnyH_take (i:=2) (v:=?_) rfl (by kernel_rfl) (by kernel_rfl) (by kernel_rfl) (fun _ _ _ h=>h) (Or.inl ⟨by rfl,?_⟩) hHeld ?_
 rotate_left
 ·
  (intro W hSw;obtain ⟨hz,p0,p1,p2,p3⟩:=Fr.pg hSw HPG.out;clear hSw;(try simp only [lA,lB,lC]);go_simp;try with_reducible rfl)
 try simp only [Act.put,lA,lB,lC,lD,lE,lF]
 refine wpAnyH_ready (rs:=[1]) (by kernel_rfl) (by simp) (AllReadyH.cons rfl (fun K hK=>?_) AllReadyH.nil)
 have h0:=hHeld
 clear hHeld
 try simp only [lA,lB,lC]
 have H0:=Lib.hid h0
 clear h0
 go_simp
 go_at_call 105
 refine (HWO.out _).mono ?_
 rintro e vv ⟨he,hb⟩
 rw [eX] at he
 subst he
 have h1:=H0.out.ext hb
 clear hb H0
 go_wp2_with (fail)
 refine hK.out _ _ h1 (fun hHeld=>?_)
 clear hK K h1
 try simp only [Act.put,lA,lB,lC,lD,lE,lF]
 refine wpAnyH_ready (rs:=[3]) (by kernel_rfl) (by simp) (AllReadyH.cons rfl (fun K hK=>?_) AllReadyH.nil)
 have h0:=hHeld
 clear hHeld
 try simp only [lA,lB,lC]
 have H0:=Lib.hid h0
 clear h0
 go_simp
 go_at_call 104
 refine (HMI.out _).mono ?_
 rintro e vv ⟨he,hb⟩
 unfold retm at he
 subst he
 have h1:=H0.out.ext hb
 clear hb H0
 go_wp2_with (fail)
 refine hK.out _ _ h1 (fun hHeld=>?_)
 clear hK K h1
 try simp only [Act.put,lA,lB,lC,lD,lE,lF]
 refine tk 4 hHeld ?_
 try simp only [Act.put,lA,lB,lC,lD,lE,lF]
 refine tk 5 hHeld ?_
 try simp only [Act.put,lA,lB,lC,lD,lE,lF]
 refine tk 6 hHeld ?_
 try simp only [Act.put,lA,lB,lC,lD,lE,lF]
 refine tk 7 hHeld ?_
 try simp only [Act.put,lA,lB,lC,lD,lE,lF]
 refine tk 8 hHeld ?_
 try simp only [Act.put,lA,lB,lC,lD,lE,lF]
 refine tk 9 hHeld ?_
 try simp only [Act.put,lA,lB,lC,lD,lE,lF]
 refine tk 10 hHeld ?_
 try simp only [Act.put,lA,lB,lC,lD,lE,lF]
 refine tk 11 hHeld ?_
 try simp only [Act.put,lA,lB,lC,lD,lE,lF]
 refine tk 12 hHeld ?_
 try simp only [Act.put,lA,lB,lC,lD,lE,lF]
 refine tk 13 hHeld ?_
 try simp only [Act.put,lA,lB,lC,lD,lE,lF]
 refine tk 14 hHeld ?_
 try simp only [Act.put,lA,lB,lC,lD,lE,lF]
 refine wpAnyH_done (by kernel_rfl) ?_ _
 have HB:=Lib.hid hHeld.below
 clear hHeld
 have hbo:=HBO.out
 generalize decide (n<PP)=t at *
 go_wp2_with (fail)
 go_ret
 exact ⟨rfl,HB.out⟩
end
section
set_option maxRecDepth 99999
open Go.RowKit
theorem rootI_of {i:Fin PP} (h:i=II) (w:World) (hp:PG w):Calls zP 122 #[] w (EPost i w):=by
 rw [h]
 exact rootI_any w hp
theorem EE_lt:K256 EE:=by decide +kernel
theorem powR {x y:Fin PP} (h:y=x^EE) (w:World) (hp:PG w):Calls zP 119 #[.agg (ev x),.agg (ks EE)] w (EPost y w):=by
 have h2:=powerF x w EE hp EE_lt
 rw [←h] at h2
 exact h2
theorem oI {p:Nat} {r:Fin p} (h:r.val%2=1):evenOf r=-r:=by unfold evenOf;rw [if_pos h]
theorem qU {p:Nat} {r:Fin p} (h:¬ r.val%2=1):evenOf r=r:=by unfold evenOf;rw [if_neg h]
section
variable {p:Nat} [NeZero p] {e:Nat} {i u v p0:Fin p}
theorem rootC_a (h:p0=(u*(v*v*v*(v*v*v)*v))^e) (h1:v*((u*(v*v*v)*p0)*(u*(v*v*v)*p0))=-u) (h2:v*((u*(v*v*v)*p0*i)*(u*(v*v*v)*p0*i))=u) :
  rootC e i u v=(evenOf (u*(v*v*v)*p0*i),true):=by
 subst h
 unfold rootC
 dsimp only
 rw [if_pos h1,if_pos h2]
theorem rootC_b (h:p0=(u*(v*v*v*(v*v*v)*v))^e) (h1:v*((u*(v*v*v)*p0)*(u*(v*v*v)*p0))=-u) (h2:¬ v*((u*(v*v*v)*p0*i)*(u*(v*v*v)*p0*i))=u) :
  rootC e i u v=(0,false):=by
 subst h
 unfold rootC
 dsimp only
 rw [if_pos h1,if_neg h2]
theorem rootC_c (h:p0=(u*(v*v*v*(v*v*v)*v))^e) (h1:¬ v*((u*(v*v*v)*p0)*(u*(v*v*v)*p0))=-u) (h2:v*((u*(v*v*v)*p0)*(u*(v*v*v)*p0))=u) :
  rootC e i u v=(evenOf (u*(v*v*v)*p0),true):=by
 subst h
 unfold rootC
 dsimp only
 rw [if_neg h1,if_pos h2]
theorem rootC_d (h:p0=(u*(v*v*v*(v*v*v)*v))^e) (h1:¬ v*((u*(v*v*v)*p0)*(u*(v*v*v)*p0))=-u) (h2:¬ v*((u*(v*v*v)*p0)*(u*(v*v*v)*p0))=u) :
  rootC e i u v=(0,false):=by
 subst h
 unfold rootC
 dsimp only
 rw [if_neg h1,if_neg h2]
end
end
section
set_option maxRecDepth 99999
open Go Go.RowKit
theorem oddB {x:Fin PP} {b:Bool} (h:decide (x.val%2=1)=b) (w:World):Calls zP 49 #[.agg (ev x)] w (BPost b w):=by subst h;exact oddF x w
theorem selectB {x y r:Fin PP} {b:Bool} (h:r=if b then y else x) (w:World):Calls zP 67 #[.agg (ev x),.agg (ev y),.bool b] w (EPost r w):=by
 subst h
 cases b
 ·
  exact kP x.val y.val false w
 ·
  exact kP x.val y.val true w
theorem even_sel {r x y:Fin PP} {b:Bool} (hb:decide (x.val%2=1)=b) (hy:y=-x) (hr:r=if b then y else x):r=evenOf x:=by
 cases b with
 | true=>rw [oI (of_decide_eq_true hb),←hy];exact hr
 | false=>rw [qU (of_decide_eq_false hb)];exact hr
attribute [local irreducible] ev ks EE II rootC evenOf
theorem rootX (u v:Fin PP) (w:World) (hpg:PG w):Calls zP 109 #[.agg (ev u),.agg (ev v)] w fun e w'=>e=.returned (.tuple #[.agg (ev (rootC EE II u v).1),.bool (rootC EE II u v).2])∧Below w.heap.size w w':=by
 obtain ⟨i0,hi0⟩:∃ i,i=II:=⟨_,rfl⟩
 obtain ⟨z1,hz1⟩:∃ z:Fin PP,z=v*v:=⟨_,rfl⟩
 obtain ⟨z2,hz2⟩:∃ z:Fin PP,z=z1*v:=⟨_,rfl⟩
 obtain ⟨z3,hz3⟩:∃ z:Fin PP,z=z2*z2:=⟨_,rfl⟩
 obtain ⟨z4,hz4⟩:∃ z:Fin PP,z=z3*v:=⟨_,rfl⟩
 obtain ⟨z5,hz5⟩:∃ z:Fin PP,z=u*z2:=⟨_,rfl⟩
 obtain ⟨z6,hz6⟩:∃ z:Fin PP,z=u*z4:=⟨_,rfl⟩
 obtain ⟨z7,hz7⟩:∃ z:Fin PP,z=z6^EE:=⟨_,rfl⟩
 obtain ⟨z8,hz8⟩:∃ z:Fin PP,z=z5*z7:=⟨_,rfl⟩
 obtain ⟨z9,hz9⟩:∃ z:Fin PP,z=z8*z8:=⟨_,rfl⟩
 obtain ⟨z10,hz10⟩:∃ z:Fin PP,z=v*z9:=⟨_,rfl⟩
 obtain ⟨z11,hz11⟩:∃ z:Fin PP,z=-u:=⟨_,rfl⟩
 obtain ⟨b1,hb1⟩:∃ b,decide (z10=z11)=b:=⟨_,rfl⟩
 obtain ⟨z12,hz12⟩:∃ z:Fin PP,z=z8*i0:=⟨_,rfl⟩
 obtain ⟨z13,hz13⟩:∃ z:Fin PP,z=z12*z12:=⟨_,rfl⟩
 obtain ⟨z14,hz14⟩:∃ z:Fin PP,z=v*z13:=⟨_,rfl⟩
 obtain ⟨b2,hb2⟩:∃ b,decide (z14=u)=b:=⟨_,rfl⟩
 obtain ⟨z15,hz15⟩:∃ z:Fin PP,z=-z12:=⟨_,rfl⟩
 obtain ⟨b3,hb3⟩:∃ b,decide (z12.val%2=1)=b:=⟨_,rfl⟩
 obtain ⟨rb3,hrb3⟩:∃ z:Fin PP,z=if b3 then z15 else z12:=⟨_,rfl⟩
 obtain ⟨b4,hb4⟩:∃ b,decide (z10=u)=b:=⟨_,rfl⟩
 obtain ⟨z16,hz16⟩:∃ z:Fin PP,z=-z8:=⟨_,rfl⟩
 obtain ⟨b5,hb5⟩:∃ b,decide (z8.val%2=1)=b:=⟨_,rfl⟩
 obtain ⟨rb5,hrb5⟩:∃ z:Fin PP,z=if b5 then z16 else z8:=⟨_,rfl⟩
 refine bN (vs:=[.agg (ev u),.agg (ev v)]) 50 Tryz.func109 rfl Tryz.ntmps109 rfl (fun a W H=>?_)
 refine wp_seq_k (fun K1 hK1=>?_)
 refine aE ?_
 refine bP rfl rfl (jO u) rfl rfl rfl rfl H ?_
 clear H a W
 intro g1 a W H
 refine bP rfl rfl (jO v) rfl rfl rfl rfl H ?_
 clear H a W
 intro g2 a W H
 refine bC (aN rfl cR) rfl rfl rfl rfl H ?_
 clear H a W
 intro g3 a W H
 refine aD (aM rfl rfl) rfl rfl rfl rfl H ?_
 clear H a W
 intro a W H
 refine aH ?_
 replace H:St 50 w a W [(5,.bool false),(4,pA g3),(3,pA g2),(2,pA g1)] [(g3,56,#[.int .u64 0,.int .u64 0,.int .u64 0,.int .u64 0]),(g2,56,ev v),(g1,56,ev u)]:=H.pick [0,1,2,3] [0,1,2] rfl
 refine hK1 _ _ ?_
 clear hK1
 refine wp_seq_k (fun K2 hK2=>?_)
 refine drawnS [.val 9 (.agg (ev v)) [] [1],.val 10 (.agg (ev z1)) [0] [],.val 11 (.agg (ev v)) [] [1],.val 12 (.agg (ev z2)) [1,2] [],.new 6 56 (#[.int .u64 0,.int .u64 0,.int .u64 0,.int .u64 0]),.ston 4 6 56 (#[.int .u64 0,.int .u64 0,.int .u64 0,.int .u64 0]) (ev z2) [3]] [0,1,0,6,0,31] (by kernel_rfl) (by kernel_rfl) (by kernel_rfl) H ⟨⟨aC rfl rfl (k:=0) rfl Tryz.underlying56 rfl (aV _),aA rfl⟩,⟨aF rfl ⟨_,Tryz.func108,by kernel_rfl⟩ rfl (fun W hb=>squareP hz1 W (hpg.ext hb)),aA rfl⟩,⟨aC rfl rfl (k:=0) rfl Tryz.underlying56 rfl (aV _),aA rfl⟩,⟨aF rfl ⟨_,Tryz.func72,by kernel_rfl⟩ rfl (fun W hb=>mulP hz2 W (hpg.ext hb)),aA rfl⟩,⟨aN rfl cR,rfl⟩,⟨rfl,rfl,fun g=>bQ rfl rfl rfl (aV _) (by simp only [aU]<;>rfl) (cP _)⟩,trivial⟩ ?_
 clear H a W
 intro G4 a W H
 replace H:St 50 w a W [(6,pA (G4 4)),(5,.bool false),(4,pA g3),(3,pA g2),(2,pA g1)] [((G4 4),56,ev z2),(g3,56,#[.int .u64 0,.int .u64 0,.int .u64 0,.int .u64 0]),(g2,56,ev v),(g1,56,ev u)]:=H.pick [4,5,6,7,8] [0,1,2,3] rfl
 refine hK2 _ _ ?_
 clear hK2
 refine wp_seq_k (fun K3 hK3=>?_)
 refine drawnS [.val 13 (.agg (ev z2)) [] [0],.val 14 (.agg (ev z3)) [0] [],.val 15 (.agg (ev v)) [] [2],.val 16 (.agg (ev z4)) [1,2] [],.new 7 56 (#[.int .u64 0,.int .u64 0,.int .u64 0,.int .u64 0]),.ston 4 7 56 (#[.int .u64 0,.int .u64 0,.int .u64 0,.int .u64 0]) (ev z4) [3]] [0,1,0,6,0,31] (by kernel_rfl) (by kernel_rfl) (by kernel_rfl) H ⟨⟨aC rfl rfl (k:=0) rfl Tryz.underlying56 rfl (aV _),aA rfl⟩,⟨aF rfl ⟨_,Tryz.func108,by kernel_rfl⟩ rfl (fun W hb=>squareP hz3 W (hpg.ext hb)),aA rfl⟩,⟨aC rfl rfl (k:=0) rfl Tryz.underlying56 rfl (aV _),aA rfl⟩,⟨aF rfl ⟨_,Tryz.func72,by kernel_rfl⟩ rfl (fun W hb=>mulP hz4 W (hpg.ext hb)),aA rfl⟩,⟨aN rfl cR,rfl⟩,⟨rfl,rfl,fun g=>bQ rfl rfl rfl (aV _) (by simp only [aU]<;>rfl) (cP _)⟩,trivial⟩ ?_
 clear H a W
 intro G5 a W H
 replace H:St 50 w a W [(7,pA (G5 4)),(6,pA (G4 4)),(5,.bool false),(4,pA g3),(3,pA g2),(2,pA g1)] [((G5 4),56,ev z4),((G4 4),56,ev z2),(g3,56,#[.int .u64 0,.int .u64 0,.int .u64 0,.int .u64 0]),(g2,56,ev v),(g1,56,ev u)]:=H.pick [4,5,6,7,8,9] [0,1,2,3,4] rfl
 refine hK3 _ _ ?_
 clear hK3
 refine wp_seq_k (fun K4 hK4=>?_)
 refine drawnS [.val 17 (.agg (ev u)) [] [4],.val 18 (.agg (ev z2)) [] [1],.val 19 (.agg (ev z5)) [0,1] [],.val 20 (.agg (ev u)) [] [4],.val 21 (.agg (ev z4)) [] [0],.val 22 (.agg (ev z6)) [3,4] [],.val 23 (.agg (ks EE)) [] [],.val 24 (.agg (ev z7)) [5,6] [],.val 25 (.agg (ev z8)) [2,7] [],.new 8 56 (#[.int .u64 0,.int .u64 0,.int .u64 0,.int .u64 0]),.ston 9 8 56 (#[.int .u64 0,.int .u64 0,.int .u64 0,.int .u64 0]) (ev z8) [8]] [0,0,3,0,0,28,32,96,132,0,1023] (by kernel_rfl) (by kernel_rfl) (by kernel_rfl) H ⟨⟨aC rfl rfl (k:=0) rfl Tryz.underlying56 rfl (aV _),aA rfl⟩,⟨aC rfl rfl (k:=0) rfl Tryz.underlying56 rfl (aV _),aA rfl⟩,⟨aF rfl ⟨_,Tryz.func72,by kernel_rfl⟩ rfl (fun W hb=>mulP hz5 W (hpg.ext hb)),aA rfl⟩,⟨aC rfl rfl (k:=0) rfl Tryz.underlying56 rfl (aV _),aA rfl⟩,⟨aC rfl rfl (k:=0) rfl Tryz.underlying56 rfl (aV _),aA rfl⟩,⟨aF rfl ⟨_,Tryz.func72,by kernel_rfl⟩ rfl (fun W hb=>mulP hz6 W (hpg.ext hb)),aA rfl⟩,⟨aF rfl ⟨_,Tryz.func121,by kernel_rfl⟩ rfl (fun W hb=>vI W),aA rfl⟩,⟨aF rfl ⟨_,Tryz.func119,by kernel_rfl⟩ rfl (fun W hb=>powR hz7 W (hpg.ext hb)),aA rfl⟩,⟨aF rfl ⟨_,Tryz.func72,by kernel_rfl⟩ rfl (fun W hb=>mulP hz8 W (hpg.ext hb)),aA rfl⟩,⟨aN rfl cR,rfl⟩,⟨rfl,rfl,fun g=>bQ rfl rfl rfl (aV _) (by simp only [aU]<;>rfl) (cP _)⟩,trivial⟩ ?_
 clear H a W
 intro G6 a W H
 replace H:St 50 w a W [(8,pA (G6 9)),(5,.bool false),(4,pA g3),(3,pA g2),(2,pA g1)] [((G6 9),56,ev z8),(g3,56,#[.int .u64 0,.int .u64 0,.int .u64 0,.int .u64 0]),(g2,56,ev v),(g1,56,ev u)]:=H.pick [9,12,13,14,15] [0,3,4,5] rfl
 refine hK4 _ _ ?_
 clear hK4
 refine wp_seq_k (fun K5 hK5=>?_)
 refine wp_seq_k (fun K6 hK6=>?_)
 refine drawnS [.val 26 (.agg (ev v)) [] [2],.val 27 (.agg (ev z8)) [] [0],.val 28 (.agg (ev z9)) [1] [],.val 29 (.agg (ev z10)) [0,2] [],.val 30 (.agg (ev u)) [] [3],.val 31 (.agg (ev z11)) [4] [],.val 32 (.bool b1) [3,5] []] [0,0,2,5,0,24,40] (by kernel_rfl) (by kernel_rfl) (by kernel_rfl) H ⟨⟨aC rfl rfl (k:=0) rfl Tryz.underlying56 rfl (aV _),aA rfl⟩,⟨aC rfl rfl (k:=0) rfl Tryz.underlying56 rfl (aV _),aA rfl⟩,⟨aF rfl ⟨_,Tryz.func108,by kernel_rfl⟩ rfl (fun W hb=>squareP hz9 W (hpg.ext hb)),aA rfl⟩,⟨aF rfl ⟨_,Tryz.func72,by kernel_rfl⟩ rfl (fun W hb=>mulP hz10 W (hpg.ext hb)),aA rfl⟩,⟨aC rfl rfl (k:=0) rfl Tryz.underlying56 rfl (aV _),aA rfl⟩,⟨aF rfl ⟨_,Tryz.func68,by kernel_rfl⟩ rfl (fun W hb=>negP hz11 W (hpg.ext hb)),aA rfl⟩,⟨aF rfl ⟨_,Tryz.func110,by kernel_rfl⟩ rfl (fun W hb=>equalB hb1 W),aA rfl⟩,trivial⟩ ?_
 clear H a W
 intro G7 a W H
 replace H:St 50 w a W [(32,.bool b1),(8,pA (G6 9)),(5,.bool false),(4,pA g3),(3,pA g2),(2,pA g1)] [((G6 9),56,ev z8),(g3,56,#[.int .u64 0,.int .u64 0,.int .u64 0,.int .u64 0]),(g2,56,ev v),(g1,56,ev u)]:=H.pick [6,7,8,9,10,11] [0,1,2,3] rfl
 refine hK6 _ _ ?_
 clear hK6
 cases b1 with
 | true =>
  refine wp_cond_true (H.ev rfl) ?_
  refine drawnS [.val 33 (.agg (ev z8)) [] [0],.val 34 (.agg (ev i0)) [] [],.val 35 (.agg (ev z12)) [0,1] [],.sto 0 (G6 9) 56 (ev z8) (ev z12) [2]] [0,0,3,7] (by kernel_rfl) (by kernel_rfl) (by kernel_rfl) H ⟨⟨aC rfl rfl (k:=0) rfl Tryz.underlying56 rfl (aV _),aA rfl⟩,⟨aF rfl ⟨_,Tryz.func122,by kernel_rfl⟩ rfl (fun W hb=>rootI_of hi0 W (hpg.ext hb)),aA rfl⟩,⟨aF rfl ⟨_,Tryz.func72,by kernel_rfl⟩ rfl (fun W hb=>mulP hz12 W (hpg.ext hb)),aA rfl⟩,⟨rfl,rfl,bQ rfl rfl rfl (aV _) (by simp only [aU]<;>rfl) (cP _)⟩,trivial⟩ ?_
  clear H a W
  intro G8 a W H
  replace H:St 50 w a W [(8,pA (G6 9)),(5,.bool false),(4,pA g3),(3,pA g2),(2,pA g1)] [((G6 9),56,ev z12),(g3,56,#[.int .u64 0,.int .u64 0,.int .u64 0,.int .u64 0]),(g2,56,ev v),(g1,56,ev u)]:=H.pick [4,5,6,7,8] [0,1,2,3] rfl
  refine hK5 _ _ ?_
  clear hK5
  refine wp_seq_k (fun K7 hK7=>?_)
  refine wp_seq_k (fun K8 hK8=>?_)
  refine drawnS [.val 36 (.agg (ev v)) [] [2],.val 37 (.agg (ev z12)) [] [0],.val 38 (.agg (ev z13)) [1] [],.val 39 (.agg (ev z14)) [0,2] [],.val 40 (.agg (ev u)) [] [3],.val 41 (.bool b2) [3,4] [],.val 42 (.bool (!b2)) [5] []] [0,0,2,5,0,24,32] (by kernel_rfl) (by kernel_rfl) (by kernel_rfl) H ⟨⟨aC rfl rfl (k:=0) rfl Tryz.underlying56 rfl (aV _),aA rfl⟩,⟨aC rfl rfl (k:=0) rfl Tryz.underlying56 rfl (aV _),aA rfl⟩,⟨aF rfl ⟨_,Tryz.func108,by kernel_rfl⟩ rfl (fun W hb=>squareP hz13 W (hpg.ext hb)),aA rfl⟩,⟨aF rfl ⟨_,Tryz.func72,by kernel_rfl⟩ rfl (fun W hb=>mulP hz14 W (hpg.ext hb)),aA rfl⟩,⟨aC rfl rfl (k:=0) rfl Tryz.underlying56 rfl (aV _),aA rfl⟩,⟨aF rfl ⟨_,Tryz.func110,by kernel_rfl⟩ rfl (fun W hb=>equalB hb2 W),aA rfl⟩,⟨cX rfl rfl (fun _=>rfl),aA rfl⟩,trivial⟩ ?_
  clear H a W
  intro G9 a W H
  replace H:St 50 w a W [(42,.bool (!b2)),(8,pA (G6 9)),(5,.bool false),(4,pA g3)] [((G6 9),56,ev z12),(g3,56,#[.int .u64 0,.int .u64 0,.int .u64 0,.int .u64 0])]:=H.pick [6,7,8,9] [0,1] rfl
  refine hK8 _ _ ?_
  clear hK8
  cases b2 with
  | true =>
   refine wp_cond_false (H.ev rfl) ?_
   refine wp_skip ?_
   refine hK7 _ _ ?_
   clear hK7
   refine wp_seq_k (fun K9 hK9=>?_)
   replace H:St 50 w a W [(42,.bool (!true)),(8,pA (G6 9)),(4,pA g3)] [((G6 9),56,ev z12),(g3,56,#[.int .u64 0,.int .u64 0,.int .u64 0,.int .u64 0])]:=H.pick [0,1,3] [0,1] rfl
   refine drawnS [.val 44 (.agg (ev z12)) [] [0],.val 45 (.agg (ev z12)) [] [0],.val 46 (.agg (ev z15)) [1] [],.val 47 (.agg (ev z12)) [] [0],.val 48 (.bool b3) [3] [],.val 49 (.agg (ev rb3)) [0,2,4] [],.sto 1 g3 56 (#[.int .u64 0,.int .u64 0,.int .u64 0,.int .u64 0]) (ev rb3) [5],.val 5 (.bool true) [] []] [0,0,2,0,12,21,63,127] (by kernel_rfl) (by kernel_rfl) (by kernel_rfl) H ⟨⟨aC rfl rfl (k:=0) rfl Tryz.underlying56 rfl (aV _),aA rfl⟩,⟨aC rfl rfl (k:=0) rfl Tryz.underlying56 rfl (aV _),aA rfl⟩,⟨aF rfl ⟨_,Tryz.func68,by kernel_rfl⟩ rfl (fun W hb=>negP hz15 W (hpg.ext hb)),aA rfl⟩,⟨aC rfl rfl (k:=0) rfl Tryz.underlying56 rfl (aV _),aA rfl⟩,⟨aF rfl ⟨_,Tryz.func49,by kernel_rfl⟩ rfl (fun W hb=>oddB hb3 W),aA rfl⟩,⟨aF rfl ⟨_,Tryz.func67,by kernel_rfl⟩ rfl (fun W hb=>selectB hrb3 W),aA rfl⟩,⟨rfl,rfl,bQ rfl rfl rfl (aV _) (by simp only [aU]<;>rfl) (cP _)⟩,⟨aM rfl rfl,aA rfl⟩,trivial⟩ ?_
   clear H a W
   intro G10 a W H
   replace H:St 50 w a W [(5,.bool true),(4,pA g3)] [(g3,56,ev rb3)]:=H.pick [6,9] [1] rfl
   refine hK9 _ _ ?_
   clear hK9
   refine wp_ret ?_
   repeat (first | (with_reducible refine bD ?_) | (with_reducible refine bI ?_))
   refine bW (p:=4) (q:=5) rfl rfl rfl (k:=0) rfl Tryz.underlying56 rfl (aV _) H (fun hb=>?_)
   have e8:z8=u*(v*v*v)*(u*(v*v*v*(v*v*v)*v))^EE:=by rw [hz8,hz7,hz6,hz5,hz4,hz3,hz2,hz1]
   have h1:=of_decide_eq_true hb1
   rw [hz10,hz9,hz11,e8] at h1
   have h2:=of_decide_eq_true hb2
   rw [hz14,hz13,hz12,e8,hi0] at h2
   exact ⟨by rw [rootC_a rfl h1 h2,even_sel hb3 hz15 hrb3,hz12,hi0,e8],hb⟩
  | false =>
   refine wp_cond_true (H.ev rfl) ?_
   refine wp_seq_k (fun K10 hK10=>?_)
   refine aE ?_
   refine aD (cD (ps:=[]) rfl rfl uZ) rfl rfl rfl rfl H ?_
   clear H a W
   intro a W H
   refine aO rfl rfl rfl (k:=1) rfl (aV _) (by simp only [aU]<;>rfl) (cP _) rfl rfl H ?_
   clear H a W
   intro a W H
   replace H:St 50 w a W [(43,.agg (ev 0)),(42,.bool (!false)),(8,pA (G6 9)),(4,pA g3)] [((G6 9),56,ev z12),(g3,56,ev 0)]:=H.pick [0,1,2,4] [0,1] rfl
   refine aD (aM rfl rfl) rfl rfl rfl rfl H ?_
   clear H a W
   intro a W H
   refine aH ?_
   replace H:St 50 w a W [(5,.bool false),(8,pA (G6 9)),(4,pA g3)] [((G6 9),56,ev z12),(g3,56,ev 0)]:=H.pick [0,3,4] [0,1] rfl
   refine hK10 _ _ ?_
   clear hK10
   refine wp_ret ?_
   repeat (first | (with_reducible refine bD ?_) | (with_reducible refine bI ?_))
   refine bW (p:=4) (q:=5) rfl rfl rfl (k:=1) rfl Tryz.underlying56 rfl (aV _) H (fun hb=>?_)
   have e8:z8=u*(v*v*v)*(u*(v*v*v*(v*v*v)*v))^EE:=by rw [hz8,hz7,hz6,hz5,hz4,hz3,hz2,hz1]
   have h1:=of_decide_eq_true hb1
   rw [hz10,hz9,hz11,e8] at h1
   have h2:=of_decide_eq_false hb2
   rw [hz14,hz13,hz12,e8,hi0] at h2
   exact ⟨by rw [rootC_b rfl h1 h2],hb⟩
 | false =>
  refine wp_cond_false (H.ev rfl) ?_
  refine wp_skip ?_
  refine hK5 _ _ ?_
  clear hK5
  refine wp_seq_k (fun K11 hK11=>?_)
  refine wp_seq_k (fun K12 hK12=>?_)
  refine drawnS [.val 36 (.agg (ev v)) [] [2],.val 37 (.agg (ev z8)) [] [0],.val 38 (.agg (ev z9)) [1] [],.val 39 (.agg (ev z10)) [0,2] [],.val 40 (.agg (ev u)) [] [3],.val 41 (.bool b4) [3,4] [],.val 42 (.bool (!b4)) [5] []] [0,0,2,5,0,24,32] (by kernel_rfl) (by kernel_rfl) (by kernel_rfl) H ⟨⟨aC rfl rfl (k:=0) rfl Tryz.underlying56 rfl (aV _),aA rfl⟩,⟨aC rfl rfl (k:=0) rfl Tryz.underlying56 rfl (aV _),aA rfl⟩,⟨aF rfl ⟨_,Tryz.func108,by kernel_rfl⟩ rfl (fun W hb=>squareP hz9 W (hpg.ext hb)),aA rfl⟩,⟨aF rfl ⟨_,Tryz.func72,by kernel_rfl⟩ rfl (fun W hb=>mulP hz10 W (hpg.ext hb)),aA rfl⟩,⟨aC rfl rfl (k:=0) rfl Tryz.underlying56 rfl (aV _),aA rfl⟩,⟨aF rfl ⟨_,Tryz.func110,by kernel_rfl⟩ rfl (fun W hb=>equalB hb4 W),aA rfl⟩,⟨cX rfl rfl (fun _=>rfl),aA rfl⟩,trivial⟩ ?_
  clear H a W
  intro G11 a W H
  replace H:St 50 w a W [(42,.bool (!b4)),(8,pA (G6 9)),(5,.bool false),(4,pA g3)] [((G6 9),56,ev z8),(g3,56,#[.int .u64 0,.int .u64 0,.int .u64 0,.int .u64 0])]:=H.pick [6,8,9,10] [0,1] rfl
  refine hK12 _ _ ?_
  clear hK12
  cases b4 with
  | true =>
   refine wp_cond_false (H.ev rfl) ?_
   refine wp_skip ?_
   refine hK11 _ _ ?_
   clear hK11
   refine wp_seq_k (fun K13 hK13=>?_)
   replace H:St 50 w a W [(42,.bool (!true)),(8,pA (G6 9)),(4,pA g3)] [((G6 9),56,ev z8),(g3,56,#[.int .u64 0,.int .u64 0,.int .u64 0,.int .u64 0])]:=H.pick [0,1,3] [0,1] rfl
   refine drawnS [.val 44 (.agg (ev z8)) [] [0],.val 45 (.agg (ev z8)) [] [0],.val 46 (.agg (ev z16)) [1] [],.val 47 (.agg (ev z8)) [] [0],.val 48 (.bool b5) [3] [],.val 49 (.agg (ev rb5)) [0,2,4] [],.sto 1 g3 56 (#[.int .u64 0,.int .u64 0,.int .u64 0,.int .u64 0]) (ev rb5) [5],.val 5 (.bool true) [] []] [0,0,2,0,12,21,63,127] (by kernel_rfl) (by kernel_rfl) (by kernel_rfl) H ⟨⟨aC rfl rfl (k:=0) rfl Tryz.underlying56 rfl (aV _),aA rfl⟩,⟨aC rfl rfl (k:=0) rfl Tryz.underlying56 rfl (aV _),aA rfl⟩,⟨aF rfl ⟨_,Tryz.func68,by kernel_rfl⟩ rfl (fun W hb=>negP hz16 W (hpg.ext hb)),aA rfl⟩,⟨aC rfl rfl (k:=0) rfl Tryz.underlying56 rfl (aV _),aA rfl⟩,⟨aF rfl ⟨_,Tryz.func49,by kernel_rfl⟩ rfl (fun W hb=>oddB hb5 W),aA rfl⟩,⟨aF rfl ⟨_,Tryz.func67,by kernel_rfl⟩ rfl (fun W hb=>selectB hrb5 W),aA rfl⟩,⟨rfl,rfl,bQ rfl rfl rfl (aV _) (by simp only [aU]<;>rfl) (cP _)⟩,⟨aM rfl rfl,aA rfl⟩,trivial⟩ ?_
   clear H a W
   intro G12 a W H
   replace H:St 50 w a W [(5,.bool true),(4,pA g3)] [(g3,56,ev rb5)]:=H.pick [6,9] [1] rfl
   refine hK13 _ _ ?_
   clear hK13
   refine wp_ret ?_
   repeat (first | (with_reducible refine bD ?_) | (with_reducible refine bI ?_))
   refine bW (p:=4) (q:=5) rfl rfl rfl (k:=0) rfl Tryz.underlying56 rfl (aV _) H (fun hb=>?_)
   have e8:z8=u*(v*v*v)*(u*(v*v*v*(v*v*v)*v))^EE:=by rw [hz8,hz7,hz6,hz5,hz4,hz3,hz2,hz1]
   have h1:=of_decide_eq_false hb1
   rw [hz10,hz9,hz11,e8] at h1
   have h2:=of_decide_eq_true hb4
   rw [hz10,hz9,e8] at h2
   exact ⟨by rw [rootC_c rfl h1 h2,even_sel hb5 hz16 hrb5,e8],hb⟩
  | false =>
   refine wp_cond_true (H.ev rfl) ?_
   refine wp_seq_k (fun K14 hK14=>?_)
   refine aE ?_
   refine aD (cD (ps:=[]) rfl rfl uZ) rfl rfl rfl rfl H ?_
   clear H a W
   intro a W H
   refine aO rfl rfl rfl (k:=1) rfl (aV _) (by simp only [aU]<;>rfl) (cP _) rfl rfl H ?_
   clear H a W
   intro a W H
   replace H:St 50 w a W [(43,.agg (ev 0)),(42,.bool (!false)),(8,pA (G6 9)),(4,pA g3)] [((G6 9),56,ev z8),(g3,56,ev 0)]:=H.pick [0,1,2,4] [0,1] rfl
   refine aD (aM rfl rfl) rfl rfl rfl rfl H ?_
   clear H a W
   intro a W H
   refine aH ?_
   replace H:St 50 w a W [(5,.bool false),(8,pA (G6 9)),(4,pA g3)] [((G6 9),56,ev z8),(g3,56,ev 0)]:=H.pick [0,3,4] [0,1] rfl
   refine hK14 _ _ ?_
   clear hK14
   refine wp_ret ?_
   repeat (first | (with_reducible refine bD ?_) | (with_reducible refine bI ?_))
   refine bW (p:=4) (q:=5) rfl rfl rfl (k:=1) rfl Tryz.underlying56 rfl (aV _) H (fun hb=>?_)
   have e8:z8=u*(v*v*v)*(u*(v*v*v*(v*v*v)*v))^EE:=by rw [hz8,hz7,hz6,hz5,hz4,hz3,hz2,hz1]
   have h1:=of_decide_eq_false hb1
   rw [hz10,hz9,hz11,e8] at h1
   have h2:=of_decide_eq_false hb4
   rw [hz10,hz9,e8] at h2
   exact ⟨by rw [rootC_d rfl h1 h2],hb⟩
end
section
set_option maxRecDepth 99999
open Go.RowKit
theorem rootB {u v r:Fin PP} {b:Bool} (h:(r,b)=rootC EE II u v) (w:World) (hp:PG w):Calls zP 109 #[.agg (ev u),.agg (ev v)] w fun e w'=>e=.returned (.tuple #[.agg (ev r),.bool b])∧Below w.heap.size w w':=by
 have h2:=rootX u v w hp
 rw [←h] at h2
 exact h2
end
section
set_option maxRecDepth 99999
open Go Go.RowKit
theorem lU (W:World):(Instr.alloc 58 true (.tuple #[])).run zP W=.ok (.pointer (some ⟨W.heap.size,0,none⟩)) (W.alloc (.cells #[.int .u64 0,.int .u64 0,.int .u64 0,.int .u64 0,.int .u64 0,.int .u64 0,.int .u64 0,.int .u64 0,.int .u64 0,.int .u64 0,.int .u64 0,.int .u64 0,.int .u64 0,.int .u64 0,.int .u64 0,.int .u64 0] 58)):=by kernel_rfl
theorem pW (s:L4 PP) (W:World):(Instr.box 58 (.agg (sv s))).run zP W=.ok (.pointer (some ⟨W.heap.size,0,none⟩)) (W.alloc (.cells (sv s) 58)):=by kernel_rfl
theorem bX (s:L4 PP):(zP.info? 58).map (·.size)=some (sv s).size:=by rw [aX];kernel_rfl
theorem fU (g:Nat) (W:World):(Instr.fieldAt 58 (.pointer (some ⟨g,0,none⟩)) 0).run zP W=.ok (.pointer (some ⟨g,4*0,none⟩)) W∧(Instr.fieldAt 58 (.pointer (some ⟨g,0,none⟩)) 1).run zP W=.ok (.pointer (some ⟨g,4*1,none⟩)) W∧(Instr.fieldAt 58 (.pointer (some ⟨g,0,none⟩)) 2).run zP W=.ok (.pointer (some ⟨g,4*2,none⟩)) W∧(Instr.fieldAt 58 (.pointer (some ⟨g,0,none⟩)) 3).run zP W=.ok (.pointer (some ⟨g,4*3,none⟩)) W:=by
 refine ⟨by kernel_rfl,by kernel_rfl,by kernel_rfl,by kernel_rfl⟩
theorem fT {g:Nat} {t:TypeId} {s:L4 PP} {k:Nat} (hk:k<4) (W:World) (h:Blk W g t (sv s)):(Instr.loadAt 56 (.pointer (some ⟨g,4*k,none⟩))).run zP W=.ok (.agg (ev (s.at4 k))) W :=
 run_loadAt_mid W g (4*k) 56 (ev (s.at4 k)).toList _ (range_sv h hk) Tryz.underlying56 rfl (aV _)
theorem bd_pt (a b c d:Fin PP) (W:World):(Instr.build 58 [(0,.agg (ev a)),(1,.agg (ev b)),(2,.agg (ev c)),(3,.agg (ev d))].toArray).run zP W=.ok (.agg (sv ⟨a,b,c,d⟩)) W :=
 run_build W 58 _ _ (by kernel_rfl)
def PZ:L4 PP:=⟨0,0,0,0⟩
theorem bd_pt0 (W:World):(Instr.build 58 ([]:List (Nat × Value)).toArray).run zP W=.ok (.agg (sv PZ)) W:=by kernel_rfl
theorem qY (W:World):(Instr.alloc 23 true (.tuple #[])).run zP W=.ok (.pointer (some ⟨W.heap.size,0,none⟩)) (W.alloc (.cells #[.int .u8 0,.int .u8 0,.int .u8 0,.int .u8 0,.int .u8 0,.int .u8 0,.int .u8 0,.int .u8 0,.int .u8 0,.int .u8 0,.int .u8 0,.int .u8 0,.int .u8 0,.int .u8 0,.int .u8 0,.int .u8 0,.int .u8 0,.int .u8 0,.int .u8 0,.int .u8 0,.int .u8 0,.int .u8 0,.int .u8 0,.int .u8 0,.int .u8 0,.int .u8 0,.int .u8 0,.int .u8 0,.int .u8 0,.int .u8 0,.int .u8 0,.int .u8 0] 23)):=by kernel_rfl
theorem dG (n:Nat) (W:World):(Instr.box 23 (.agg (ks n))).run zP W=.ok (.pointer (some ⟨W.heap.size,0,none⟩)) (W.alloc (.cells (ks n) 23)):=by kernel_rfl
theorem mI (g:Nat) (W:World):(Instr.indexAt 23 (.pointer (some ⟨g,0,none⟩)) (.int .i64 31)).run zP W=.ok (.pointer (some ⟨g,31,none⟩)) W:=by kernel_rfl
theorem uA {n x:Nat} (hx:n/256^31%256=x) {g:Nat} (W:World) (h:Blk W g 23 (ks n)):(Instr.loadAt 5 (.pointer (some ⟨g,31,none⟩))).run zP W=.ok (.int .u8 (x:Int)) W:=by
 have hc:=h.cell 31
 rw [dR n (by omega),hx] at hc
 go_simp
theorem st_key31 {n:Nat} {v:Int} {g:Nat} (W:World) (h:Blk W g 23 (ks n)):(Instr.storeAt 5 (.pointer (some ⟨g,31,none⟩)) (.int .u8 v)).run zP W=.ok () (W.setCells g 31 [.int .u8 v]):=by
 have hc:=h.cell 31
 have hf:=h.frozen 31
 rw [dR n (by omega)] at hc
 have hs:(W.cell? ⟨g,31,none⟩).isSome=true:=by rw [hc];rfl
 show _=Result.ok () (W.setCell ⟨g,31,none⟩ (.int .u8 v))
 go_simp
theorem sv_key31 {n m:Nat} {x:Nat} (hx:x<256) (hm:putd 256 n 31 x=m):setV (ks n) 31 [.int .u8 (x:Int)]=ks m:=by
 show (ks n).setIfInBounds 31 (.int .u8 (x:Int))=ks m
 rw [oA (by omega) hx,hm]
theorem and128 {x:Nat} (hx:x<256):bits .and .u8 (x:Int) 128=if 128≤x then 128 else 0:=by
 have h:∀ x:Fin 256,bits .and .u8 ((x.val:Nat):Int) 128=if 128≤x.val then 128 else 0:=by decide +kernel
 exact h ⟨x,hx⟩
theorem or128 {x:Nat} (hx:x<128):bits .or .u8 (x:Int) 128=((x+128:Nat):Int):=by
 have h:∀ x:Fin 128,bits .or .u8 ((x.val:Nat):Int) 128=((x.val+128:Nat):Int):=by decide +kernel
 exact h ⟨x,hx⟩
theorem andNot128 {x:Nat} (hx:x<256):bits .andNot .u8 (x:Int) 128=((x%128:Nat):Int):=by
 have h:∀ x:Fin 256,bits .andNot .u8 ((x.val:Nat):Int) 128=((x.val%128:Nat):Int):=by decide +kernel
 exact h ⟨x,hx⟩
theorem b_and128 {x y:Nat} (hx:x<256) (h:(if 128≤x then 128 else 0)=y) (p q:Operand) (W:World):(do eqGuard .and 5 p q (.int .u8 (x:Int)) (.int .u8 128);binOp .and 5 (.int .u8 (x:Int)) (.int .u8 128):Sem Value).run zP W=.ok (.int .u8 (y:Int)) W:=by
 have:=and128 hx
 have e:(if 128≤x then (128:Int) else 0)=(y:Int):=by
  subst h
  split<;>rfl
 rw [e] at this
 go_simp
theorem b_or128 {x y:Nat} (hx:x<128) (h:x+128=y) (p q:Operand) (W:World):(do eqGuard .or 5 p q (.int .u8 (x:Int)) (.int .u8 128);binOp .or 5 (.int .u8 (x:Int)) (.int .u8 128):Sem Value).run zP W=.ok (.int .u8 (y:Int)) W:=by
 have:=or128 hx
 rw [h] at this
 go_simp
theorem b_andNot128 {x y:Nat} (hx:x<256) (h:x%128=y) (p q:Operand) (W:World):(do eqGuard .andNot 5 p q (.int .u8 (x:Int)) (.int .u8 128);binOp .andNot 5 (.int .u8 (x:Int)) (.int .u8 128):Sem Value).run zP W=.ok (.int .u8 (y:Int)) W:=by
 have:=andNot128 hx
 rw [h] at this
 go_simp
theorem b_neq0 {y:Nat} {b:Bool} (h:decide (y≠0)=b) (p q:Operand) (W:World):(do eqGuard .neq 5 p q (.int .u8 (y:Int)) (.int .u8 0);binOp .neq 5 (.int .u8 (y:Int)) (.int .u8 0):Sem Value).run zP W=.ok (.bool b) W:=by
 have e:((y:Int) != 0)=b:=by
  rw [←h]
  by_cases hy:y=0
  ·
   subst hy;rfl
  ·
   have:¬ (y:Int)=0:=by omega
   simp [hy,this]
 go_simp
def fx (d:Fin PP) (s:L4 PP):Array Value:=ev d++sv s
theorem bY (d:Fin PP) (s:L4 PP):(fx d s).size=20:=by unfold fx;rw [Array.size_append,aU,aX]
end
section
set_option maxRecDepth 99999
open Go Go.RowKit
def BF (l:List UInt8) (v:Value) (w:World):Prop:=∃ A n c,v=.slice A n c∧BS w w.heap.size A n c l
def RF (L:List (List UInt8)) (v:Value) (w:World):Prop:=∃ A n c,v=.slice A n c∧RS w w.heap.size A n c L
structure PV (W:World) (B:Nat) (xs:List Value) (L:List (List UInt8)):Prop where
 len:xs.length=L.length
 at_:∀ (j:Nat) (l:List UInt8),L[j]?=some l→∃ Aj nj cj,xs[j]?=some (Value.slice Aj nj cj)∧BS W B Aj nj cj l
 one:∀ u∈xs,u.oneCell'=true
def LF (L:List (List UInt8)) (v:Value) (w:World):Prop:=∃ g xs,v=.slice (some ⟨g,0,none⟩) L.length L.length∧g<w.heap.size∧(∀ j u,xs[j]?=some u→w.cell? ⟨g,j,none⟩=some u)∧PV w w.heap.size xs L
theorem RS.more {w:World} {B B' n c:Nat} {A:Option Addr} {L:List (List UInt8)} (h:RS w B A n c L) (hB:B≤B'):RS w B' A n c L :=
 ⟨h.len,fun hn=>by
  obtain ⟨b,o,e,hb,hc⟩:=h.at_ hn
  refine ⟨b,o,e,by omega,fun j l hl=>?_⟩
  obtain ⟨Aj,nj,cj,h1,h2⟩:=hc j l hl
  exact ⟨Aj,nj,cj,h1,h2.more hB⟩⟩
theorem PV.nil (W:World) (B:Nat):PV W B [] []:=⟨rfl,(fun j l h=>by simp at h),(fun u h=>by cases h)⟩
theorem PV.keep {W W':World} {B:Nat} {xs:List Value} {L:List (List UInt8)} (h:PV W B xs L) (hk:∀ p:Addr,p.block<B→W'.cell? p=W.cell? p):PV W' B xs L :=
 ⟨h.len,fun j l hl=>by
  obtain ⟨Aj,nj,cj,h1,h2⟩:=h.at_ j l hl
  exact ⟨Aj,nj,cj,h1,h2.keep hk⟩,h.one⟩
theorem PV.below {W W':World} {B:Nat} {xs:List Value} {L:List (List UInt8)} (h:PV W B xs L) (hb:Below B W W'):PV W' B xs L:=h.keep fun _ hp=>hb.cell hp
theorem PV.more {W:World} {B B':Nat} {xs:List Value} {L:List (List UInt8)} (h:PV W B xs L) (hB:B≤B'):PV W B' xs L :=
 ⟨h.len,fun j l hl=>by
  obtain ⟨Aj,nj,cj,h1,h2⟩:=h.at_ j l hl
  exact ⟨Aj,nj,cj,h1,h2.more hB⟩,h.one⟩
theorem PV.cons {W:World} {B:Nat} {xs:List Value} {L:List (List UInt8)} (h:PV W B xs L) {A:Option Addr} {n c:Nat} {l:List UInt8} (hl:BS W B A n c l):PV W B (.slice A n c::xs) (l::L):=by
 refine ⟨by simp [h.len],fun j l' hj=>?_,fun u hu=>?_⟩
 ·
  cases j with
  | zero =>
   injection hj with hj
   subst hj
   exact ⟨A,n,c,rfl,hl⟩
  | succ j=>exact h.at_ j l' hj
 ·
  rcases List.mem_cons.1 hu with rfl | hu
  ·
   rfl
  ·
   exact h.one u hu
theorem PV.app {W:World} {B:Nat} {xs ys:List Value} {L M:List (List UInt8)} (h:PV W B xs L) (h':PV W B ys M):PV W B (xs++ys) (L++M):=by
 refine ⟨by simp [h.len,h'.len],fun j l hj=>?_,fun u hu=>?_⟩
 ·
  by_cases hlt:j<L.length
  ·
   rw [List.getElem?_append_left hlt] at hj
   obtain ⟨Aj,nj,cj,h1,h2⟩:=h.at_ j l hj
   exact ⟨Aj,nj,cj,by rw [List.getElem?_append_left (by rw [h.len];exact hlt)];exact h1,h2⟩
  ·
   rw [List.getElem?_append_right (by omega)] at hj
   obtain ⟨Aj,nj,cj,h1,h2⟩:=h'.at_ _ l hj
   exact ⟨Aj,nj,cj,by rw [List.getElem?_append_right (by rw [h.len];omega),h.len];exact h1,h2⟩
 ·
  rcases List.mem_append.1 hu with hu | hu
  ·
   exact h.one u hu
  ·
   exact h'.one u hu
section
variable {B:Nat} {h:Hep}
theorem BF.grow {l:List UInt8}:∀ (v:Value) (w w':World),BF l v w→Grow B h w w'→BF l v w':=fun v w w' ⟨A,n,c,e,h⟩ hb=>⟨A,n,c,e,(h.keep hb.cells).more hb.below.size⟩
theorem RF.grow {L:List (List UInt8)}:∀ (v:Value) (w w':World),RF L v w→Grow B h w w'→RF L v w':=fun v w w' ⟨A,n,c,e,h⟩ hb=>⟨A,n,c,e,(h.keep hb.cells).more hb.below.size⟩
theorem LF.grow {L:List (List UInt8)}:∀ (v:Value) (w w':World),LF L v w→Grow B h w w'→LF L v w':=fun v w w' ⟨g,xs,e,h1,h3,h2⟩ hb=>⟨g,xs,e,Nat.lt_of_lt_of_le h1 hb.below.size,fun j u hu=>(hb.cells _ h1).trans (h3 j u hu),(h2.keep hb.cells).more hb.below.size⟩
end
theorem BF.below {l:List UInt8} {v:Value} {w w':World} (hv:BF l v w) (hb:Below w.heap.size w w'):BF l v w':=BF.grow (B:=0) (h:=[]) _ _ _ hv (gro hb (Nat.zero_le _))
theorem RF.below {L:List (List UInt8)} {v:Value} {w w':World} (hv:RF L v w) (hb:Below w.heap.size w w'):RF L v w':=RF.grow (B:=0) (h:=[]) _ _ _ hv (gro hb (Nat.zero_le _))
theorem rs_row {w:World} {g B:Nat} {xs:List Value} {L:List (List UInt8)} (hb:∀ j u,xs[j]?=some u→w.cell? ⟨g,j,none⟩=some u) (hg:g<B) (hp:PV w B xs L) {n c:Nat} (hn:L.length=n):RS w B (some ⟨g,0,none⟩) n c L :=
 ⟨hn,fun _=>⟨g,0,rfl,hg,fun j l hl=>by
  obtain ⟨Aj,nj,cj,h1,h2⟩:=hp.at_ j l hl
  exact ⟨Aj,nj,cj,by rw [Nat.zero_add];exact hb j _ h1,h2⟩⟩⟩
theorem LF.rf {L:List (List UInt8)} {v:Value} {w:World} (h:LF L v w):RF L v w:=by
 obtain ⟨g,xs,e,h1,h3,h2⟩:=h
 exact ⟨_,_,_,e,rs_row h3 h1 h2 rfl⟩
theorem RF.nil (w:World):RF [] (.slice none 0 0) w:=⟨_,_,_,rfl,⟨rfl,fun h=>absurd h (by omega)⟩⟩
theorem BF.nil (w:World):BF [] (.slice none 0 0) w:=⟨_,_,_,rfl,BS.nil _ _⟩
theorem RS.pv {w:World} {B b o n c:Nat} {L:List (List UInt8)} (h:RS w B (some ⟨b,o,none⟩) n c L):∃ ys,PV w B ys L∧∀ j u,ys[j]?=some u→w.cell? ⟨b,o+j,none⟩=some u:=by
 have key:∀ (j:Nat) (l:List UInt8),L[j]?=some l→∃ Aj nj cj,w.cell? ⟨b,o+j,none⟩=some (.slice Aj nj cj)∧BS w B Aj nj cj l:=by
  intro j l hl
  have hn:0<n:=by have:=(List.getElem?_eq_some_iff.1 hl).1;have:=h.len;omega
  obtain ⟨b',o',e,hb,hc⟩:=h.at_ hn
  injection e with e
  injection e with e1 e2
  subst e1 e2
  exact hc j l hl
 have get:∀ j,j<L.length→((List.range L.length).map (fun j=>(w.cell? ⟨b,o+j,none⟩).getD undef))[j]?=some ((w.cell? ⟨b,o+j,none⟩).getD undef):=fun j hj=>by simp [hj]
 refine ⟨(List.range L.length).map (fun j=>(w.cell? ⟨b,o+j,none⟩).getD undef),⟨by simp,fun j l hl=>?_,fun u hu=>?_⟩,fun j u hu=>?_⟩
 ·
  obtain ⟨Aj,nj,cj,h1,h2⟩:=key j l hl
  refine ⟨Aj,nj,cj,?_,h2⟩
  rw [get j (List.getElem?_eq_some_iff.1 hl).1,h1]
  rfl
 ·
  obtain ⟨j,hj,rfl⟩:=List.mem_map.1 hu
  have hj:=List.mem_range.1 hj
  obtain ⟨Aj,nj,cj,h1,h2⟩:=key j L[j] (List.getElem?_eq_getElem hj)
  rw [h1]
  rfl
 ·
  have hj:j<L.length:=by
   have:=(List.getElem?_eq_some_iff.1 hu).1
   simpa using this
  obtain ⟨Aj,nj,cj,h1,h2⟩:=key j L[j] (List.getElem?_eq_getElem hj)
  rw [get j hj] at hu
  rw [←hu,h1]
  rfl
theorem info_rows:(zP.info? 24).map (fun i=>(i.zero,i.size,i.bytes))=some (some (.slice none 0 0),1,24):=by kernel_rfl
theorem Below.none_ {w w':World} (h:w.grownBy w' none):Below w.heap.size w w':=(Below.refl _ _).grown h (Nat.le_refl _) (fun g e=>by cases e)
theorem yE {w:World} (ty:TypeId) {L M:List (List UInt8)} {v u:Value} (hv:LF L v w) (hu:RF M u w) (hs:L.length+M.length≤1000000) :
  ∃ v' w',(Builtin.append_ #[51,51] ty #[v,u]).run zP w=.ok v' w'∧Below w.heap.size w w'∧RF (L++M) v' w':=by
 obtain ⟨i,hi,hz,hsz,hby⟩:=info_parts info_rows
 have hrf:=hv.rf
 obtain ⟨g,xs,rfl,hgl,hb,hp⟩:=hv
 obtain ⟨A,n,c,rfl,hr⟩:=hu
 have hxl:=hp.len
 by_cases hn:n=0
 ·
  subst hn
  obtain rfl:M=[]:=List.eq_nil_of_length_eq_zero hr.len
  refine ⟨_,w,?_,Below.refl _ _,by rw [List.append_nil];exact hrf⟩
  cases A<;>simp [Builtin.append_,run_underlying Tryz.underlying51,sizeOf,typeInfo,hi,Builtin.lenOf,Builtin.firstCells,storeCells,loadCells,loadCellsFrom]
 ·
  obtain ⟨b,o,rfl,hB,_⟩:=hr.at_ (by omega)
  obtain ⟨ys,hys,hyc⟩:=hr.pv
  have hyl:=hys.len
  have hml:=hr.len
  obtain ⟨v',w',h1,h2,h3⟩:=run_append_arg_grows (P:=zP) w 51 ty 24 i _ 1 24 Tryz.underlying51 hi hz hsz hby rfl (by omega) ⟨g,0,none⟩ L.length L.length xs (by omega) (fun j u hu=>by
    rw [Addr.add_lit,Nat.zero_add]
    exact hb j u hu) ⟨b,o,none⟩ n c ys (by omega) (fun j u hu=>by
    rw [Addr.add_lit]
    exact hyc j u hu) (by omega) (by simp only [maxLen];omega) (by omega)
  have hbel:=Below.none_ h3
  refine ⟨v',w',h1,hbel,?_⟩
  have hpv:PV w' w'.heap.size (xs++ys) (L++M):=((hp.app hys).below hbel).more hbel.size
  have hlt:=World.ownsRow.lt h2
  rcases h2.2 with ⟨rfl,h0⟩ | ⟨g',cap,cur,rfl,hbb,hh,hc,hm,hcs,ht⟩
  ·
   omega
  ·
   refine ⟨_,_,_,rfl,rs_row (g:=g') (fun j u hu=>?_) (hlt g' rfl).2 hpv (by rw [List.length_append];omega)⟩
   have:=World.ownsRow.cells h2 (g:=g') rfl j u hu
   rw [Addr.add_lit,Nat.zero_add] at this
   exact this
section
variable {n:Nat} {w0 w w':World} {a:Act} {e:Env} {h:Hep} {Q:Exit→Act→World→Prop} {ops:Array Oper} {o:Oper}
theorem wM {x y:Operand} {v u:Value} {L M:List (List UInt8)} (H:St n w0 a w e h) (hw:∀ a w,St n w0 a w e h→Region.wanted o (yielded ops a.tmps)=true) (ho:o.op=.call { callee:=.builtin .append,args:=#[x,y],argTypes:=#[51,51] })
  (hx:sev e x=some v) (hy:sev e y=some u) (hv:LF L v w) (hu:RF M u w) (hs:L.length+M.length≤1000000):Ob zP ops Q w0.heap.size h o a w (RF (L++M)):=by
 refine tN H hw ?_
 obtain ⟨v',w',h1,h2,h3⟩:=yE (w:=w) o.type hv hu hs
 refine ⟨v',w',?_,gro h2 H.below.size,h3⟩
 simp [execOp,ho,resolve,invoke,builtin,H.ev hx,H.ev hy,h1,Result.andThen]
theorem wD (w:World) (A:Option Addr) (n c:Nat):(Instr.buildSlice 51 1 #[(0,.slice A n c)]).run zP w=.ok (.slice (some ⟨w.heap.size,0,none⟩) 1 1) (w.alloc (.cells #[.slice A n c] 24)):=by kernel_rfl
theorem wC (w:World) (A:Option Addr) (n c:Nat) (A2:Option Addr) (n2 c2:Nat):(Instr.buildSlice 51 2 #[(0,.slice A n c),(1,.slice A2 n2 c2)]).run zP w=.ok (.slice (some ⟨w.heap.size,0,none⟩) 2 2) (w.alloc (.cells #[.slice A n c,.slice A2 n2 c2] 24)):=by kernel_rfl
theorem run_rows3 (w:World) (A:Option Addr) (n c:Nat) (A2:Option Addr) (n2 c2:Nat) (A3:Option Addr) (n3 c3:Nat):(Instr.buildSlice 51 3 #[(0,.slice A n c),(1,.slice A2 n2 c2),(2,.slice A3 n3 c3)]).run zP w=.ok (.slice (some ⟨w.heap.size,0,none⟩) 3 3) (w.alloc (.cells #[.slice A n c,.slice A2 n2 c2,.slice A3 n3 c3] 24)):=by kernel_rfl
theorem tY {w:World} {xs:List Value} {L:List (List UInt8)} (hp:PV w w.heap.size xs L) {k:Nat} (hk:L.length=k):Below w.heap.size w (w.alloc (.cells xs.toArray 24))∧LF L (.slice (some ⟨w.heap.size,0,none⟩) k k) (w.alloc (.cells xs.toArray 24)):=by
 subst hk
 have hb:Below w.heap.size w (w.alloc (.cells xs.toArray 24)):=(Below.refl _ _).alloc (Nat.le_refl _) _
 have hn:Blk (w.alloc (.cells xs.toArray 24)) w.heap.size 24 xs.toArray:=Blk.new _ _ _
 exact ⟨hb,_,xs,rfl,hn.lt,fun j u hu=>by rw [hn.cell];simpa using hu,(hp.below hb).more hb.size⟩
theorem iR {x:Operand} {v:Value} {l:List UInt8} (H:St n w0 a w e h) (hw:∀ a w,St n w0 a w e h→Region.wanted o (yielded ops a.tmps)=true) (ho:o.op=.buildSlice 51 1 #[(0,x)]) (hx:sev e x=some v) (hv:BF l v w) :
  Ob zP ops Q w0.heap.size h o a w (LF [l]):=by
 refine tN H hw ?_
 obtain ⟨A,k,c,rfl,hb⟩:=hv
 obtain ⟨h1,h2⟩:=tY ((PV.nil w w.heap.size).cons hb) (k:=1) rfl
 refine ⟨_,_,?_,gro h1 H.below.size,h2⟩
 simp [execOp,ho,H.ev hx,wD,Result.andThen]
theorem ob_rows2 {x y:Operand} {v u:Value} {l m:List UInt8} (H:St n w0 a w e h) (hw:∀ a w,St n w0 a w e h→Region.wanted o (yielded ops a.tmps)=true) (ho:o.op=.buildSlice 51 2 #[(0,x),(1,y)]) (hx:sev e x=some v) (hy:sev e y=some u) (hv:BF l v w) (hu:BF m u w) :
  Ob zP ops Q w0.heap.size h o a w (LF [l,m]):=by
 refine tN H hw ?_
 obtain ⟨A,k,c,rfl,hb⟩:=hv
 obtain ⟨A2,k2,c2,rfl,hb2⟩:=hu
 obtain ⟨h1,h2⟩:=tY (((PV.nil w w.heap.size).cons hb2).cons hb) (k:=2) rfl
 refine ⟨_,_,?_,gro h1 H.below.size,h2⟩
 simp [execOp,ho,H.ev hx,H.ev hy,wC,Result.andThen]
def MF (B:Nat) (h:Hep) (l:List UInt8) (v:Value) (w:World):Prop:=∃ g fr,v=.slice (some ⟨g,0,none⟩) l.length l.length∧B≤g∧(∀ x∈h,x.1≠g)∧w.heap[g]?=some (.cells (bvs l) 5 fr)
theorem MF.grow {B B':Nat} {h:Hep} {l:List UInt8}:∀ (v:Value) (w w':World),MF B h l v w→Grow B' h w w'→MF B h l v w':=fun v w w' ⟨g,fr,e,h1,h2,h3⟩ hb=>by
 obtain ⟨fr',h4⟩:=hb.objs _ _ _ _ h3
 exact ⟨g,fr',e,h1,h2,h4⟩
theorem run_byte1 (w:World):(Instr.buildSlice 24 1 #[(0,.int .u8 109)]).run zP w=.ok (.slice (some ⟨w.heap.size,0,none⟩) 1 1) (w.alloc (.cells (bvs [109]) 5)):=by kernel_rfl
theorem tR (H:St n w0 a w e h) (hw:∀ a w,St n w0 a w e h→Region.wanted o (yielded ops a.tmps)=true) (ho:o.op=.buildSlice 24 1 #[(0,.const (.int .u8 109))]) :
  Ob zP ops Q w0.heap.size h o a w (MF w0.heap.size h [109]):=by
 refine tN H hw ⟨.slice (some ⟨w.heap.size,0,none⟩) 1 1,w.alloc (.cells (bvs [109]) 5),?_,gro ((Below.refl _ _).alloc (Nat.le_refl _) _) H.below.size,w.heap.size,(0,0),rfl,H.below.size,fun p hp=>Nat.ne_of_lt (H.heap p hp).lt,Blk.new _ _ _⟩
 simp [execOp,ho,Act.eval,run_byte1,Result.andThen]
theorem freeze_cell (w:World) (a:Addr) (n:Nat) (p:Addr):(w.freeze a n).cell? p=w.cell? p:=by
 unfold World.freeze
 split
 ·
  rfl
 ·
  unfold World.cell?
  dsimp only
  rw [Array.getElem?_modify]
  by_cases hk:a.block=p.block
  ·
   rw [if_pos hk]
   cases hg:w.heap[p.block]? with
   | none=>rfl
   | some o=>cases o<;>rfl
  ·
   rw [if_neg hk]
theorem rH (w:World) (a:Addr) (n k:Nat) (hk:a.block≠k):(w.freeze a n).heap[k]?=w.heap[k]?:=by
 unfold World.freeze
 split
 ·
  rfl
 ·
  dsimp only
  rw [Array.getElem?_modify,if_neg hk]
theorem freeze_objs (w:World) (a:Addr) (n g:Nat) (C:Array Value) (t:TypeId) (fr:Nat × Nat) (hg:w.heap[g]?=some (.cells C t fr)):∃ fr',(w.freeze a n).heap[g]?=some (.cells C t fr'):=by
 unfold World.freeze
 split
 ·
  exact ⟨fr,hg⟩
 ·
  dsimp only
  rw [Array.getElem?_modify,hg]
  split
  ·
   obtain ⟨lo,hi⟩:=fr
   exact ⟨_,rfl⟩
  ·
   exact ⟨fr,rfl⟩
theorem freeze_grow {B:Nat} {h:Hep} (w:World) (a:Addr) (n:Nat) (hB:B≤a.block) (hh:∀ x∈h,x.1≠a.block):Grow B h w (w.freeze a n):=by
 have hs:(w.freeze a n).heap.size=w.heap.size:=by
  unfold World.freeze
  split
  ·
   rfl
  ·
   simp
 refine ⟨⟨?_,?_,?_,by omega,fun k hk=>rH w a n k (by omega)⟩,fun p _=>freeze_cell w a n p,freeze_objs w a n,fun x hx _=>rH w a n x.1 (Ne.symm (hh x hx))⟩
 all_goals
  unfold World.freeze
  split<;>rfl
theorem run_mark {g k c:Nat} {C:Array Value} {t:TypeId} {fr:Nat × Nat} (hg:w.heap[g]?=some (.cells C t fr)):(convert 24 24 (.slice (some ⟨g,0,none⟩) k c)).run zP w=.ok (.slice (some ⟨g,0,none⟩) k c) (w.freeze ⟨g,C.size,none⟩ 1):=by
 have hsh:w.shape? g=some (t,C.size):=by unfold World.shape?;rw [hg]
 simp [convert,run_underlying Tryz.underlying24,run_underlying Tryz.underlying5,markStringish,hsh]
theorem yR {x:Operand} {v:Value} {l:List UInt8} (H:St n w0 a w e h) (hw:∀ a w,St n w0 a w e h→Region.wanted o (yielded ops a.tmps)=true) (ho:o.op=.convert 24 24 x) (hx:sev e x=some v) (hv:MF w0.heap.size h l v w) :
  Ob zP ops Q w0.heap.size h o a w (BF l):=by
 refine tN H hw ?_
 obtain ⟨g,fr,rfl,hB,hh,hg⟩:=hv
 have hgr:=freeze_grow (h:=h) w ⟨g,(bvs l).size,none⟩ 1 hB hh
 obtain ⟨fr',hg'⟩:=hgr.objs _ _ _ _ hg
 refine ⟨.slice (some ⟨g,0,none⟩) l.length l.length,w.freeze ⟨g,(bvs l).size,none⟩ 1,?_,hgr,_,_,_,rfl,rfl,Nat.le_refl _,(by intro e;cases e),fun _=>⟨g,0,rfl,(Array.getElem?_eq_some_iff.1 hg').1,fun j x hx=>?_⟩⟩
 ·
  simp [execOp,ho,H.ev hx,run_mark hg,Result.andThen]
 ·
  rw [Nat.zero_add,cell_of_row _ g j (bvs l) 5 fr' hg',bvs_get,hx]
  rfl
theorem lR {g k:Nat} (hb:Blk w g 23 (ks k)):BF (kby k) (.slice (some ⟨g,0,none⟩) 32 32) w:=by
 rw [ks_kby] at hb
 exact ⟨_,_,_,rfl,BS.ofBlk hb 32 (fK k).symm _ hb.lt⟩
theorem tB {L:List (List UInt8)} {v:Value} (hm:RF L v w0) (H:St n w0 a w e h):RF L v w:=RF.grow (B:=0) (h:=[]) _ _ _ hm (gro H.below (Nat.zero_le _))
theorem dH {l:List UInt8} {v:Value} (hm:BF l v w0) (H:St n w0 a w e h):BF l v w:=BF.grow (B:=0) (h:=[]) _ _ _ hm (gro H.below (Nat.zero_le _))
end
end
end Go.Proofs.YtpagiffbjofihaaGreatDoor
