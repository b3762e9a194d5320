/- Words, contracts and walks (Prime, Fp, Ed, Ld, Lx, Et, Er, Words, Fe, Fs, Ft, Fa, Fm, Eqs, Fq, Fr, Fk, Fb, Fo, Fw, Fsw, Fz, Eb, Eo, Dg, Rd, Rl, Rn, Sl, Sr, Sh, St, Se, Sk, Sb, Sp, Sm, Sn, Sq), laid together. No condition. -/
import Derived.WalkKit
import Derived.WalkSpells
import Derived.Deep.Draws
import Derived.Laws.BytesArg
import Derived.Maps.AppendAt
import Derived.Test.YtpagiffbjofihaaGreatDoorRows
import Derived.WalkLawsBesides
import Derived.Lib.Hide
import Derived.Lib.Mul64
import Derived.Laws.Bits64b
import Derived.Laws.BitsAllLaws
import Derived.Shelf.Bits.Mul64
import Derived.Shelf.Spec.BitsCarry
import Derived.Outline
import Derived.Laws.CopyOwn
import Derived.Stop.BytesEq
import Derived.Laws.StructEq
import Derived.Deep.RegionHeld3
import Derived.RegionTactic
import Derived.ChangeAlike
import Derived.Laws.ShiftsVarLaws
import Derived.Deep.RegionLaw
import Derived.Deep.RegionWith
import Derived.Deep.DeepCutAuto
import Derived.Deep.CutBlock
import Derived.OrdersHeld
import Derived.Great.Walk
namespace Go.Proofs.YtpagiffbjofihaaGreatDoor
set_option linter.unusedVariables false
set_option linter.unusedSimpArgs false
set_option maxHeartbeats 16000000
open Go
open _root_.Go.Proofs.Tryz renaming prog → zP
open List renaming getElem_toArray → lA,getElem_cons_succ → lB,getElem_cons_zero → lC,setIfInBounds_toArray → lD,set_cons_zero → lE,set_cons_succ → lF
section
variable {P : Program} {md : Region.Mode} {ops : Array Oper} {Q : Exit → Act → World → Prop} {S : World → Prop} {oi : Oper} {v : Value} {fuel : Nat} {listed : Array Bool} {a : Act} {w : World}
abbrev pA (g : Nat) : Value := .pointer (some ⟨g,0,none⟩)
abbrev K256 (n : Nat) : Prop := n < 115792089237316195423570985008687907853269984665640564039457584007913129639936
/-- An operation of a drawn region that may be taken first. -/
theorem tk (i : Nat) (hS : S w) (h : wpAnyH P md ops Q S fuel (listed.setIfInBounds i true) (a.put oi.dst v) w) (hi : ops[i]? = some oi := by rfl) (hs : Region.noSelect ops = true := by kernel_rfl) (hf : Region.free md ops listed i = true := by kernel_rfl) (hr : (Region.ready md ops listed).contains i = true := by kernel_rfl)
    (hQ : ∀ c a w, Q (.panic c) (a.put oi.dst v) w → Q (.panic c) a w := by exact fun _ _ _ h => h) (hy : YieldsIf P ops S oi v a := by exact Or.inl ⟨by rfl, by (intro W hSw; (try dsimp only at hSw); (try simp only [lA,lB,lC]); go_simp; try with_reducible rfl)⟩) : wpAnyH P md ops Q S (fuel + 1) listed a w := wpAnyH_take hi hs hf hr hQ hy hS h
end
section
def choose:Nat→Nat→Nat
 | _,0=>1
 | 0,_+1=>0
 | n+1,k+1=>choose n k+choose n (k+1)
theorem pT (n:Nat):choose n 0=1:=by cases n<;>rfl
theorem kK (n k:Nat):choose (n+1) (k+1)=choose n k+choose n (k+1):=rfl
theorem nK:∀ n k:Nat,n<k→choose n k=0
 | 0,0,h=>absurd h (by omega)
 | 0,_+1,_=>rfl
 | _+1,0,h=>absurd h (by omega)
 | n+1,k+1,h=>by rw [kK,nK n k (by omega),nK n (k+1) (by omega)]
theorem lL:∀ n k:Nat,(n+1)*choose n k=choose (n+1) (k+1)*(k+1)
 | 0,0=>rfl
 | 0,k+1=>by simp [choose]
 | n+1,0=>by simp [choose,pT];have:=lL n 0;simp [choose,pT] at this;omega
 | n+1,k+1=>by
  have h1:=lL n k
  have h2:=lL n (k+1)
  rw [kK (n+1) (k+1)]
  rw [Nat.add_mul (choose (n+1) (k+1)),←h2]
  have e:choose (n+1) (k+1)*(k+1+1)=choose (n+1) (k+1)*(k+1)+choose (n+1) (k+1):=by rw [Nat.mul_add (choose (n+1) (k+1)) (k+1) 1,Nat.mul_one]
  rw [e,←h1]
  rw [Nat.add_mul (n+1) 1,Nat.one_mul,kK n k,Nat.mul_add]
  omega
theorem rJ:∀ n:Nat,choose n n=1
 | 0=>rfl
 | n+1=>by rw [kK,rJ n,nK n (n+1) (by omega)]
def bsum (x n:Nat):Nat→Nat
 | 0=>0
 | m+1=>bsum x n m+choose n m*x^m
theorem bsum_s (x n m:Nat):bsum x (n+1) (m+1)=x*bsum x n m+bsum x n (m+1):=by
 induction m with
 | zero=>simp [bsum,pT]
 | succ m ih =>
  show bsum x (n+1) (m+1)+choose (n+1) (m+1)*x^(m+1)=x*(bsum x n m+choose n m*x^m)+(bsum x n (m+1)+choose n (m+1)*x^(m+1))
  rw [ih,kK,Nat.add_mul,Nat.mul_add]
  have:x*(choose n m*x^m)=choose n m*x^(m+1):=by rw [Nat.pow_succ,Nat.mul_left_comm,Nat.mul_comm x]
  rw [this]
  omega
theorem binom (x n:Nat):(x+1)^n=bsum x n (n+1):=by
 induction n with
 | zero=>simp [bsum,choose]
 | succ n ih =>
  rw [bsum_s]
  show _=x*bsum x n (n+1)+(bsum x n (n+1)+choose n (n+1)*x^(n+1))
  rw [nK n (n+1) (by omega),Nat.zero_mul,Nat.add_zero,Nat.pow_succ,ih,Nat.mul_add,Nat.mul_one,Nat.mul_comm];rfl
def IsPrime (p:Nat):Prop:=2≤p∧∀ m,m ∣ p→m=1∨m=p
theorem IsPrime.coprime {p a:Nat} (h:IsPrime p) (ha:¬ p ∣ a):Nat.gcd p a=1:=by
 rcases h.2 _ (Nat.gcd_dvd_left p a) with e | e
 ·
  exact e
 ·
  exact absurd (e ▸ Nat.gcd_dvd_right p a) ha
theorem IsPrime.euclid {p a b:Nat} (h:IsPrime p) (hd:p ∣ a*b):p ∣ a∨p ∣ b:=by
 by_cases ha:p ∣ a
 ·
  exact .inl ha
 ·
  exact .inr (Nat.Coprime.dvd_of_dvd_mul_left (h.coprime ha) hd)
theorem choose_dvd {p k:Nat} (h:IsPrime p) (h1:0<k) (h2:k<p):p ∣ choose p k:=by
 obtain ⟨p',rfl⟩:∃ p',p=p'+1:=⟨p-1,by omega⟩
 obtain ⟨k',rfl⟩:∃ k',k=k'+1:=⟨k-1,by omega⟩
 have hd:p'+1 ∣ choose (p'+1) (k'+1)*(k'+1):=⟨_,(lL p' k').symm⟩
 rcases h.euclid hd with hd | hd
 ·
  exact hd
 ·
  exact absurd (Nat.le_of_dvd (by omega) hd) (by omega)
theorem bsum_mod {p:Nat} (h:IsPrime p) (x m:Nat) (hm:m+1≤p):bsum x p (m+1)%p=1%p:=by
 induction m with
 | zero=>simp [bsum,pT]
 | succ m ih =>
  show (bsum x p (m+1)+choose p (m+1)*x^(m+1))%p=_
  obtain ⟨c,hc⟩:=choose_dvd h (show 0<m+1 by omega) (by omega)
  rw [hc,Nat.mul_assoc,Nat.add_mul_mod_self_left,ih (by omega)]
theorem fermat {p:Nat} (h:IsPrime p) (x:Nat):x^p%p=x%p:=by
 induction x with
 | zero=>rw [Nat.zero_pow (by have:=h.1;omega)]
 | succ x ih =>
  have e:bsum x p (p+1)=bsum x p p+choose p p*x^p:=rfl
  obtain ⟨q,hq⟩:∃ q,p=q+1:=⟨p-1,by have:=h.1;omega⟩
  have hb:bsum x p p%p=1%p:=by
   have:=bsum_mod h x q (by omega)
   rw [←hq] at this
   exact this
  rw [binom,e,rJ,Nat.one_mul,Nat.add_mod,hb,ih,←Nat.add_mod,Nat.add_comm]
theorem sK {a b p:Nat} (h:a%p=b%p) (hab:b≤a):p ∣ a-b:=by
 have h1:=Nat.div_add_mod a p
 have h2:=Nat.div_add_mod b p
 rw [h] at h1
 have h3:p*(b/p)≤p*(a/p):=by omega
 refine ⟨a/p-b/p,?_⟩
 rw [Nat.mul_sub]
 omega
theorem fermat1 {p:Nat} (h:IsPrime p) (x:Nat) (hx:¬ p ∣ x):x^(p-1)%p=1:=by
 have h2:=h.1
 have hx0:0<x:=Nat.pos_of_ne_zero fun e=>hx (e ▸ Nat.dvd_zero p)
 have hp:0<x^(p-1):=Nat.pow_pos hx0
 have h3:=fermat h x
 have e:x^p=x*x^(p-1):=by
  have:p=(p-1)+1:=by omega
  rw (occs:=.pos [1]) [this]
  rw [Nat.pow_succ,Nat.mul_comm]
 have h4:p ∣ x*(x^(p-1)-1):=by
  rw [Nat.mul_sub,Nat.mul_one,←e]
  refine sK h3 ?_
  rw [e]
  exact Nat.le_mul_of_pos_right _ hp
 rcases h.euclid h4 with h5 | h5
 ·
  exact absurd h5 hx
 ·
  obtain ⟨c,hc⟩:=h5
  have:x^(p-1)=1+p*c:=by omega
  rw [this,Nat.add_mul_mod_self_left]
  exact Nat.mod_eq_of_lt (by omega)
theorem pow_gcd {b r:Nat} (hr:1<r):∀ m n:Nat,b^m%r=1→b^n%r=1→b^(Nat.gcd m n)%r=1:=by
 intro m n
 induction m,n using Nat.gcd.induction with
 | H0 n=>intro _ h;simpa using h
 | H1 m n hm ih =>
  intro h1 h2
  rw [Nat.gcd_rec]
  refine ih ?_ h1
  have e:b^n=b^(m*(n/m))*b^(n%m):=by rw [←Nat.pow_add,Nat.div_add_mod]
  rw [e,Nat.mul_mod,Nat.pow_mul,Nat.pow_mod (b^m),h1,Nat.one_pow,Nat.mod_eq_of_lt hr,Nat.one_mul,Nat.mod_mod] at h2
  exact h2
theorem mF (n:Nat) (h2:2≤n) (hn:¬ IsPrime n):∃ r,IsPrime r∧r ∣ n∧r*r≤n:=by
 have hex:∃ m,2≤m∧m ∣ n∧m<n:=by
  apply Classical.byContradiction
  intro hc
  apply hn
  refine ⟨h2,fun m hm=>?_⟩
  have h0:0<m:=Nat.pos_of_dvd_of_pos hm (by omega)
  have h1:=Nat.le_of_dvd (by omega) hm
  apply Classical.byContradiction
  intro h3
  exact hc ⟨m,by omega,hm,by omega⟩
 -- the least such m
 have least:∀ k m:Nat,m≤k→2≤m→m ∣ n→m<n→∃ r,2≤r∧r ∣ n∧r<n∧∀ s,2≤s→s<r→¬ s ∣ n:=by
  intro k
  induction k with
  | zero=>intro m h1 h2;omega
  | succ k ih =>
   intro m hk hm hd hlt
   by_cases hs:∃ s,2≤s∧s<m∧s ∣ n
   ·
    obtain ⟨s,a,b,c⟩:=hs
    exact ih s (by omega) a c (by omega)
   ·
    exact ⟨m,hm,hd,hlt,fun s a b c=>hs ⟨s,a,b,c⟩⟩
 obtain ⟨m,a,b,c⟩:=hex
 obtain ⟨r,h3,hd,h4,h5⟩:=least m m (Nat.le_refl _) a b c
 refine ⟨r,⟨h3,fun s hs=>?_⟩,hd,?_⟩
 ·
  have h0:0<s:=Nat.pos_of_dvd_of_pos hs (by omega)
  have h1:=Nat.le_of_dvd (by omega) hs
  apply Classical.byContradiction
  intro h6
  exact h5 s (by omega) (by omega) (Nat.dvd_trans hs hd)
 ·
  obtain ⟨t,ht⟩:=hd
  have ht2:2≤t:=by
   rcases t with _ | _ | t
   ·
    omega
   ·
    omega
   ·
    omega
  have:r≤t:=by
   apply Classical.byContradiction
   intro h6
   exact h5 t ht2 (by omega) ⟨r,by rw [ht,Nat.mul_comm]⟩
  rw [ht]
  exact Nat.mul_le_mul_left r this
def powm (n:Nat):Nat→Nat→Nat→Nat
 | 0,_,_=>1%n
 | f+1,a,e=>if e=0 then 1%n else if e%2=1 then a*powm n f (a*a%n) (e/2)%n else powm n f (a*a%n) (e/2)
theorem oX (n:Nat):∀ f a e:Nat,e<2^f→powm n f a e=a^e%n
 | 0,a,e,h=>by
  obtain rfl:e=0:=by simp at h;exact h
  rfl
 | f+1,a,e,h=>by
  have ih:=oX n f (a*a%n) (e/2) (by rw [Nat.pow_succ] at h;omega)
  have e2:(a*a)^(e/2)=a^(2*(e/2)):=by rw [←Nat.pow_two,←Nat.pow_mul]
  unfold powm
  split
  ·
   rename_i h0;subst h0;rfl
  ·
   split
   ·
    rename_i _ h1
    rw [ih,←Nat.pow_mod,e2,Nat.mul_mod,Nat.mod_mod,←Nat.mul_mod]
    have:e=2*(e/2)+1:=by omega
    rw (occs:=.pos [2]) [this]
    rw [Nat.pow_succ,Nat.mul_comm]
   ·
    rename_i _ h1
    rw [ih,←Nat.pow_mod,e2]
    have:e=2*(e/2):=by omega
    rw [←this]
def poc (n a q:Nat):Bool:=decide (n<2^300)&&decide (2≤q)&&decide ((n-1)%q=0)&&decide (powm n 300 a (n-1)=1)&&decide (Nat.gcd (powm n 300 a ((n-1)/q)+n-1) n=1)
theorem yL {n a q r:Nat} (hn:2≤n) (h:poc n a q=true) (hq:IsPrime q) (hr:IsPrime r) (hd:r ∣ n):q ∣ r-1:=by
 simp only [poc,Bool.and_eq_true,decide_eq_true_eq] at h
 obtain ⟨⟨⟨⟨h1,h2⟩,h3⟩,h4⟩,h5⟩:=h
 have hr2:=hr.1
 have hlt:(n-1)/q<2^300:=Nat.lt_of_le_of_lt (Nat.div_le_self _ _) (by omega)
 rw [oX n 300 a _ (by omega)] at h4
 rw [oX n 300 a _ hlt] at h5
 obtain ⟨R,hR⟩:=Nat.dvd_of_mod_eq_zero h3
 have hdiv:(n-1)/q=R:=by rw [hR];exact Nat.mul_div_cancel_left R (by omega)
 rw [hdiv] at h5
 have hmod:∀ x:Nat,x%n%r=x%r:=fun x=>Nat.mod_mod_of_dvd x hd
 have hq1:(a^R)^q%r=1:=by
  rw [←Nat.pow_mul,Nat.mul_comm R q,←hR,←hmod,h4]
  exact Nat.mod_eq_of_lt (by omega)
 have hne:a^R%r≠1:=by
  intro e
  have hdv:r ∣ a^R%n+n-1:=by
   obtain ⟨c,hc⟩:=hd
   have e1:a^R%n%r=1:=by rw [hmod];exact e
   have e2:=Nat.div_add_mod (a^R%n) r
   rw [e1] at e2
   refine ⟨a^R%n/r+c,?_⟩
   rw [Nat.mul_add,←hc]
   omega
  have:=Nat.dvd_gcd hdv hd
  rw [h5] at this
  have:=Nat.le_of_dvd (by omega) this
  omega
 have hnd:¬ r ∣ a^R:=by
  intro hc
  have:r ∣ (a^R)^q:=Nat.dvd_trans hc (⟨(a^R)^(q-1),by rw [←Nat.pow_succ'];congr 1;omega⟩)
  have:=Nat.mod_eq_zero_of_dvd this
  omega
 have hf:=fermat1 hr (a^R) hnd
 apply Classical.byContradiction
 intro hc
 have hg:=pow_gcd (b:=a^R) (r:=r) (by omega) q (r-1) hq1 hf
 rw [hq.coprime hc,Nat.pow_one] at hg
 exact hne hg
theorem poc1 {n a q:Nat} (hn:2≤n) (h:poc n a q=true) (hq:IsPrime q) (hb:n<q*q):IsPrime n:=by
 apply Classical.byContradiction
 intro hc
 obtain ⟨r,h1,h2,h3⟩:=mF n hn hc
 have hd:=yL hn h hq h1 h2
 have:=h1.1
 have hl:=Nat.le_of_dvd (by omega) hd
 have:=Nat.mul_le_mul (show q≤r by omega) (show q≤r by omega)
 omega
theorem poc2 {n a q s:Nat} (hn:2≤n) (h:poc n a q=true) (h':poc n a s=true) (hq:IsPrime q) (hs:IsPrime s) (hqs:Nat.gcd q s=1) (hb:n<(q*s)*(q*s)):IsPrime n:=by
 apply Classical.byContradiction
 intro hc
 obtain ⟨r,h1,h2,h3⟩:=mF n hn hc
 have hd:=Nat.Coprime.mul_dvd_of_dvd_of_dvd hqs (yL hn h hq h1 h2) (yL hn h' hs h1 h2)
 have:=h1.1
 have hl:=Nat.le_of_dvd (by omega) hd
 have:=Nat.mul_le_mul (show q*s≤r by omega) (show q*s≤r by omega)
 omega
def noDiv (n:Nat):Nat→Bool
 | 0=>true
 | k+1=>(decide (k<2) || decide (n%k≠0))&&noDiv n k
theorem noDiv_ok {n:Nat}:∀ k:Nat,noDiv n k=true→∀ m,2≤m→m<k→¬ m ∣ n
 | 0,_,m,_,h=>absurd h (by omega)
 | k+1,h,m,h2,hm=>by
  simp only [noDiv,Bool.and_eq_true,Bool.or_eq_true,decide_eq_true_eq] at h
  by_cases e:m=k
  ·
   subst e
   intro hd
   have:=Nat.mod_eq_zero_of_dvd hd
   omega
  ·
   exact noDiv_ok k h.2 m h2 (by omega)
theorem trial {n:Nat} (k:Nat) (h2:2≤n) (h:noDiv n k=true) (hk:n<k*k):IsPrime n:=by
 apply Classical.byContradiction
 intro hc
 obtain ⟨r,h1,hd,h3⟩:=mF n h2 hc
 have:r<k:=by
  apply Classical.byContradiction
  intro h4
  have:=Nat.mul_le_mul (show k≤r by omega) (show k≤r by omega)
  omega
 exact noDiv_ok k h r h1.1 this hd
theorem pr127:IsPrime 127:=trial 12 (by decide) (by decide +kernel) (by decide)
theorem pr75707:IsPrime 75707:=trial 276 (by decide) (by decide +kernel) (by decide)
theorem pr1923133:IsPrime 1923133:=trial 1387 (by decide) (by decide +kernel) (by decide)
theorem pr8574133:IsPrime 8574133:=trial 2929 (by decide) (by decide +kernel) (by decide)
theorem prQ3:IsPrime 1919519569386763:=poc2 (a:=2) (by decide) (by decide +kernel) (by decide +kernel) pr8574133 pr127 (by decide +kernel) (by decide +kernel)
theorem prQ2:IsPrime 75445702479781427272750846543864801:=poc2 (a:=2) (by decide) (by decide +kernel) (by decide +kernel) prQ3 pr75707 (by decide +kernel) (by decide +kernel)
theorem prQ1:IsPrime 74058212732561358302231226437062788676166966415465897661863160754340907:=poc2 (a:=2) (by decide) (by decide +kernel) (by decide +kernel) prQ2 pr1923133 (by decide +kernel) (by decide +kernel)
theorem prP:IsPrime 57896044618658097711785492504343953926634992332820282019728792003956564819949:=poc1 (a:=2) (by decide) (by decide +kernel) prQ1 (by decide +kernel)
end
section
theorem neg_even {n m:Nat} (ho:m%2=1) (h:n%2=1) (hl:n<m):(m-n)%m%2=0:=by
 have h1:m-n<m:=by clear ho;omega
 have h2:(m-n)%2=0:=by clear h1;omega
 rw [Nat.mod_eq_of_lt h1]
 exact h2
theorem yT {n:Nat} (h:¬ n%2=1):n%2=0:=by omega
def evenOf {p:Nat} (r:Fin p):Fin p:=if r.val%2=1 then -r else r
theorem evenOf_even {p:Nat} (r:Fin p) (ho:p%2=1):(evenOf r).val%2=0:=by
 unfold evenOf
 split
 ·
  rename_i h
  rw [Fin.val_neg']
  exact neg_even ho h r.isLt
 ·
  rename_i h
  exact yT h
section
variable {p:Nat} [NeZero p]
theorem fE (a:Fin p):a^0=1:=by grind
theorem dM (a:Fin p) (k:Nat):a^(k+1)=a^k*a:=by grind
theorem jH (a b:Fin p):a*b=b*a:=by grind
theorem oF (a:Fin p):a*1=a:=by grind
theorem iT (a:Fin p) (m n:Nat):a^(m+n)=a^m*a^n:=by
 induction n with
 | zero=>rw [Nat.add_zero,fE,oF]
 | succ n ih=>rw [←Nat.add_assoc,dM,dM,ih];grind
theorem fq_one_pow (n:Nat):(1:Fin p)^n=1:=by
 induction n with
 | zero=>rw [fE]
 | succ n ih=>rw [dM,ih,oF]
theorem oE (a b:Fin p) (n:Nat):(a*b)^n=a^n*b^n:=by
 induction n with
 | zero=>rw [fE,fE,fE,oF]
 | succ n ih=>rw [dM,dM,dM,ih];grind
theorem gY (a:Fin p) (k:Nat):(a^k).val=a.val^k%p:=by
 induction k with
 | zero=>rw [Nat.pow_zero];rfl
 | succ k ih =>
  rw [dM,Fin.val_mul,ih,Nat.pow_succ,Nat.mul_mod,Nat.mod_mod,←Nat.mul_mod]
theorem fp_pow_mul (a:Fin p) (m n:Nat):a^(m*n)=(a^m)^n:=by
 induction n with
 | zero=>rw [Nat.mul_zero,fE,fE]
 | succ n ih=>rw [Nat.mul_succ,iT,ih,dM]
theorem iD (a:Fin p):a=0↔a.val=0:=by
 rw [Fin.ext_iff];rfl
theorem nO {a b:Fin p} (hp:IsPrime p) (h:a*b=0):a=0∨b=0:=by
 rw [iD,Fin.val_mul] at h
 rcases hp.euclid (Nat.dvd_of_mod_eq_zero h) with h | h
 ·
  left;rw [iD];exact Nat.eq_zero_of_dvd_of_lt h a.isLt
 ·
  right;rw [iD];exact Nat.eq_zero_of_dvd_of_lt h b.isLt
theorem qS {a:Fin p} (hp:IsPrime p) (h:a≠0):a^(p-1)=1:=by
 apply Fin.ext
 rw [gY,fermat1 hp a.val fun hd=>h ((iD a).2 (Nat.eq_zero_of_dvd_of_lt hd a.isLt))]
 exact (Nat.mod_eq_of_lt hp.1).symm
theorem fM (hp:IsPrime p):(1:Fin p)≠0:=by
 intro h
 have h2:(1%p)=0:=by have:=congrArg Fin.val h;exact this
 have:=hp.1
 rw [Nat.mod_eq_of_lt (by omega)] at h2
 omega
theorem oG {a:Fin p} (hp:IsPrime p) (h:a≠0):a*a^(p-2)=1:=by
 rw [←qS hp h]
 have:p-1=(p-2)+1:=by have:=hp.1;omega
 rw [this,dM,jH]
theorem fp_zero_pow (k:Nat) (h:0<k):(0:Fin p)^k=0:=by
 obtain ⟨j,rfl⟩:∃ j,k=j+1:=⟨k-1,by omega⟩
 rw [dM];grind
theorem fN {a b c:Fin p} (hp:IsPrime p) (h:a≠0) (e:a*b=a*c):b=c:=by
 have:a*(b-c)=0:=by grind
 rcases nO hp this with h' | h'
 ·
  exact absurd h' h
 ·
  grind
theorem evenOf_sq (r:Fin p):evenOf r*evenOf r=r*r:=by
 unfold evenOf
 split<;>grind
def rootC (e:Nat) (i u v:Fin p):Fin p × Bool :=
 let r0:=u*(v*v*v)*(u*((v*v*v)*(v*v*v)*v))^e
 let r:=if v*(r0*r0)=-u then r0*i else r0
 if v*(r*r)=u then (evenOf r,true) else (0,false)
def rootR (e:Nat) (i u v:Fin p):Fin p × Bool :=
 if v=0 then (0,decide (u=0)) else
  let q:=u*v^(p-2)
  if q=0 then (q,true) else if q^(4*e+2)=1 then
   let x:=q*q^e
   (evenOf (if x*x=q then x else x*i),true)
  else (0,false)
variable {e:Nat} {i:Fin p}
theorem half_sq {q:Fin p} (hp:IsPrime p) (he:p=8*e+5) (h:q≠0):q^(4*e+2)=1∨q^(4*e+2)=-1:=by
 have h1:=qS hp h
 have h2:q^(4*e+2)*q^(4*e+2)=1:=by
  rw [←iT,←h1]
  congr 1
  omega
 have h3:(q^(4*e+2)-1)*(q^(4*e+2)+1)=0:=by grind
 rcases nO hp h3 with h4 | h4
 ·
  left;grind
 ·
  right;grind
theorem half_split (q:Fin p) (e:Nat):q^(4*e+2)=q^(2*e+1)*q^(2*e+1):=by
 rw [←iT];congr 1;omega
theorem two_ne (hp:IsPrime p) (he:p=8*e+5):(1:Fin p)≠-1:=by
 intro h
 have h2:(1:Fin p)+1=0:=by grind
 have h3:(1%p+1%p)%p=0:=by have:=congrArg Fin.val h2;exact this
 rw [Nat.mod_eq_of_lt (show 1<p by clear h3 h2 h;omega),Nat.mod_eq_of_lt (by clear h3 h2 h;omega)] at h3
 clear h2 h
 omega
theorem yU (u:Fin p):-u=0↔u=0:=by constructor<;>intro h<;>grind
theorem rootC_eq {u v:Fin p} (hp:IsPrime p) (he:p=8*e+5) (hi:i*i=-1):rootC e i u v=rootR e i u v:=by
 unfold rootR
 by_cases hv:v=0
 ·
  rw [if_pos hv]
  subst hv
  unfold rootC
  by_cases hu:u=0
  ·
   subst hu
   have e0:(0:Fin p)*(0*0*0)*(0*(0*0*0*(0*0*0)*0))^e=0:=by grind
   simp only [e0]
   have e1:(if (0:Fin p)*(0*0)=-0 then (0:Fin p)*i else 0)=0:=by split<;>grind
   rw [e1]
   have e2:(0:Fin p)*(0*0)=0:=by grind
   rw [if_pos e2]
   have e3:evenOf (0:Fin p)=0:=by
    unfold evenOf
    rw [if_neg (by have:(0:Fin p).val=0:=rfl;omega)]
   simp [e3]
  ·
   have e2:∀ r:Fin p,(0:Fin p)*(r*r)=0:=fun r=>by grind
   simp only [e2]
   have hu':¬ (0:Fin p)=u:=fun h=>hu h.symm
   rw [if_neg hu']
   simp [hu]
 ·
  rw [if_neg hv]
  have hw:=oG hp hv
  generalize hwd:v^(p-2)=w at hw
  simp only []
  generalize hq:u*w=q
  have hu:u=q*v:=by rw [←hq];grind
  -- the program's first root is q q^e
  have hv8:v^(8*e)*(v*v*(v*v))=1:=by
   have:v^(8*e+4)=1:=by
    rw [←qS hp hv];congr 1;omega
   rw [←this,iT];grind
  have hr0:u*(v*v*v)*(u*((v*v*v)*(v*v*v)*v))^e=q*q^e:=by
   have h1:u*((v*v*v)*(v*v*v)*v)=q*v^8:=by rw [hu];grind
   rw [h1,oE,←fp_pow_mul,hu]
   generalize v^(8*e)=z at *
   generalize q^e=y at *
   grind
  unfold rootC
  simp only [hr0]
  have hx2:(q*q^e)*(q*q^e)=q*q^(2*e+1):=by
   have:q^(2*e+1)=q^e*q^e*q:=by
    rw [dM,←iT];congr 2;omega
   rw [this];grind
  by_cases hq0:q=0
  ·
   rw [if_pos hq0]
   subst hq0
   have hu0:u=0:=by rw [hu];grind
   subst hu0
   have e0:(0:Fin p)*0^e=0:=by grind
   rw [e0]
   have e1:(if v*((0:Fin p)*0)=-0 then (0:Fin p)*i else 0)=0:=by split<;>grind
   rw [e1]
   have e2:v*((0:Fin p)*0)=0:=by grind
   rw [if_pos e2]
   have e3:evenOf (0:Fin p)=0:=by
    unfold evenOf
    rw [if_neg (by have:(0:Fin p).val=0:=rfl;omega)]
   rw [e3]
  ·
   rw [if_neg hq0]
   have hu0:u≠0:=by
    intro h
    rw [hu] at h
    rcases nO hp h with h | h
    ·
     exact hq0 h
    ·
     exact hv h
   generalize hx:q*q^e=x at hx2
   have hs:=half_split q e
   generalize ht:q^(2*e+1)=t at hx2 hs
   have hvr:v*(x*x)=u*t:=by rw [hx2,hu];grind
   have hvr2:v*((x*i)*(x*i))=-(u*t):=by
    have:v*((x*i)*(x*i))=v*(x*x)*(i*i):=by grind
    rw [this,hvr,hi];grind
   have m1:u*t=-u↔t=-1:=by
    constructor
    ·
     intro h;exact fN hp hu0 (by grind)
    ·
     intro h;rw [h];grind
   have p1:u*t=u↔t=1:=by
    constructor
    ·
     intro h;exact fN hp hu0 (by grind)
    ·
     intro h;rw [h];grind
   have xq:x*x=q↔t=1:=by
    rw [hx2]
    constructor
    ·
     intro h;exact fN hp hq0 (by grind)
    ·
     intro h;rw [h];grind
   have hne:=two_ne hp he
   by_cases h1:t=1
   ·
    have hh:q^(4*e+2)=1:=by rw [hs,h1];grind
    rw [if_pos hh,if_pos (xq.2 h1)]
    have:¬ v*(x*x)=-u:=by rw [hvr,m1,h1];exact hne
    simp only [if_neg this]
    have:v*(x*x)=u:=by rw [hvr];exact p1.2 h1
    rw [if_pos this]
   ·
    by_cases h2:t=-1
    ·
     have hh:q^(4*e+2)=1:=by rw [hs,h2];grind
     rw [if_pos hh,if_neg (fun h=>h1 (xq.1 h))]
     have:v*(x*x)=-u:=by rw [hvr];exact m1.2 h2
     simp only [if_pos this]
     have:v*((x*i)*(x*i))=u:=by rw [hvr2,h2];grind
     rw [if_pos this]
    ·
     have hh:¬ q^(4*e+2)=1:=by
      rw [hs]
      intro h
      have:(t-1)*(t+1)=0:=by grind
      rcases nO hp this with h3 | h3
      ·
       exact h1 (by grind)
      ·
       exact h2 (by grind)
     rw [if_neg hh]
     have:¬ v*(x*x)=-u:=by rw [hvr];exact fun h=>h2 (m1.1 h)
     simp only [if_neg this]
     have:¬ v*(x*x)=u:=by rw [hvr];exact fun h=>h1 (p1.1 h)
     rw [if_neg this]
theorem nU {u v:Fin p} (h:(rootC e i u v).2=true):v*((rootC e i u v).1*(rootC e i u v).1)=u∧∃ r,(rootC e i u v).1=evenOf r:=by
 unfold rootC at h ⊢
 dsimp only at h ⊢
 generalize (if v*(u*(v*v*v)*(u*(v*v*v*(v*v*v)*v))^e*(u*(v*v*v)*(u*(v*v*v*(v*v*v)*v))^e))=-u then u*(v*v*v)*(u*(v*v*v*(v*v*v)*v))^e*i else u*(v*v*v)*(u*(v*v*v*(v*v*v)*v))^e)=r at h ⊢
 by_cases h1:v*(r*r)=u
 ·
  rw [if_pos h1]
  exact ⟨by show v*(evenOf r*evenOf r)=u;rw [evenOf_sq];exact h1,r,rfl⟩
 ·
  rw [if_neg h1] at h
  cases h
theorem rootR_has {u v:Fin p} (hv:v≠0):(rootR e i u v).2=true↔(u*v^(p-2)=0∨(u*v^(p-2))^(4*e+2)=1):=by
 unfold rootR
 rw [if_neg hv]
 dsimp only
 by_cases h1:u*v^(p-2)=0
 ·
  rw [if_pos h1];simp [h1]
 ·
  rw [if_neg h1]
  by_cases h2:(u*v^(p-2))^(4*e+2)=1
  ·
   rw [if_pos h2];simp [h2]
  ·
   rw [if_neg h2];exact ⟨fun h=>(by cases h),fun h=>h.elim (fun h=>absurd h h1) (fun h=>absurd h h2)⟩
theorem yG {a v:Fin p} (hp:IsPrime p) (he:p=8*e+5) (hi:i*i=-1):(rootC e i (a*a*v) v).2=true:=by
 rw [rootC_eq hp he hi]
 by_cases hv:v=0
 ·
  subst hv
  unfold rootR
  rw [if_pos rfl]
  simp only [decide_eq_true_eq]
  grind
 ·
  rw [rootR_has hv]
  have hw:=oG hp hv
  have h1:a*a*v*v^(p-2)=a*a:=by
   generalize v^(p-2)=w at hw
   grind
  rw [h1]
  by_cases ha:a=0
  ·
   left;rw [ha];grind
  ·
   right
   rw [oE]
   have h2:=half_sq hp he ha
   rcases h2 with h2 | h2<;>rw [h2]<;>grind
end
def PP:Nat:=57896044618658097711785492504343953926634992332820282019728792003956564819949
theorem eH:PP=57896044618658097711785492504343953926634992332820282019728792003956564819949:=rfl
instance:NeZero PP:=⟨by rw [eH];decide⟩
theorem cF:IsPrime PP:=prP
def EE:Nat:=7237005577332262213973186563042994240829374041602535252466099000494570602493
theorem PP_EE:PP=8*EE+5:=by decide +kernel
def II:Fin PP:=Fin.ofNat PP 19681161376707505956807079304988542015446066515923890162744021073123829784752
theorem lV:II*II=-1:=by decide +kernel
theorem II_eq:(2:Fin PP)^(2*EE+1)=II:=by
 apply Fin.ext
 rw [gY,←oX PP 300 _ _ (by decide +kernel)]
 decide +kernel
end
section
section
variable {p:Nat} [NeZero p]
def iv (a:Fin p):Fin p:=a^(p-2)
structure EdOk (d:Fin p):Prop where
 prime:IsPrime p
 nosq:∀ z:Fin p,z*z≠d
 two:∀ z:Fin p,z+z=0→z=0
theorem qR {a:Fin p} (hp:IsPrime p) (h:a≠0):a*iv a=1:=oG hp h
theorem EdOk.p3 {d:Fin p} (hd:EdOk d):3≤p:=by
 have h1:=hd.prime.1
 apply Nat.le_of_not_lt
 intro h
 have h2:(1:Fin p)=0:=hd.two 1 (by
  apply Fin.ext
  show (1%p+1%p)%p=0%p
  have:p=2:=by omega
  subst this
  rfl)
 exact fM hd.prime h2
def OnE (d:Fin p) (P:Fin p × Fin p):Prop:=P.1*P.1+P.2*P.2=1+d*(P.1*P.1)*(P.2*P.2)
def eadd (d:Fin p) (P Q:Fin p × Fin p):Fin p × Fin p :=
 ((P.1*Q.2+P.2*Q.1)*iv (1+d*P.1*Q.1*P.2*Q.2),(P.2*Q.2-P.1*Q.1)*iv (1-d*P.1*Q.1*P.2*Q.2))
def eneg (P:Fin p × Fin p):Fin p × Fin p:=(-P.1,P.2)
def enil:Fin p × Fin p:=(0,1)
theorem no_sq {d s r:Fin p} (hd:EdOk d) (hr:r≠0):s*s≠d*(r*r):=by
 intro h
 apply hd.nosq (s*iv r)
 have:=qR hd.prime hr
 generalize iv r=q at *
 grind
theorem whole1 {d x1 y1 x2 y2 z:Fin p} (hd:EdOk d) (h1:x1*x1+y1*y1=1+d*(x1*x1)*(y1*y1)) (h2:x2*x2+y2*y2=1+d*(x2*x2)*(y2*y2)) (hz:z*z=1):d*x1*x2*y1*y2≠z:=by
 intro h
 have hone:=fM hd.prime
 have hz0:z≠0:=by intro e;subst e;exact hone (by grind)
 have hr:x1*y1≠0:=by intro e;exact hz0 (by rw [←h];grind)
 have a1:(x1+z*y1)*(x1+z*y1)=d*((x1*y1*(x2+y2))*(x1*y1*(x2+y2))):=by grind
 have a2:(x1-z*y1)*(x1-z*y1)=d*((x1*y1*(x2-y2))*(x1*y1*(x2-y2))):=by grind
 have b1:x2+y2=0:=by
  apply Classical.byContradiction
  intro hn
  refine no_sq hd (r:=x1*y1*(x2+y2)) ?_ a1
  intro e
  rcases nO hd.prime e with e | e
  ·
   exact hr e
  ·
   exact hn e
 have b2:x2-y2=0:=by
  apply Classical.byContradiction
  intro hn
  refine no_sq hd (r:=x1*y1*(x2-y2)) ?_ a2
  intro e
  rcases nO hd.prime e with e | e
  ·
   exact hr e
  ·
   exact hn e
 have b3:x2=0:=hd.two x2 (by grind)
 exact hz0 (by rw [←h,b3];grind)
theorem whole {d:Fin p} {P Q:Fin p × Fin p} (hd:EdOk d) (hP:OnE d P) (hQ:OnE d Q):1+d*P.1*Q.1*P.2*Q.2≠0∧1-d*P.1*Q.1*P.2*Q.2≠0:=by
 constructor
 ·
  intro h
  exact whole1 hd hP hQ (z:=-1) (by grind) (by grind)
 ·
  intro h
  exact whole1 hd hP hQ (z:=1) (by grind) (by grind)
theorem jK {d:Fin p} {P Q:Fin p × Fin p} (hd:EdOk d) (hP:OnE d P) (hQ:OnE d Q) :
  (eadd d P Q).1*(1+d*P.1*Q.1*P.2*Q.2)=P.1*Q.2+P.2*Q.1∧(eadd d P Q).2*(1-d*P.1*Q.1*P.2*Q.2)=P.2*Q.2-P.1*Q.1:=by
 obtain ⟨h1,h2⟩:=whole hd hP hQ
 have e1:=qR hd.prime h1
 have e2:=qR hd.prime h2
 unfold eadd
 dsimp only
 generalize iv (1+d*P.1*Q.1*P.2*Q.2)=i at *
 generalize iv (1-d*P.1*Q.1*P.2*Q.2)=j at *
 constructor<;>grind
theorem clos_ (d x1 y1 x2 y2:Fin p) (h1:x1*x1+y1*y1=1+d*(x1*x1)*(y1*y1)) (h2:x2*x2+y2*y2=1+d*(x2*x2)*(y2*y2)) :
  (x1*y2+y1*x2)*(x1*y2+y1*x2)*((1-d*x1*x2*y1*y2)*(1-d*x1*x2*y1*y2))+(y1*y2-x1*x2)*(y1*y2-x1*x2)*((1+d*x1*x2*y1*y2)*(1+d*x1*x2*y1*y2))=(1-d*x1*x2*y1*y2)*(1-d*x1*x2*y1*y2)*((1+d*x1*x2*y1*y2)*(1+d*x1*x2*y1*y2))+d*((x1*y2+y1*x2)*(x1*y2+y1*x2))*((y1*y2-x1*x2)*(y1*y2-x1*x2)):=by
 grind
theorem dO {a b:Fin p} (hp:IsPrime p) (ha:a≠0) (hb:b≠0):a*b≠0:=by
 intro e
 rcases nO hp e with e | e
 ·
  exact ha e
 ·
  exact hb e
theorem yP {d:Fin p} {P Q:Fin p × Fin p} (hd:EdOk d) (hP:OnE d P) (hQ:OnE d Q):OnE d (eadd d P Q):=by
 obtain ⟨h1,h2⟩:=whole hd hP hQ
 obtain ⟨e1,e2⟩:=jK hd hP hQ
 have hc:=clos_ d P.1 P.2 Q.1 Q.2 hP hQ
 unfold OnE
 generalize (eadd d P Q).1=x at *
 generalize (eadd d P Q).2=y at *
 generalize 1+d*P.1*Q.1*P.2*Q.2=s at *
 generalize 1-d*P.1*Q.1*P.2*Q.2=t at *
 generalize P.1*Q.2+P.2*Q.1=A at *
 generalize P.2*Q.2-P.1*Q.1=B at *
 subst e1 e2
 refine fN hd.prime (dO hd.prime (dO hd.prime h2 h2) (dO hd.prime h1 h1)) ?_
 grind
theorem xB (d:Fin p) (P Q:Fin p × Fin p):eadd d P Q=eadd d Q P:=by
 unfold eadd
 congr 1
 ·
  congr 1
  ·
   grind
  ·
   congr 1;grind
 ·
  congr 1
  ·
   grind
  ·
   congr 1;grind
theorem ascx (d x1 y1 x2 y2 x3 y3 A B D A' B' D':Fin p) (h1:x1*x1+y1*y1=1+d*(x1*x1)*(y1*y1)) (h2:x2*x2+y2*y2=1+d*(x2*x2)*(y2*y2)) (h3:x3*x3+y3*y3=1+d*(x3*x3)*(y3*y3))
  (hA:A=x1*y2+y1*x2) (hB:B=y1*y2-x1*x2) (hD:D=d*x1*x2*y1*y2) (hA':A'=x2*y3+y2*x3) (hB':B'=y2*y3-x2*x3) (hD':D'=d*x2*x3*y2*y3) :
  (A*(1-D)*y3+B*(1+D)*x3)*((1-D'*D')+d*A'*B'*x1*y1)=(x1*B'*(1+D')+y1*A'*(1-D'))*((1-D*D)+d*A*B*x3*y3):=by
 subst hA hB hD hA' hB' hD'
 grind
theorem ascy (d x1 y1 x2 y2 x3 y3 A B D A' B' D':Fin p) (h1:x1*x1+y1*y1=1+d*(x1*x1)*(y1*y1)) (h2:x2*x2+y2*y2=1+d*(x2*x2)*(y2*y2)) (h3:x3*x3+y3*y3=1+d*(x3*x3)*(y3*y3))
  (hA:A=x1*y2+y1*x2) (hB:B=y1*y2-x1*x2) (hD:D=d*x1*x2*y1*y2) (hA':A'=x2*y3+y2*x3) (hB':B'=y2*y3-x2*x3) (hD':D'=d*x2*x3*y2*y3) :
  (B*(1+D)*y3-A*(1-D)*x3)*((1-D'*D')-d*A'*B'*x1*y1)=(y1*B'*(1+D')-x1*A'*(1-D'))*((1-D*D)-d*A*B*x3*y3):=by
 subst hA hB hD hA' hB' hD'
 grind
theorem asc_x (x d u v D r s:Fin p) (h:x*(1+d*u*r*v*s)=u*s+v*r):x*((1-D*D)+d*(u*(1+D))*(v*(1-D))*r*s)=u*(1+D)*(1-D)*s+v*(1-D)*(1+D)*r:=by
 have:=congrArg (·*((1+D)*(1-D))) h
 grind
theorem asc_y (x d u v D r s:Fin p) (h:x*(1-d*u*r*v*s)=v*s-u*r):x*((1-D*D)-d*(u*(1+D))*(v*(1-D))*r*s)=v*(1-D)*(1+D)*s-u*(1+D)*(1-D)*r:=by
 have:=congrArg (·*((1+D)*(1-D))) h
 grind
theorem asc_x' (x d u v D r s:Fin p) (h:x*(1+d*r*u*s*v)=r*v+s*u):x*((1-D*D)+d*(u*(1+D))*(v*(1-D))*r*s)=r*(v*(1-D))*(1+D)+s*(u*(1+D))*(1-D):=by
 have:=congrArg (·*((1+D)*(1-D))) h
 grind
theorem asc_y' (x d u v D r s:Fin p) (h:x*(1-d*r*u*s*v)=s*v-r*u):x*((1-D*D)-d*(u*(1+D))*(v*(1-D))*r*s)=s*(v*(1-D))*(1+D)-r*(u*(1+D))*(1-D):=by
 have:=congrArg (·*((1+D)*(1-D))) h
 grind
theorem asc_n (d u v D r s:Fin p):(1-D*D)+d*(u*(1+D))*(v*(1-D))*r*s=(1+D)*(1-D)*(1+d*u*r*v*s)∧(1-D*D)-d*(u*(1+D))*(v*(1-D))*r*s=(1+D)*(1-D)*(1-d*u*r*v*s)∧(1-D*D)+d*(u*(1+D))*(v*(1-D))*r*s=(1+D)*(1-D)*(1+d*r*u*s*v)∧(1-D*D)-d*(u*(1+D))*(v*(1-D))*r*s=(1+D)*(1-D)*(1-d*r*u*s*v):=by
 refine ⟨?_,?_,?_,?_⟩<;>grind
theorem uL {d:Fin p} {P Q R:Fin p × Fin p} (hd:EdOk d) (hP:OnE d P) (hQ:OnE d Q) (hR:OnE d R):eadd d (eadd d P Q) R=eadd d P (eadd d Q R):=by
 have hPQ:=yP hd hP hQ
 have hQR:=yP hd hQ hR
 obtain ⟨s1,t1⟩:=whole hd hP hQ
 obtain ⟨s2,t2⟩:=whole hd hQ hR
 obtain ⟨s3,t3⟩:=whole hd hPQ hR
 obtain ⟨s4,t4⟩:=whole hd hP hQR
 obtain ⟨a1,b1⟩:=jK hd hP hQ
 obtain ⟨a2,b2⟩:=jK hd hQ hR
 obtain ⟨a3,b3⟩:=jK hd hPQ hR
 obtain ⟨a4,b4⟩:=jK hd hP hQR
 have hx:=ascx d P.1 P.2 Q.1 Q.2 R.1 R.2 _ _ _ _ _ _ hP hQ hR rfl rfl rfl rfl rfl rfl
 have hy:=ascy d P.1 P.2 Q.1 Q.2 R.1 R.2 _ _ _ _ _ _ hP hQ hR rfl rfl rfl rfl rfl rfl
 have hp:=hd.prime
 clear hPQ hQR hP hQ hR
 apply Prod.ext
 ·
  clear b3 b4 hy t3 t4
  generalize (eadd d (eadd d P Q) R).1=x at *
  generalize (eadd d P (eadd d Q R)).1=x' at *
  generalize (eadd d P Q).1=u at *
  generalize (eadd d P Q).2=v at *
  generalize (eadd d Q R).1=u' at *
  generalize (eadd d Q R).2=v' at *
  generalize P.1*Q.2+P.2*Q.1=A at *
  generalize P.2*Q.2-P.1*Q.1=B at *
  generalize Q.1*R.2+Q.2*R.1=A' at *
  generalize Q.2*R.2-Q.1*R.1=B' at *
  generalize d*P.1*Q.1*P.2*Q.2=D at *
  generalize d*Q.1*R.1*Q.2*R.2=D' at *
  have e3:x*((1-D*D)+d*A*B*R.1*R.2)=A*(1-D)*R.2+B*(1+D)*R.1:=by rw [←a1,←b1];exact asc_x x d u v D R.1 R.2 a3
  have e4:x'*((1-D'*D')+d*A'*B'*P.1*P.2)=P.1*B'*(1+D')+P.2*A'*(1-D'):=by rw [←a2,←b2];exact asc_x' x' d u' v' D' P.1 P.2 a4
  have n3:(1-D*D)+d*A*B*R.1*R.2≠0:=by
   have:(1-D*D)+d*A*B*R.1*R.2=(1+D)*(1-D)*(1+d*u*R.1*v*R.2):=by rw [←a1,←b1];exact (asc_n d u v D R.1 R.2).1
   rw [this]
   exact dO hp (dO hp s1 t1) s3
  have n4:(1-D'*D')+d*A'*B'*P.1*P.2≠0:=by
   have:(1-D'*D')+d*A'*B'*P.1*P.2=(1+D')*(1-D')*(1+d*P.1*u'*P.2*v'):=by rw [←a2,←b2];exact (asc_n d u' v' D' P.1 P.2).2.2.1
   rw [this]
   exact dO hp (dO hp s2 t2) s4
  clear a1 a2 b1 b2 a3 a4 s1 s2 s3 s4 t1 t2
  generalize (1-D*D)+d*A*B*R.1*R.2=E at *
  generalize (1-D'*D')+d*A'*B'*P.1*P.2=E' at *
  rw [←e3,←e4] at hx
  refine fN hp (dO hp n3 n4) ?_
  clear e3 e4 n3 n4
  grind
 ·
  clear a3 a4 hx s3 s4
  generalize (eadd d (eadd d P Q) R).2=x at *
  generalize (eadd d P (eadd d Q R)).2=x' at *
  generalize (eadd d P Q).1=u at *
  generalize (eadd d P Q).2=v at *
  generalize (eadd d Q R).1=u' at *
  generalize (eadd d Q R).2=v' at *
  generalize P.1*Q.2+P.2*Q.1=A at *
  generalize P.2*Q.2-P.1*Q.1=B at *
  generalize Q.1*R.2+Q.2*R.1=A' at *
  generalize Q.2*R.2-Q.1*R.1=B' at *
  generalize d*P.1*Q.1*P.2*Q.2=D at *
  generalize d*Q.1*R.1*Q.2*R.2=D' at *
  have e3:x*((1-D*D)-d*A*B*R.1*R.2)=B*(1+D)*R.2-A*(1-D)*R.1:=by rw [←a1,←b1];exact asc_y x d u v D R.1 R.2 b3
  have e4:x'*((1-D'*D')-d*A'*B'*P.1*P.2)=P.2*B'*(1+D')-P.1*A'*(1-D'):=by rw [←a2,←b2];exact asc_y' x' d u' v' D' P.1 P.2 b4
  have n3:(1-D*D)-d*A*B*R.1*R.2≠0:=by
   have:(1-D*D)-d*A*B*R.1*R.2=(1+D)*(1-D)*(1-d*u*R.1*v*R.2):=by rw [←a1,←b1];exact (asc_n d u v D R.1 R.2).2.1
   rw [this]
   exact dO hp (dO hp s1 t1) t3
  have n4:(1-D'*D')-d*A'*B'*P.1*P.2≠0:=by
   have:(1-D'*D')-d*A'*B'*P.1*P.2=(1+D')*(1-D')*(1-d*P.1*u'*P.2*v'):=by rw [←a2,←b2];exact (asc_n d u' v' D' P.1 P.2).2.2.2
   rw [this]
   exact dO hp (dO hp s2 t2) t4
  clear a1 a2 b1 b2 b3 b4 s1 s2 t3 t4 t1 t2
  generalize (1-D*D)-d*A*B*R.1*R.2=E at *
  generalize (1-D'*D')-d*A'*B'*P.1*P.2=E' at *
  rw [←e3,←e4] at hy
  refine fN hp (dO hp n3 n4) ?_
  clear e3 e4 n3 n4
  grind
theorem on_nil (d:Fin p):OnE d enil:=by unfold OnE enil;dsimp only;grind
theorem on_neg {d:Fin p} {P:Fin p × Fin p} (h:OnE d P):OnE d (eneg P):=by unfold OnE eneg at *;dsimp only;grind
theorem iv_one:iv (1:Fin p)=1:=fq_one_pow _
theorem eadd_nil (d:Fin p) (P:Fin p × Fin p):eadd d P enil=P:=by
 unfold eadd enil
 dsimp only
 have e1:1+d*P.1*0*P.2*1=1:=by grind
 have e2:1-d*P.1*0*P.2*1=1:=by grind
 rw [e1,e2,iv_one]
 apply Prod.ext<;>dsimp only<;>grind
theorem nil_eadd (d:Fin p) (P:Fin p × Fin p):eadd d enil P=P:=by rw [xB,eadd_nil]
theorem eadd_neg {d:Fin p} {P:Fin p × Fin p} (hd:EdOk d) (hP:OnE d P):eadd d P (eneg P)=enil:=by
 obtain ⟨h1,h2⟩:=whole hd hP (on_neg hP)
 obtain ⟨a,b⟩:=jK hd hP (on_neg hP)
 unfold enil
 unfold OnE at hP
 apply Prod.ext
 ·
  dsimp only
  refine fN hd.prime h1 ?_
  generalize (eadd d P (eneg P)).1=x at *
  unfold eneg at *
  dsimp only at *
  clear b h1 h2
  grind
 ·
  dsimp only
  refine fN hd.prime h2 ?_
  generalize (eadd d P (eneg P)).2=x at *
  unfold eneg at *
  dsimp only at *
  clear a h1 h2
  grind
def emul (d:Fin p) (P:Fin p × Fin p):Nat→Fin p × Fin p
 | 0=>enil
 | n+1=>eadd d (emul d P n) P
theorem on_mul {d:Fin p} {P:Fin p × Fin p} (hd:EdOk d) (hP:OnE d P):∀ n,OnE d (emul d P n)
 | 0=>on_nil d
 | n+1=>yP hd (on_mul hd hP n) hP
theorem uK {d:Fin p} {P:Fin p × Fin p} (hd:EdOk d) (hP:OnE d P) (m:Nat):∀ n,emul d P (m+n)=eadd d (emul d P m) (emul d P n)
 | 0=>by rw [Nat.add_zero];exact (eadd_nil d _).symm
 | n+1=>by
  show eadd d (emul d P (m+n)) P=eadd d (emul d P m) (eadd d (emul d P n) P)
  rw [uK hd hP m n,uL hd (on_mul hd hP m) (on_mul hd hP n) hP]
theorem emul_mul {d:Fin p} {P:Fin p × Fin p} (hd:EdOk d) (hP:OnE d P) (m:Nat):∀ n,emul d (emul d P m) n=emul d P (m*n)
 | 0=>by rw [Nat.mul_zero];rfl
 | n+1=>by
  show eadd d (emul d (emul d P m) n) (emul d P m)=_
  rw [emul_mul hd hP m n,Nat.mul_succ,uK hd hP]
end
end
section
structure L4 (p:Nat) where
 a:Fin p
 b:Fin p
 c:Fin p
 d:Fin p
section
variable {p:Nat} [NeZero p]
def addN (a b c d:Fin p):Fin p:=(c-d)*(a+b)
def lbit (k i:Nat):Bool:=decide (k/2^i%2=1)
structure LdOk (d g q k:Fin p):Prop where
 ed:EdOk d
 sig:(g=1∧k=q+1∧k*d=q)∨(g=-1∧k=-q∧k*d=-(q+1))
theorem LdOk.kd {d g q k:Fin p} (h:LdOk d g q k):k*(1-d)=1:=by rcases h.sig with h | h<;>grind
theorem ld_two {d:Fin p} (hd:EdOk d):(2:Fin p)≠0:=by
 intro h
 exact fM hd.prime (hd.two 1 (by grind))
theorem tL {d y:Fin p} (hd:EdOk d):1-d*(y*y)≠0:=by
 intro h
 by_cases hy:y=0
 ·
  subst hy
  exact fM hd.prime (by grind)
 ·
  exact no_sq hd (s:=1) hy (by grind)
end
end
section
section
variable {p:Nat} [NeZero p]
theorem two_cancel {i z:Fin p} (h:(1+1)*i=1) (hz:z+z=0):z=0:=by
 have:i*(z+z)=0:=by rw [hz];grind
 grind
theorem no_root {e:Nat} {d:Fin p} (hp:IsPrime p) (he:p=8*e+5) (hd:d^(4*e+2)=-1) (z:Fin p):z*z≠d:=by
 intro h
 have hne:=two_ne hp he
 by_cases hz:z=0
 ·
  subst hz
  have h1:d=0:=by rw [←h];grind
  rw [h1,fp_zero_pow _ (by omega)] at hd
  exact fM hp (by grind)
 ·
  have h2:(z*z)^(4*e+2)=1:=by
   rw [oE]
   rcases half_sq hp he hz with h | h<;>rw [h]<;>grind
  rw [h,hd] at h2
  exact hne h2.symm
structure LdAll (d d' q:Fin p):Prop where
 l1:LdOk d 1 q (q+1)
 l2:LdOk d' (-1) q (-q)
 inv:d*d'=1
 root:∀ w:Fin p,(∃ r:Fin p,r*r=w)∨∃ r:Fin p,r*r=d*w
theorem lift_on1 {d y r j:Fin p} (hk:(1-d*(y*y))*j=1) (hr:r*r=(1-y*y)*(1-d*(y*y))):OnE d (r*j,y):=by
 unfold OnE
 dsimp only
 have e:r*j*(r*j)*(1-d*(y*y))=1-y*y:=by
  have:r*j*(r*j)*(1-d*(y*y))=(r*r)*j*((1-d*(y*y))*j):=by grind
  rw [this,hk,hr]
  have:(1-y*y)*(1-d*(y*y))*j*1=(1-y*y)*((1-d*(y*y))*j):=by grind
  rw [this,hk]
  grind
 clear hk hr
 generalize r*j=s at *
 grind
theorem lift_on2 {d d' y z r j:Fin p} (hd:d*d'=1) (hyi:y*z=1) (hk:(1-d*(y*y))*j=1) (hr:r*r=d*((1-y*y)*(1-d*(y*y)))):OnE d' (r*j,z):=by
 unfold OnE
 dsimp only
 have e:r*j*(r*j)*(1-d*(y*y))=d*(1-y*y):=by
  have:r*j*(r*j)*(1-d*(y*y))=(r*r)*j*((1-d*(y*y))*j):=by grind
  rw [this,hk,hr]
  have:d*((1-y*y)*(1-d*(y*y)))*j*1=d*(1-y*y)*((1-d*(y*y))*j):=by grind
  rw [this,hk]
  grind
 clear hk hr
 generalize r*j=s at *
 have e2:=congrArg (d'*(z*z)*·) e
 have m1:d'*(z*z)*(s*s*(1-d*(y*y)))=s*s*(d'*(z*z)-(d*d')*((y*z)*(y*z))):=by grind
 have m2:d'*(z*z)*(d*(1-y*y))=(d*d')*(z*z-(y*z)*(y*z)):=by grind
 have e3:s*s*(d'*(z*z)-(d*d')*((y*z)*(y*z)))=(d*d')*(z*z-(y*z)*(y*z)):=by rw [←m1,←m2];exact e2
 rw [hd,hyi] at e3
 clear e2 m1 m2 e hd
 grind
theorem on_one (d:Fin p):OnE d (1,0):=by unfold OnE;dsimp only;grind
theorem lift {d1 d2 q:Fin p} (H:LdAll d1 d2 q) (x:Fin p) (h0:x≠0):∃ (d g k:Fin p) (P:Fin p × Fin p),LdOk d g q k∧OnE d P∧x*(g*(1-P.2))=1+P.2:=by
 have hp:=H.l1.ed.prime
 by_cases h1:x+1=0
 ·
  exact ⟨d2,-1,-q,(1,0),H.l2,on_one _,by dsimp only;grind⟩
 ·
  have hi:=qR hp h1
  -- the point's other number
  obtain ⟨y,hy⟩:∃ y,y=(x-1)*iv (x+1):=⟨_,rfl⟩
  have hxy:y*(x+1)=x-1:=by rw [hy];generalize iv (x+1)=i at *;grind
  clear hy hi
  have hk:=tL (y:=y) H.l1.ed
  have hki:=qR hp hk
  rcases H.root ((1-y*y)*(1-d1*(y*y))) with ⟨r,hr⟩ | ⟨r,hr⟩
  ·
   refine ⟨d1,1,q+1,_,H.l1,lift_on1 hki hr,?_⟩
   dsimp only
   clear hki hr hk H
   grind
  ·
   by_cases hy0:y=0
   ·
    exfalso
    subst hy0
    apply H.l1.ed.nosq r
    rw [hr]
    clear hki hr hk H
    grind
   ·
    have hyi:=qR hp hy0
    refine ⟨d2,-1,-q,_,H.l2,lift_on2 H.inv hyi hki hr,?_⟩
    dsimp only
    generalize iv y=z at *
    have e:=congrArg (z*·) hxy
    clear hki hr hk H
    grind
end
def D1:Fin PP:=Fin.ofNat PP 20800338683988658368647408995589388737092878452977063003340006470870624536394
def D2:Fin PP:=Fin.ofNat PP 28692721048178265397853269683490922171210976843790175684556505508326675974058
def Q0:Fin PP:=Fin.ofNat PP 121665
theorem D1_Q:(Q0+1)*D1=Q0:=by decide +kernel
theorem D1_half:D1^(4*EE+2)=-1:=by
 apply Fin.ext
 rw [gY,←oX PP 300 _ _ (by decide +kernel)]
 decide +kernel
theorem two_PP:∀ z:Fin PP,z+z=0→z=0:=fun z h=>two_cancel (i:=Fin.ofNat PP 28948022309329048855892746252171976963317496166410141009864396001978282409975) (by decide +kernel) h
theorem D1_nosq:∀ z:Fin PP,z*z≠D1:=no_root cF PP_EE D1_half
theorem ed1:EdOk D1:=⟨cF,D1_nosq,two_PP⟩
end
section
section
variable {p:Nat} [NeZero p]
theorem tw_on {i d x y:Fin p} (hi:i*i=-1) (h:y*y-x*x=1+-d*(x*x)*(y*y)):OnE d (i*x,y):=by
 unfold OnE
 dsimp only
 grind
theorem tw_off {i d X Y:Fin p} (hi:i*i=-1) (h:OnE d (X,Y)):Y*Y-(-i*X)*(-i*X)=1+-d*((-i*X)*(-i*X))*(Y*Y):=by
 unfold OnE at h
 dsimp only at h
 grind
theorem tw_up {i X:Fin p} (hi:i*i=-1):i*(-i*X)=X:=by grind
theorem tw_inj {i x y:Fin p} (hi:i*i=-1) (h:i*x=i*y):x=y:=by
 have:-i*(i*x)=-i*(i*y):=by rw [h]
 grind
theorem xV {i d x z y w:Fin p} (hi:i*i=-1):1+d*(i*x)*(i*z)*y*w=1+-d*x*z*y*w∧1-d*(i*x)*(i*z)*y*w=1 - -d*x*z*y*w:=by
 constructor<;>grind
theorem tw_addx {i X s x y z w:Fin p} (hi:i*i=-1) (h:X*s=i*x*w+y*(i*z)):-i*X*s=x*w+y*z:=by grind
theorem tw_addy {i Y s x y z w:Fin p} (hi:i*i=-1) (h:Y*s=y*w-i*x*(i*z)):Y*s=y*w+x*z:=by grind
theorem tw_neg {d x y:Fin p} (h:y*y-x*x=1+d*(x*x)*(y*y)):y*y - -x*-x=1+d*(-x*-x)*(y*y):=by grind
theorem tw_nil {d:Fin p}:(1:Fin p)*1-0*0=1+d*(0*0)*(1*1):=by grind
theorem mul_nil (i:Fin p):i*0=0:=by grind
theorem mul_neg' (i x:Fin p):i*-x=-(i*x):=by grind
end
def TD:Fin PP:=-D1
structure Pt where
 x:Fin PP
 y:Fin PP
 on:y*y-x*x=1+TD*(x*x)*(y*y)
deriving DecidableEq
namespace Pt
theorem ext' {P Q:Pt} (hx:P.x=Q.x) (hy:P.y=Q.y):P=Q:=by
 cases P
 cases Q
 dsimp only at hx hy
 subst hx hy
 rfl
def up (P:Pt):Fin PP × Fin PP:=(II*P.x,P.y)
theorem up_on (P:Pt):OnE D1 P.up:=tw_on lV P.on
def of (R:Fin PP × Fin PP) (h:OnE D1 R):Pt:=⟨-II*R.1,R.2,tw_off lV h⟩
theorem up_of (R:Fin PP × Fin PP) (h:OnE D1 R):(of R h).up=R:=by
 unfold up of
 dsimp only
 rw [tw_up lV]
theorem qA {P Q:Pt} (h:P.up=Q.up):P=Q:=by
 unfold up at h
 injection h with h1 h2
 exact ext' (tw_inj lV h1) h2
def add (P Q:Pt):Pt:=of (eadd D1 P.up Q.up) (yP ed1 P.up_on Q.up_on)
theorem jQ (P Q:Pt):(P.add Q).up=eadd D1 P.up Q.up:=up_of _ _
def nil:Pt:=⟨0,1,tw_nil⟩
theorem up_nil:nil.up=enil:=by
 unfold up nil enil
 dsimp only
 rw [mul_nil]
def neg (P:Pt):Pt:=⟨-P.x,P.y,tw_neg P.on⟩
theorem up_neg (P:Pt):P.neg.up=eneg P.up:=by
 unfold up neg eneg
 dsimp only
 rw [mul_neg']
def mul (P:Pt):Nat→Pt
 | 0=>nil
 | n+1=>(mul P n).add P
theorem nQ (P:Pt):∀ n,(P.mul n).up=emul D1 P.up n
 | 0=>up_nil
 | n+1=>by
  show ((P.mul n).add P).up=eadd D1 (emul D1 P.up n) P.up
  rw [jQ,nQ P n]
theorem add_comm (P Q:Pt):P.add Q=Q.add P:=qA (by rw [jQ,jQ,xB])
theorem add_assoc (P Q R:Pt):(P.add Q).add R=P.add (Q.add R):=qA (by rw [jQ,jQ,jQ,jQ,uL ed1 P.up_on Q.up_on R.up_on])
theorem mY (P:Pt):nil.add P=P:=qA (by rw [jQ,up_nil,nil_eadd])
theorem add_nil (P:Pt):P.add nil=P:=by rw [add_comm,mY]
theorem add_neg (P:Pt):P.add P.neg=nil:=qA (by rw [jQ,up_neg,up_nil,eadd_neg ed1 P.up_on])
theorem mul_zero (P:Pt):P.mul 0=nil:=rfl
theorem mul_succ (P:Pt) (n:Nat):P.mul (n+1)=(P.mul n).add P:=rfl
theorem mul_one (P:Pt):P.mul 1=P:=mY P
theorem mul_add (P:Pt) (m n:Nat):P.mul (m+n)=(P.mul m).add (P.mul n):=qA (by rw [jQ,nQ,nQ,nQ,uK ed1 P.up_on])
theorem mul_mul (P:Pt) (m n:Nat):(P.mul m).mul n=P.mul (m*n):=qA (by rw [nQ,nQ,nQ,emul_mul ed1 P.up_on])
theorem mul_two (P:Pt) (n:Nat):P.mul (2*n)=(P.mul n).add (P.mul n):=by rw [Nat.two_mul,mul_add]
theorem rX:∀ n,nil.mul n=nil
 | 0=>rfl
 | n+1=>by rw [mul_succ,rX n,mY]
theorem add_mul (P Q:Pt):∀ n,(P.add Q).mul n=(P.mul n).add (Q.mul n)
 | 0=>(mY nil).symm
 | n+1=>by
  rw [mul_succ,mul_succ,mul_succ,add_mul P Q n,add_assoc,add_assoc,←add_assoc (Q.mul n),add_comm (Q.mul n),add_assoc P]
theorem mul_mod {P:Pt} {l:Nat} (h:P.mul l=nil) (n:Nat):P.mul (n%l)=P.mul n:=by
 have e:P.mul n=P.mul (l*(n/l)+n%l):=by rw [Nat.div_add_mod]
 rw [e,mul_add,←mul_mul,h,rX,mY]
theorem den (P Q:Pt):1+TD*P.x*Q.x*P.y*Q.y≠0∧1-TD*P.x*Q.x*P.y*Q.y≠0:=by
 have h:=whole ed1 P.up_on Q.up_on
 unfold up at h
 dsimp only at h
 rw [(xV lV).1,(xV lV).2] at h
 exact h
theorem add_x (P Q:Pt):(P.add Q).x*(1+TD*P.x*Q.x*P.y*Q.y)=P.x*Q.y+P.y*Q.x:=by
 have h:=(jK ed1 P.up_on Q.up_on).1
 have e:(P.add Q).x=-II*(eadd D1 P.up Q.up).1:=rfl
 rw [e]
 generalize (eadd D1 P.up Q.up).1=X at *
 unfold up at h
 dsimp only at h
 rw [(xV lV).1] at h
 exact tw_addx lV h
theorem add_y (P Q:Pt):(P.add Q).y*(1-TD*P.x*Q.x*P.y*Q.y)=P.y*Q.y+P.x*Q.x:=by
 have h:=(jK ed1 P.up_on Q.up_on).2
 have e:(P.add Q).y=(eadd D1 P.up Q.up).2:=rfl
 rw [e]
 generalize (eadd D1 P.up Q.up).2=Y at *
 unfold up at h
 dsimp only at h
 rw [(xV lV).2] at h
 exact tw_addy lV h
end Pt
theorem pt_same_y {p:Nat} [NeZero p] {d x z y:Fin p} (hp:IsPrime p) (hk:1+d*(y*y)≠0) (h:y*y-x*x=1+d*(x*x)*(y*y)) (h':y*y-z*z=1+d*(z*z)*(y*y)):x=z∨x=-z:=by
 have e:(1+d*(y*y))*((x-z)*(x+z))=0:=by grind
 rcases nO hp e with e | e
 ·
  exact absurd e hk
 ·
  rcases nO hp e with e | e
  ·
   left;grind
  ·
   right;grind
theorem TD_no (y:Fin PP):1+TD*(y*y)≠0:=by
 have h:=tL (y:=y) ed1
 have e:1+TD*(y*y)=1-D1*(y*y):=by
  unfold TD
  have gen:∀ {p:Nat} [NeZero p] (d z:Fin p),1+-d*z=1-d*z:=by intro p _ d z;grind
  exact gen _ _
 rw [e]
 exact h
end
section
section
variable {p:Nat} [NeZero p]
theorem nF {a b c:Fin p} (hp:IsPrime p) (h:c≠0) (e:a*c=b*c):a=b:=fN hp h (by rw [jH c a,jH c b,e])
theorem rep3_add {d x y z w a b X Y:Fin p} (h1:X*(1+d*x*z*y*w)=x*w+y*z) (h2:Y*(1-d*x*z*y*w)=y*w+x*z) :
  ((x*a)*(w*b)+(z*b)*(y*a))*(a*b)*((a*b)*(a*b)-d*((x*a)*(w*b)*((z*b)*(y*a))))=X*(((a*b)*(a*b)+d*((x*a)*(w*b)*((z*b)*(y*a))))*((a*b)*(a*b)-d*((x*a)*(w*b)*((z*b)*(y*a))))) ∧
  ((y*a)*(w*b)+(x*a)*(z*b))*(a*b)*((a*b)*(a*b)+d*((x*a)*(w*b)*((z*b)*(y*a))))=Y*(((a*b)*(a*b)+d*((x*a)*(w*b)*((z*b)*(y*a))))*((a*b)*(a*b)-d*((x*a)*(w*b)*((z*b)*(y*a))))) ∧
  (a*b)*(a*b)+d*((x*a)*(w*b)*((z*b)*(y*a)))=(a*b)*(a*b)*(1+d*x*z*y*w) ∧
  (a*b)*(a*b)-d*((x*a)*(w*b)*((z*b)*(y*a)))=(a*b)*(a*b)*(1-d*x*z*y*w):=by
 have e1:(a*b)*(a*b)+d*((x*a)*(w*b)*((z*b)*(y*a)))=(a*b)*(a*b)*(1+d*x*z*y*w):=by clear h1 h2;grind
 have e2:(a*b)*(a*b)-d*((x*a)*(w*b)*((z*b)*(y*a)))=(a*b)*(a*b)*(1-d*x*z*y*w):=by clear h1 h2 e1;grind
 refine ⟨?_,?_,e1,e2⟩
 ·
  rw [e1,e2]
  clear e1 e2 h2
  generalize 1+d*x*z*y*w=S at *
  generalize 1-d*x*z*y*w=T at *
  have:(x*a)*(w*b)+(z*b)*(y*a)=(x*w+y*z)*(a*b):=by clear h1;grind
  rw [this,←h1]
  clear this h1
  grind
 ·
  rw [e1,e2]
  clear e1 e2 h1
  generalize 1+d*x*z*y*w=S at *
  generalize 1-d*x*z*y*w=T at *
  have:(y*a)*(w*b)+(x*a)*(z*b)=(y*w+x*z)*(a*b):=by clear h2;grind
  rw [this,←h2]
  clear this h2
  grind
theorem rep4_add {d x y z w a b X Y l m:Fin p} (h1:X*(1+d*x*z*y*w)=x*w+y*z) (h2:Y*(1-d*x*z*y*w)=y*w+x*z)
  (hl:l=(y*a-x*a)*(w*b-z*b)) (hm:m=(y*a+x*a)*(w*b+z*b)) :
  m-l=2*(a*b)*(X*(1+d*x*z*y*w))∧m+l=2*(a*b)*(Y*(1-d*x*z*y*w)) ∧
  a*b+x*y*a*(z*w*b)*d+(a*b+x*y*a*(z*w*b)*d)=2*(a*b)*(1+d*x*z*y*w) ∧
  a*b-x*y*a*(z*w*b)*d+(a*b-x*y*a*(z*w*b)*d)=2*(a*b)*(1-d*x*z*y*w):=by
 rw [h1,h2]
 clear h1 h2
 subst hl hm
 refine ⟨?_,?_,?_,?_⟩<;>grind
theorem rep4_out {X Y S T k:Fin p}:k*(X*S)*(k*T)=X*(k*S*(k*T))∧k*(Y*T)*(k*S)=Y*(k*S*(k*T))∧k*(X*S)*(k*(Y*T))=X*Y*(k*S*(k*T)):=by
 refine ⟨?_,?_,?_⟩<;>grind
theorem qM (x y a:Fin p):-(x*a)=-x*a∧-(x*y*a)=-x*y*a:=by constructor<;>grind
theorem neg_zero':-(0:Fin p)=0:=by grind
theorem mS {x a i:Fin p} (h:a*i=1):x*a*i=x:=by grind
theorem cross {x a z b:Fin p} (hp:IsPrime p) (ha:a≠0) (hb:b≠0):x*a*b=z*b*a↔x=z:=by
 constructor
 ·
  intro h
  refine nF hp (dO hp ha hb) ?_
  grind
 ·
  intro h
  subst h
  grind
theorem iJ (x y:Fin p):x=x*1∧y=y*1∧x*y=x*y*1:=by refine ⟨?_,?_,?_⟩<;>grind
theorem kD:(0:Fin p)=0*1∧(1:Fin p)=1*1∧(0:Fin p)*1=0*1*1:=by refine ⟨?_,?_,?_⟩<;>grind
end
structure Pj3 where
 X:Fin PP
 Y:Fin PP
 Z:Fin PP
def RepR (P:Pt) (r:Pj3):Prop:=r.Z≠0∧r.X=P.x*r.Z∧r.Y=P.y*r.Z
def rpAdd (p q:Pj3):Pj3 :=
 ⟨(p.X*q.Y+q.X*p.Y)*(p.Z*q.Z)*(p.Z*q.Z*(p.Z*q.Z)-TD*(p.X*q.Y*(q.X*p.Y))),(p.Y*q.Y+p.X*q.X)*(p.Z*q.Z)*(p.Z*q.Z*(p.Z*q.Z)+TD*(p.X*q.Y*(q.X*p.Y))),
  (p.Z*q.Z*(p.Z*q.Z)+TD*(p.X*q.Y*(q.X*p.Y)))*(p.Z*q.Z*(p.Z*q.Z)-TD*(p.X*q.Y*(q.X*p.Y)))⟩
def rpNeg (p:Pj3):Pj3:=⟨-p.X,p.Y,p.Z⟩
def rpNil:Pj3:=⟨0,1,1⟩
theorem RepR.add {P Q:Pt} {p q:Pj3} (hP:RepR P p) (hQ:RepR Q q):RepR (P.add Q) (rpAdd p q):=by
 obtain ⟨a0,hx,hy⟩:=hP
 obtain ⟨b0,hz,hw⟩:=hQ
 obtain ⟨d1,d2⟩:=P.den Q
 have h1:=P.add_x Q
 have h2:=P.add_y Q
 unfold RepR rpAdd
 dsimp only
 rw [hx,hy,hz,hw]
 obtain ⟨e1,e2,e3,e4⟩:=rep3_add (a:=p.Z) (b:=q.Z) h1 h2
 refine ⟨?_,e1,e2⟩
 rw [e3,e4]
 have ab:=dO cF a0 b0
 exact dO cF (dO cF (dO cF ab ab) d1) (dO cF (dO cF ab ab) d2)
theorem RepR.neg {P:Pt} {p:Pj3} (hP:RepR P p):RepR P.neg (rpNeg p):=by
 obtain ⟨a0,hx,hy⟩:=hP
 exact ⟨a0,by show -p.X=-P.x*p.Z;rw [hx];exact (qM _ 0 _).1,hy⟩
theorem RepR.nil:RepR Pt.nil rpNil:=⟨fM cF,kD.1,kD.2.1⟩
theorem RepR.flat {P:Pt} {p:Pj3} (h:RepR P p):p.X*p.Z^(PP-2)=P.x∧p.Y*p.Z^(PP-2)=P.y:=by
 obtain ⟨a0,hx,hy⟩:=h
 have hi:p.Z*p.Z^(PP-2)=1:=oG cF a0
 rw [hx,hy]
 exact ⟨mS hi,mS hi⟩
theorem RepR.same {P Q:Pt} {p q:Pj3} (hP:RepR P p) (hQ:RepR Q q):(p.X*q.Z=q.X*p.Z∧p.Y*q.Z=q.Y*p.Z)↔P=Q:=by
 obtain ⟨a0,hx,hy⟩:=hP
 obtain ⟨b0,hz,hw⟩:=hQ
 rw [hx,hy,hz,hw,cross cF a0 b0,cross cF a0 b0]
 constructor
 ·
  rintro ⟨h1,h2⟩
  exact Pt.ext' h1 h2
 ·
  rintro rfl
  exact ⟨rfl,rfl⟩
theorem RepR.of (P:Pt):RepR P ⟨P.x,P.y,1⟩:=⟨fM cF,(iJ _ 0).1,(iJ _ 0).1⟩
def RepE (P:Pt) (s:L4 PP):Prop:=s.c≠0∧s.a=P.x*s.c∧s.b=P.y*s.c∧s.d=P.x*P.y*s.c
def ptSet (s:L4 PP):L4 PP:=if s.c=0 then ⟨0,1,1,0*1⟩ else s
def RepS (P:Pt) (s:L4 PP):Prop:=RepE P (ptSet s)
def paL (s t:L4 PP):Fin PP:=(s.b-s.a)*(t.b-t.a)
def paH (s t:L4 PP):Fin PP:=(s.b+s.a)*(t.b+t.a)
def paU (s t:L4 PP):Fin PP:=s.c*t.c+s.d*t.d*TD+(s.c*t.c+s.d*t.d*TD)
def paV (s t:L4 PP):Fin PP:=s.c*t.c-s.d*t.d*TD+(s.c*t.c-s.d*t.d*TD)
def ptAdd0 (s t:L4 PP):L4 PP:=⟨(paH s t-paL s t)*paV s t,(paH s t+paL s t)*paU s t,paU s t*paV s t,(paH s t-paL s t)*(paH s t+paL s t)⟩
def ptAdd (s t:L4 PP):L4 PP:=ptAdd0 (ptSet s) (ptSet t)
def ptNeg (s:L4 PP):L4 PP:=⟨-s.a,s.b,s.c,-s.d⟩
theorem oW {s:L4 PP} (h:s.c≠0):ptSet s=s:=by unfold ptSet;rw [if_neg h]
theorem tG {s:L4 PP} (h:s.c=0):ptSet s=⟨0,1,1,0*1⟩:=by unfold ptSet;rw [if_pos h]
theorem RepE.set {P:Pt} {s:L4 PP} (h:RepE P s):RepS P s:=by
 unfold RepS
 rw [oW h.1]
 exact h
theorem two_ne0:(2:Fin PP)≠0:=ld_two ed1
theorem RepE.padd0 {P Q:Pt} {s t:L4 PP} (hP:RepE P s) (hQ:RepE Q t):RepE (P.add Q) (ptAdd0 s t):=by
 obtain ⟨a0,hx,hy,hxy⟩:=hP
 obtain ⟨b0,hz,hw,hzw⟩:=hQ
 obtain ⟨d1,d2⟩:=P.den Q
 have h1:=P.add_x Q
 have h2:=P.add_y Q
 obtain ⟨e1,e2,e3,e4⟩:=rep4_add (a:=s.c) (b:=t.c) (l:=paL s t) (m:=paH s t) h1 h2 (by unfold paL;rw [hx,hy,hz,hw]) (by unfold paH;rw [hx,hy,hz,hw])
 have e3':paU s t=2*(s.c*t.c)*(1+TD*P.x*Q.x*P.y*Q.y):=by unfold paU;rw [hxy,hzw];exact e3
 have e4':paV s t=2*(s.c*t.c)*(1-TD*P.x*Q.x*P.y*Q.y):=by unfold paV;rw [hxy,hzw];exact e4
 have k0:(2:Fin PP)*(s.c*t.c)≠0:=dO cF two_ne0 (dO cF a0 b0)
 unfold RepE ptAdd0
 dsimp only
 rw [e1,e2,e3',e4']
 obtain ⟨f1,f2,f3⟩:=rep4_out (X:=(P.add Q).x) (Y:=(P.add Q).y) (S:=1+TD*P.x*Q.x*P.y*Q.y) (T:=1-TD*P.x*Q.x*P.y*Q.y) (k:=2*(s.c*t.c))
 exact ⟨dO cF (dO cF k0 d1) (dO cF k0 d2),f1,f2,f3⟩
theorem RepS.add {P Q:Pt} {s t:L4 PP} (hP:RepS P s) (hQ:RepS Q t):RepS (P.add Q) (ptAdd s t):=(RepE.padd0 hP hQ).set
theorem RepE.nil1:RepE Pt.nil ⟨0,1,1,0*1⟩:=⟨fM cF,kD.1,kD.2.1,kD.2.2⟩
theorem RepS.zero {s:L4 PP} (h:s.c=0):RepS Pt.nil s:=by
 unfold RepS
 rw [tG h]
 exact RepE.nil1
theorem RepE.inj {P Q:Pt} {s:L4 PP} (hP:RepE P s) (hQ:RepE Q s):P=Q:=by
 obtain ⟨a0,hx,hy,_⟩:=hP
 obtain ⟨_,hz,hw,_⟩:=hQ
 exact Pt.ext' (nF cF a0 (hx.symm.trans hz)) (nF cF a0 (hy.symm.trans hw))
theorem Pt.neg_nil:Pt.nil.neg=Pt.nil:=Pt.ext' neg_zero' rfl
theorem RepS.neg {P:Pt} {s:L4 PP} (hP:RepS P s):RepS P.neg (ptNeg s):=by
 by_cases h:s.c=0
 ·
  have h0:RepS Pt.nil s:=RepS.zero h
  have:P=Pt.nil:=RepE.inj hP h0
  subst this
  rw [Pt.neg_nil]
  exact RepS.zero h
 ·
  unfold RepS at hP
  rw [oW h] at hP
  obtain ⟨a0,hx,hy,hxy⟩:=hP
  refine RepE.set ⟨a0,?_,hy,?_⟩
  ·
   show -s.a=-P.x*s.c
   rw [hx]
   exact (qM _ 0 _).1
  ·
   show -s.d=-P.x*P.y*s.c
   rw [hxy]
   exact (qM _ _ _).2
theorem RepS.flat {P:Pt} {s:L4 PP} (h:RepS P s):(ptSet s).a*(ptSet s).c^(PP-2)=P.x∧(ptSet s).b*(ptSet s).c^(PP-2)=P.y:=by
 obtain ⟨a0,hx,hy,_⟩:=h
 have hi:(ptSet s).c*(ptSet s).c^(PP-2)=1:=oG cF a0
 rw [hx,hy]
 exact ⟨mS hi,mS hi⟩
theorem RepS.same {P Q:Pt} {s t:L4 PP} (hP:RepS P s) (hQ:RepS Q t):((ptSet s).a*(ptSet t).c=(ptSet t).a*(ptSet s).c∧(ptSet s).b*(ptSet t).c=(ptSet t).b*(ptSet s).c)↔P=Q:=by
 obtain ⟨a0,hx,hy,_⟩:=hP
 obtain ⟨b0,hz,hw,_⟩:=hQ
 rw [hx,hy,hz,hw,cross cF a0 b0,cross cF a0 b0]
 constructor
 ·
  rintro ⟨h1,h2⟩
  exact Pt.ext' h1 h2
 ·
  rintro rfl
  exact ⟨rfl,rfl⟩
def ptE (x y:Fin PP):L4 PP:=⟨x,y,1,x*y⟩
theorem RepS.of (P:Pt):RepS P (ptE P.x P.y):=RepE.set ⟨fM cF,(iJ _ 0).1,(iJ _ 0).1,(iJ _ _).2.2⟩
def ptMul (s:L4 PP) (k:Nat):Nat→L4 PP
 | 0=>⟨0,0,0,0⟩
 | n+1=>if lbit k (255-n) then ptAdd (ptAdd (ptMul s k n) (ptMul s k n)) s else ptAdd (ptMul s k n) (ptMul s k n)
def rpMul (r:Pj3) (k:Nat):Nat→Pj3
 | 0=>rpNil
 | n+1=>if lbit k (255-n) then rpAdd (rpAdd (rpMul r k n) (rpMul r k n)) r else rpAdd (rpMul r k n) (rpMul r k n)
theorem half256 (k n:Nat) (hn:n<256):k/2^(256-(n+1))=2*(k/2^(256-n))+k/2^(255-n)%2:=by
 have h1:256-(n+1)=255-n:=by omega
 have h2:256-n=(255-n)+1:=by omega
 rw [h1,h2,Nat.pow_succ,←Nat.div_div_eq_div_mul]
 omega
theorem bit_yes {k i:Nat} (h:lbit k i=true):k/2^i%2=1:=of_decide_eq_true h
theorem bit_no {k i:Nat} (h:¬ lbit k i=true):k/2^i%2=0:=by
 have:¬ k/2^i%2=1:=fun e=>h (decide_eq_true e)
 omega
theorem ptMul_rep {P:Pt} {s:L4 PP} {k:Nat} (h:RepS P s) (hk:k<2^256):∀ n,n≤256→RepS (P.mul (k/2^(256-n))) (ptMul s k n):=by
 intro n
 induction n with
 | zero =>
  intro _
  rw [Nat.sub_zero,Nat.div_eq_of_lt hk]
  exact RepS.zero rfl
 | succ n ih =>
  intro hn
  have i1:=ih (by omega)
  rw [half256 k n (by omega)]
  unfold ptMul
  by_cases hb:lbit k (255-n)=true
  ·
   rw [if_pos hb,bit_yes hb,Pt.mul_add,Pt.mul_two,Pt.mul_one]
   exact (i1.add i1).add h
  ·
   rw [if_neg hb,bit_no hb,Nat.add_zero,Pt.mul_two]
   exact i1.add i1
theorem rpMul_rep {P:Pt} {r:Pj3} {k:Nat} (h:RepR P r) (hk:k<2^256):∀ n,n≤256→RepR (P.mul (k/2^(256-n))) (rpMul r k n):=by
 intro n
 induction n with
 | zero =>
  intro _
  rw [Nat.sub_zero,Nat.div_eq_of_lt hk]
  exact RepR.nil
 | succ n ih =>
  intro hn
  have i1:=ih (by omega)
  rw [half256 k n (by omega)]
  unfold rpMul
  by_cases hb:lbit k (255-n)=true
  ·
   rw [if_pos hb,bit_yes hb,Pt.mul_add,Pt.mul_two,Pt.mul_one]
   exact (i1.add i1).add h
  ·
   rw [if_neg hb,bit_no hb,Nat.add_zero,Pt.mul_two]
   exact i1.add i1
theorem RepS.mul {P:Pt} {s:L4 PP} {k:Nat} (h:RepS P s) (hk:k<2^256):RepS (P.mul k) (ptMul s k 256):=by
 have:=ptMul_rep h hk 256 (Nat.le_refl _)
 rw [Nat.sub_self,Nat.pow_zero,Nat.div_one] at this
 exact this
theorem RepR.mul {P:Pt} {r:Pj3} {k:Nat} (h:RepR P r) (hk:k<2^256):RepR (P.mul k) (rpMul r k 256):=by
 have:=rpMul_rep h hk 256 (Nat.le_refl _)
 rw [Nat.sub_self,Nat.pow_zero,Nat.div_one] at this
 exact this
end
section
open Go Go.RowKit
def bv (x:UInt8):Value:=.int .u8 (x.toNat:Int)
theorem zI (x:UInt8):x.toNat<256:=x.toNat_lt
def bvs (l:List UInt8):Array Value:=(l.map bv).toArray
theorem bvs_get (l:List UInt8) (i:Nat):(bvs l)[i]?=l[i]?.map bv:=by simp [bvs]
def zeros (n:Nat):List UInt8:=List.replicate n 0
def Blk (w:World) (g:Nat) (t:TypeId) (cs:Array Value):Prop:=w.heap[g]?=some (.cells cs t (0,0))
section
variable {w w':World} {g:Nat} {t:TypeId} {cs:Array Value}
theorem Blk.lt (h:Blk w g t cs):g<w.heap.size:=(Array.getElem?_eq_some_iff.1 h).1
theorem Blk.cell (h:Blk w g t cs) (i:Nat):w.cell? ⟨g,i,none⟩=cs[i]?:=cell_of_row w g i cs t (0,0) h
theorem Blk.frozen (h:Blk w g t cs) (i:Nat):w.frozen? ⟨g,i,none⟩=false:=by
 unfold Blk at h
 simp [World.frozen?,h]
theorem Blk.new (w:World) (t:TypeId) (cs:Array Value):Blk (w.alloc (.cells cs t)) w.heap.size t cs:=heap_alloc_new w _
theorem Blk.new' (w:World) (g:Nat) (t:TypeId) (cs:Array Value) (hg:g=w.heap.size):Blk (w.alloc (.cells cs t)) g t cs:=by subst hg;exact Blk.new w t cs
theorem Blk.drew (h:Blk w g t cs):Blk w.drew g t cs:=h
theorem Blk.alloc (h:Blk w g t cs) (o:Obj):Blk (w.alloc o) g t cs:=(Below.heap_alloc w o g h.lt).trans h
theorem Blk.set_ (h:Blk w g t cs) (i:Nat) (u:Value):Blk (w.setCell ⟨g,i,none⟩ u) g t (cs.setIfInBounds i u):=by
 unfold Blk at h ⊢
 simp [World.setCell,Array.getElem?_modify,h]
theorem Blk.far (h:Blk w g t cs) {p:Addr} (hp:g≠p.block) (u:Value):Blk (w.setCell p u) g t cs:=(Below.heap_setCell w p u g hp).trans h
theorem Blk.below {B:Nat} (h:Blk w g t cs) (hb:Below B w w') (hg:g<B):Blk w' g t cs:=(hb.block g hg).trans h
theorem Blk.grown {row:Option Nat} (h:Blk w g t cs) (hb:w.grownBy w' row) (hg:some g≠row):Blk w' g t cs:=(hb.block g h.lt hg).trans h
theorem Blk.inj {t':TypeId} {cs':Array Value} (h:Blk w g t cs) (h':Blk w g t' cs'):t=t'∧cs=cs':=by
 unfold Blk at h h'
 rw [h] at h'
 injection h' with h'
 injection h' with a b
 exact ⟨b,a⟩
end
structure BS (w:World) (B:Nat) (A:Option Addr) (n c:Nat) (l:List UInt8):Prop where
 len:l.length=n
 cap:n≤c
 nil_:A=none→c=0
 at_:0<n→∃ b o,A=some ⟨b,o,none⟩∧b<B∧∀ j x,l[j]?=some x→w.cell? ⟨b,o+j,none⟩=some (.int .u8 (x.toNat:Int))
section
variable {w w':World} {B B' n c:Nat} {A:Option Addr} {l:List UInt8}
theorem BS.nil (w:World) (B:Nat):BS w B none 0 0 []:=⟨rfl,Nat.le_refl _,fun _=>rfl,fun h=>absurd h (by omega)⟩
theorem BS.keep (h:BS w B A n c l) (hk:∀ p:Addr,p.block<B→w'.cell? p=w.cell? p):BS w' B A n c l :=
 ⟨h.len,h.cap,h.nil_,fun hn=>by
  obtain ⟨b,o,e,hb,hc⟩:=h.at_ hn
  exact ⟨b,o,e,hb,fun j x hx=>(hk _ hb).trans (hc j x hx)⟩⟩
theorem BS.more (h:BS w B A n c l) (hB:B≤B'):BS w B' A n c l :=
 ⟨h.len,h.cap,h.nil_,fun hn=>by
  obtain ⟨b,o,e,hb,hc⟩:=h.at_ hn
  exact ⟨b,o,e,by omega,hc⟩⟩
theorem BS.below (h:BS w B A n c l) (hb:Below B w w'):BS w' B A n c l:=h.keep fun _ hp=>hb.cell hp
theorem BS.drew (h:BS w B A n c l):BS w.drew B A n c l:=⟨h.1,h.2,h.3,h.4⟩
theorem BS.alloc (h:BS w B A n c l) (hB:B≤w.heap.size) (o:Obj):BS (w.alloc o) B A n c l:=h.keep fun p hp=>World.cell?_alloc_lt w o p (by omega)
theorem BS.setCell (h:BS w B A n c l) {p:Addr} (hB:B≤p.block) (u:Value):BS (w.setCell p u) B A n c l :=
 h.keep fun q hq=>World.cell?_setCell_other w p q u (fun e=>by subst e;omega)
theorem BS.grown (h:BS w B A n c l) {row:Option Nat} (hg:w.grownBy w' row) (hB:B≤w.heap.size) (hr:∀ g,row=some g→B≤g):BS w' B A n c l :=
 h.keep fun p hp=>World.cell?_of_block (hg.block p.block (by omega) (fun e=>by have:=hr _ e.symm;omega))
theorem BS.ofBlk {g:Nat} {t:TypeId} (h:Blk w g t (bvs l)) (n:Nat) (hn:n=l.length) (B:Nat) (hB:g<B):BS w B (some ⟨g,0,none⟩) n n l :=
 ⟨hn.symm,Nat.le_refl _,(by intro e;cases e),fun _=>⟨g,0,rfl,hB,fun j x hx=>by rw [Nat.zero_add,h.cell,bvs_get,hx];rfl⟩⟩
theorem BS.at' (h:BS w B A n c l) {k:Nat} (hk:k<n):∃ b o x,A=some ⟨b,o,none⟩∧b<B∧l[k]?=some x∧w.cell? ⟨b,o+k,none⟩=some (.int .u8 (x.toNat:Int)):=by
 obtain ⟨b,o,e,hb,hc⟩:=h.at_ (by omega)
 have hl:k<l.length:=by have:=h.len;omega
 exact ⟨b,o,l[k],e,hb,List.getElem?_eq_getElem hl,hc k _ (List.getElem?_eq_getElem hl)⟩
end
theorem run_mkb {P:Program} (t e:TypeId) (ht:P.underlying t=some (.slice e)) (he:(P.info? e).map (fun i=>(i.zero,i.size,i.bytes))=some (some (.int .u8 0),1,1)) (n:Nat) (hn:n≤281474976710656) (W:World) :
  (Instr.makeSlice t (.int .i64 (n:Int)) (.int .i64 (n:Int))).run P W=.ok (.slice (some ⟨W.heap.size,0,none⟩) n n) (W.alloc (.cells (bvs (zeros n)) e)):=by
 obtain ⟨i,hi,hz,hs,hb⟩:=info_parts he
 have h:=run_make (P:=P) W t e i _ ht hi hz .i64 .i64 (n:Int) (n:Int) (by omega) (by omega) (by rw [hb];omega) (by omega)
 simp only [Int.toNat_natCast,hs,Nat.mul_one] at h
 rw [h]
 have:madeCells (Value.int .u8 0).cells n=bvs (zeros n):=by
  apply Array.toList_inj.1
  show (madeCells #[Value.int .u8 0] n).toList=_
  rw [toList_madeCells_one]
  simp [bvs,zeros,List.map_replicate]
  exact .inr rfl
 rw [this]
def OwnB (w:World) (base:Nat) (e:TypeId) (v:Value) (l:List UInt8):Prop:=w.ownsRow base e 1 v l.length (l.map bv)
section
variable {w w':World} {base:Nat} {e:TypeId} {v:Value} {l:List UInt8}
theorem OwnB.nil (w:World) (base:Nat) (e:TypeId):OwnB w base e (.slice none 0 0) []:=⟨rfl,.inl ⟨rfl,rfl⟩⟩
theorem OwnB.alloc (h:OwnB w base e v l) (o:Obj):OwnB (w.alloc o) base e v l:=World.ownsRow.alloc h o
theorem OwnB.drew (h:OwnB w base e v l):OwnB w.drew base e v l:=h
theorem OwnB.ofBlk {g:Nat} (h:Blk w g e (bvs l)) (n:Nat) (hn:n=l.length) (hm:n≤maxLen) (hb:base≤g):OwnB w base e (.slice (some ⟨g,0,none⟩) n n) l:=by
 subst hn
 exact ⟨by simp,.inr ⟨g,_,_,rfl,hb,h,Nat.le_refl _,hm,by simp [bvs],by rw [List.take_of_length_le (by simp [bvs])];simp [bvs]⟩⟩
theorem OwnB.form (h:OwnB w base e v l):∃ A n c,v=.slice A n c∧BS w w.heap.size A n c l∧∀ g,v.ownBlock=some g→base≤g:=by
 have hlt:=World.ownsRow.lt h
 rcases h.2 with ⟨rfl,h0⟩ | ⟨g,cap,cur,rfl,hb,hh,hc,hm,hs,ht⟩
 ·
  obtain rfl:l=[]:=List.eq_nil_of_length_eq_zero h0
  exact ⟨none,0,0,rfl,BS.nil _ _,fun g hg=>(hlt g hg).1⟩
 ·
  refine ⟨_,_,_,rfl,⟨rfl,hc,by intro e;(cases e),fun _=>⟨g,0,rfl,(hlt g rfl).2,fun j x hx=>?_⟩⟩,fun g hg=>(hlt g hg).1⟩
  have:=World.ownsRow.cells h (g:=g) rfl j (bv x) (by simp [hx])
  rw [Addr.add_lit] at this
  exact this
theorem OwnB.own (h:OwnB w base e v l) {g:Nat} (hg:v.ownBlock=some g):base≤g∧g<w.heap.size:=World.ownsRow.lt h g hg
end
section
variable {P:Program} {w:World} {ops:Array Oper} {rest:List Oper} {o:Oper} {a:Act} {Q:Exit→Act→World→Prop}
theorem bs_cells {B:Nat} {A:Option Addr} {m c:Nat} {l:List UInt8} (hr:BS w B A m c l):∀ ad,A=some ad→∀ j u,(l.map bv)[j]?=some u→w.cell? (ad.add j)=some u:=by
 rintro ad rfl j u hu
 rw [List.getElem?_map] at hu
 obtain ⟨x,hx,rfl⟩:=Option.map_eq_some_iff.1 hu
 obtain ⟨b,o,e,_,hc⟩:=hr.at_ (by have:=hr.len;have:=(List.getElem?_eq_some_iff.1 hx).1;omega)
 injection e with e
 subst e
 rw [Addr.add_lit]
 exact hc j x hx
theorem bv_all (l:List UInt8):∀ u∈l.map bv,u.oneCell'=true:=by
 intro u hu
 obtain ⟨_,_,rfl⟩:=List.mem_map.1 hu
 rfl
theorem mE (t ty:TypeId)
  (e:TypeId) (ht:P.underlying t=some (.slice e)) (he:(P.info? e).map (fun i=>(i.zero,i.size,i.bytes))=some (some (.int .u8 0),1,1))
  (base:Nat) (v:Value) (l:List UInt8) (hown:OwnB w base e v l)
  (B m c:Nat) (A:Option Addr) (l2:List UInt8) (hr:BS w B A m c l2) (hbig:l.length+m≤140737488355328) (hbase:base≤w.heap.size) :
  ∃ v' w',(Builtin.append_ #[t,t] ty #[v,.slice A m c]).run P w=.ok v' w'∧OwnB w' base e v' (l++l2)∧w.grownBy w' v.ownBlock∧(v'.ownBlock=v.ownBlock∨v'.ownBlock=some w.heap.size):=by
 obtain ⟨i,hi,hz,hsz,hby⟩:=info_parts he
 have hm:=hr.len
 subst hm
 rcases A with _ | ad
 ·
  have h0:=hr.nil_ rfl
  have h1:=hr.cap
  obtain rfl:l2=[]:=List.eq_nil_of_length_eq_zero (by omega)
  subst h0
  exact ⟨v,w,run_append_owned_none (P:=P) w base t ty e i 1 ht hi v _ _ hown,by simpa using hown,World.grownBy.refl _ _,.inl rfl⟩
 ·
  obtain ⟨v',w',h1,h2,h3,_,h5⟩:=run_append_own_at (P:=P) w base t ty e i _ 1 1 ht hi hz hsz hby rfl (by omega) v _ _ hown ad l2.length c (l2.map bv) (by simp) (bs_cells hr _ rfl) (bv_all _) (by simp only [maxLen];omega) (by omega) hbase
  exact ⟨v',w',h1,by unfold OwnB;rw [List.length_append,List.map_append];exact h2,h3,h5⟩
theorem eA (hg:o.guard=none) (s x:Operand) (t:TypeId) (ho:o.op=.call { callee:=.builtin .append,args:=#[s,x],argTypes:=#[t,t] })
  (e:TypeId) (ht:P.underlying t=some (.slice e)) (he:(P.info? e).map (fun i=>(i.zero,i.size,i.bytes))=some (some (.int .u8 0),1,1))
  (base:Nat) (v:Value) (l:List UInt8) (hs:a.eval s=v) (hown:OwnB w base e v l)
  (B m c:Nat) (A:Option Addr) (l2:List UInt8) (hx:a.eval x=.slice A m c) (hr:BS w B A m c l2) (hbig:l.length+m≤140737488355328) (hbase:base≤w.heap.size)
  (h:∀ v' w',OwnB w' base e v' (l++l2)→w.grownBy w' v.ownBlock→(v'.ownBlock=v.ownBlock∨v'.ownBlock=some w.heap.size)→wpList P ops Q rest (a.put o.dst v') w'):wpList P ops Q (o::rest) a w:=by
 refine wpList_plain hg fun K hK=>?_
 obtain ⟨v',w',hrun,h1,h2,h3⟩:=mE (P:=P) (w:=w) t o.type e ht he base v l hown B m c A l2 hr hbig hbase
 unfold Oper.wp
 simp [execOp,ho,resolve,invoke,builtin,hs,hx,hrun,Result.andThen]
 exact hK _ _ (h v' w' h1 h2 h3)
end
theorem vO (a:Addr):a.add 0=a:=by simp [Addr.add]
theorem zA (A:Option Addr):A.map (fun a=>a.add 0)=A:=by
 cases A with
 | none=>rfl
 | some a=>simp [vO]
theorem fH {P:Program} {e:TypeId} (he:(P.info? e).map (fun i=>(i.zero,i.size,i.bytes))=some (some (.int .u8 0),1,1)) (W:World):(sizeOf e).run P W=.ok 1 W:=by
 obtain ⟨i,hi,hz,hs,hb⟩:=info_parts he
 simp [sizeOf,typeInfo,hi,hs]
theorem BS.head {w:World} {B n c:Nat} {A:Option Addr} {l:List UInt8} (h:BS w B A n c l) {k:Nat} (hk:k≤n):BS w B A k k (l.take k) :=
 ⟨by rw [List.length_take,h.len];omega,Nat.le_refl _,fun e=>by have:=h.nil_ e;have:=h.cap;omega,fun hp=>by
  obtain ⟨b,o,e,hb,hc⟩:=h.at_ (by omega)
  refine ⟨b,o,e,hb,fun j x hx=>hc j x ?_⟩
  rw [List.getElem?_take] at hx
  split at hx
  ·
   exact hx
  ·
   cases hx⟩
theorem BS.head2 {w:World} {B n c:Nat} {A:Option Addr} {l:List UInt8} (h:BS w B A n c l) {k:Nat} (hk:k≤n):BS w B A k c (l.take k) :=
 ⟨(h.head hk).len,by have:=h.cap;omega,h.nil_,(h.head hk).at_⟩
theorem BS.tail {P:Program} (t e:TypeId) (ht:P.underlying t=some (.slice e)) (he:(P.info? e).map (fun i=>(i.zero,i.size,i.bytes))=some (some (.int .u8 0),1,1)) {w:World} {B n c:Nat} {A:Option Addr} {l:List UInt8}
  (h:BS w B A n c l) {k:Nat} (hk:k≤n) :
  ∃ A',(∀ W,(Instr.slice t (.slice A n c) (some (.int .i64 (k:Int))) none none).run P W=.ok (.slice A' (n-k) (c-k)) W)∧BS w B A' (n-k) (c-k) (l.drop k):=by
 have hel:P.elem t=e:=by simp [Program.elem,ht]
 have hnc:=h.cap
 refine ⟨if c=k then A else A.map (fun a=>a.add k),fun W=>?_,?_⟩
 ·
  rw [run_slice_l W t A n c (by rw [hel];exact ht) _ _ (by omega) (by omega),hel,fH he]
  simp only [Result.andThen,sliced,Int.toNat_natCast,Nat.mul_one]
 ·
  refine ⟨by rw [List.length_drop,h.len],by omega,fun e=>?_,fun hp=>?_⟩
  ·
   split at e
   ·
    omega
   ·
    cases A with
    | none=>have:=h.nil_ rfl;omega
    | some a=>cases e
  ·
   obtain ⟨b,o,e,hb,hc⟩:=h.at_ (by omega)
   subst e
   rw [if_neg (by omega)]
   refine ⟨b,o+k,by simp [Addr.add_lit],hb,fun j x hx=>?_⟩
   rw [List.getElem?_drop] at hx
   have:=hc _ x hx
   rw [←Nat.add_assoc] at this
   exact this
theorem gE (w:World) (g i:Nat) (u:Value):w.grownBy (w.setCell ⟨g,i,none⟩ u) (some g) :=
 ⟨rfl,rfl,rfl,by simp [World.setCell],fun k _ h=>Below.heap_setCell w _ u k (fun e=>h (by rw [e]))⟩
theorem eG {a b c:World} {row:Option Nat} (h:a.grownBy b row) (k:b.grownBy c row):a.grownBy c row:=World.grownBy.trans h k
theorem gX {a b:World} {row:Option Nat} (h:a.grownBy b row):a.grownBy b.drew row:=⟨h.os,h.tape,h.output,h.size,h.block⟩
theorem gQ {a b:World} (h:Below a.heap.size a b) (row:Option Nat):a.grownBy b row:=⟨h.os,h.tape,h.output,h.size,fun i hi _=>h.block i hi⟩
theorem BS.row {w w':World} {g n c:Nat} {A:Option Addr} {l:List UInt8} (h:BS w g A n c l) (hg:w.grownBy w' (some g)) (hlt:g≤w.heap.size):BS w' g A n c l :=
 h.keep fun p hp=>World.cell?_of_block (hg.block p.block (by omega) (fun e=>by injection e with e;omega))
theorem Blk.row {w w':World} {g r:Nat} {t:TypeId} {cs:Array Value} (h:Blk w g t cs) (hg:w.grownBy w' (some r)) (hne:g≠r):Blk w' g t cs:=h.grown hg (fun e=>hne (by injection e))
structure RS (w:World) (B:Nat) (A:Option Addr) (n c:Nat) (L:List (List UInt8)):Prop where
 len:L.length=n
 at_:0<n→∃ b o,A=some ⟨b,o,none⟩∧b<B∧∀ j l,L[j]?=some l→∃ Aj nj cj,w.cell? ⟨b,o+j,none⟩=some (.slice Aj nj cj)∧BS w B Aj nj cj l
section
variable {w w':World} {B n c:Nat} {A:Option Addr} {L:List (List UInt8)}
theorem RS.keep (h:RS w B A n c L) (hk:∀ p:Addr,p.block<B→w'.cell? p=w.cell? p):RS w' B A n c L :=
 ⟨h.len,fun hn=>by
  obtain ⟨b,o,e,hb,hc⟩:=h.at_ hn
  refine ⟨b,o,e,hb,fun j l hl=>?_⟩
  obtain ⟨Aj,nj,cj,h1,h2⟩:=hc j l hl
  exact ⟨Aj,nj,cj,(hk _ hb).trans h1,h2.keep hk⟩⟩
theorem RS.below (h:RS w B A n c L) (hb:Below B w w'):RS w' B A n c L:=h.keep fun _ hp=>hb.cell hp
theorem RS.at' (h:RS w B A n c L) {k:Nat} (hk:k<n):∃ b o l Aj nj cj,A=some ⟨b,o,none⟩∧b<B∧L[k]?=some l∧w.cell? ⟨b,o+k,none⟩=some (.slice Aj nj cj)∧BS w B Aj nj cj l:=by
 obtain ⟨b,o,e,hb,hc⟩:=h.at_ (by omega)
 have hl:k<L.length:=by have:=h.len;omega
 obtain ⟨Aj,nj,cj,h1,h2⟩:=hc k L[k] (List.getElem?_eq_getElem hl)
 exact ⟨b,o,L[k],Aj,nj,cj,e,hb,List.getElem?_eq_getElem hl,h1,h2⟩
end
def flat (L:List (List UInt8)) (k:Nat):List UInt8:=(L.take k).flatten
theorem flat_step {L:List (List UInt8)} {k:Nat} {l:List UInt8} (h:L[k]?=some l):flat L (k+1)=flat L k++l:=by
 obtain ⟨hk,rfl⟩:=List.getElem?_eq_some_iff.1 h
 unfold flat
 rw [List.take_succ_eq_append_getElem hk,List.flatten_append]
 simp
theorem flat_all {L:List (List UInt8)} {n:Nat} (h:L.length=n):flat L n=L.flatten:=by unfold flat;rw [List.take_of_length_le (by omega)]
theorem flat_le (L:List (List UInt8)) (k:Nat):(flat L k).length≤L.flatten.length:=by
 unfold flat
 conv=>rhs;rw [←List.take_append_drop k L,List.flatten_append,List.length_append]
 omega
end
section
open Go.RowKit
def wd0 (n:Nat):Nat:=n%18446744073709551616
def wd1 (n:Nat):Nat:=n/18446744073709551616%18446744073709551616
def wd2 (n:Nat):Nat:=n/340282366920938463463374607431768211456%18446744073709551616
def wd3 (n:Nat):Nat:=n/6277101735386680763835789423207666416102355444464034512896%18446744073709551616
def wd4 (n:Nat):Nat:=n/115792089237316195423570985008687907853269984665640564039457584007913129639936
theorem cZ (n:Nat):wd0 n<18446744073709551616:=Nat.mod_lt _ (by decide)
theorem fP (n:Nat):wd1 n<18446744073709551616:=Nat.mod_lt _ (by decide)
theorem fO (n:Nat):wd2 n<18446744073709551616:=Nat.mod_lt _ (by decide)
theorem fA (n:Nat):wd3 n<18446744073709551616:=Nat.mod_lt _ (by decide)
def num5 (a b c d e:Nat):Nat:=a+18446744073709551616*b+340282366920938463463374607431768211456*c+6277101735386680763835789423207666416102355444464034512896*d+115792089237316195423570985008687907853269984665640564039457584007913129639936*e
theorem rU {n a b c d e:Nat} (h:n=num5 a b c d e) (ha:a<18446744073709551616) (hb:b<18446744073709551616) (hc:c<18446744073709551616) (hd:d<18446744073709551616) :
  wd0 n=a∧wd1 n=b∧wd2 n=c∧wd3 n=d∧wd4 n=e:=by
 subst h
 unfold num5 wd0 wd1 wd2 wd3 wd4
 omega
theorem rW (n:Nat):num5 (wd0 n) (wd1 n) (wd2 n) (wd3 n) (wd4 n)=n:=by
 unfold num5 wd0 wd1 wd2 wd3 wd4
 omega
theorem wd4_zero {n:Nat} (h:K256 n):wd4 n=0:=by
 unfold wd4
 omega
def es (n:Nat):Array Value:=#[.int .u64 (wd0 n:Int),.int .u64 (wd1 n:Int),.int .u64 (wd2 n:Int),.int .u64 (wd3 n:Int)]
theorem qZ (x y c:Nat) (hx:x<18446744073709551616) (hy:y<18446744073709551616) (hc:c≤1) (w:World) :
  (callFunc 120 #[.int .u64 x,.int .u64 y,.int .u64 c]).run zP w =
   .ok (.value (.tuple #[.int .u64 (((x+y+c)%18446744073709551616:Nat):Int),.int .u64 (((x+y+c)/18446744073709551616:Nat):Int)])) w:=by
 rw [run_callFunc_extern Tryz.func120 (by kernel_rfl) (by kernel_rfl) (by kernel_rfl) (e:=add64Entry) (by kernel_rfl),run_add64 x y c (by omega) (by omega) (by omega) (by omega)]
 simp only [Result.andThen]
 congr 5<;>omega
theorem qE (x y b:Nat) (hb:b≤1) (w:World) :
  (callFunc 111 #[.int .u64 x,.int .u64 y,.int .u64 b]).run zP w =
   .ok (.value (.tuple #[.int .u64 (((x+18446744073709551616-y-b)%18446744073709551616:Nat):Int),.int .u64 ((if x<y+b then 1 else 0:Nat):Int)])) w:=by
 rw [run_callFunc_extern Tryz.func111 (by kernel_rfl) (by kernel_rfl) (by kernel_rfl) (e:=sub64Entry) (by kernel_rfl),run_sub64 x y b hb]
 rfl
theorem eP (x y c:Nat) (hx:x<18446744073709551616) (hy:y<18446744073709551616) (hc:c≤1) :
  ∃ s k:Nat,(∀ w,(callFunc 120 #[.int .u64 x,.int .u64 y,.int .u64 c]).run zP w=.ok (.value (.tuple #[.int .u64 (s:Int),.int .u64 (k:Int)])) w) ∧
   s+18446744073709551616*k=x+y+c∧s<18446744073709551616∧k≤1 :=
 ⟨_,_,fun w=>qZ x y c hx hy hc w,by omega,by omega,by omega⟩
theorem jY (x y c:Nat) (hx:x<18446744073709551616) (hy:y<18446744073709551616) (hc:c≤1) :
  ∃ s k:Nat,(∀ w,(callFunc 111 #[.int .u64 x,.int .u64 y,.int .u64 c]).run zP w=.ok (.value (.tuple #[.int .u64 (s:Int),.int .u64 (k:Int)])) w) ∧
   s+y+c=x+18446744073709551616*k∧s<18446744073709551616∧k≤1:=by
 refine ⟨_,_,fun w=>qE x y c hc w,?_,?_,?_⟩
 ·
  split<;>omega
 ·
  omega
 ·
  split<;>omega
theorem qO (x y:Nat) (hx:x<18446744073709551616) (hy:y<18446744073709551616) (w:World) :
  Calls zP 117 #[.int .u64 x,.int .u64 y] w fun e w'=>e=.returned (.tuple #[.int .u64 ((x*y/18446744073709551616:Nat):Int),.int .u64 ((x*y%18446744073709551616:Nat):Int)])∧w=w':=by
 obtain ⟨bd,bt,bw,hhi⟩:=Lib.mul64_hi x y hx hy
 have ba:=Lib.half_mul_le (a:=x/4294967296) (b:=y/4294967296) (by omega) (by omega)
 have bb:=Lib.half_mul_le (a:=x/4294967296) (b:=y%4294967296) (by omega) (by omega)
 have bc:=Lib.half_mul_le (a:=x%4294967296) (b:=y/4294967296) (by omega) (by omega)
 have ba':x/4294967296*(y/4294967296)<18446744073709551616:=by omega
 have bb':x/4294967296*(y%4294967296)<18446744073709551616:=by omega
 have bc':x%4294967296*(y/4294967296)<18446744073709551616:=by omega
 have bh1:x/4294967296*(y/4294967296)+(x/4294967296*(y%4294967296)+x%4294967296*(y%4294967296)/4294967296)/4294967296<18446744073709551616:=by omega
 have bh:x/4294967296*(y/4294967296)+(x/4294967296*(y%4294967296)+x%4294967296*(y%4294967296)/4294967296)/4294967296+((x/4294967296*(y%4294967296)+x%4294967296*(y%4294967296)/4294967296)%4294967296+x%4294967296*(y/4294967296))/4294967296<18446744073709551616:=by omega
 go_enter Tryz.func117,Tryz.ntmps117
 go_wp2
 simp only [Mul64.maskN x hx,Mul64.maskN y hy,Mul64.divN,Mul64.mulN,Mul64.addN,Mul64.wrapN _ bd,Mul64.wrapN _ bb',Mul64.wrapN _ bt,Mul64.maskN _ bt,Mul64.wrapN _ bc',Mul64.wrapN _ bw,Mul64.wrapN _ ba',Mul64.wrapN _ bh1,Mul64.wrapN _ bh,Mul64.wrapM (x*y)]
 rw [hhi]
 go_ret2
 exact ⟨rfl,rfl⟩
def MulAt (x y hi lo:Nat):Prop:=hi*18446744073709551616+lo=x*y∧lo<18446744073709551616
theorem kF (x y:Nat) (hx:x<18446744073709551616) (hy:y<18446744073709551616) :
  ∃ hi lo:Nat,(∀ w,Calls zP 117 #[.int .u64 x,.int .u64 y] w fun e w'=>e=.returned (.tuple #[.int .u64 (hi:Int),.int .u64 (lo:Int)])∧w=w')∧MulAt x y hi lo :=
 ⟨_,_,fun w=>qO x y hx hy w,by unfold MulAt;omega⟩
def MulAddAt (a b c d hi lo:Nat):Prop:=hi*18446744073709551616+lo=a*b+c+d∧lo<18446744073709551616∧hi<18446744073709551616
def MulAddPost (a b c d:Nat) (w:World) (e:Ending) (w':World):Prop:=∃ hi lo:Nat,e=.returned (.tuple #[.int .u64 (hi:Int),.int .u64 (lo:Int)])∧MulAddAt a b c d hi lo∧w=w'
theorem gB {x y:Nat} (hx:x<18446744073709551616) (hy:y<18446744073709551616):x*y≤340282366920938463426481119284349108225:=Nat.mul_le_mul (show x≤18446744073709551615 by omega) (show y≤18446744073709551615 by omega)
theorem gW (a b c d:Nat) (w:World) (ha:a<18446744073709551616) (hb:b<18446744073709551616) (hc:c<18446744073709551616) (hd:d<18446744073709551616) :
  Calls zP 123 #[.int .u64 a,.int .u64 b,.int .u64 c,.int .u64 d] w (MulAddPost a b c d w):=by
 obtain ⟨hi,lo,h1,e1,l1⟩:=kF a b ha hb
 obtain ⟨s,k,h2,e2,l2,k2⟩:=eP lo c 0 l1 hc (by omega)
 obtain ⟨t,j,h3,e3,l3,k3⟩:=eP s d 0 l2 hd (by omega)
 have hm:=gB ha hb
 have hAt:MulAddAt a b c d (hi+k+j) t:=by
  unfold MulAddAt
  generalize a*b=m at *
  omega
 have b1:hi+k+j<18446744073709551616:=hAt.2.2
 clear hm
 have HA:=Lib.hid hAt
 have E1:=Lib.hid e1
 have E2:=Lib.hid e2
 have E3:=Lib.hid e3
 clear hAt e1 e2 e3
 rw [Int.natCast_zero] at h2 h3
 go_enter Tryz.func123,Tryz.ntmps123
 go_wp2_with (first | simp only [h2] | simp only [h3] | (go_at_call 117;refine (h1 _).mono ?_;rintro e w' ⟨rfl,rfl⟩))
 go_ret2
 exact ⟨hi+k+j,t,by go_num,HA.out,rfl⟩
end
section
open Go.RowKit
def num4 (a b c d:Nat):Nat:=a+18446744073709551616*b+340282366920938463463374607431768211456*c+6277101735386680763835789423207666416102355444464034512896*d
theorem gL {n:Nat} (h:K256 n):num4 (wd0 n) (wd1 n) (wd2 n) (wd3 n)=n:=by
 unfold num4 wd0 wd1 wd2 wd3
 omega
theorem num4_lt {a b c d:Nat} (ha:a<18446744073709551616) (hb:b<18446744073709551616) (hc:c<18446744073709551616) (hd:d<18446744073709551616) :
  num4 a b c d<115792089237316195423570985008687907853269984665640564039457584007913129639936:=by
 unfold num4
 omega
theorem of_num4 {n a b c d:Nat} (h:n=num4 a b c d) (ha:a<18446744073709551616) (hb:b<18446744073709551616) (hc:c<18446744073709551616) (hd:d<18446744073709551616) :
  wd0 n=a∧wd1 n=b∧wd2 n=c∧wd3 n=d:=by
 have:=rU (n:=n) (a:=a) (b:=b) (c:=c) (d:=d) (e:=0) (by rw [h];unfold num4 num5;omega) ha hb hc hd
 exact ⟨this.1,this.2.1,this.2.2.1,this.2.2.2.1⟩
def ret5 (n:Nat):Value:=.tuple #[.int .u64 (wd0 n:Int),.int .u64 (wd1 n:Int),.int .u64 (wd2 n:Int),.int .u64 (wd3 n:Int),.int .u64 (wd4 n:Int)]
theorem ret5_of {n a b c d e:Nat} (h:n=num5 a b c d e) (ha:a<18446744073709551616) (hb:b<18446744073709551616) (hc:c<18446744073709551616) (hd:d<18446744073709551616) :
  Value.tuple #[.int .u64 (a:Int),.int .u64 (b:Int),.int .u64 (c:Int),.int .u64 (d:Int),.int .u64 (e:Int)]=ret5 n:=by
 obtain ⟨h0,h1,h2,h3,h4⟩:=rU h ha hb hc hd
 unfold ret5
 rw [h0,h1,h2,h3,h4]
def bor (n:Nat):Nat:=1-wd4 n
def retm (n:Nat):Value:=.tuple #[.int .u64 (wd0 n:Int),.int .u64 (wd1 n:Int),.int .u64 (wd2 n:Int),.int .u64 (wd3 n:Int),.int .u64 (bor n:Int)]
theorem tI (a0 a1 a2 a3 b0 b1 b2 b3:Nat) (w:World) (ha0:a0<18446744073709551616) (ha1:a1<18446744073709551616) (ha2:a2<18446744073709551616) (ha3:a3<18446744073709551616)
  (hb0:b0<18446744073709551616) (hb1:b1<18446744073709551616) (hb2:b2<18446744073709551616) (hb3:b3<18446744073709551616) :
  Calls zP 112 #[.agg #[.int .u64 (a0:Int),.int .u64 (a1:Int),.int .u64 (a2:Int),.int .u64 (a3:Int)],.agg #[.int .u64 (b0:Int),.int .u64 (b1:Int),.int .u64 (b2:Int),.int .u64 (b3:Int)]] w
   fun e w'=>e=.returned (ret5 (num4 a0 a1 a2 a3+num4 b0 b1 b2 b3))∧Below w.heap.size w w':=by
 obtain ⟨s0,c0,h0,e0,l0,k0⟩:=eP a0 b0 0 ha0 hb0 (by omega)
 obtain ⟨s1,c1,h1,e1,l1,k1⟩:=eP a1 b1 c0 ha1 hb1 k0
 obtain ⟨s2,c2,h2,e2,l2,k2⟩:=eP a2 b2 c1 ha2 hb2 k1
 obtain ⟨s3,c3,h3,e3,l3,k3⟩:=eP a3 b3 c2 ha3 hb3 k2
 have hn:num4 a0 a1 a2 a3+num4 b0 b1 b2 b3=num5 s0 s1 s2 s3 c3:=by
  unfold num4 num5
  omega
 have hr:=ret5_of hn l0 l1 l2 l3
 clear e0 e1 e2 e3 hn
 have HR:=Lib.hid hr
 clear hr
 rw [Int.natCast_zero] at h0
 go_enter Tryz.func112,Tryz.ntmps112
 go_wp2_with (first | simp only [h0] | simp only [h1] | simp only [h2] | simp only [h3])
 refine bodyPost_ret (v:=.tuple #[.int .u64 (s0:Int),.int .u64 (s1:Int),.int .u64 (s2:Int),.int .u64 (s3:Int),.int .u64 (c3:Int)]) (by simp [results,Tryz.results112,go_sem]) rfl ⟨?_,?_⟩
 ·
  rw [HR.out]
 ·
  exact ((Below.refl _ _).alloc (Nat.le_refl _) _).alloc (by simp) _
theorem iL (a0 a1 a2 a3 b0 b1 b2 b3:Nat) (w:World) (ha0:a0<18446744073709551616) (ha1:a1<18446744073709551616) (ha2:a2<18446744073709551616) (ha3:a3<18446744073709551616)
  (hb0:b0<18446744073709551616) (hb1:b1<18446744073709551616) (hb2:b2<18446744073709551616) (hb3:b3<18446744073709551616) :
  Calls zP 104 #[.agg #[.int .u64 (a0:Int),.int .u64 (a1:Int),.int .u64 (a2:Int),.int .u64 (a3:Int)],.agg #[.int .u64 (b0:Int),.int .u64 (b1:Int),.int .u64 (b2:Int),.int .u64 (b3:Int)]] w
   fun e w'=>e=.returned (retm (num4 a0 a1 a2 a3+115792089237316195423570985008687907853269984665640564039457584007913129639936-num4 b0 b1 b2 b3))∧Below w.heap.size w w':=by
 obtain ⟨s0,c0,h0,e0,l0,k0⟩:=jY a0 b0 0 ha0 hb0 (by omega)
 obtain ⟨s1,c1,h1,e1,l1,k1⟩:=jY a1 b1 c0 ha1 hb1 k0
 obtain ⟨s2,c2,h2,e2,l2,k2⟩:=jY a2 b2 c1 ha2 hb2 k1
 obtain ⟨s3,c3,h3,e3,l3,k3⟩:=jY a3 b3 c2 ha3 hb3 k2
 have hn:num4 a0 a1 a2 a3+115792089237316195423570985008687907853269984665640564039457584007913129639936-num4 b0 b1 b2 b3=num5 s0 s1 s2 s3 (1-c3):=by
  unfold num4 num5
  omega
 have hr:Value.tuple #[.int .u64 (s0:Int),.int .u64 (s1:Int),.int .u64 (s2:Int),.int .u64 (s3:Int),.int .u64 (c3:Int)]=retm (num4 a0 a1 a2 a3+115792089237316195423570985008687907853269984665640564039457584007913129639936-num4 b0 b1 b2 b3):=by
  obtain ⟨h0,h1,h2,h3,h4⟩:=rU hn l0 l1 l2 l3
  unfold retm bor
  rw [h0,h1,h2,h3,h4]
  have:1-(1-c3)=c3:=by omega
  rw [this]
 clear e0 e1 e2 e3 hn
 have HR:=Lib.hid hr
 clear hr
 rw [Int.natCast_zero] at h0
 go_enter Tryz.func104,Tryz.ntmps104
 go_wp2_with (first | simp only [h0] | simp only [h1] | simp only [h2] | simp only [h3])
 refine bodyPost_ret (v:=.tuple #[.int .u64 (s0:Int),.int .u64 (s1:Int),.int .u64 (s2:Int),.int .u64 (s3:Int),.int .u64 (c3:Int)]) (by simp [results,Tryz.results104,go_sem]) rfl ⟨?_,?_⟩
 ·
  rw [HR.out]
 ·
  exact ((Below.refl _ _).alloc (Nat.le_refl _) _).alloc (by simp) _
theorem row_any (g a0 a1 a2 a3 n b0 b1 b2 b3:Nat) (w:World) (ha0:a0<18446744073709551616) (ha1:a1<18446744073709551616) (ha2:a2<18446744073709551616) (ha3:a3<18446744073709551616)
  (hb0:b0<18446744073709551616) (hb1:b1<18446744073709551616) (hb2:b2<18446744073709551616) (hb3:b3<18446744073709551616) (hn:n<18446744073709551616)
  (c0:w.cell? ⟨g,0,none⟩=some (.int .u64 (a0:Int))) (c1:w.cell? ⟨g,1,none⟩=some (.int .u64 (a1:Int))) (c2:w.cell? ⟨g,2,none⟩=some (.int .u64 (a2:Int))) (c3:w.cell? ⟨g,3,none⟩=some (.int .u64 (a3:Int))) :
  Calls zP 113 #[.pointer (some ⟨g,0,none⟩),.int .u64 (n:Int),.int .u64 (b0:Int),.int .u64 (b1:Int),.int .u64 (b2:Int),.int .u64 (b3:Int)] w
   fun e w'=>e=.returned (ret5 (num4 a0 a1 a2 a3*n+num4 b0 b1 b2 b3))∧w=w':=by
 go_enter Tryz.func113,Tryz.ntmps113
 have z:((0:Nat):Int)=0:=rfl
 have m0:=gW a0 n b0 0 w ha0 hn hb0 (by omega)
 rw [z] at m0
 go_wp2_with (fail)
 refine m0.mono ?_
 rintro e w' ⟨o0,r0,rfl,q0,rfl⟩
 have p0:=q0.2.1
 have p0':=q0.2.2
 have Q0:=Lib.hid q0
 clear q0 m0
 go_wp2_with (fail)
 refine (gW a1 n b1 o0 w ha1 hn hb1 p0').mono ?_
 rintro e w' ⟨o1,r1,rfl,q1,rfl⟩
 have p1:=q1.2.1
 have p1':=q1.2.2
 have Q1:=Lib.hid q1
 clear q1
 go_wp2_with (fail)
 refine (gW a2 n b2 o1 w ha2 hn hb2 p1').mono ?_
 rintro e w' ⟨o2,r2,rfl,q2,rfl⟩
 have p2:=q2.2.1
 have p2':=q2.2.2
 have Q2:=Lib.hid q2
 clear q2
 go_wp2_with (fail)
 refine (gW a3 n b3 o2 w ha3 hn hb3 p2').mono ?_
 rintro e w' ⟨o3,r3,rfl,q3,rfl⟩
 have p3:=q3.2.1
 have p3':=q3.2.2
 have Q3:=Lib.hid q3
 clear q3
 go_wp2_with (fail)
 refine bodyPost_ret (v:=.tuple #[.int .u64 (r0:Int),.int .u64 (r1:Int),.int .u64 (r2:Int),.int .u64 (r3:Int),.int .u64 (o3:Int)]) (by simp [results,Tryz.results113,go_sem]) rfl ⟨?_,rfl⟩
 rw [ret5_of (n:=num4 a0 a1 a2 a3*n+num4 b0 b1 b2 b3) ?_ p0 p1 p2 p3]
 have q0:=Q0.out.1
 have q1:=Q1.out.1
 have q2:=Q2.out.1
 have q3:=Q3.out.1
 have e:num4 a0 a1 a2 a3*n=num4 (a0*n) (a1*n) (a2*n) (a3*n):=by
  unfold num4
  grind
 rw [e]
 generalize a0*n=m0 at *
 generalize a1*n=m1 at *
 generalize a2*n=m2 at *
 generalize a3*n=m3 at *
 unfold num4 num5
 omega
end
section
open Go.RowKit
theorem bcell {W v:World} (hb:Below W.heap.size W v):(∀ b o,b<W.heap.size→v.cell? ⟨b,o,none⟩=W.cell? ⟨b,o,none⟩)∧(∀ b o,b<W.heap.size→v.frozen? ⟨b,o,none⟩=W.frozen? ⟨b,o,none⟩) :=
 ⟨fun b o h=>hb.cell (p:=⟨b,o,none⟩) h,fun b o h=>hb.frozen (p:=⟨b,o,none⟩) h⟩
structure PG (w:World):Prop where
 lt:1<w.heap.size
 c0:w.cell? ⟨1,0,none⟩=some (.int .u64 18446744073709551597)
 c1:w.cell? ⟨1,1,none⟩=some (.int .u64 18446744073709551615)
 c2:w.cell? ⟨1,2,none⟩=some (.int .u64 18446744073709551615)
 c3:w.cell? ⟨1,3,none⟩=some (.int .u64 9223372036854775807)
theorem PG.below {w w':World} {B:Nat} (h:PG w) (hb:Below B w w') (hB:1<B) (hs:w.heap.size≤w'.heap.size):PG w' :=
 ⟨Nat.lt_of_lt_of_le h.lt hs,(hb.cell (p:=⟨1,0,none⟩) hB).trans h.c0,(hb.cell (p:=⟨1,1,none⟩) hB).trans h.c1,(hb.cell (p:=⟨1,2,none⟩) hB).trans h.c2,(hb.cell (p:=⟨1,3,none⟩) hB).trans h.c3⟩
theorem PG.ext {w w':World} (h:PG w) (hb:Below w.heap.size w w'):PG w':=h.below hb h.lt hb.size
theorem PG.drew {w:World} (h:PG w):PG w.drew:=⟨h.1,h.2,h.3,h.4,h.5⟩
theorem PG.alloc {w:World} (h:PG w) (o:Obj):PG (w.alloc o):=h.ext ((Below.refl _ _).alloc (Nat.le_refl _) _)
theorem or_top (o t:Nat) (ho:o<9223372036854775808) (ht:t≤1):bits .or .u64 ((o:Int)*2) (t:Int)=((2*o+t:Nat):Int):=by
 have e:(o:Int)*2=((2*o:Nat):Int):=by omega
 rw [e,u64_or_nat _ _ (by omega) (by omega)]
 have:=Nat.two_pow_add_eq_or_of_lt (i:=1) (b:=t) (by omega) o
 rw [show (2:Nat)^1=2 by decide] at this
 rw [this]
theorem vA (t:Nat) (ht:t<18446744073709551616):bits .andNot .u64 (t:Int) 9223372036854775808=((t%9223372036854775808:Nat):Int):=by
 have e:(9223372036854775808:Int)=((9223372036854775808:Nat):Int):=rfl
 rw [e,u64_andNot_nat _ _ ht (by omega)]
 rw [show (18446744073709551615-9223372036854775808:Nat)=2^63-1 by decide,Nat.and_two_pow_sub_one_eq_mod,show (2:Nat)^63=9223372036854775808 by decide]
def folded (n:Nat):Nat:=n%57896044618658097711785492504343953926634992332820282019728792003956564819968+19*(n/57896044618658097711785492504343953926634992332820282019728792003956564819968)
theorem folded_mod (n:Nat):folded n%PP=n%PP:=by
 rw [eH]
 unfold folded
 omega
theorem folded_lt {n:Nat} (h:n<4515891480255331621519268415338828406277529401959981997538845776308612055957504):folded n<57896044618658097711785492504343953926634992332820282019728792003956564819968+1500:=by
 unfold folded
 omega
theorem settle_low {a b c d:Nat} (o:Nat) (ha:a<18446744073709551616) (hb:b<18446744073709551616) (hc:c<18446744073709551616) (hd:d<18446744073709551616) :
  num4 a b c (d%9223372036854775808)+num4 ((2*o+d/9223372036854775808)*19) 0 0 0=folded (num5 a b c d o):=by
 unfold num4 num5 folded
 omega
theorem minus_p (n:Nat) (h:n<57896044618658097711785492504343953926634992332820282019728792003956564819968+1500) :
  (n<PP→wd4 (n+115792089237316195423570985008687907853269984665640564039457584007913129639936-num4 18446744073709551597 18446744073709551615 18446744073709551615 9223372036854775807)=0) ∧
  (¬ n<PP→wd4 (n+115792089237316195423570985008687907853269984665640564039457584007913129639936-num4 18446744073709551597 18446744073709551615 18446744073709551615 9223372036854775807)=1) ∧
  (¬ n<PP→es (n+115792089237316195423570985008687907853269984665640564039457584007913129639936-num4 18446744073709551597 18446744073709551615 18446744073709551615 9223372036854775807)=es (n-PP)):=by
 rw [eH]
 refine ⟨fun h1=>?_,fun h1=>?_,fun h1=>?_⟩
 ·
  unfold wd4 num4;omega
 ·
  unfold wd4 num4;omega
 ·
  unfold es
  have:wd0 (n+115792089237316195423570985008687907853269984665640564039457584007913129639936-num4 18446744073709551597 18446744073709551615 18446744073709551615 9223372036854775807)=wd0 (n-57896044618658097711785492504343953926634992332820282019728792003956564819949) ∧
   wd1 (n+115792089237316195423570985008687907853269984665640564039457584007913129639936-num4 18446744073709551597 18446744073709551615 18446744073709551615 9223372036854775807)=wd1 (n-57896044618658097711785492504343953926634992332820282019728792003956564819949) ∧
   wd2 (n+115792089237316195423570985008687907853269984665640564039457584007913129639936-num4 18446744073709551597 18446744073709551615 18446744073709551615 9223372036854775807)=wd2 (n-57896044618658097711785492504343953926634992332820282019728792003956564819949) ∧
   wd3 (n+115792089237316195423570985008687907853269984665640564039457584007913129639936-num4 18446744073709551597 18446744073709551615 18446744073709551615 9223372036854775807)=wd3 (n-57896044618658097711785492504343953926634992332820282019728792003956564819949):=by
   unfold wd0 wd1 wd2 wd3 num4
   omega
  rw [this.1,this.2.1,this.2.2.1,this.2.2.2]
theorem mod_small {n:Nat} (h:n<57896044618658097711785492504343953926634992332820282019728792003956564819968+1500):n%PP=if n<PP then n else n-PP:=by
 rw [eH]
 split<;>omega
theorem oM {B g:Nat} {w w':World} (h:Below B w w') (hg:B≤g) (a b c d:Value):Below B w ((((w'.setCell ⟨g,0,none⟩ a).setCell ⟨g,1,none⟩ b).setCell ⟨g,2,none⟩ c).setCell ⟨g,3,none⟩ d) :=
 (((h.setCell hg _).setCell hg _).setCell hg _).setCell hg _
theorem dZ {w v v':World} {B:Nat} (h:Below B w v) (h':Below v.heap.size v v') (hB:B≤v.heap.size):Below B w v':=h.trans (h'.mono hB)
theorem blk_set4 {w:World} {g:Nat} {t:TypeId} {x0 x1 x2 x3:Value} (h:Blk w g t #[x0,x1,x2,x3]) (a b c d:Value):Blk ((((w.setCell ⟨g,0,none⟩ a).setCell ⟨g,1,none⟩ b).setCell ⟨g,2,none⟩ c).setCell ⟨g,3,none⟩ d) g t #[a,b,c,d] :=
 (((h.set_ 0 a).set_ 1 b).set_ 2 c).set_ 3 d
theorem cW:(zP.info? 56).map (·.size)=some 4:=by kernel_rfl
theorem hH:(zP.info? 54).map (·.size)=some 4:=by kernel_rfl
theorem tC {fn:Func} {p:Tmp} (hr:fn.results=#[.cell p 56]) {tmps:Array Value} {w:World} {g:Nat} {n:Nat} (hp:tmps.getD p undef=.pointer (some ⟨g,0,none⟩)) (hb:Blk w g 56 (es n)) :
  (results fn tmps).run zP w=.ok (.agg (es n)) w :=
 results_cell_row hr tmps w g 56 (es n) (0,0) _ hp hb Tryz.underlying56 rfl cW
def ElemPost (n:Nat) (w:World) (e:Ending) (w':World):Prop:=e=.returned (.agg (es n))∧Below w.heap.size w w'
theorem kO (a b c d o:Nat) (w:World) (hpg:PG w) (ha:a<18446744073709551616) (hb:b<18446744073709551616) (hc:c<18446744073709551616) (hd:d<18446744073709551616) (ho:o<39) :
  Calls zP 106 #[.int .u64 (a:Int),.int .u64 (b:Int),.int .u64 (c:Int),.int .u64 (d:Int),.int .u64 (o:Int)] w (ElemPost (num5 a b c d o%PP) w):=by
 have hlt:num5 a b c d o<4515891480255331621519268415338828406277529401959981997538845776308612055957504:=by unfold num5;omega
 have hf:=folded_lt hlt
 have hsum:=settle_low o ha hb hc hd
 have hmod:num5 a b c d o%PP=if folded (num5 a b c d o)<PP then folded (num5 a b c d o) else folded (num5 a b c d o)-PP:=by
  rw [←folded_mod,mod_small hf]
 obtain ⟨m1,m2,m3⟩:=minus_p _ hf
 have hnl:folded (num5 a b c d o)<115792089237316195423570985008687907853269984665640564039457584007913129639936:=by omega
 have hn4:=gL hnl
 have hw4:=wd4_zero hnl
 generalize folded (num5 a b c d o)=n at *
 generalize num5 a b c d o%PP=r at *
 obtain ⟨hz,p0,p1,p2,p3⟩:=hpg
 have ot:=or_top o (d/9223372036854775808) (by omega) (by omega)
 have at_:=vA d hd
 have cast:((d/9223372036854775808:Nat):Int)=(d:Int)/9223372036854775808:=by omega
 rw [cast] at ot
 have Hs:=Lib.hid hsum
 have Hm:=Lib.hid hmod
 have H1:=Lib.hid m1
 have H2:=Lib.hid m2
 have H3:=Lib.hid m3
 have Hn4:=Lib.hid hn4
 have Hw4:=Lib.hid hw4
 clear hsum hmod m1 m2 m3 hn4 hw4 cast hlt
 go_enter Tryz.func106,Tryz.ntmps106
 go_wp2_with (fail)
 refine (tI a b c (d%9223372036854775808) ((2*o+d/9223372036854775808)*19) 0 0 0 _ ha hb hc (by omega) (by omega) (by omega) (by omega) (by omega)).mono ?_
 rintro e v1 ⟨he,hb1⟩
 rw [Hs.out] at he
 unfold ret5 at he
 subst he
 obtain ⟨q1,q2⟩:=bcell hb1
 have e1:¬ (1=w.heap.size):=by omega
 have e2:¬ (w.heap.size=1):=by omega
 have e3:¬ (w.heap.size=0):=by omega
 have e5:1<w.heap.size+1+1:=by omega
 have e6:1<w.heap.size+1:=by omega
 have hz1:w.heap.size+1<v1.heap.size:=by have:=hb1.size;simp at this;omega
 have hz0:w.heap.size<v1.heap.size:=by omega
 have HB1:=Lib.hid hb1
 clear hb1
 go_wp2_with (fail)
 refine (iL (wd0 n) (wd1 n) (wd2 n) (wd3 n) 18446744073709551597 18446744073709551615 18446744073709551615 9223372036854775807 _ (cZ n) (fP n) (fO n) (fA n) (by omega) (by omega) (by omega) (by omega)).mono ?_
 rintro e v2 ⟨he,hb2⟩
 rw [Hn4.out] at he
 unfold retm at he
 subst he
 obtain ⟨q3,q4⟩:=bcell hb2
 have hz2:v1.heap.size≤v2.heap.size:=by have:=hb2.size;simp at this;omega
 have hz3:w.heap.size+1<v2.heap.size:=by omega
 have hz4:w.heap.size<v2.heap.size:=by omega
 have HB2:=Lib.hid hb2
 clear hb2
 have hB2:Below w.heap.size w v2:=by
  have e1:Below w.heap.size w v1:=dZ (((Below.refl _ _).alloc (Nat.le_refl _) _).alloc (by simp) _) HB1.out (by simp;omega)
  exact dZ (oM e1 (by omega) _ _ _ _) HB2.out (by simp;omega)
 have hK:Blk v2 w.heap.size 56 #[.int .u64 0,.int .u64 0,.int .u64 0,.int .u64 0]:=by
  refine Blk.below ?_ HB2.out (by simp;omega)
  exact (((((((Blk.new w 56 _).alloc _).below HB1.out (by simp;omega)).far (by simp) _).far (by simp) _).far (by simp) _).far (by simp) _)
 have HB:=Lib.hid hB2
 have HK:=Lib.hid hK
 clear hB2 hK
 by_cases hnp:n<PP
 ·
  have hbor:((bor (n+115792089237316195423570985008687907853269984665640564039457584007913129639936-num4 18446744073709551597 18446744073709551615 18446744073709551615 9223372036854775807):Int) == 1)=true:=by
   unfold bor
   rw [H1.out hnp]
   rfl
  have hr:=Hm.out
  rw [if_pos hnp] at hr
  have HR:=Lib.hid hr
  clear hr
  generalize n+115792089237316195423570985008687907853269984665640564039457584007913129639936-num4 18446744073709551597 18446744073709551615 18446744073709551615 9223372036854775807=m at *
  go_wp2_with (fail)
  refine bodyPost_ret (tC (n:=n) rfl rfl (blk_set4 HK.out _ _ _ _)) rfl ⟨?_,oM HB.out (Nat.le_refl _) _ _ _ _⟩
  rw [HR.out]
 ·
  have hbor:((bor (n+115792089237316195423570985008687907853269984665640564039457584007913129639936-num4 18446744073709551597 18446744073709551615 18446744073709551615 9223372036854775807):Int) == 1)=false:=by
   unfold bor
   rw [H2.out hnp]
   rfl
  have hr:=Hm.out
  rw [if_neg hnp] at hr
  have he:=H3.out hnp
  have HR:=Lib.hid hr
  have HE:=Lib.hid he
  clear hr he
  generalize n+115792089237316195423570985008687907853269984665640564039457584007913129639936-num4 18446744073709551597 18446744073709551615 18446744073709551615 9223372036854775807=m at *
  go_wp2_with (fail)
  refine bodyPost_ret (tC (n:=m) rfl rfl (blk_set4 HK.out _ _ _ _)) rfl ⟨?_,oM HB.out (Nat.le_refl _) _ _ _ _⟩
  rw [HR.out,←HE.out]
end
section
open Go.RowKit
theorem fV {x:Nat} (h:x<PP):K256 x:=by rw [eH] at h;omega
theorem gR (n:Nat):(es n).all (·.oneCell')=true:=by simp [es,Value.oneCell']
theorem gT {fn:Func} {p:Tmp} (hr:fn.results=#[.cell p 56]) {a:Act} (hd:a.defers=[]) {W w:World} {g n:Nat} (hp:a.tmps.getD p undef=.pointer (some ⟨g,0,none⟩)) (hb:Blk w g 56 (es n)) (hB:Below W.heap.size W w) :
  bodyPost zP fn (ElemPost n W) .ret a w :=
 bodyPost_ret (tC (n:=n) hr hp hb) hd ⟨rfl,hB⟩
theorem add_small {x y:Nat} (hx:x<PP) (hy:y<PP):wd4 (x+y)<39:=by
 rw [eH] at hx hy
 unfold wd4
 omega
theorem add_any (x y:Nat) (w:World) (hpg:PG w) (hx:x<PP) (hy:y<PP) :
  Calls zP 73 #[.agg (es x),.agg (es y)] w (ElemPost ((x+y)%PP) w):=by
 have ex:=gL (fV hx)
 have ey:=gL (fV hy)
 have es':=add_small hx hy
 have en:=rW (x+y)
 have EX:=Lib.hid ex
 have EY:=Lib.hid ey
 have EN:=Lib.hid en
 clear ex ey en
 unfold es
 go_enter Tryz.func73,Tryz.ntmps73
 go_wp2_with (fail)
 refine (tI (wd0 x) (wd1 x) (wd2 x) (wd3 x) (wd0 y) (wd1 y) (wd2 y) (wd3 y) _ (cZ x) (fP x) (fO x) (fA x) (cZ y) (fP y) (fO y) (fA y)).mono ?_
 rintro e v1 ⟨he,hb1⟩
 rw [EX.out,EY.out] at he
 unfold ret5 at he
 subst he
 have hp1:PG v1:=((((hpg.alloc _).alloc _).alloc _).ext hb1)
 have k1:Blk v1 (w.heap.size+1+1) 56 #[.int .u64 0,.int .u64 0,.int .u64 0,.int .u64 0]:=(Blk.new' _ _ _ _ (by simp)).below hb1 (by simp)
 have b1:Below w.heap.size w v1:=dZ ((((Below.refl _ _).alloc (Nat.le_refl _) _).alloc (by simp) _).alloc (by simp;omega) _) hb1 (by simp;omega)
 have HP1:=Lib.hid hp1
 have HK1:=Lib.hid k1
 have HB1:=Lib.hid b1
 clear hb1 hp1 k1 b1 hpg
 go_wp2_with (fail)
 refine (kO (wd0 (x+y)) (wd1 (x+y)) (wd2 (x+y)) (wd3 (x+y)) (wd4 (x+y)) _ HP1.out (cZ _) (fP _) (fO _) (fA _) es').mono ?_
 rintro e v2 ⟨he,hb2⟩
 rw [EN.out] at he
 subst he
 have k2:=HK1.out.below hb2 HK1.out.lt
 have b2:=dZ HB1.out hb2 HB1.out.size
 have HK2:=Lib.hid k2
 have HB2:=Lib.hid b2
 clear hb2 k2 b2
 go_wp2_with (first | (refine wpList_store_row rfl 56 (.tmp 4) (.tmp 15) rfl (w.heap.size+1+1) (es ((x+y)%PP)) rfl rfl 56 _ HK2.out cW rfl (gR _) ?_))
 exact gT (g:=w.heap.size+1+1) rfl rfl rfl (setRow_heap _ _ _ _ _ _ HK2.out) (below_setRow HB2.out (by omega) _)
theorem jJ:es 0=#[.int .u64 0,.int .u64 0,.int .u64 0,.int .u64 0]:=rfl
def mP (y:Nat):Nat:=num4 18446744073709551597 18446744073709551615 18446744073709551615 9223372036854775807+115792089237316195423570985008687907853269984665640564039457584007913129639936-y
theorem sub_words {y:Nat} (hy:y<PP):num4 (wd0 (mP y)) (wd1 (mP y)) (wd2 (mP y)) (wd3 (mP y))=PP-y:=by
 rw [eH] at *
 unfold mP num4 wd0 wd1 wd2 wd3
 omega
theorem sub_small {x y:Nat} (hx:x<PP):wd4 (x+(PP-y))<39:=by
 rw [eH] at *
 unfold wd4
 omega
theorem sub_any (x y:Nat) (w:World) (hpg:PG w) (hx:x<PP) (hy:y<PP) :
  Calls zP 71 #[.agg (es x),.agg (es y)] w (ElemPost ((x+(PP-y))%PP) w):=by
 have ex:=gL (fV hx)
 have ey:=gL (fV hy)
 have es':=sub_small (y:=y) hx
 have en:=rW (x+(PP-y))
 have esw:=sub_words hy
 have EX:=Lib.hid ex
 have EY:=Lib.hid ey
 have EN:=Lib.hid en
 have ES:=Lib.hid esw
 clear ex ey en esw
 have HPG:=Lib.hid hpg
 obtain ⟨hz,p0,p1,p2,p3⟩:=hpg
 have e1:¬ (1=w.heap.size):=by omega
 have e2:¬ (w.heap.size=1):=by omega
 have e3:¬ (w.heap.size=0):=by omega
 have e4:¬ (1=w.heap.size+1):=by omega
 have e5:1<w.heap.size+1+1:=by omega
 have e6:1<w.heap.size+1:=by omega
 have e7:1<w.heap.size+1+1+1:=by omega
 unfold es
 go_enter Tryz.func71,Tryz.ntmps71
 go_wp2_with (fail)
 refine (iL 18446744073709551597 18446744073709551615 18446744073709551615 9223372036854775807 (wd0 y) (wd1 y) (wd2 y) (wd3 y) _ (by omega) (by omega) (by omega) (by omega) (cZ y) (fP y) (fO y) (fA y)).mono ?_
 rintro e v1 ⟨he,hb1⟩
 rw [EY.out] at he
 have he':e=.returned (retm (mP y)):=he
 clear he
 generalize mP y=m at he' ES
 unfold retm at he'
 subst he'
 have hp1:PG v1:=((((HPG.out.alloc _).alloc _).alloc _).ext hb1)
 have k1:Blk v1 (w.heap.size+1+1) 56 #[.int .u64 0,.int .u64 0,.int .u64 0,.int .u64 0]:=(Blk.new' _ _ _ _ (by simp)).below hb1 (by simp)
 have b1:Below w.heap.size w v1:=dZ ((((Below.refl _ _).alloc (Nat.le_refl _) _).alloc (by simp) _).alloc (by simp;omega) _) hb1 (by simp;omega)
 have x1:Blk v1 w.heap.size 56 #[.int .u64 (wd0 x:Int),.int .u64 (wd1 x:Int),.int .u64 (wd2 x:Int),.int .u64 (wd3 x:Int)]:=(((Blk.new w 56 _).alloc _).alloc _).below hb1 (by simp;omega)
 have c0:=x1.cell 0
 have c1:=x1.cell 1
 have c2:=x1.cell 2
 have c3:=x1.cell 3
 simp at c0 c1 c2 c3
 have HP1:=Lib.hid hp1
 have HK1:=Lib.hid k1
 have HB1:=Lib.hid b1
 clear hb1 hp1 k1 b1 x1
 go_wp2_with (fail)
 refine (tI (wd0 x) (wd1 x) (wd2 x) (wd3 x) (wd0 m) (wd1 m) (wd2 m) (wd3 m) _ (cZ x) (fP x) (fO x) (fA x) (cZ m) (fP m) (fO m) (fA m)).mono ?_
 rintro e v2 ⟨he,hb2⟩
 rw [EX.out,ES.out] at he
 unfold ret5 at he
 subst he
 have hp2:=HP1.out.ext hb2
 have k2:=HK1.out.below hb2 HK1.out.lt
 have b2:=dZ HB1.out hb2 HB1.out.size
 have HP2:=Lib.hid hp2
 have HK2:=Lib.hid k2
 have HB2:=Lib.hid b2
 clear hb2 hp2 k2 b2 c0 c1 c2 c3
 go_wp2_with (fail)
 refine (kO (wd0 (x+(PP-y))) (wd1 (x+(PP-y))) (wd2 (x+(PP-y))) (wd3 (x+(PP-y))) (wd4 (x+(PP-y))) _ HP2.out (cZ _) (fP _) (fO _) (fA _) es').mono ?_
 rintro e v3 ⟨he,hb3⟩
 rw [EN.out] at he
 subst he
 have k3:=HK2.out.below hb3 HK2.out.lt
 have b3:=dZ HB2.out hb3 HB2.out.size
 have HK3:=Lib.hid k3
 have HB3:=Lib.hid b3
 clear hb3 k3 b3
 go_wp2_with (first | (refine wpList_store_row rfl 56 (.tmp 4) (.tmp 33) rfl (w.heap.size+1+1) (es ((x+(PP-y))%PP)) rfl rfl 56 _ HK3.out cW rfl (gR _) ?_))
 exact gT (g:=w.heap.size+1+1) rfl rfl rfl (setRow_heap _ _ _ _ _ _ HK3.out) (below_setRow HB3.out (by omega) _)
theorem yF {x n k:Nat} (hx:K256 x) (hn:n<18446744073709551616) (hk:K256 k) :
  x*n+k<2135987035920910082395021706169552114602704522356652769947041607822219725780640550022962086936576:=by
 have:=Nat.mul_le_mul (show x≤115792089237316195423570985008687907853269984665640564039457584007913129639935 by omega) (show n≤18446744073709551615 by omega)
 omega
def R1 (x y:Nat):Nat:=x*wd0 y
def R2 (x y:Nat):Nat:=x*wd1 y+R1 x y/18446744073709551616
def R3 (x y:Nat):Nat:=x*wd2 y+R2 x y/18446744073709551616
def R4 (x y:Nat):Nat:=x*wd3 y+R3 x y/18446744073709551616
def R5 (x y:Nat):Nat:=R4 x y/18446744073709551616*38+num4 (wd0 (R1 x y)) (wd0 (R2 x y)) (wd0 (R3 x y)) (wd0 (R4 x y))
theorem R_lt {x y:Nat} (hx:K256 x) :
  R1 x y<2135987035920910082395021706169552114602704522356652769947041607822219725780640550022962086936576∧R2 x y<2135987035920910082395021706169552114602704522356652769947041607822219725780640550022962086936576 ∧
  R3 x y<2135987035920910082395021706169552114602704522356652769947041607822219725780640550022962086936576∧R4 x y<2135987035920910082395021706169552114602704522356652769947041607822219725780640550022962086936576:=by
 have h1:R1 x y<2135987035920910082395021706169552114602704522356652769947041607822219725780640550022962086936576:=yF (k:=0) hx (cZ y) (by omega)
 have h2:R2 x y<2135987035920910082395021706169552114602704522356652769947041607822219725780640550022962086936576:=yF hx (fP y) (by omega)
 have h3:R3 x y<2135987035920910082395021706169552114602704522356652769947041607822219725780640550022962086936576:=yF hx (fO y) (by omega)
 exact ⟨h1,h2,h3,yF hx (fA y) (by omega)⟩
theorem R5_mod {x y:Nat} (hx:x<PP) (hy:y<PP):R5 x y%PP=x*y%PP∧wd4 (R5 x y)<39:=by
 have hx':=fV hx
 have hy':=fV hy
 have hxy:x*y=num4 (x*wd0 y) (x*wd1 y) (x*wd2 y) (x*wd3 y):=by
  have:=gL hy'
  rw (occs:=.pos [1]) [←this]
  unfold num4
  grind
 obtain ⟨_,_,_,h4⟩:=R_lt (y:=y) hx'
 constructor
 ·
  have:x*y=num4 (wd0 (R1 x y)) (wd0 (R2 x y)) (wd0 (R3 x y)) (wd0 (R4 x y))+115792089237316195423570985008687907853269984665640564039457584007913129639936*(R4 x y/18446744073709551616):=by
   rw [hxy]
   unfold R4 R3 R2 R1
   generalize x*wd0 y=m0
   generalize x*wd1 y=m1
   generalize x*wd2 y=m2
   generalize x*wd3 y=m3
   unfold num4 wd0
   omega
  rw [this]
  unfold R5
  rw [eH]
  generalize R4 x y/18446744073709551616=H
  generalize num4 (wd0 (R1 x y)) (wd0 (R2 x y)) (wd0 (R3 x y)) (wd0 (R4 x y))=L
  omega
 ·
  have hL:=num4_lt (cZ (R1 x y)) (cZ (R2 x y)) (cZ (R3 x y)) (cZ (R4 x y))
  unfold R5
  generalize num4 (wd0 (R1 x y)) (wd0 (R2 x y)) (wd0 (R3 x y)) (wd0 (R4 x y))=L at *
  generalize R4 x y=r at *
  unfold wd4
  omega
end
section
open Go.RowKit
theorem sX (g x n b:Nat) (w:World) (hx:K256 x) (hb:K256 b) (hn:n<18446744073709551616) {t:TypeId} (hB:Blk w g t (es x)) :
  Calls zP 113 #[.pointer (some ⟨g,0,none⟩),.int .u64 (n:Int),.int .u64 (wd0 b:Int),.int .u64 (wd1 b:Int),.int .u64 (wd2 b:Int),.int .u64 (wd3 b:Int)] w
   fun e w'=>e=.returned (ret5 (x*n+b))∧w=w':=by
 have h:=row_any g (wd0 x) (wd1 x) (wd2 x) (wd3 x) n (wd0 b) (wd1 b) (wd2 b) (wd3 b) w (cZ x) (fP x) (fO x) (fA x) (cZ b) (fP b) (fO b) (fA b) hn (hB.cell 0) (hB.cell 1) (hB.cell 2) (hB.cell 3)
 rw [gL hx,gL hb] at h
 exact h
theorem next_words {r:Nat} (h:r<2135987035920910082395021706169552114602704522356652769947041607822219725780640550022962086936576) :
  wd1 r=wd0 (r/18446744073709551616)∧wd2 r=wd1 (r/18446744073709551616)∧wd3 r=wd2 (r/18446744073709551616)∧wd4 r=wd3 (r/18446744073709551616):=by
 unfold wd0 wd1 wd2 wd3 wd4
 omega
def retN (r:Nat):Value:=.tuple #[.int .u64 (wd0 r:Int),.int .u64 (wd0 (r/18446744073709551616):Int),.int .u64 (wd1 (r/18446744073709551616):Int),.int .u64 (wd2 (r/18446744073709551616):Int),.int .u64 (wd3 (r/18446744073709551616):Int)]
theorem mV {r:Nat} (h:r<2135987035920910082395021706169552114602704522356652769947041607822219725780640550022962086936576):ret5 r=retN r:=by
 obtain ⟨h1,h2,h3,h4⟩:=next_words h
 unfold ret5 retN
 rw [h1,h2,h3,h4]
theorem nI {r:Nat} (h:r<2135987035920910082395021706169552114602704522356652769947041607822219725780640550022962086936576):r/18446744073709551616<115792089237316195423570985008687907853269984665640564039457584007913129639936:=by omega
theorem words_of4 {a b c d:Nat} (ha:a<18446744073709551616) (hb:b<18446744073709551616) (hc:c<18446744073709551616) (hd:d<18446744073709551616) :
  wd0 (num4 a b c d)=a∧wd1 (num4 a b c d)=b∧wd2 (num4 a b c d)=c∧wd3 (num4 a b c d)=d:=of_num4 rfl ha hb hc hd
theorem yW (x y:Nat) (w:World) (hpg:PG w) (hx:x<PP) (hy:y<PP) :
  Calls zP 72 #[.agg (es x),.agg (es y)] w (ElemPost (x*y%PP) w):=by
 have hx':=fV hx
 obtain ⟨l1,l2,l3,l4⟩:=R_lt (y:=y) hx'
 obtain ⟨hmod,hsm⟩:=R5_mod hx hy
 have r1:ret5 (x*wd0 y+0)=retN (R1 x y):=mV l1
 have r2:ret5 (x*wd1 y+R1 x y/18446744073709551616)=retN (R2 x y):=mV l2
 have r3:ret5 (x*wd2 y+R2 x y/18446744073709551616)=retN (R3 x y):=mV l3
 have r4:ret5 (x*wd3 y+R3 x y/18446744073709551616)=retN (R4 x y):=mV l4
 have d1:=nI l1
 have d2:=nI l2
 have d3:=nI l3
 have d4:=nI l4
 have hL:=num4_lt (cZ (R1 x y)) (cZ (R2 x y)) (cZ (R3 x y)) (cZ (R4 x y))
 have hW:=words_of4 (cZ (R1 x y)) (cZ (R2 x y)) (cZ (R3 x y)) (cZ (R4 x y))
 have r5:R4 x y/18446744073709551616*38+num4 (wd0 (R1 x y)) (wd0 (R2 x y)) (wd0 (R3 x y)) (wd0 (R4 x y))=R5 x y:=rfl
 have en:=rW (R5 x y)
 generalize R1 x y=q1 at *
 generalize R2 x y=q2 at *
 generalize R3 x y=q3 at *
 generalize R4 x y=q4 at *
 generalize R5 x y=q5 at *
 have H1:=Lib.hid r1
 have H2:=Lib.hid r2
 have H3:=Lib.hid r3
 have H4:=Lib.hid r4
 have H5:=Lib.hid r5
 have EN:=Lib.hid en
 have HM:=Lib.hid hmod
 have HW:=Lib.hid hW
 clear r1 r2 r3 r4 r5 l1 l2 l3 l4 hmod hW en
 rw [show es x=#[.int .u64 (wd0 x:Int),.int .u64 (wd1 x:Int),.int .u64 (wd2 x:Int),.int .u64 (wd3 x:Int)] from rfl,show es y=#[.int .u64 (wd0 y:Int),.int .u64 (wd1 y:Int),.int .u64 (wd2 y:Int),.int .u64 (wd3 y:Int)] from rfl]
 go_enter Tryz.func72,Tryz.ntmps72
 go_wp2_with (fail)
 refine (sX w.heap.size x (wd0 y) 0 _ hx' (by omega) (cZ y) (t:=56) (by exact ((Blk.new w 56 _).alloc _).alloc _)).mono ?_
 rintro e w' ⟨he,rfl⟩
 rw [H1.out] at he
 unfold retN at he
 subst he
 go_wp2_with (fail)
 refine (sX w.heap.size x (wd1 y) (q1/18446744073709551616) _ hx' d1 (fP y) (t:=56) (by exact ((Blk.new w 56 _).alloc _).alloc _)).mono ?_
 rintro e w' ⟨he,rfl⟩
 rw [H2.out] at he
 unfold retN at he
 subst he
 go_wp2_with (fail)
 refine (sX w.heap.size x (wd2 y) (q2/18446744073709551616) _ hx' d2 (fO y) (t:=56) (by exact ((Blk.new w 56 _).alloc _).alloc _)).mono ?_
 rintro e w' ⟨he,rfl⟩
 rw [H3.out] at he
 unfold retN at he
 subst he
 go_wp2_with (fail)
 refine (sX w.heap.size x (wd3 y) (q3/18446744073709551616) _ hx' d3 (fA y) (t:=56) (by exact ((Blk.new w 56 _).alloc _).alloc _)).mono ?_
 rintro e w' ⟨he,rfl⟩
 rw [H4.out] at he
 unfold retN at he
 subst he
 go_wp2_with (fail)
 have h38:=sX (w.heap.size+1+1+1) (q4/18446744073709551616) 38 (num4 (wd0 q1) (wd0 q2) (wd0 q3) (wd0 q4)) ((((w.alloc (.cells #[.int .u64 (wd0 x:Int),.int .u64 (wd1 x:Int),.int .u64 (wd2 x:Int),.int .u64 (wd3 x:Int)] 56)).alloc (.cells #[.int .u64 (wd0 y:Int),.int .u64 (wd1 y:Int),.int .u64 (wd2 y:Int),.int .u64 (wd3 y:Int)] 56)).alloc (.cells #[.int .u64 0,.int .u64 0,.int .u64 0,.int .u64 0] 56)).alloc (.cells (es (q4/18446744073709551616)) 54)) d4 hL (by omega) (t:=54) (Blk.new' _ _ _ _ (by simp))
 rw [HW.out.1,HW.out.2.1,HW.out.2.2.1,HW.out.2.2.2,H5.out] at h38
 refine h38.mono ?_
 rintro e w' ⟨he,rfl⟩
 clear h38
 unfold ret5 at he
 subst he
 have hp1:=((((hpg.alloc (.cells #[.int .u64 (wd0 x:Int),.int .u64 (wd1 x:Int),.int .u64 (wd2 x:Int),.int .u64 (wd3 x:Int)] 56)).alloc (.cells #[.int .u64 (wd0 y:Int),.int .u64 (wd1 y:Int),.int .u64 (wd2 y:Int),.int .u64 (wd3 y:Int)] 56)).alloc (.cells #[.int .u64 0,.int .u64 0,.int .u64 0,.int .u64 0] 56)).alloc (.cells (es (q4/18446744073709551616)) 54))
 have HP1:=Lib.hid hp1
 clear hp1 hpg
 go_wp2_with (fail)
 refine (kO (wd0 q5) (wd1 q5) (wd2 q5) (wd3 q5) (wd4 q5) _ HP1.out (cZ _) (fP _) (fO _) (fA _) hsm).mono ?_
 rintro e v2 ⟨he,hb2⟩
 rw [EN.out,HM.out] at he
 subst he
 have k2:Blk v2 (w.heap.size+1+1) 56 #[.int .u64 0,.int .u64 0,.int .u64 0,.int .u64 0]:=((Blk.new' _ _ _ _ (by simp)).alloc _).below hb2 (by simp)
 have b2:Below w.heap.size w v2:=dZ (((((Below.refl _ _).alloc (Nat.le_refl _) _).alloc (by simp) _).alloc (by simp;omega) _).alloc (by simp;omega) _) hb2 (by simp;omega)
 have HK2:=Lib.hid k2
 have HB2:=Lib.hid b2
 clear hb2 k2 b2
 go_wp2_with (first | (refine wpList_store_row rfl 56 (.tmp 4) (.tmp 85) rfl (w.heap.size+1+1) (es (x*y%PP)) rfl rfl 56 _ HK2.out cW rfl (gR _) ?_))
 exact gT (g:=w.heap.size+1+1) rfl rfl rfl (setRow_heap _ _ _ _ _ _ HK2.out) (below_setRow HB2.out (by omega) _)
end
section
open Go
def nc (k:IntKind) (x:Nat):Value:=.int k (x:Int)
def ncs (k:IntKind) (l:List Nat):Array Value:=(l.map (nc k)).toArray
theorem dL (k:IntKind) (l:List Nat):(ncs k l).size=l.length:=by simp [ncs]
theorem dW (k:IntKind) (l:List Nat) (i:Nat):(ncs k l)[i]?=l[i]?.map (nc k):=by simp [ncs]
theorem dV (k:IntKind) (l:List Nat) (i x:Nat):(ncs k l).setIfInBounds i (.int k (x:Int))=ncs k (l.set i x):=by
 show (ncs k l).setIfInBounds i (nc k x)=_
 simp [ncs,List.map_set]
theorem iH (k:IntKind) (l:List Nat):(ncs k l).all (·.oneCell')=true:=by
 rw [Array.all_eq_true_iff_forall_mem]
 intro v hv
 simp only [ncs,List.mem_toArray,List.mem_map] at hv
 obtain ⟨x,_,rfl⟩:=hv
 rfl
theorem mL:∀ (xs ys:List Nat),xs.length=ys.length→((List.range xs.length).all fun i=>xs.getD i 0 == ys.getD i 0)=(xs == ys)
 | [],[],_=>rfl
 | x::xs,y::ys,h=>by
  have ih:=mL xs ys (by simpa using h)
  rw [List.length_cons,List.range_succ_eq_map,List.all_cons,List.all_map]
  simp only [List.getD_cons_zero,Function.comp_def,List.getD_cons_succ,ih]
  simp [List.cons_beq_cons]
 | [],_::_,h=>by simp at h
 | _::_,[],h=>by simp at h
section
variable {P:Program} (w:World)
theorem eD (d:Nat) (t e:TypeId) (n:Nat) (k:IntKind) (ht:P.underlying t=some (.array n e)) (he:P.underlying e=some (.int k)) (hsz:∀ w,(sizeOf e).run P w=.ok 1 w)
  (xs ys:List Nat) (hx:xs.length=n) (hy:ys.length=n) :
  (Op.equalIn (d+2) t (.agg (ncs k xs)) (.agg (ncs k ys))).run P w=.ok (xs == ys) w:=by
 unfold ncs
 rw [←mL xs ys (hx.trans hy.symm),hx,List.range_eq_range',Op.equalIn]
 simp only [Sem.run_bind,run_underlying ht,Result.andThen_ok,hsz,Std.Legacy.Range.forIn_eq_forIn_range',Std.Legacy.Range.size,Nat.sub_zero,Nat.add_sub_cancel,Nat.div_one]
 have hl:∀ i∈List.range' 0 n 1,i<n:=fun i hi=>by simpa using (List.mem_range'_1.1 hi).2
 generalize List.range' 0 n 1=l at hl ⊢
 induction l with
 | nil=>simp
 | cons i l ih =>
  have hi:i<n:=hl i (by simp)
  have px:(part e (xs.map (nc k)).toArray (i*1)).run P w=.ok (nc k (xs.getD i 0)) w:=by
   simp [part,isAgg,run_underlying he,List.getD,List.getElem?_eq_getElem (show i<xs.length by omega)]
  have py:(part e (ys.map (nc k)).toArray (i*1)).run P w=.ok (nc k (ys.getD i 0)) w:=by
   simp [part,isAgg,run_underlying he,List.getD,List.getElem?_eq_getElem (show i<ys.length by omega)]
  have pe:(Op.equalIn (d+1) e (nc k (xs.getD i 0)) (nc k (ys.getD i 0))).run P w=.ok (xs.getD i 0 == ys.getD i 0) w:=by
   rw [nc,nc,run_equalIn_int w d e k k _ _ he]
   congr 1
   rw [Bool.eq_iff_iff]
   simp
   omega
  simp only [List.forIn_cons,Sem.run_bind,px,py,pe,Result.andThen_ok,List.all_cons]
  cases hb:(xs.getD i 0 == ys.getD i 0)
  ·
   simp
  ·
   simp only [Bool.not_true,Bool.false_eq_true,if_false,Sem.run_pure,Result.andThen_ok,Bool.true_and]
   exact ih fun j hj=>hl j (by simp [hj])
theorem gH (t e:TypeId) (n:Nat) (k:IntKind) (ht:P.underlying t=some (.array n e)) (he:P.underlying e=some (.int k)) (hsz:∀ w,(sizeOf e).run P w=.ok 1 w)
  (l:List Nat) (i x:Nat) (hi:i<n) (hx:l[i]?=some x):(Instr.index t (.agg (ncs k l)) (.int .i64 (i:Int))).run P w=.ok (.int k (x:Int)) w:=by
 have hc:(ncs k l)[i]?=some (.int k (x:Int)):=by rw [dW,hx];rfl
 simp [Instr.index,asIntOf,run_underlying ht,hsz,part,isAgg,run_underlying he,hc]
 intro h
 exact absurd h (by omega)
end
end
section
open Go.RowKit
theorem eX (x:Nat):es x=#[.int .u64 (wd0 x:Int),.int .u64 (wd1 x:Int),.int .u64 (wd2 x:Int),.int .u64 (wd3 x:Int)]:=rfl
theorem nS (x:Nat) (w:World) (hpg:PG w) (hx:x<PP) :
  Calls zP 108 #[.agg (es x)] w (ElemPost (x*x%PP) w):=by
 have HP:=Lib.hid hpg
 clear hpg
 rw [eX]
 go_enter Tryz.func108,Tryz.ntmps108
 go_wp2_with (fail)
 refine (yW x x _ ((HP.out.alloc _).alloc _) hx hx).mono ?_
 rintro e v2 ⟨rfl,hb2⟩
 have k2:Blk v2 (w.heap.size+1) 56 #[.int .u64 0,.int .u64 0,.int .u64 0,.int .u64 0]:=(Blk.new' _ _ _ _ (by simp)).below hb2 (by simp)
 have b2:Below w.heap.size w v2:=dZ (((Below.refl _ _).alloc (Nat.le_refl _) _).alloc (by simp) _) hb2 (by simp;omega)
 have HK2:=Lib.hid k2
 have HB2:=Lib.hid b2
 clear hb2 k2 b2
 go_wp2_with (first | (refine wpList_store_row rfl 56 (.tmp 2) (.tmp 5) rfl (w.heap.size+1) (es (x*x%PP)) rfl rfl 56 _ HK2.out cW rfl (gR _) ?_))
 exact gT (g:=w.heap.size+1) rfl rfl rfl (setRow_heap _ _ _ _ _ _ HK2.out) (below_setRow HB2.out (by omega) _)
theorem neg_any (x:Nat) (w:World) (hpg:PG w) (hx:x<PP) :
  Calls zP 68 #[.agg (es x)] w (ElemPost ((PP-x)%PP) w):=by
 have HP:=Lib.hid hpg
 clear hpg
 have h0:0<PP:=by rw [eH];omega
 rw [eX]
 go_enter Tryz.func68,Tryz.ntmps68
 go_wp2_with (fail)
 have hs:=sub_any 0 x ((w.alloc (.cells #[.int .u64 (wd0 x:Int),.int .u64 (wd1 x:Int),.int .u64 (wd2 x:Int),.int .u64 (wd3 x:Int)] 56)).alloc (.cells #[.int .u64 0,.int .u64 0,.int .u64 0,.int .u64 0] 56)) ((HP.out.alloc _).alloc _) h0 hx
 rw [Nat.zero_add] at hs
 refine hs.mono ?_
 clear hs
 rintro e v2 ⟨rfl,hb2⟩
 have k2:Blk v2 (w.heap.size+1) 56 #[.int .u64 0,.int .u64 0,.int .u64 0,.int .u64 0]:=(Blk.new' _ _ _ _ (by simp)).below hb2 (by simp)
 have b2:Below w.heap.size w v2:=dZ (((Below.refl _ _).alloc (Nat.le_refl _) _).alloc (by simp) _) hb2 (by simp;omega)
 have HK2:=Lib.hid k2
 have HB2:=Lib.hid b2
 clear hb2 k2 b2
 go_wp2_with (first | (refine wpList_store_row rfl 56 (.tmp 2) (.tmp 5) rfl (w.heap.size+1) (es ((PP-x)%PP)) rfl rfl 56 _ HK2.out cW rfl (gR _) ?_))
 exact gT (g:=w.heap.size+1) rfl rfl rfl (setRow_heap _ _ _ _ _ _ HK2.out) (below_setRow HB2.out (by omega) _)
theorem pQ {n:Nat} (h:n<18446744073709551616):es n=#[.int .u64 (n:Int),.int .u64 0,.int .u64 0,.int .u64 0]:=by
 have:wd0 n=n∧wd1 n=0∧wd2 n=0∧wd3 n=0:=by unfold wd0 wd1 wd2 wd3;omega
 rw [eX,this.1,this.2.1,this.2.2.1,this.2.2.2]
 rfl
theorem vV (n:Nat) (w:World) (hn:n<18446744073709551616) :
  Calls zP 107 #[.int .u64 (n:Int)] w (ElemPost n w):=by
 go_enter Tryz.func107,Tryz.ntmps107
 go_wp2_with (fail)
 refine bodyPost_ret (v:=.agg (es n)) ?_ rfl ⟨rfl,?_⟩
 ·
  rw [pQ hn]
  simp [results,Tryz.results107,go_sem]
 ·
  exact (Below.refl _ _).alloc (Nat.le_refl _) _
theorem and_one (x:Nat):(bits .and .u64 (wd0 x:Int) 1 == 1)=decide (x%2=1):=by
 have h:=bits_and_u64_nat (wd0 x) 1 (cZ x) (by omega)
 have e:wd0 x &&& 1=x%2:=by
  rw [Nat.and_one_is_mod]
  unfold wd0
  omega
 rw [e] at h
 rw [show (1:Int)=((1:Nat):Int) from rfl,h,Bool.eq_iff_iff]
 simp
 omega
theorem odd_any (x:Nat) (w:World) :
  Calls zP 49 #[.agg (es x)] w fun e w'=>e=.returned (.bool (decide (x%2=1)))∧Below w.heap.size w w':=by
 rw [eX]
 go_enter Tryz.func49,Tryz.ntmps49
 go_wp2_with (fail)
 go_ret
 exact ⟨by rw [and_one];rfl,(Below.refl _ _).alloc (Nat.le_refl _) _⟩
theorem words_eq {x y:Nat} (hx:x<PP) (hy:y<PP):([wd0 x,wd1 x,wd2 x,wd3 x] == [wd0 y,wd1 y,wd2 y,wd3 y])=decide (x=y):=by
 rw [Bool.eq_iff_iff]
 simp
 constructor
 ·
  rintro ⟨h0,h1,h2,h3⟩
  rw [←gL (fV hx),←gL (fV hy),h0,h1,h2,h3]
 ·
  rintro rfl
  exact ⟨rfl,rfl,rfl,rfl⟩
theorem size_u64 (w:World):(sizeOf 29).run zP w=.ok 1 w:=by kernel_rfl
theorem equal_any (x y:Nat) (w:World) (hx:x<PP) (hy:y<PP) :
  Calls zP 110 #[.agg (es x),.agg (es y)] w fun e w'=>e=.returned (.bool (decide (x=y)))∧Below w.heap.size w w':=by
 have he:∀ W,(Op.equalIn 10000 54 (.agg #[.int .u64 (wd0 x:Int),.int .u64 (wd1 x:Int),.int .u64 (wd2 x:Int),.int .u64 (wd3 x:Int)]) (.agg #[.int .u64 (wd0 y:Int),.int .u64 (wd1 y:Int),.int .u64 (wd2 y:Int),.int .u64 (wd3 y:Int)])).run zP W=.ok (decide (x=y)) W:=fun W=>by
  have:=eD (P:=zP) W 9998 54 29 4 .u64 Tryz.underlying54 Tryz.underlying29 size_u64 [wd0 x,wd1 x,wd2 x,wd3 x] [wd0 y,wd1 y,wd2 y,wd3 y] rfl rfl
  rw [words_eq hx hy] at this
  exact this
 rw [eX,eX]
 go_enter Tryz.func110,Tryz.ntmps110
 go_wp2_with (fail)
 go_ret
 exact ⟨rfl,((Below.refl _ _).alloc (Nat.le_refl _) _).alloc (by simp) _⟩
theorem kP (x y:Nat) (b:Bool) (w:World) :
  Calls zP 67 #[.agg (es x),.agg (es y),.bool b] w (ElemPost (if b then y else x) w):=by
 cases b
 all_goals
  rw [eX,eX]
  go_enter Tryz.func67,Tryz.ntmps67
  go_wp2_with (fail)
 ·
  refine bodyPost_ret (v:=.agg (es x)) ?_ rfl ⟨rfl,(((Below.refl _ _).alloc (Nat.le_refl _) _).alloc (by simp) _).alloc (by simp;omega) _⟩
  rw [eX]
  simp [results,Tryz.results67,go_sem]
 ·
  refine bodyPost_ret (v:=.agg (es y)) ?_ rfl ⟨rfl,(((Below.refl _ _).alloc (Nat.le_refl _) _).alloc (by simp) _).alloc (by simp;omega) _⟩
  rw [eX]
  simp [results,Tryz.results67,go_sem]
end
section
open Go.RowKit
structure Fr (w W:World) (L:List (Nat × TypeId × Array Value)) (R:List (Nat × TypeId × Nat)):Prop where
 below:Below w.heap.size w W
 rows:∀ p∈L,Blk W p.1 p.2.1 p.2.2
 some_:∀ p∈R,∃ cs:Array Value,cs.size=p.2.2∧Blk W p.1 p.2.1 cs
 own:∀ p∈R,w.heap.size≤p.1
section
variable {w W W':World} {L L':List (Nat × TypeId × Array Value)} {R R':List (Nat × TypeId × Nat)}
theorem Fr.start (w:World):Fr w w [] []:=⟨Below.refl _ _,(fun _ h=>by cases h),(fun _ h=>by cases h),(fun _ h=>by cases h)⟩
theorem Fr.get (h:Fr w W L R) {g:Nat} {t:TypeId} {cs:Array Value} (hm:(g,t,cs)∈L):Blk W g t cs:=h.rows _ hm
theorem Fr.ext (h:Fr w W L R) (hb:Below W.heap.size W W'):Fr w W' L R :=
 ⟨h.below.trans (hb.mono h.below.size),fun p hp=>(h.rows p hp).below hb (h.rows p hp).lt,fun p hp=>by
  obtain ⟨cs,e,k⟩:=h.some_ p hp
  exact ⟨cs,e,k.below hb k.lt⟩,h.own⟩
theorem Fr.drew (h:Fr w W L R):Fr w W.drew L R:=⟨h.below.drew,h.rows,h.some_,h.own⟩
theorem Fr.row (h:Fr w W L R) (cs:Array Value) (t:TypeId) {g:Nat} (hg:g=W.heap.size):Fr w (W.alloc (.cells cs t)) ((g,t,cs)::L) R:=by
 subst hg
 refine ⟨h.below.alloc h.below.size _,fun p hp=>?_,fun p hp=>?_,h.own⟩
 ·
  rcases List.mem_cons.1 hp with rfl | hp
  ·
   exact Blk.new _ _ _
  ·
   exact (h.rows p hp).alloc _
 ·
  obtain ⟨cs,e,k⟩:=h.some_ p hp
  exact ⟨cs,e,k.alloc _⟩
theorem Fr.any (h:Fr w W L R) (cs:Array Value) (t:TypeId) (n:Nat) (hn:cs.size=n) {g:Nat} (hg:g=W.heap.size):Fr w (W.alloc (.cells cs t)) L ((g,t,n)::R):=by
 subst hg
 refine ⟨h.below.alloc h.below.size _,fun p hp=>(h.rows p hp).alloc _,fun p hp=>?_,fun p hp=>?_⟩
 ·
  rcases List.mem_cons.1 hp with rfl | hp
  ·
   exact ⟨cs,hn,Blk.new _ _ _⟩
  ·
   obtain ⟨cs,e,k⟩:=h.some_ p hp
   exact ⟨cs,e,k.alloc _⟩
 ·
  rcases List.mem_cons.1 hp with rfl | hp
  ·
   exact h.below.size
  ·
   exact h.own p hp
theorem Fr.pass (h:Fr w W L R) (o:Obj):Fr w (W.alloc o) L R:=h.ext ((Below.refl _ _).alloc (Nat.le_refl _) _)
theorem Blk.setRow_other {g k:Nat} {t:TypeId} {cs:Array Value} (h:Blk W g t cs) (hne:g≠k) (c:Array Value):Blk (W.setRow k c) g t cs:=(Go.setRow_other W k g c hne).trans h
theorem Blk.setRow_same {g:Nat} {t:TypeId} {cs:Array Value} (h:Blk W g t cs) (c:Array Value):Blk (W.setRow g c) g t c:=setRow_heap W g cs c t (0,0) h
theorem Fr.setAny (h:Fr w W L R) {g:Nat} {t:TypeId} {c:Array Value} {n:Nat} (hc:c.size=n) (hm:(g,t,n)∈R) (hne:∀ p∈L,p.1≠g):Fr w (W.setRow g c) L R:=by
 subst hc
 refine ⟨below_setRow h.below (h.own _ hm) _,fun p hp=>(h.rows p hp).setRow_other (hne p hp) _,fun p hp=>?_,h.own⟩
 obtain ⟨cs,e,k⟩:=h.some_ p hp
 by_cases hg:p.1=g
 ·
  obtain ⟨cs',e',k'⟩:=h.some_ _ hm
  rw [hg] at k
  have:=(k.inj k').2
  refine ⟨c,?_,?_⟩
  ·
   rw [←e,this,e']
  ·
   rw [hg]
   exact k.setRow_same _
 ·
  exact ⟨cs,e,k.setRow_other hg _⟩
theorem Fr.setHead {g:Nat} {t:TypeId} {cs:Array Value} (h:Fr w W ((g,t,cs)::L) R) (hL:∀ p∈L,p.1≠g) (hR:∀ p∈R,p.1≠g) (i:Nat) (v:Value) (hw:w.heap.size≤g):Fr w (W.setCell ⟨g,i,none⟩ v) ((g,t,cs.setIfInBounds i v)::L) R:=by
 refine ⟨h.below.setCell hw _,fun p hp=>?_,fun p hp=>?_,h.own⟩
 ·
  rcases List.mem_cons.1 hp with rfl | hp
  ·
   exact (h.rows (g,t,cs) (by simp)).set_ i v
  ·
   exact (h.rows p (by simp [hp])).far (hL p hp) v
 ·
  obtain ⟨c,e,k⟩:=h.some_ p hp
  exact ⟨c,e,k.far (hR p hp) v⟩
theorem Fr.setRowHead {g:Nat} {t:TypeId} {cs:Array Value} (h:Fr w W ((g,t,cs)::L) R) (hL:∀ p∈L,p.1≠g) (hR:∀ p∈R,p.1≠g) (c:Array Value) (hw:w.heap.size≤g):Fr w (W.setRow g c) ((g,t,c)::L) R:=by
 refine ⟨below_setRow h.below hw _,fun p hp=>?_,fun p hp=>?_,h.own⟩
 ·
  rcases List.mem_cons.1 hp with rfl | hp
  ·
   exact (h.rows (g,t,cs) (by simp)).setRow_same c
  ·
   exact (h.rows p (by simp [hp])).setRow_other (hL p hp) _
 ·
  obtain ⟨d,e,k⟩:=h.some_ p hp
  exact ⟨d,e,k.setRow_other (hR p hp) _⟩
theorem Fr.setOut (h:Fr w W L R) {g:Nat} (hw:w.heap.size≤g) (hL:∀ p∈L,p.1≠g) (hR:∀ p∈R,p.1≠g) (c:Array Value):Fr w (W.setRow g c) L R :=
 ⟨below_setRow h.below hw _,fun p hp=>(h.rows p hp).setRow_other (hL p hp) _,fun p hp=>by
  obtain ⟨d,e,k⟩:=h.some_ p hp
  exact ⟨d,e,k.setRow_other (hR p hp) _⟩,h.own⟩
theorem Fr.sub (h:Fr w W L R) (hL:∀ p∈L',p∈L) (hR:∀ p∈R',p∈R):Fr w W L' R':=⟨h.below,fun p hp=>h.rows p (hL p hp),fun p hp=>h.some_ p (hR p hp),fun p hp=>h.own p (hR p hp)⟩
theorem Fr.more (h:Fr w W L R) {g:Nat} {t:TypeId} {cs:Array Value} (hb:Blk W g t cs):Fr w W ((g,t,cs)::L) R:=⟨h.below,fun p hp=>by
 rcases List.mem_cons.1 hp with rfl | hp
 ·
  exact hb
 ·
  exact h.rows p hp,h.some_,h.own⟩
theorem Fr.size (h:Fr w W L R):w.heap.size≤W.heap.size:=h.below.size
theorem Fr.old (h:Fr w W L R) {g:Nat} {t:TypeId} {n:Nat} (hm:(g,t,n)∈R):∃ cs:Array Value,cs.size=n∧Blk W g t cs:=h.some_ _ hm
end
structure Fn (wc W:World) (L:List (Nat × TypeId × Array Value)):Prop where
 below:Below wc.heap.size wc W
 rows:∀ p∈L,Blk W p.1 p.2.1 p.2.2
 lt:∀ p∈L,p.1<wc.heap.size
section
variable {w wc W W':World} {L:List (Nat × TypeId × Array Value)} {R:List (Nat × TypeId × Nat)}
theorem Fr.now (h:Fr w wc L R):Fn wc wc L:=⟨Below.refl _ _,h.rows,fun p hp=>(h.rows p hp).lt⟩
theorem Fn.get (h:Fn wc W L) {g:Nat} {t:TypeId} {cs:Array Value} (hm:(g,t,cs)∈L):Blk W g t cs:=h.rows _ hm
theorem Fn.ext (h:Fn wc W L) (hb:Below W.heap.size W W'):Fn wc W' L:=⟨h.below.trans (hb.mono h.below.size),fun p hp=>(h.rows p hp).below hb (h.rows p hp).lt,h.lt⟩
theorem Fn.sub {L':List (Nat × TypeId × Array Value)} (h:Fn wc W L) (hL:∀ p∈L',p∈L):Fn wc W L':=⟨h.below,fun p hp=>h.rows p (hL p hp),fun p hp=>h.lt p (hL p hp)⟩
theorem Fn.drew (h:Fn wc W L):Fn wc W.drew L:=⟨h.below.drew,h.rows,h.lt⟩
theorem Fn.pass (h:Fn wc W L) (o:Obj):Fn wc (W.alloc o) L:=h.ext ((Below.refl _ _).alloc (Nat.le_refl _) _)
theorem Fn.fresh (h:Fn wc W L) (t:TypeId) (cs:Array Value):Blk (W.alloc (.cells cs t)) W.heap.size t cs∧wc.heap.size≤W.heap.size:=⟨Blk.new _ _ _,h.below.size⟩
theorem Fn.setFresh (h:Fn wc W L) {g:Nat} (hg:wc.heap.size≤g) (c:Array Value):Fn wc (W.setRow g c) L :=
 ⟨below_setRow h.below hg _,fun p hp=>(h.rows p hp).setRow_other (by have:=h.lt p hp;omega) _,h.lt⟩
end
theorem cY {P:Program} {ops:Array Oper} {S:World→Prop} {o:Oper} {a:Act} (hw:Region.wanted o (yielded ops a.tmps)=true) (ty:TypeId) (x:Operand) (ho:o.op=.load ty x) (g:Nat) (hx:a.eval x=.pointer (some ⟨g,0,none⟩))
  (t:TypeId) (cs:Array Value) (d:TypeDesc) (hB:∀ W,S W→Blk W g t cs) (hu:P.underlying ty=some d) (hd:(match d with | .struct _ | .array _ _=>true | _=>false)=true) (hi:(P.info? ty).map (·.size)=some cs.size) :
  YieldsIf P ops S o (.agg cs) a :=
 Or.inl ⟨hw,fun w hS=>by
  unfold execOp
  simp only [ho,hx,Instr.loadAt,Instr.sureAddr,Sem.run_bind,Sem.run_pure,Result.andThen_ok,run_loadVar_row w g t ty cs (0,0) d (hB w hS) hu hd hi]⟩
theorem lT {P:Program} {fn:Func} {p q:Tmp} {ty:TypeId} (h:fn.results=#[.cell p ty,.tmp q]) {tmps:Array Value} {w:World} {g:Nat} {t:TypeId} {cs:Array Value} {v:Value} {d:TypeDesc}
  (hp:tmps.getD p undef=.pointer (some ⟨g,0,none⟩)) (hq:tmps.getD q undef=v) (hg:Blk w g t cs)
  (hu:P.underlying ty=some d) (hd:(match d with | .struct _ | .array _ _=>true | _=>false)=true) (hi:(P.info? ty).map (·.size)=some cs.size) :
  (results fn tmps).run P w=.ok (.tuple #[.agg cs,v]) w:=by
 have hp':tmps[p]?.getD undef=.pointer (some ⟨g,0,none⟩):=by simpa using hp
 have hq':tmps[q]?.getD undef=v:=by simpa using hq
 simp [results,h,hp',hq',asAddr,run_loadVar_row w g t ty cs (0,0) d hg hu hd hi]
end
section
open Go.RowKit
def kb (n:Nat):List Nat:=(List.range 32).map fun i=>n/256^i%256
theorem dP (n:Nat):(kb n).length=32:=by simp [kb]
theorem fQ (n:Nat) {i:Nat} (h:i<32):(kb n)[i]?=some (n/256^i%256):=by simp [kb,h]
def ks (n:Nat):Array Value:=ncs .u8 (kb n)
theorem aG (n:Nat):(ks n).size=32:=by rw [ks,dL,dP]
theorem dR (n:Nat) {i:Nat} (h:i<32):(ks n)[i]?=some (.int .u8 ((n/256^i%256:Nat):Int)):=by rw [ks,dW,fQ n h];rfl
theorem bU (n:Nat):(ks n).all (·.oneCell')=true:=iH _ _
theorem uD:(zP.info? 23).map (·.size)=some 32:=by kernel_rfl
theorem aL (n:Nat):(zP.info? 23).map (·.size)=some (ks n).size:=by rw [aG];exact uD
def wj (n j:Nat):Nat:=n/18446744073709551616^j%18446744073709551616
theorem uI (n:Nat) {j:Nat} (h:j<4):(es n)[j]?=some (.int .u64 (wj n j:Int)):=by
 have:j=0∨j=1∨j=2∨j=3:=by omega
 rcases this with rfl | rfl | rfl | rfl
 ·
  simp [es,wj,wd0]
 ·
  simp [es,wj,wd1]
 ·
  simp [es,wj,wd2]
 ·
  simp [es,wj,wd3]
theorem iX {k:Nat} (hk:k<32):k=0∨k=1∨k=2∨k=3∨k=4∨k=5∨k=6∨k=7∨k=8∨k=9∨k=10∨k=11∨k=12∨k=13∨k=14∨k=15∨k=16∨k=17∨k=18∨k=19∨k=20∨k=21∨k=22∨k=23∨k=24∨k=25∨k=26∨k=27∨k=28∨k=29∨k=30∨k=31:=by omega
theorem qW (n k:Nat) (hk:k<32):wj (n%256^(k+1)) (k/8)=wj (n%256^k) (k/8)+n/256^k%256*2^(8*(k%8))∧wj (n%256^k) (k/8)<2^(8*(k%8)) ∧
  (0≠k/8→wj (n%256^k) 0=wj (n%256^(k+1)) 0)∧(1≠k/8→wj (n%256^k) 1=wj (n%256^(k+1)) 1)∧(2≠k/8→wj (n%256^k) 2=wj (n%256^(k+1)) 2)∧(3≠k/8→wj (n%256^k) 3=wj (n%256^(k+1)) 3):=by
 unfold wj
 rcases iX hk with rfl | rfl | rfl | rfl | rfl | rfl | rfl | rfl | rfl | rfl | rfl | rfl | rfl | rfl | rfl | rfl | rfl | rfl | rfl | rfl | rfl | rfl | rfl | rfl | rfl | rfl | rfl | rfl | rfl | rfl | rfl | rfl
 all_goals
  simp only [Nat.reducePow,Nat.reduceDiv,Nat.reduceMod,Nat.reduceMul,Nat.reduceAdd,Nat.div_one,ne_eq,Nat.reduceEqDiff,not_false_eq_true,not_true_eq_false,false_implies,true_implies,true_and,and_true]
  omega
theorem xA (n:Nat):es n=ncs .u64 [wj n 0,wj n 1,wj n 2,wj n 3]:=by
 simp [es,ncs,nc,wj,wd0,wd1,wd2,wd3]
theorem es_set (m m' j:Nat) (hj:j<4) (h0:0≠j→wj m 0=wj m' 0) (h1:1≠j→wj m 1=wj m' 1) (h2:2≠j→wj m 2=wj m' 2) (h3:3≠j→wj m 3=wj m' 3) :
  (es m).setIfInBounds j (.int .u64 (wj m' j:Int))=es m':=by
 rw [xA,xA,dV]
 have:j=0∨j=1∨j=2∨j=3:=by omega
 rcases this with rfl | rfl | rfl | rfl
 ·
  rw [h1 (by omega),h2 (by omega),h3 (by omega)];rfl
 ·
  rw [h0 (by omega),h2 (by omega),h3 (by omega)];rfl
 ·
  rw [h0 (by omega),h1 (by omega),h3 (by omega)];rfl
 ·
  rw [h0 (by omega),h1 (by omega),h2 (by omega)];rfl
theorem pE (a x r:Nat) (ha:a<2^(8*r)) (hx:x<256) (hr:r<8):bits .or .u64 (a:Int) (IntKind.u64.wrap ((x:Int)*2^(8*r)))=((a+x*2^(8*r):Nat):Int):=by
 have hp:2^(8*r)≤2^56:=Nat.pow_le_pow_right (by omega) (by omega)
 have hm:x*2^(8*r)≤255*2^56:=Nat.mul_le_mul (by omega) hp
 have e:(x:Int)*2^(8*r)=((x*2^(8*r):Nat):Int):=by push_cast;rfl
 have h2:(2:Nat)^56=72057594037927936:=by decide
 rw [e,IntKind.wrap_u64,Int.emod_eq_of_lt (by omega) (by omega),u64_or_nat _ _ (by omega) (by omega)]
 have:=Nat.two_pow_add_eq_or_of_lt ha x
 rw [Nat.or_comm,Nat.mul_comm x,←this,Nat.add_comm]
theorem jB (n:Nat) (w:World) (hn:K256 n) :
  Calls zP 105 #[.agg (ks n)] w (ElemPost n w):=by
 have hfr:=((((Fr.start w).row (ks n) 23 (g:=w.heap.size) rfl).any #[.int .u64 0,.int .u64 0,.int .u64 0,.int .u64 0] 54 4 rfl (g:=w.heap.size+1) (by simp)).row (es 0) 54 (g:=w.heap.size+1+1) (by simp))
 have k1:=hfr.get (g:=w.heap.size) (t:=23) (cs:=ks n) (by simp)
 rw [jJ] at k1
 have HFR:=Lib.hid hfr
 clear hfr
 go_enter Tryz.func105,Tryz.ntmps105
 go_wp2_with (first | (refine wpList_load_row rfl 23 (.tmp 1) rfl w.heap.size rfl 23 (ks n) (0,0) _ k1 Tryz.underlying23 rfl (aL n) ?_))
 go_loopw [7] (fun c wr=>∃ k:Nat,k≤32∧c=.int .i64 k∧Fr w wr [(w.heap.size+1+1,54,es (n%256^k)),(w.heap.size,23,ks n)] [(w.heap.size+1,54,4)]) (fun c _=>32-(intOf c).toNat)
 case atStart=>exact ⟨0,by omega,rfl,by have:=HFR.out;rw [Nat.pow_zero,Nat.mod_one];exact this⟩
 case round =>
  obtain ⟨k,hk,rfl,hF⟩:=hrel
  by_cases hlt:k<32
  ·
   have hB:=hF.get (g:=w.heap.size+1+1) (t:=54) (cs:=es (n%256^k)) (by simp)
   have hc:wr.cell? ⟨w.heap.size+1+1,k/8,none⟩=some (.int .u64 (wj (n%256^k) (k/8):Int)):=by rw [hB.cell,uI _ (by omega)]
   have hf:=hB.frozen (k/8)
   have hix:=fun W=>gH (P:=zP) W 23 5 32 .u8 Tryz.underlying23 Tryz.underlying5 (fun W=>fH (by kernel_rfl) W) (kb n) k (n/256^k%256) hlt (fQ n hlt)
   have hx8:n/256^k%256<256:=Nat.mod_lt _ (by omega)
   have hix2:∀ W,(Instr.index 23 (.agg (ks n)) (.int .i64 (k:Int))).run zP W=.ok (.int .u8 ((n/256^k%256:Nat):Int)) W:=hix
   clear hix
   obtain ⟨s1,s2,s3,s4,s5,s6⟩:=qW n k hlt
   have hset:=es_set (n%256^k) (n%256^(k+1)) (k/8) (by omega) s3 s4 s5 s6
   have hor:=pE (wj (n%256^k) (k/8)) (n/256^k%256) (k%8) s2 hx8 (by omega)
   rw [←s1] at hor
   have HS:=Lib.hid hset
   have HO:=Lib.hid hor
   have HF:=Lib.hid hF
   clear s1 s2 s3 s4 s5 s6 hset hor hF hB
   generalize n/256^k%256=x at *
   have b1:(0:Int)≤(k:Int)/8:=by omega
   have b2:(k:Int)/8<4:=by omega
   go_wp2
   go_region
   go_wp2
   go_roundw
   case rel =>
    refine ⟨k+1,by omega,by go_num,?_⟩
    rw [HO.out]
    refine Fr.drew ?_
    rw [←HS.out]
    exact HF.out.setHead (by simp<;>omega) (by simp<;>omega) _ _ (by omega)
   case measure=>simp [intOf];omega
  ·
   obtain rfl:k=32:=by omega
   have e32:n%256^32=n:=Nat.mod_eq_of_lt hn
   rw [e32] at hF
   have kT:=hF.get (g:=w.heap.size+1+1) (t:=54) (cs:=es n) (by simp)
   obtain ⟨old,hold,kR⟩:=hF.old (g:=w.heap.size+1) (t:=54) (n:=4) (by simp)
   have kS:=kR.setRow_same (es n)
   have hB:=below_setRow hF.below (show w.heap.size≤w.heap.size+1 by omega) (es n)
   have HF:=Lib.hid hF
   have HS:=Lib.hid kS
   have HB:=Lib.hid hB
   have HO:=Lib.hid hold
   clear hF e32 kS hB hold
   go_wp2_with (first | (refine wpList_load_row rfl 54 (.tmp 3) rfl (w.heap.size+1+1) rfl 54 (es n) (0,0) _ kT Tryz.underlying54 rfl hH ?_) | (refine wpList_store_row rfl 54 (.tmp 2) (.tmp 24) rfl (w.heap.size+1) (es n) rfl rfl 54 old kR hH HO.out (gR _) ?_))
   exact bodyPost_ret (results_cell_row rfl _ _ (w.heap.size+1) 54 (es n) (0,0) _ rfl HS.out Tryz.underlying54 rfl hH) rfl ⟨rfl,HB.out⟩
end
section
open Go.RowKit
theorem fX (b n k i:Nat) (hb:0<b):n%b^k/b^i%b=if i<k then n/b^i%b else 0:=by
 have hp:0<b^i:=Nat.pow_pos hb
 split
 ·
  rename_i h
  obtain ⟨d,rfl⟩:∃ d,k=i+(d+1):=⟨k-i-1,by omega⟩
  rw [Nat.pow_add,Nat.mod_mul_right_div_self,Nat.pow_succ,Nat.mod_mul_left_mod]
 ·
  rename_i h
  have h1:n%b^k<b^k:=Nat.mod_lt _ (Nat.pow_pos hb)
  have h2:b^k≤b^i:=Nat.pow_le_pow_right hb (by omega)
  rw [Nat.div_eq_of_lt (by omega),Nat.zero_mod]
theorem zC (n k:Nat) (hk:k<32):(kb (n%256^k)).set k (n/256^k%256)=kb (n%256^(k+1)):=by
 apply List.ext_getElem?
 intro i
 rw [List.getElem?_set]
 by_cases hi:i<32
 ·
  rw [fQ (n%256^(k+1)) hi,dP,fX 256 n (k+1) i (by omega)]
  by_cases e:k=i
  ·
   subst e
   rw [if_pos rfl,if_pos hk,if_pos (by omega)]
  ·
   rw [if_neg e,fQ _ hi,fX 256 n k i (by omega)]
   by_cases h:i<k
   ·
    rw [if_pos h,if_pos (by omega)]
   ·
    rw [if_neg h,if_neg (by omega)]
 ·
  have h1:(kb (n%256^(k+1)))[i]?=none:=by simp [dP];omega
  have h2:(kb (n%256^k))[i]?=none:=by simp [dP];omega
  rw [h1,h2]
  have:k≠i:=by omega
  simp [this]
theorem pK (n k:Nat) (hk:k<32):(ks (n%256^k)).setIfInBounds k (.int .u8 ((n/256^k%256:Nat):Int))=ks (n%256^(k+1)):=by
 rw [ks,dV,zC n k hk,ks]
theorem dK:ks 0=#[.int .u8 0,.int .u8 0,.int .u8 0,.int .u8 0,.int .u8 0,.int .u8 0,.int .u8 0,.int .u8 0,.int .u8 0,.int .u8 0,.int .u8 0,.int .u8 0,.int .u8 0,.int .u8 0,.int .u8 0,.int .u8 0,.int .u8 0,.int .u8 0,.int .u8 0,.int .u8 0,.int .u8 0,.int .u8 0,.int .u8 0,.int .u8 0,.int .u8 0,.int .u8 0,.int .u8 0,.int .u8 0,.int .u8 0,.int .u8 0,.int .u8 0,.int .u8 0]:=by kernel_rfl
theorem lN (n k:Nat) (hk:k<32) (hn:K256 n):wj n (k/8)/2^(8*(k%8))%256=n/256^k%256:=by
 unfold wj
 rcases iX hk with rfl | rfl | rfl | rfl | rfl | rfl | rfl | rfl | rfl | rfl | rfl | rfl | rfl | rfl | rfl | rfl | rfl | rfl | rfl | rfl | rfl | rfl | rfl | rfl | rfl | rfl | rfl | rfl | rfl | rfl | rfl | rfl
 all_goals
  simp only [Nat.reducePow,Nat.reduceDiv,Nat.reduceMod,Nat.reduceMul,Nat.reduceAdd,Nat.div_one]
  omega
def KeyPost (n:Nat) (w:World) (e:Ending) (w':World):Prop:=e=.returned (.agg (ks n))∧Below w.heap.size w w'
theorem gF (n:Nat) (w:World) (hn:K256 n) :
  Calls zP 96 #[.agg (es n)] w (KeyPost n w):=by
 have hfr:=((((Fr.start w).row (es n) 54 (g:=w.heap.size) rfl).any (ks 0) 23 32 (aG 0) (g:=w.heap.size+1) (by simp)).row (ks 0) 23 (g:=w.heap.size+1+1) (by simp))
 rw [dK] at hfr
 have HFR:=Lib.hid hfr
 clear hfr
 go_enter Tryz.func96,Tryz.ntmps96
 go_wp2_with (fail)
 go_loopw [5] (fun c wr=>∃ k:Nat,k≤32∧c=.int .i64 k∧Fr w wr [(w.heap.size+1+1,23,ks (n%256^k)),(w.heap.size,54,es n)] [(w.heap.size+1,23,32)]) (fun c _=>32-(intOf c).toNat)
 case atStart=>exact ⟨0,by omega,rfl,by have:=HFR.out;rw [Nat.pow_zero,Nat.mod_one,dK];exact this⟩
 case round =>
  obtain ⟨k,hk,rfl,hF⟩:=hrel
  by_cases hlt:k<32
  ·
   have hB:=hF.get (g:=w.heap.size+1+1) (t:=23) (cs:=ks (n%256^k)) (by simp)
   have hE:=hF.get (g:=w.heap.size) (t:=54) (cs:=es n) (by simp)
   have hc:wr.cell? ⟨w.heap.size,k/8,none⟩=some (.int .u64 (wj n (k/8):Int)):=by rw [hE.cell,uI _ (by omega)]
   have hd:wr.cell? ⟨w.heap.size+1+1,k,none⟩=some (.int .u8 ((n%256^k/256^k%256:Nat):Int)):=by rw [hB.cell,dR _ hlt]
   have hf:=hB.frozen k
   have h8:(8:Int)*((k:Int)%8)<65:=by omega
   have hby:=lN n k hlt hn
   have hst:=pK n k hlt
   have HB:=Lib.hid hby
   have HS:=Lib.hid hst
   have HF:=Lib.hid hF
   clear hby hst hF hB hE
   generalize n%256^k/256^k%256=z at *
   have b1:(0:Int)≤(k:Int)/8:=by omega
   have b2:(k:Int)/8<4:=by omega
   go_wp2
   go_roundw
   case rel =>
    refine ⟨k+1,by omega,by go_num,?_⟩
    have e:(wj n (k/8):Int)/2^(8*(k%8))%256=((n/256^k%256:Nat):Int):=by
     rw [←HB.out]
     rw [Int.natCast_emod,Int.natCast_ediv,Int.natCast_pow]
     rfl
    rw [e,←HS.out]
    exact HF.out.setHead (by simp<;>omega) (by simp<;>omega) _ _ (by omega)
   case measure=>simp [intOf];omega
  ·
   obtain rfl:k=32:=by omega
   have e32:n%256^32=n:=Nat.mod_eq_of_lt hn
   rw [e32] at hF
   have kT:=hF.get (g:=w.heap.size+1+1) (t:=23) (cs:=ks n) (by simp)
   obtain ⟨old,hold,kR⟩:=hF.old (g:=w.heap.size+1) (t:=23) (n:=32) (by simp)
   have kS:=kR.setRow_same (ks n)
   have hB:=below_setRow hF.below (show w.heap.size≤w.heap.size+1 by omega) (ks n)
   have hold':old.size=(ks n).size:=by rw [hold,aG]
   have HF:=Lib.hid hF
   have HS:=Lib.hid kS
   have HB:=Lib.hid hB
   have HO:=Lib.hid hold'
   clear hF e32 kS hB hold hold'
   go_wp2_with (first | (refine wpList_load_row rfl 23 (.tmp 3) rfl (w.heap.size+1+1) rfl 23 (ks n) (0,0) _ kT Tryz.underlying23 rfl (aL n) ?_) | (refine wpList_store_row rfl 23 (.tmp 2) (.tmp 20) rfl (w.heap.size+1) (ks n) rfl rfl 23 old kR (aL n) HO.out (bU _) ?_))
   exact bodyPost_ret (results_cell_row rfl _ _ (w.heap.size+1) 23 (ks n) (0,0) _ rfl HS.out Tryz.underlying23 rfl (aL n)) rfl ⟨rfl,HB.out⟩
theorem uX (e i:Nat):e/256^(i/8)%256/2^(i%8)%2=e/2^i%2:=by
 have h1:e/2^i=e/256^(i/8)/2^(i%8):=by
  rw [show (256:Nat)=2^8 by decide,←Nat.pow_mul,Nat.div_div_eq_div_mul,←Nat.pow_add,Nat.div_add_mod]
 rw [h1]
 generalize e/256^(i/8)=x
 have:i%8=0∨i%8=1∨i%8=2∨i%8=3∨i%8=4∨i%8=5∨i%8=6∨i%8=7:=by omega
 rcases this with h | h | h | h | h | h | h | h
 all_goals
  rw [h]
  simp only [Nat.reducePow,Nat.div_one]
  omega
theorem and_one8 (x:Nat) (hx:x<256):(bits .and .u8 (x:Int) 1 == 1)=decide (x%2=1):=by
 have h:=u8_and (x:Int) 1 (by omega) (by omega) (by omega) (by omega)
 rw [h,Bool.eq_iff_iff]
 have e:(x:Int).toNat &&& (1:Int).toNat=x%2:=by
  show x &&& 1=x%2
  rw [Nat.and_one_is_mod]
 rw [e]
 simp
 omega
def bitB (e i:Nat):Bool:=decide (e/2^i%2=1)
theorem zM (e i:Nat) (w:World) (hi:i<256) :
  Calls zP 127 #[.agg (ks e),.int .i64 (i:Int)] w fun r w'=>r=.returned (.bool (bitB e i))∧Below w.heap.size w w':=by
 have hc:(w.alloc (.cells (ks e) 23)).cell? ⟨w.heap.size,i/8,none⟩=some (.int .u8 ((e/256^(i/8)%256:Nat):Int)):=by
  rw [(Blk.new w 23 (ks e)).cell,dR _ (by omega)]
 have hx:e/256^(i/8)%256<256:=Nat.mod_lt _ (by omega)
 have hb:=uX e i
 have ha:=and_one8 (e/256^(i/8)%256/2^(i%8)) (Nat.lt_of_le_of_lt (Nat.div_le_self _ _) hx)
 rw [hb,Int.natCast_ediv,Int.natCast_pow] at ha
 have HA:=Lib.hid ha
 clear hb ha
 generalize e/256^(i/8)%256=x at *
 have b1:(0:Int)≤(i:Int)/8:=by omega
 have b2:(i:Int)/8<32:=by omega
 have b3:((i:Int)%8)<65:=by omega
 go_enter Tryz.func127,Tryz.ntmps127
 go_wp2
 go_ret
 refine ⟨?_,(Below.refl _ _).alloc (Nat.le_refl _) _⟩
 show Ending.returned (.bool (bits .and .u8 ((x:Int)/2^(i%8)) 1 == 1))=_
 have:=HA.out
 rw [show ((2:Nat):Int)=2 from rfl] at this
 rw [this]
 rfl
end
section
open Go.RowKit
theorem gN {fn:Func} {p:Tmp} (hr:fn.results=#[.cell p 23]) {a:Act} (hd:a.defers=[]) {W w:World} {g n:Nat} (hp:a.tmps.getD p undef=.pointer (some ⟨g,0,none⟩)) (hb:Blk w g 23 (ks n)) (hB:Below W.heap.size W w) :
  bodyPost zP fn (KeyPost n W) .ret a w :=
 bodyPost_ret (results_cell_row hr _ _ g 23 (ks n) (0,0) _ hp hb Tryz.underlying23 rfl (aL n)) hd ⟨rfl,hB⟩
theorem bytes_any (n:Nat) (w:World) (hn:K256 n) :
  Calls zP 48 #[.agg (es n)] w (KeyPost n w):=by
 have hfr:=((Fr.start w).row (es n) 56 (g:=w.heap.size) rfl).any (ks 0) 23 32 (aG 0) (g:=w.heap.size+1) (by simp)
 have k0:=hfr.get (g:=w.heap.size) (t:=56) (cs:=es n) (by simp)
 rw [dK] at hfr k0
 have HFR:=Lib.hid hfr
 clear hfr
 go_enter Tryz.func48,Tryz.ntmps48
 go_wp2_with (first | (refine wpList_load_row rfl 54 (.tmp 3) rfl w.heap.size rfl 56 (es n) (0,0) _ k0 Tryz.underlying54 rfl hH ?_))
 refine (gF n _ hn).mono ?_
 rintro e v ⟨rfl,hb⟩
 have hf:=HFR.out.ext hb
 clear hb
 obtain ⟨old,hold,kR⟩:=hf.old (g:=w.heap.size+1) (t:=23) (n:=32) (by simp)
 have kS:=kR.setRow_same (ks n)
 have hB:=below_setRow hf.below (show w.heap.size≤w.heap.size+1 by omega) (ks n)
 have hold':old.size=(ks n).size:=by rw [hold,aG]
 have HS:=Lib.hid kS
 have HB:=Lib.hid hB
 have HO:=Lib.hid hold'
 clear hf kS hB hold hold' k0
 go_wp2_with (first | (refine wpList_store_row rfl 23 (.tmp 2) (.tmp 5) rfl (w.heap.size+1) (ks n) rfl rfl 23 old kR (aL n) HO.out (bU _) ?_))
 exact gN (g:=w.heap.size+1) rfl rfl rfl HS.out HB.out
theorem of_num (n:Nat) (hn:K256 n):num5 (wd0 n) (wd1 n) (wd2 n) (wd3 n%9223372036854775808) 0=n%57896044618658097711785492504343953926634992332820282019728792003956564819968:=by
 unfold num5 wd0 wd1 wd2 wd3
 omega
theorem of_any (n:Nat) (w:World) (hpg:PG w) (hn:K256 n) :
  Calls zP 62 #[.agg (ks n)] w (ElemPost (n%57896044618658097711785492504343953926634992332820282019728792003956564819968%PP) w):=by
 have hfr:=((Fr.start w).row (ks n) 23 (g:=w.heap.size) rfl).any (es 0) 56 4 rfl (g:=w.heap.size+1) (by simp)
 have k0:=hfr.get (g:=w.heap.size) (t:=23) (cs:=ks n) (by simp)
 rw [jJ] at hfr k0
 have HFR:=Lib.hid hfr
 have HPG:=Lib.hid hpg
 have ho:=of_num n hn
 have HON:=Lib.hid ho
 have at_:=vA (wd3 n) (fA n)
 clear hfr hpg ho
 go_enter Tryz.func62,Tryz.ntmps62
 go_wp2_with (first | (refine wpList_load_row rfl 23 (.tmp 1) rfl w.heap.size rfl 23 (ks n) (0,0) _ k0 Tryz.underlying23 rfl (aL n) ?_))
 refine (jB n _ hn).mono ?_
 rintro e v ⟨he,hb⟩
 rw [eX] at he
 subst he
 have hf:=(HFR.out.ext hb).row (es n) 54 (g:=v.heap.size) rfl
 rw [eX] at hf
 have hp1:=(((HPG.out.alloc _).alloc _).ext hb).alloc (.cells #[.int .u64 (wd0 n:Int),.int .u64 (wd1 n:Int),.int .u64 (wd2 n:Int),.int .u64 (wd3 n:Int)] 54)
 have HF:=Lib.hid hf
 have HP1:=Lib.hid hp1
 clear hb k0 hf hp1
 go_wp2_with (fail)
 refine (kO (wd0 n) (wd1 n) (wd2 n) (wd3 n%9223372036854775808) 0 _ HP1.out (cZ n) (fP n) (fO n) (Nat.lt_of_le_of_lt (Nat.mod_le _ _) (fA n)) (by omega)).mono ?_
 rintro e v2 ⟨he,hb⟩
 rw [HON.out] at he
 subst he
 have hf2:=HF.out.ext hb
 clear hb
 obtain ⟨old,hold,kR⟩:=hf2.old (g:=w.heap.size+1) (t:=56) (n:=4) (by simp)
 generalize n%57896044618658097711785492504343953926634992332820282019728792003956564819968%PP=r at *
 have kS:=kR.setRow_same (es r)
 have hB:=below_setRow hf2.below (show w.heap.size≤w.heap.size+1 by omega) (es r)
 have HS:=Lib.hid kS
 have HB:=Lib.hid hB
 have HO:=Lib.hid hold
 clear hf2 kS hB hold
 go_wp2_with (first | (refine wpList_store_row rfl 56 (.tmp 2) (.tmp 15) rfl (w.heap.size+1) (es r) rfl rfl 56 old kR cW HO.out (gR _) ?_))
 exact gT (g:=w.heap.size+1) rfl rfl rfl HS.out HB.out
theorem oJ {n a b c d:Nat} (h:n=num4 a b c d) (ha:a<18446744073709551616) (hb:b<18446744073709551616) (hc:c<18446744073709551616) (hd:d<18446744073709551616) :
  es n=#[.int .u64 (a:Int),.int .u64 (b:Int),.int .u64 (c:Int),.int .u64 (d:Int)]:=by
 obtain ⟨h0,h1,h2,h3⟩:=of_num4 h ha hb hc hd
 rw [eX,h0,h1,h2,h3]
theorem vH:num4 18446744073709551613 18446744073709551615 18446744073709551615 1152921504606846975=EE:=by decide +kernel
theorem vI (w:World):Calls zP 121 #[] w (KeyPost EE w):=by
 have hfr:=(Fr.start w).any (ks 0) 23 32 (aG 0) (g:=w.heap.size) rfl
 rw [dK] at hfr
 have HFR:=Lib.hid hfr
 clear hfr
 have hb0:=gF EE
 rw [show es EE=#[.int .u64 18446744073709551613,.int .u64 18446744073709551615,.int .u64 18446744073709551615,.int .u64 1152921504606846975] from oJ vH.symm (by decide) (by decide) (by decide) (by decide)] at hb0
 go_enter Tryz.func121,Tryz.ntmps121
 go_wp2_with (fail)
 refine (hb0 _ (by decide +kernel)).mono ?_
 rintro e v ⟨rfl,hb⟩
 have hf:=HFR.out.ext hb
 clear hb hb0
 obtain ⟨old,hold,kR⟩:=hf.old (g:=w.heap.size) (t:=23) (n:=32) (by simp)
 have kS:=kR.setRow_same (ks EE)
 have hB:=below_setRow hf.below (show w.heap.size≤w.heap.size by omega) (ks EE)
 have hold':old.size=(ks EE).size:=by rw [hold,aG]
 have HS:=Lib.hid kS
 have HB:=Lib.hid hB
 have HO:=Lib.hid hold'
 clear hf kS hB hold hold'
 go_wp2_with (first | (refine wpList_store_row rfl 23 (.tmp 0) (.tmp 2) rfl w.heap.size (ks EE) rfl rfl 23 old kR (aL EE) HO.out (bU _) ?_))
 exact gN (g:=w.heap.size) rfl rfl rfl HS.out HB.out
end
section
open Go.RowKit
theorem Fr.pg {w W:World} {L:List (Nat × TypeId × Array Value)} {R:List (Nat × TypeId × Nat)} (h:Fr w W L R) (hp:PG w):PG W:=hp.ext h.below
def pw (x e k:Nat):Nat:=x^(e/2^(256-k))%PP
theorem pw_lt (x e k:Nat):pw x e k<PP:=Nat.mod_lt _ (by rw [eH];omega)
theorem yI (x e:Nat) (he:K256 e):pw x e 0=1:=by
 have h:e/2^(256-0)=0:=Nat.div_eq_of_lt he
 unfold pw
 rw [h,Nat.pow_zero,eH]
theorem pw_all (x e:Nat):pw x e 256=x^e%PP:=by
 unfold pw
 rw [Nat.sub_self,Nat.pow_zero,Nat.div_one]
theorem wY (e k:Nat) (hk:k<256):e/2^(256-(k+1))=2*(e/2^(256-k))+e/2^(255-k)%2:=by
 have h1:256-(k+1)=255-k:=by omega
 have h2:256-k=(255-k)+1:=by omega
 rw [h1,h2,Nat.pow_succ,←Nat.div_div_eq_div_mul]
 omega
theorem pw_no (x e k:Nat) (hk:k<256) (hb:bitB e (255-k)=false):pw x e k*pw x e k%PP=pw x e (k+1):=by
 unfold pw
 rw [wY e k hk]
 have:e/2^(255-k)%2=0:=by
  unfold bitB at hb
  have:=of_decide_eq_false hb
  omega
 rw [this,Nat.add_zero,←Nat.mul_mod,←Nat.pow_add]
 congr 2
 omega
theorem pw_yes (x e k:Nat) (hk:k<256) (hb:bitB e (255-k)=true):pw x e k*pw x e k%PP*x%PP=pw x e (k+1):=by
 unfold pw
 rw [wY e k hk]
 have:e/2^(255-k)%2=1:=of_decide_eq_true hb
 rw [this,←Nat.mul_mod,←Nat.pow_add,Nat.mod_mul_mod,←Nat.pow_succ]
 congr 2
 omega
set_option maxRecDepth 100000 in
theorem power_any (x e:Nat) (w:World) (hpg:PG w) (hx:x<PP) (he:K256 e) :
  Calls zP 119 #[.agg (es x),.agg (ks e)] w (ElemPost (x^e%PP) w):=by
 have hfr:=(((Fr.start w).row (es x) 56 (g:=w.heap.size) rfl).row (ks e) 23 (g:=w.heap.size+1) (by simp)).any (es 0) 56 4 rfl (g:=w.heap.size+1+1) (by simp)
 rw [jJ] at hfr
 have HFR:=Lib.hid hfr
 have HPG:=Lib.hid hpg
 have hpz:=yI x e he
 have HPZ:=Lib.hid hpz
 clear hfr hpg hpz he
 go_enter Tryz.func119,Tryz.ntmps119
 go_wp2_with (fail)
 refine (vV 1 _ (by omega)).mono ?_
 rintro r v ⟨hr,hb⟩
 rw [pQ (by omega)] at hr
 subst hr
 have hf:=(HFR.out.ext hb).row (es 1) 56 (g:=v.heap.size) rfl
 rw [pQ (show 1<18446744073709551616 by omega)] at hf
 have hz:w.heap.size+1+1<v.heap.size:=by have:=hb.size;simp at this;omega
 have HF0:=Lib.hid hf
 clear hb hf
 go_wp2_with (fail)
 generalize hgp:v.heap.size=gp at *
 have HGP:=Lib.hid hgp
 clear hgp
 go_loopw [8] (fun c wr=>∃ k:Nat,k≤256∧c=.int .i64 k∧Fr w wr [(gp,56,es (pw x e k)),(w.heap.size+1,23,ks e),(w.heap.size,56,es x)] [(w.heap.size+1+1,56,4)]) (fun c _=>256-(intOf c).toNat)
 case atStart=>exact ⟨0,by omega,rfl,by rw [HPZ.out,pQ (by omega)];exact HF0.out⟩
 case round =>
  obtain ⟨k,hk,rfl,hF⟩:=hrel
  have hr:=pw_lt x e k
  have k5:=hF.get (g:=gp) (t:=56) (cs:=es (pw x e k)) (by simp)
  by_cases hlt:k<256
  ·
   have hno:=pw_no x e k hlt
   have hyes:=pw_yes x e k hlt
   have hbit:=zM e (255-k)
   rw [show ((255-k:Nat):Int)=255-(k:Int) by omega] at hbit
   have hr2:pw x e k*pw x e k%PP<PP:=Nat.mod_lt _ (by rw [eH];omega)
   obtain ⟨r2,hq2⟩:∃ r2,r2=pw x e k*pw x e k%PP:=⟨_,rfl⟩
   rw [←hq2] at hno hyes hr2
   have HQ:=Lib.hid hq2
   have HN:=Lib.hid hno
   have HY:=Lib.hid hyes
   clear hq2
   generalize pw x e k=r0 at *
   have HF:=Lib.hid hF
   clear hno hyes hF
   cases hbv:bitB e (255-k)
   ·
    rw [hbv] at hbit
    have hst:=HN.out hbv
    have HST:=Lib.hid hst
    have HBI:=Lib.hid hbit
    clear hbv hst hbit
    go_wp2_with (first | (refine wpList_load_row rfl 56 (.tmp 5) rfl gp rfl 56 (es r0) (0,0) _ k5 Tryz.underlying56 rfl cW ?_))
    refine (nS r0 _ (HF.out.pg HPG.out) hr).mono ?_
    rintro r v1 ⟨hq,hb⟩
    rw [←HQ.out] at hq
    subst hq
    have f1:=HF.out.ext hb
    have k6:=f1.get (g:=gp) (t:=56) (cs:=es r0) (by simp)
    have f2:=f1.setRowHead (by simp<;>omega) (by simp<;>omega) (es r2) (by omega)
    have k7:=f2.get (g:=w.heap.size+1) (t:=23) (cs:=ks e) (by simp)
    have F2:=Lib.hid f2
    clear f1 f2 hb k5
    go_wp2_with (first | (refine wpList_store_row rfl 56 (.tmp 5) (.tmp 12) rfl gp (es r2) rfl rfl 56 (es r0) k6 cW rfl (gR _) ?_) | (refine wpList_load_row rfl 23 (.tmp 3) rfl (w.heap.size+1) rfl 23 (ks e) (0,0) _ k7 Tryz.underlying23 rfl (aL e) ?_))
    refine (HBI.out _ (by omega)).mono ?_
    rintro r v2 ⟨rfl,hb⟩
    have f3:=F2.out.ext hb
    have F3:=Lib.hid f3
    clear f3 hb k6 k7
    go_wp2_with (fail)
    go_roundw
    case rel=>exact ⟨k+1,by omega,by go_num,by rw [←HST.out];exact F3.out⟩
    case measure=>simp [intOf];omega
   ·
    rw [hbv] at hbit
    have hst:=HY.out hbv
    have HST:=Lib.hid hst
    have HBI:=Lib.hid hbit
    clear hbv hst hbit
    go_wp2_with (first | (refine wpList_load_row rfl 56 (.tmp 5) rfl gp rfl 56 (es r0) (0,0) _ k5 Tryz.underlying56 rfl cW ?_))
    refine (nS r0 _ (HF.out.pg HPG.out) hr).mono ?_
    rintro r v1 ⟨hq,hb⟩
    rw [←HQ.out] at hq
    subst hq
    have f1:=HF.out.ext hb
    have k6:=f1.get (g:=gp) (t:=56) (cs:=es r0) (by simp)
    have f2:=f1.setRowHead (by simp<;>omega) (by simp<;>omega) (es r2) (by omega)
    have k7:=f2.get (g:=w.heap.size+1) (t:=23) (cs:=ks e) (by simp)
    have F2:=Lib.hid f2
    clear f1 f2 hb k5
    go_wp2_with (first | (refine wpList_store_row rfl 56 (.tmp 5) (.tmp 12) rfl gp (es r2) rfl rfl 56 (es r0) k6 cW rfl (gR _) ?_) | (refine wpList_load_row rfl 23 (.tmp 3) rfl (w.heap.size+1) rfl 23 (ks e) (0,0) _ k7 Tryz.underlying23 rfl (aL e) ?_))
    refine (HBI.out _ (by omega)).mono ?_
    rintro r v2 ⟨rfl,hb⟩
    have f3:=F2.out.ext hb
    have k8:=f3.get (g:=gp) (t:=56) (cs:=es r2) (by simp)
    have k9:=f3.get (g:=w.heap.size) (t:=56) (cs:=es x) (by simp)
    have F3:=Lib.hid f3
    clear f3 hb k6 k7
    go_wp2_with (first | (refine wpList_load_row rfl 56 (.tmp 5) rfl gp rfl 56 (es r2) (0,0) _ k8 Tryz.underlying56 rfl cW ?_) | (refine wpList_load_row rfl 56 (.tmp 2) rfl w.heap.size rfl 56 (es x) (0,0) _ k9 Tryz.underlying56 rfl cW ?_))
    refine (yW r2 x _ (F3.out.pg HPG.out) hr2 hx).mono ?_
    rintro r v3 ⟨hq,hb⟩
    rw [HST.out] at hq
    subst hq
    have f4:=F3.out.ext hb
    have ka:=f4.get (g:=gp) (t:=56) (cs:=es r2) (by simp)
    have f5:=f4.setRowHead (by simp<;>omega) (by simp<;>omega) (es (pw x e (k+1))) (by omega)
    have F5:=Lib.hid f5
    clear f4 f5 hb k8 k9
    go_wp2_with (first | (refine wpList_store_row rfl 56 (.tmp 5) (.tmp 19) rfl gp (es (pw x e (k+1))) rfl rfl 56 (es r2) ka cW rfl (gR _) ?_))
    go_roundw
    case rel=>exact ⟨k+1,by omega,by go_num,F5.out⟩
    case measure=>simp [intOf];omega
  ·
   obtain rfl:k=256:=by omega
   rw [pw_all] at hF k5
   obtain ⟨old,hold,kR⟩:=hF.old (g:=w.heap.size+1+1) (t:=56) (n:=4) (by simp)
   generalize x^e%PP=r at *
   have kS:=kR.setRow_same (es r)
   have hB:=below_setRow hF.below (show w.heap.size≤w.heap.size+1+1 by omega) (es r)
   have HS:=Lib.hid kS
   have HB:=Lib.hid hB
   have HO:=Lib.hid hold
   clear hF kS hB hold hr
   go_wp2_with (first | (refine wpList_load_row rfl 56 (.tmp 5) rfl gp rfl 56 (es r) (0,0) _ k5 Tryz.underlying56 rfl cW ?_) | (refine wpList_store_row rfl 56 (.tmp 4) (.tmp 21) rfl (w.heap.size+1+1) (es r) rfl rfl 56 old kR cW HO.out (gR _) ?_))
   exact gT (g:=w.heap.size+1+1) rfl rfl rfl HS.out HB.out
end
section
set_option maxRecDepth 99999
open Go.RowKit
theorem select_no (x y:Nat) (w:World):Calls zP 67 #[.agg (es x),.agg (es y),.bool false] w (ElemPost x w):=kP x y false w
theorem select_yes (x y:Nat) (w:World):Calls zP 67 #[.agg (es x),.agg (es y),.bool true] w (ElemPost y w):=kP x y true w
end
section
open Go.RowKit
def ev (x:Fin PP):Array Value:=es x.val
theorem aU (x:Fin PP):(ev x).size=4:=rfl
theorem cP (x:Fin PP):(ev x).all (·.oneCell')=true:=gR _
theorem aV (x:Fin PP):(zP.info? 56).map (·.size)=some (ev x).size:=cW
def EPost (x:Fin PP) (w:World) (e:Ending) (w':World):Prop:=e=.returned (.agg (ev x))∧Below w.heap.size w w'
def BPost (b:Bool) (w:World) (e:Ending) (w':World):Prop:=e=.returned (.bool b)∧Below w.heap.size w w'
section
variable (x y:Fin PP) (w:World)
theorem addF (hp:PG w):Calls zP 73 #[.agg (ev x),.agg (ev y)] w (EPost (x+y) w):=add_any x.val y.val w hp x.isLt y.isLt
theorem subF (hp:PG w):Calls zP 71 #[.agg (ev x),.agg (ev y)] w (EPost (x-y) w):=by
 have h:=sub_any x.val y.val w hp x.isLt y.isLt
 rw [Nat.add_comm] at h
 exact h
theorem mulF (hp:PG w):Calls zP 72 #[.agg (ev x),.agg (ev y)] w (EPost (x*y) w):=yW x.val y.val w hp x.isLt y.isLt
theorem squareF (hp:PG w):Calls zP 108 #[.agg (ev x)] w (EPost (x*x) w):=nS x.val w hp x.isLt
theorem negF (hp:PG w):Calls zP 68 #[.agg (ev x)] w (EPost (-x) w):=neg_any x.val w hp x.isLt
theorem powerF (e:Nat) (hp:PG w) (he:K256 e):Calls zP 119 #[.agg (ev x),.agg (ks e)] w (EPost (x^e) w):=by
 have h:=power_any x.val e w hp x.isLt he
 rw [←gY] at h
 exact h
theorem equalF:Calls zP 110 #[.agg (ev x),.agg (ev y)] w (BPost (decide (x=y)) w):=by
 have h:=equal_any x.val y.val w x.isLt y.isLt
 have e:decide (x.val=y.val)=decide (x=y):=by
  rw [Bool.eq_iff_iff]
  simp [Fin.ext_iff]
 rw [e] at h
 exact h
theorem oddF:Calls zP 49 #[.agg (ev x)] w (BPost (decide (x.val%2=1)) w):=odd_any x.val w
theorem odd_yes {x:Fin PP} (h:x.val%2=1) (w:World):Calls zP 49 #[.agg (ev x)] w (BPost true w):=by
 have:=oddF x w
 rw [decide_eq_true h] at this
 exact this
theorem odd_no {x:Fin PP} (h:¬ x.val%2=1) (w:World):Calls zP 49 #[.agg (ev x)] w (BPost false w):=by
 have:=oddF x w
 rw [decide_eq_false h] at this
 exact this
theorem selF_no:Calls zP 67 #[.agg (ev x),.agg (ev y),.bool false] w (EPost x w):=select_no x.val y.val w
theorem selF_yes:Calls zP 67 #[.agg (ev x),.agg (ev y),.bool true] w (EPost y w):=select_yes x.val y.val w
theorem bytesF:Calls zP 48 #[.agg (ev x)] w (KeyPost x.val w):=bytes_any x.val w (fV x.isLt)
end
def ofK (n:Nat):Fin PP:=Fin.ofNat PP (n%57896044618658097711785492504343953926634992332820282019728792003956564819968)
theorem ofF (n:Nat) (w:World) (hp:PG w) (hn:K256 n):Calls zP 62 #[.agg (ks n)] w (EPost (ofK n) w):=of_any n w hp hn
def sm (n:Nat):Fin PP:=Fin.ofNat PP n
theorem smallF (n:Nat) (w:World) (hn:n<18446744073709551616):Calls zP 107 #[.int .u64 (n:Int)] w (EPost (sm n) w):=by
 have h:=vV n w hn
 have e:n=(Fin.ofNat PP n).val:=by
  show n=n%PP
  rw [Nat.mod_eq_of_lt (by rw [eH];omega)]
 rw [e] at h
 have h2:((Fin.ofNat PP n).val:Int)=(n:Int):=by rw [←e]
 rw [h2] at h
 exact h
theorem fourth_num:num4 18446744073709551611 18446744073709551615 18446744073709551615 2305843009213693951=2*EE+1:=by decide +kernel
theorem nR:sm 2^(2*EE+1)=II:=II_eq
theorem rootI_any (w:World) (hpg:PG w):Calls zP 122 #[] w (EPost II w):=by
 have hfr:=(Fr.start w).any (es 0) 56 4 rfl (g:=w.heap.size) rfl
 rw [jJ] at hfr
 have HFR:=Lib.hid hfr
 have HPG:=Lib.hid hpg
 clear hfr hpg
 have hb0:=gF (2*EE+1)
 rw [show es (2*EE+1)=#[.int .u64 18446744073709551611,.int .u64 18446744073709551615,.int .u64 18446744073709551615,.int .u64 2305843009213693951] from oJ fourth_num.symm (by decide) (by decide) (by decide) (by decide)] at hb0
 have HB0:=Lib.hid hb0
 clear hb0
 go_enter Tryz.func122,Tryz.ntmps122
 go_wp2_with (fail)
 refine (smallF 2 _ (by omega)).mono ?_
 rintro e v ⟨rfl,hb⟩
 have hf:=HFR.out.ext hb
 have HF:=Lib.hid hf
 clear hb hf
 go_wp2_with (fail)
 refine (HB0.out _ (by decide +kernel)).mono ?_
 rintro e v2 ⟨rfl,hb⟩
 have hf:=HF.out.ext hb
 have HF2:=Lib.hid hf
 clear hb hf
 go_wp2_with (fail)
 refine (powerF _ _ _ (HF2.out.pg HPG.out) (by decide +kernel)).mono ?_
 rintro e v3 ⟨he,hb⟩
 rw [nR] at he
 subst he
 have hf:=HF2.out.ext hb
 clear hb
 obtain ⟨old,hold,kR⟩:=hf.old (g:=w.heap.size) (t:=56) (n:=4) (by simp)
 have kS:=kR.setRow_same (ev II)
 have hB:=below_setRow hf.below (show w.heap.size≤w.heap.size by omega) (ev II)
 have HS:=Lib.hid kS
 have HB:=Lib.hid hB
 have HO:=Lib.hid hold
 clear hf kS hB hold
 go_wp2_with (first | (refine wpList_store_row rfl 56 (.tmp 0) (.tmp 4) rfl w.heap.size (ev II) rfl rfl 56 old kR (aV _) HO.out (cP _) ?_))
 exact gT (g:=w.heap.size) rfl rfl rfl HS.out HB.out
end
section
theorem neg_par {r:Fin PP} (h:r≠0):(-r).val%2=1-r.val%2:=by
 have h0:r.val≠0:=fun e=>h ((iD r).2 e)
 have hl:=r.isLt
 have e:PP=57896044618658097711785492504343953926634992332820282019728792003956564819949:=eH
 rw [Fin.val_neg',Nat.mod_eq_of_lt (a:=PP-r.val) (b:=PP) (by omega)]
 omega
theorem rootC_even {u v:Fin PP} (h:(rootC EE II u v).2=true):(rootC EE II u v).1.val%2=0:=by
 obtain ⟨r,hr⟩:=(nU h).2
 rw [hr]
 exact evenOf_even r (by decide +kernel)
section
variable {p:Nat} [NeZero p]
theorem on_root {d y r:Fin p} (h:(1+d*(y*y))*(r*r)=y*y-1):y*y-r*r=1+d*(r*r)*(y*y):=by grind
theorem root_on {d y x:Fin p} (h:y*y-x*x=1+d*(x*x)*(y*y)):y*y-1=x*x*(1+d*(y*y)):=by grind
theorem neg_sq' {d y r:Fin p} (h:y*y-r*r=1+d*(r*r)*(y*y)):y*y - -r*-r=1+d*(-r*-r)*(y*y):=by grind
theorem neg_neg' (r:Fin p):- -r=r:=by grind
theorem frac_eq {a b c i:Fin p} (hi:b*i=1) (h:c*b=a):a*i=c:=by grind
theorem frac_neg {q d i:Fin p} (hi:(q+1)*i=1) (h:(q+1)*d=q):-q*i=-d∧-(q*i)=-d:=by constructor<;>grind
end
theorem qI (P:Pt) (h:P.x.val%2=0):rootC EE II (P.y*P.y-1) (1+TD*(P.y*P.y))=(P.x,true):=by
 have hs:(rootC EE II (P.y*P.y-1) (1+TD*(P.y*P.y))).2=true:=by
  rw [root_on P.on]
  exact yG cF PP_EE lV
 have he:=rootC_even hs
 have hq:=on_root (nU hs).1
 generalize rootC EE II (P.y*P.y-1) (1+TD*(P.y*P.y))=z at *
 obtain ⟨r,b⟩:=z
 dsimp only at hs he hq
 subst hs
 rcases pt_same_y cF (TD_no P.y) P.on hq with e | e
 ·
  rw [e]
 ·
  by_cases h0:r=0
  ·
   rw [e,h0]
   rfl
  ·
   have:=neg_par h0
   rw [←e] at this
   omega
def ofX (n:Nat):Fin PP × Bool:=rootC EE II (ofK n*ofK n-1) (1+TD*(ofK n*ofK n))
theorem pair_eta {α β:Type} (z:α × β):(z.1,z.2)=z:=rfl
section
attribute [local irreducible] rootC EE II TD ofK
theorem ofX_def (n:Nat):ofX n=rootC EE II (ofK n*ofK n-1) (1+TD*(ofK n*ofK n)):=rfl
end
theorem ofX_root {n:Nat} {b:Bool} {r y:Fin PP} (h:(ofX n).2=b) (hr:r=(ofX n).1) (hy:y=ofK n):(r,b)=rootC EE II (y*y-1) (1+TD*(y*y)):=by
 rw [hr,←h,pair_eta,hy,ofX_def]
def isPt (n:Nat):Bool:=decide (n%57896044618658097711785492504343953926634992332820282019728792003956564819968<PP)&&((ofX n).2&&!(decide (57896044618658097711785492504343953926634992332820282019728792003956564819968≤n)&&decide ((ofX n).1=0)))
def ptX (n:Nat):Fin PP:=if 57896044618658097711785492504343953926634992332820282019728792003956564819968≤n then -(ofX n).1 else (ofX n).1
theorem ptX_on {n:Nat} (h:(ofX n).2=true):ofK n*ofK n-ptX n*ptX n=1+TD*(ptX n*ptX n)*(ofK n*ofK n):=by
 have hq:=on_root (nU h).1
 have e:(rootC EE II (ofK n*ofK n-1) (1+TD*(ofK n*ofK n))).1=(ofX n).1:=rfl
 rw [e] at hq
 unfold ptX
 split
 ·
  exact neg_sq' hq
 ·
  exact hq
theorem uC {n:Nat} (h:isPt n=true):n%57896044618658097711785492504343953926634992332820282019728792003956564819968<PP∧(ofX n).2=true∧¬ (57896044618658097711785492504343953926634992332820282019728792003956564819968≤n∧(ofX n).1=0):=by
 unfold isPt at h
 simp only [Bool.and_eq_true,decide_eq_true_eq,Bool.not_eq_true',Bool.and_eq_false_iff,decide_eq_false_iff_not] at h
 refine ⟨h.1,h.2.1,fun hc=>?_⟩
 rcases h.2.2 with e | e
 ·
  exact e hc.1
 ·
  exact e hc.2
def ptOf (n:Nat) (h:isPt n=true):Pt:=⟨ptX n,ofK n,ptX_on (uC h).2.1⟩
def pbn (P:Pt):Nat:=P.y.val+P.x.val%2*57896044618658097711785492504343953926634992332820282019728792003956564819968
theorem iZ (x:Fin PP):x.val<57896044618658097711785492504343953926634992332820282019728792003956564819968:=by
 have:=x.isLt
 have e:PP=57896044618658097711785492504343953926634992332820282019728792003956564819949:=eH
 omega
theorem yO (P:Pt):pbn P<115792089237316195423570985008687907853269984665640564039457584007913129639936:=by
 have:=iZ P.y
 unfold pbn
 omega
theorem ofK_of {n:Nat} {y:Fin PP} (h:n%57896044618658097711785492504343953926634992332820282019728792003956564819968=y.val):ofK n=y:=by
 apply Fin.ext
 show n%57896044618658097711785492504343953926634992332820282019728792003956564819968%PP=y.val
 rw [h,Nat.mod_eq_of_lt y.isLt]
theorem ofK_val' {n:Nat} (h:n%57896044618658097711785492504343953926634992332820282019728792003956564819968<PP):(ofK n).val=n%57896044618658097711785492504343953926634992332820282019728792003956564819968:=by
 show n%57896044618658097711785492504343953926634992332820282019728792003956564819968%PP=_
 exact Nat.mod_eq_of_lt h
theorem pbn_mod (P:Pt):pbn P%57896044618658097711785492504343953926634992332820282019728792003956564819968=P.y.val:=by
 have:=iZ P.y
 unfold pbn
 omega
theorem yQ (P:Pt):ofK (pbn P)=P.y:=ofK_of (pbn_mod P)
theorem yM (P:Pt):57896044618658097711785492504343953926634992332820282019728792003956564819968≤pbn P↔P.x.val%2=1:=by
 have:=iZ P.y
 unfold pbn
 omega
theorem of_same {n:Nat} {P:Pt} (hy:ofK n=P.y):ofX n=(if P.x.val%2=1 then -P.x else P.x,true):=by
 unfold ofX
 rw [hy]
 split
 ·
  next h =>
  have h0:P.x≠0:=by
   intro e
   rw [e] at h
   exact absurd h (by decide +kernel)
  have hp:=neg_par h0
  exact qI P.neg (by show (-P.x).val%2=0;omega)
 ·
  next h=>exact qI P (by omega)
theorem isPt_pbn (P:Pt):isPt (pbn P)=true:=by
 have hx:=of_same (yQ P)
 unfold isPt
 rw [pbn_mod,hx]
 simp only [Bool.and_eq_true,decide_eq_true_eq,Bool.not_eq_true',Bool.and_eq_false_iff,decide_eq_false_iff_not,yM]
 refine ⟨P.y.isLt,trivial,?_⟩
 by_cases h:P.x.val%2=1
 ·
  right
  rw [if_pos h]
  intro e
  rw [yU] at e
  rw [e] at h
  exact absurd h (by decide +kernel)
 ·
  exact .inl h
theorem ptX_pbn (P:Pt):ptX (pbn P)=P.x:=by
 have hx:=of_same (yQ P)
 unfold ptX
 rw [hx]
 dsimp only
 by_cases h:P.x.val%2=1
 ·
  rw [if_pos ((yM P).2 h),if_pos h,neg_neg']
 ·
  rw [if_neg (fun e=>h ((yM P).1 e)),if_neg h]
theorem tH (P:Pt):ptOf (pbn P) (isPt_pbn P)=P:=Pt.ext' (ptX_pbn P) (yQ P)
theorem pbn_inj {P Q:Pt} (h:pbn P=pbn Q):P=Q:=by
 have h1:=tH P
 have h2:=tH Q
 rw [←h1,←h2]
 congr 1
def BX:Fin PP:=Fin.ofNat PP 15112221349535400772501151409588531511454012693041857206046113283949847762202
def BY:Fin PP:=Fin.ofNat PP 46316835694926478169428394003475163141307993866256225615783033603165251855960
def BP:Pt:=⟨BX,BY,by decide +kernel⟩
def BE:L4 PP:=ptE BX BY
def BR:Pj3:=⟨BX,BY,1⟩
theorem vE:RepS BP BE:=RepS.of BP
theorem BR_rep:RepR BP BR:=RepR.of BP
theorem by_sm:sm 4*sm 5^(PP-2)=BY:=frac_eq (b:=sm 5) (oG cF (by decide +kernel)) (by decide +kernel)
theorem td_sm:-sm 121665*sm 121666^(PP-2)=TD∧-(sm 121665*sm 121666^(PP-2))=TD:=by
 have e:sm 121666=Q0+1:=by decide +kernel
 have e2:sm 121665=Q0:=rfl
 rw [e,e2]
 exact frac_neg (oG cF (by decide +kernel)) D1_Q
theorem bx_root:rootC EE II (BY*BY-1) (1+TD*(BY*BY))=(BX,true):=qI BP (by decide +kernel)
def LL':Nat:=7237005577332262213973186563042994240857116359379907606001950938285454250989
set_option maxRecDepth 100000 in
theorem BP_order:BP.mul LL'=Pt.nil:=by
 have h:=RepS.mul (k:=LL') vE (by decide +kernel)
 have hr:∀ s:L4 PP,s=ptMul BE LL' 256→s.c≠0→s.a=0→s.b=s.c→RepS (BP.mul LL') s→BP.mul LL'=Pt.nil:=by
  intro s _ hc ha hb hs
  unfold RepS at hs
  rw [oW hc] at hs
  obtain ⟨_,hx,hy,_⟩:=hs
  refine Pt.ext' ?_ ?_
  ·
   rw [ha] at hx
   rcases nO cF hx.symm with e | e
   ·
    exact e
   ·
    exact absurd e hc
  ·
   refine nF cF hc ?_
   rw [←hy,hb]
   exact (iJ _ 0).1.trans (jH _ _)
 exact hr _ rfl (by decide +kernel) (by decide +kernel) (by decide +kernel) h
end
section
attribute [local irreducible] rootC EE II TD BX BY BP ofK Pt.add Pt.neg Pt.mul Pt.nil pbn
theorem prL1224481:IsPrime 1224481:=trial 1107 (by decide) (by decide +kernel) (by decide)
theorem prL531581:IsPrime 531581:=trial 730 (by decide) (by decide +kernel) (by decide)
theorem prL5:IsPrime 1257559732178653:=poc2 (a:=2) (by decide) (by decide +kernel) (by decide +kernel) prL1224481 prL531581 (by decide +kernel) (by decide +kernel)
theorem prL4:IsPrime 4434155615661930479:=poc1 (a:=2) (by decide) (by decide +kernel) prL5 (by decide +kernel)
theorem prL3:IsPrime 172054593956031949258510691:=poc1 (a:=2) (by decide) (by decide +kernel) prL4 (by decide +kernel)
theorem prL2:IsPrime 19757330305831588566944191468367130476339:=poc1 (a:=2) (by decide) (by decide +kernel) prL3 (by decide +kernel)
theorem prL1:IsPrime 276602624281642239937218680557139826668747:=poc1 (a:=2) (by decide) (by decide +kernel) prL2 (by decide +kernel)
theorem prL:IsPrime 7237005577332262213973186563042994240857116359379907606001950938285454250989:=poc1 (a:=2) (by decide) (by decide +kernel) prL1 (by decide +kernel)
theorem LL'_prime:IsPrime LL':=prL
namespace Pt
theorem mul_gcd {P:Pt}:∀ m n:Nat,P.mul m=nil→P.mul n=nil→P.mul (Nat.gcd m n)=nil:=by
 intro m n
 induction m,n using Nat.gcd.induction with
 | H0 n=>intro _ h;rw [Nat.gcd_zero_left];exact h
 | H1 m n hm ih =>
  intro h1 h2
  rw [Nat.gcd_rec]
  refine ih ?_ h1
  have e:P.mul n=(P.mul (m*(n/m))).add (P.mul (n%m)):=by rw [←mul_add,Nat.div_add_mod]
  rw [←mul_mul,h1,rX,mY,h2] at e
  exact e.symm
theorem add_cancel {P Q R:Pt} (h:P.add Q=P.add R):Q=R:=by
 have e:(P.add Q).add P.neg=(P.add R).add P.neg:=by rw [h]
 rw [add_comm P Q,add_comm P R,add_assoc,add_assoc,add_neg,add_nil,add_nil] at e
 exact e
theorem neg_mul (P:Pt) (n:Nat):P.neg.mul n=(P.mul n).neg:=by
 apply add_cancel (P:=P.mul n)
 rw [add_neg,←add_mul,add_neg,rX]
end Pt
theorem BP_ne:BP≠Pt.nil:=by
 intro h
 have e:=congrArg (fun P:Pt=>P.y) h
 have h1:BP.y=BY:=by unfold BP;rfl
 have h2:Pt.nil.y=1:=by unfold Pt.nil;rfl
 simp only [h1,h2] at e
 revert e
 unfold BY
 decide +kernel
theorem BP_exact {k:Nat} (h:BP.mul k=Pt.nil) (hk:k<LL'):k=0:=by
 apply Classical.byContradiction
 intro h0
 have hd:¬ LL' ∣ k:=fun hd=>by have:=Nat.le_of_dvd (by omega) hd;omega
 have h1:=Pt.mul_gcd _ _ BP_order h
 rw [LL'_prime.coprime hd,Pt.mul_one] at h1
 exact BP_ne h1
theorem BP_inj {a b:Nat} (h:BP.mul a=BP.mul b) (ha:a<LL') (hb:b<LL'):a=b:=by
 rcases Nat.le_total a b with hl | hl
 ·
  have e:BP.mul b=(BP.mul a).add (BP.mul (b-a)):=by rw [←Pt.mul_add];congr 1;omega
  have e2:(BP.mul a).add Pt.nil=(BP.mul a).add (BP.mul (b-a)):=by rw [Pt.add_nil,←e,h]
  have:=BP_exact (Pt.add_cancel e2).symm (by omega)
  omega
 ·
  have e:BP.mul a=(BP.mul b).add (BP.mul (a-b)):=by rw [←Pt.mul_add];congr 1;omega
  have e2:(BP.mul b).add Pt.nil=(BP.mul b).add (BP.mul (a-b)):=by rw [Pt.add_nil,←e,h]
  have:=BP_exact (Pt.add_cancel e2).symm (by omega)
  omega
theorem sig_sum {a h r s:Nat} (hs:s=(h*a+r)%LL'):(BP.mul s).add ((BP.mul a).neg.mul h)=BP.mul r:=by
 rw [hs,Pt.mul_mod BP_order,Pt.neg_mul,Pt.mul_mul,Nat.mul_comm a h,Nat.add_comm,Pt.mul_add,Pt.add_assoc,Pt.add_neg,Pt.add_nil]
theorem sig_only {a h r s t:Nat} (hs:s=(h*a+r)%LL') (ht:t<LL'):(BP.mul t).add ((BP.mul a).neg.mul h)=BP.mul r↔t=s:=by
 constructor
 ·
  intro e
  rw [←sig_sum hs,Pt.add_comm,Pt.add_comm (BP.mul s)] at e
  exact BP_inj (Pt.add_cancel e) ht (by rw [hs];exact Nat.mod_lt _ (by unfold LL';omega))
 ·
  intro e;rw [e];exact sig_sum hs
end
section
theorem kI {b n m k x:Nat} (hb:0<b) (hx:x<b) (h:m+b^k*(n/b^k%b)=n+b^k*x) (j:Nat):m/b^j%b=if j=k then x else n/b^j%b:=by
 have hp:0<b^k:=Nat.pow_pos hb
 have hn:n=n%b^k+b^k*(n/b^k%b+b*(n/b^(k+1))):=by
  have h1:=Nat.mod_add_div n (b^k)
  have h2:=Nat.mod_add_div (n/b^k) b
  rw [Nat.div_div_eq_div_mul,←Nat.pow_succ] at h2
  rw [h2,h1]
 have hm:m=n%b^k+b^k*(x+b*(n/b^(k+1))):=by
  generalize n/b^(k+1)=hi at *
  generalize n/b^k%b=d at *
  rw [Nat.mul_add] at hn ⊢
  omega
 have hlo:n%b^k<b^k:=Nat.mod_lt _ hp
 have hdiv:m/b^k=x+b*(n/b^(k+1)):=by
  rw [hm,Nat.add_mul_div_left _ _ hp,Nat.div_eq_of_lt hlo,Nat.zero_add]
 have hmod:m%b^k=n%b^k:=by
  rw [hm,Nat.add_mul_mod_self_left,Nat.mod_mod]
 by_cases hj:j=k
 ·
  subst hj
  rw [if_pos rfl,hdiv,Nat.add_mul_mod_self_left,Nat.mod_eq_of_lt hx]
 ·
  rw [if_neg hj]
  by_cases hlt:j<k
  ·
   have h1:=fX b m k j hb
   have h2:=fX b n k j hb
   rw [if_pos hlt] at h1 h2
   rw [←h1,←h2,hmod]
  ·
   obtain ⟨d,rfl⟩:∃ d,j=k+1+d:=⟨j-k-1,by omega⟩
   have h1:m/b^(k+1)=n/b^(k+1):=by
    rw [Nat.pow_succ,←Nat.div_div_eq_div_mul,hdiv,Nat.add_mul_div_left _ _ hb,Nat.div_eq_of_lt hx,Nat.zero_add,Nat.pow_succ]
   rw [Nat.pow_add,←Nat.div_div_eq_div_mul,←Nat.div_div_eq_div_mul,h1]
theorem jL {b n m k x:Nat} (hb:0<b) (hx:x<b) (h:m+b^k*(n/b^k%b)=n+b^k*x):m/b^(k+1)=n/b^(k+1):=by
 have hp:0<b^k:=Nat.pow_pos hb
 have h1:=Nat.mod_add_div n (b^k)
 have h2:=Nat.mod_add_div (n/b^k) b
 rw [Nat.div_div_eq_div_mul,←Nat.pow_succ] at h2
 have hlo:n%b^k<b^k:=Nat.mod_lt _ hp
 have hm:m=n%b^k+b^k*(x+b*(n/b^(k+1))):=by
  generalize n/b^(k+1)=hi at *
  generalize n/b^k%b=d at *
  rw [←h2] at h1
  rw [Nat.mul_add] at h1 ⊢
  omega
 have hdiv:m/b^k=x+b*(n/b^(k+1)):=by
  rw [hm,Nat.add_mul_div_left _ _ hp,Nat.div_eq_of_lt hlo,Nat.zero_add]
 rw [Nat.pow_succ,←Nat.div_div_eq_div_mul,hdiv,Nat.add_mul_div_left _ _ hb,Nat.div_eq_of_lt hx,Nat.zero_add,Nat.pow_succ]
theorem digit_le {b:Nat} (n k:Nat):b^k*(n/b^k%b)≤n :=
 Nat.le_trans (Nat.mul_le_mul_left _ (Nat.mod_le _ _)) (by rw [Nat.mul_comm];exact Nat.div_mul_le_self _ _)
def putd (b n k x:Nat):Nat:=n-b^k*(n/b^k%b)+b^k*x
theorem eU (b n k x:Nat):putd b n k x+b^k*(n/b^k%b)=n+b^k*x:=by
 have:=digit_le (b:=b) n k
 unfold putd
 generalize b^k*(n/b^k%b)=X at *
 generalize b^k*x=Y at *
 omega
def ScaleAt (b q a c0 k v c:Nat):Prop:=v/b^k=a/b^k∧v+b^k*c=a+(q-1)*(a%b^k)+c0∧c<q
theorem rC (b a:Nat) {q c0:Nat} (h:c0<q):ScaleAt b q a c0 0 a c0:=by
 unfold ScaleAt
 rw [Nat.pow_zero,Nat.mod_one]
 omega
theorem sQ {b q a c0 k v c:Nat} (hb:0<b) (hq:0<q) (h:ScaleAt b q a c0 k v c) :
  ScaleAt b q a c0 (k+1) (putd b v k ((q*(v/b^k%b)+c)%b)) ((q*(v/b^k%b)+c)/b):=by
 obtain ⟨h1,h2,h3⟩:=h
 have hs:(q*(v/b^k%b)+c)%b<b:=Nat.mod_lt _ hb
 have hp:=eU b v k ((q*(v/b^k%b)+c)%b)
 have hx:(q*(v/b^k%b)+c)/b<q:=by
  rw [Nat.div_lt_iff_lt_mul hb]
  have:v/b^k%b≤b-1:=by have:=Nat.mod_lt (v/b^k) hb;omega
  have h5:=Nat.mul_le_mul_left q this
  have h6:q*(b-1)+q=q*b:=by
   rw [←Nat.mul_succ]
   congr 1
   omega
  omega
 refine ⟨?_,?_,hx⟩
 ·
  rw [jL hb hs hp,Nat.pow_succ,←Nat.div_div_eq_div_mul,←Nat.div_div_eq_div_mul,h1]
 ·
  rw [Nat.mod_pow_succ,Nat.pow_succ]
  rw [h1] at hp ⊢
  have e:=Nat.mod_add_div (q*(a/b^k%b)+c) b
  generalize (q*(a/b^k%b)+c)%b=s at *
  generalize (q*(a/b^k%b)+c)/b=j at *
  generalize putd b v k s=v' at *
  generalize a/b^k%b=x at *
  generalize b^k=P at *
  have e2:=congrArg (P*·) e
  simp only [Nat.mul_add] at e2
  rw [←Nat.mul_assoc] at e2
  obtain ⟨q',rfl⟩:∃ q',q=q'+1:=⟨q-1,by omega⟩
  rw [Nat.add_sub_cancel,Nat.mul_add]
  rw [Nat.add_sub_cancel] at h2
  have e3:P*((q'+1)*x)=q'*(P*x)+P*x:=by rw [Nat.add_mul,Nat.mul_add,Nat.one_mul];congr 1;ac_rfl
  omega
theorem wB {b q a c0 n v c:Nat} (h:ScaleAt b q a c0 n v c) (ha:a<b^n) (hq:0<q) (hl:q*a+c0<b^n):v=q*a+c0:=by
 obtain ⟨h1,h2,h3⟩:=h
 rw [Nat.mod_eq_of_lt ha] at h2
 obtain ⟨q',rfl⟩:∃ q',q=q'+1:=⟨q-1,by omega⟩
 rw [Nat.add_sub_cancel] at h2
 rw [Nat.add_mul,Nat.one_mul] at hl ⊢
 rcases Nat.eq_zero_or_pos c with hc | hc
 ·
  subst hc
  omega
 ·
  have:=Nat.mul_le_mul_left (b^n) hc
  omega
def TakeAt (b a y k v c:Nat):Prop:=v/b^k=a/b^k∧v+y%b^k=a+b^k*c∧c≤1
theorem take_start (b a y:Nat):TakeAt b a y 0 a 0:=by
 unfold TakeAt
 rw [Nat.pow_zero,Nat.mod_one]
 omega
theorem mN {b a y k v c n:Nat} (hb:0<b) (h:TakeAt b a y k v c) (hn:n+y/b^k%b+c=v/b^k%b+b) :
  TakeAt b a y (k+1) (putd b v k (n%b)) (1-n/b):=by
 obtain ⟨h1,h2,h3⟩:=h
 have hs:n%b<b:=Nat.mod_lt _ hb
 have hp:=eU b v k (n%b)
 refine ⟨?_,?_,Nat.sub_le _ _⟩
 ·
  rw [jL hb hs hp,Nat.pow_succ,←Nat.div_div_eq_div_mul,←Nat.div_div_eq_div_mul,h1]
 ·
  have hj:n/b<2:=by
   rw [Nat.div_lt_iff_lt_mul hb]
   have hx:=Nat.mod_lt (v/b^k) hb
   generalize v/b^k%b=x at *
   generalize y/b^k%b=z at *
   omega
  rw [Nat.mod_pow_succ,Nat.pow_succ]
  rw [h1] at hp hn
  have e:=Nat.mod_add_div n b
  have hx:=Nat.mod_lt (a/b^k) hb
  have hy:=Nat.mod_lt (y/b^k) hb
  generalize hm:n%b=s at *
  generalize hd:n/b=j at *
  generalize putd b v k s=v' at *
  generalize a/b^k%b=x at *
  generalize y/b^k%b=z at *
  generalize b^k=P at *
  have hjj:j=0∨j=1:=by omega
  have e2:P*(s+b*j+z+c)=P*(x+b):=by rw [e,hn]
  simp only [Nat.mul_add] at e2
  rcases hjj with rfl | rfl
  ·
   rw [Nat.mul_zero,Nat.mul_zero] at e2
   rw [Nat.sub_zero,Nat.mul_one]
   omega
  ·
   rw [Nat.mul_one] at e2
   rw [Nat.sub_self,Nat.mul_zero]
   omega
theorem take_end {b a y n v c:Nat} (h:TakeAt b a y n v c) (ha:a<b^n) (hy:y≤a):v=a-y:=by
 obtain ⟨h1,h2,h3⟩:=h
 rw [Nat.mod_eq_of_lt (show y<b^n by omega)] at h2
 rw [Nat.div_eq_of_lt ha] at h1
 have hp:0<b^n:=by omega
 have hv:v<b^n:=by
  have:=Nat.div_add_mod v (b^n)
  rw [h1,Nat.mul_zero] at this
  have:=Nat.mod_lt v hp
  omega
 have:c=0∨c=1:=by omega
 rcases this with rfl | rfl
 ·
  omega
 ·
  omega
end
section
open Go.RowKit
def dg (n:Nat):List Nat:=(List.range 16).map fun i=>n/65536^i%65536
theorem lJ (n:Nat):(dg n).length=16:=by simp [dg]
theorem uR (n:Nat) {i:Nat} (h:i<16):(dg n)[i]?=some (n/65536^i%65536):=by simp [dg,h]
def ds (n:Nat):Array Value:=ncs .u64 (dg n)
theorem aS (n:Nat):(ds n).size=16:=by rw [ds,dL,lJ]
theorem fF (n:Nat) {i:Nat} (h:i<16):(ds n)[i]?=some (.int .u64 ((n/65536^i%65536:Nat):Int)):=by rw [ds,dW,uR n h];rfl
theorem cU (n:Nat):(ds n).all (·.oneCell')=true:=iH _ _
theorem info_num:(zP.info? 31).map (·.size)=some 16:=by kernel_rfl
theorem bG (n:Nat):(zP.info? 31).map (·.size)=some (ds n).size:=by rw [aS];exact info_num
theorem dg_step (n k:Nat) (hk:k<16):(dg (n%65536^k)).set k (n/65536^k%65536)=dg (n%65536^(k+1)):=by
 apply List.ext_getElem?
 intro i
 rw [List.getElem?_set]
 by_cases hi:i<16
 ·
  rw [uR (n%65536^(k+1)) hi,lJ,fX 65536 n (k+1) i (by omega)]
  by_cases e:k=i
  ·
   subst e
   rw [if_pos rfl,if_pos hk,if_pos (by omega)]
  ·
   rw [if_neg e,uR _ hi,fX 65536 n k i (by omega)]
   by_cases h:i<k
   ·
    rw [if_pos h,if_pos (by omega)]
   ·
    rw [if_neg h,if_neg (by omega)]
 ·
  have h1:(dg (n%65536^(k+1)))[i]?=none:=by simp [lJ];omega
  have h2:(dg (n%65536^k))[i]?=none:=by simp [lJ];omega
  rw [h1,h2]
  have:k≠i:=by omega
  simp [this]
theorem ds_step (n k:Nat) (hk:k<16):(ds (n%65536^k)).setIfInBounds k (.int .u64 ((n/65536^k%65536:Nat):Int))=ds (n%65536^(k+1)):=by
 rw [ds,dV,dg_step n k hk,ds]
theorem dC:ds 0=#[.int .u64 0,.int .u64 0,.int .u64 0,.int .u64 0,.int .u64 0,.int .u64 0,.int .u64 0,.int .u64 0,.int .u64 0,.int .u64 0,.int .u64 0,.int .u64 0,.int .u64 0,.int .u64 0,.int .u64 0,.int .u64 0]:=by kernel_rfl
theorem qB (n i:Nat):n/256^(2*i)%256+256*(n/256^(2*i+1)%256)=n/65536^i%65536:=by
 have h1:256^(2*i)=65536^i:=by rw [Nat.pow_mul]
 have h2:n/256^(2*i+1)=n/65536^i/256:=by rw [Nat.pow_succ,h1,Nat.div_div_eq_div_mul]
 rw [h1,h2]
 omega
def NumPost (n:Nat) (w:World) (e:Ending) (w':World):Prop:=e=.returned (.agg (ds n))∧Below w.heap.size w w'
set_option maxRecDepth 100000 in
theorem mU (n:Nat) (w:World) (hn:K256 n) :
  Calls zP 60 #[.agg (ks n)] w (NumPost n w):=by
 have hfr:=((((Fr.start w).row (ks n) 23 (g:=w.heap.size) rfl).any (ds 0) 31 16 (aS 0) (g:=w.heap.size+1) (by simp)).row (ds 0) 31 (g:=w.heap.size+1+1) (by simp))
 rw [dC] at hfr
 have HFR:=Lib.hid hfr
 clear hfr
 have HNN:=Lib.hid hn
 clear hn
 go_enter Tryz.func60,Tryz.ntmps60
 go_wp2_with (fail)
 go_loopw [4] (fun c wr=>∃ k:Nat,k≤16∧c=.int .i64 k∧Fr w wr [(w.heap.size+1+1,31,ds (n%65536^k)),(w.heap.size,23,ks n)] [(w.heap.size+1,31,16)]) (fun c _=>16-(intOf c).toNat)
 case atStart=>exact ⟨0,by omega,rfl,by have:=HFR.out;rw [Nat.pow_zero,Nat.mod_one,dC];exact this⟩
 case round =>
  obtain ⟨k,hk,rfl,hF⟩:=hrel
  by_cases hlt:k<16
  ·
   have hB:=hF.get (g:=w.heap.size+1+1) (t:=31) (cs:=ds (n%65536^k)) (by simp)
   have hE:=hF.get (g:=w.heap.size) (t:=23) (cs:=ks n) (by simp)
   have hc:wr.cell? ⟨w.heap.size,2*k,none⟩=some (.int .u8 ((n/256^(2*k)%256:Nat):Int)):=by rw [hE.cell,dR _ (by omega)]
   have hc2:wr.cell? ⟨w.heap.size,2*k+1,none⟩=some (.int .u8 ((n/256^(2*k+1)%256:Nat):Int)):=by rw [hE.cell,dR _ (by omega)]
   have hd:wr.cell? ⟨w.heap.size+1+1,k,none⟩=some (.int .u64 ((n%65536^k/65536^k%65536:Nat):Int)):=by rw [hB.cell,fF _ hlt]
   have hf:=hB.frozen k
   have htb:=qB n k
   have hst:=ds_step n k hlt
   have x1:n/256^(2*k)%256<256:=Nat.mod_lt _ (by omega)
   have x2:n/256^(2*k+1)%256<256:=Nat.mod_lt _ (by omega)
   have HT:=Lib.hid htb
   have HS:=Lib.hid hst
   have HF:=Lib.hid hF
   clear htb hst hF hB hE
   generalize n%65536^k/65536^k%65536=z at *
   generalize n/256^(2*k)%256=p at *
   generalize n/256^(2*k+1)%256=q at *
   have b1:(0:Int)≤2*(k:Int):=by omega
   have b2:2*(k:Int)<32:=by omega
   have b3:2*(k:Int)+1<32:=by omega
   go_wp2
   go_region
   go_wp2
   go_roundw
   case rel =>
    refine ⟨k+1,by omega,by go_num,?_⟩
    have e:(p:Int)+256*(q:Int)=((n/65536^k%65536:Nat):Int):=by rw [←HT.out];omega
    rw [e]
    refine Fr.drew ?_
    rw [←HS.out]
    exact HF.out.setHead (by simp<;>omega) (by simp<;>omega) _ _ (by omega)
   case measure=>simp [intOf];omega
  ·
   obtain rfl:k=16:=by omega
   have e16:n%65536^16=n:=Nat.mod_eq_of_lt HNN.out
   rw [e16] at hF
   have kT:=hF.get (g:=w.heap.size+1+1) (t:=31) (cs:=ds n) (by simp)
   obtain ⟨old,hold,kR⟩:=hF.old (g:=w.heap.size+1) (t:=31) (n:=16) (by simp)
   have kS:=kR.setRow_same (ds n)
   have hB:=below_setRow hF.below (show w.heap.size≤w.heap.size+1 by omega) (ds n)
   have hold':old.size=(ds n).size:=by rw [hold,aS]
   have HF:=Lib.hid hF
   have HS:=Lib.hid kS
   have HB:=Lib.hid hB
   have HO:=Lib.hid hold'
   clear hF e16 kS hB hold hold'
   go_wp2_with (first | (refine wpList_load_row rfl 31 (.tmp 3) rfl (w.heap.size+1+1) rfl 31 (ds n) (0,0) _ kT Tryz.underlying31 rfl (bG n) ?_) | (refine wpList_store_row rfl 31 (.tmp 2) (.tmp 24) rfl (w.heap.size+1) (ds n) rfl rfl 31 old kR (bG n) HO.out (cU _) ?_))
   exact bodyPost_ret (results_cell_row rfl _ _ (w.heap.size+1) 31 (ds n) (0,0) _ rfl HS.out Tryz.underlying31 rfl (bG n)) rfl ⟨rfl,HB.out⟩
theorem nJ (n k:Nat):n/65536^k%65536%256=n/256^(2*k)%256:=by rw [←qB];omega
theorem uQ (n k:Nat):n/65536^k%65536/256%256=n/256^(2*k+1)%256:=by rw [←qB];omega
theorem ks_two (n k:Nat) (hk:k<16):((ks (n%65536^k)).setIfInBounds (2*k) (.int .u8 ((n/256^(2*k)%256:Nat):Int))).setIfInBounds (2*k+1) (.int .u8 ((n/256^(2*k+1)%256:Nat):Int))=ks (n%65536^(k+1)):=by
 have h1:∀ j,65536^j=256^(2*j):=fun j=>by rw [Nat.pow_mul]
 rw [h1 k,pK n (2*k) (by omega),pK n (2*k+1) (by omega),h1 (k+1),Nat.mul_add]
theorem ks_two' (n k:Nat) (hk:k<16):((ks (n%65536^k)).setIfInBounds (2*k+1) (.int .u8 ((n/256^(2*k+1)%256:Nat):Int))).setIfInBounds (2*k) (.int .u8 ((n/256^(2*k)%256:Nat):Int))=ks (n%65536^(k+1)):=by
 rw [←ks_two n k hk]
 apply Array.ext_getElem?
 intro i
 simp only [Array.getElem?_setIfInBounds,Array.size_setIfInBounds]
 by_cases a:2*k=i
 ·
  have b:2*k+1≠i:=by omega
  simp [a,b]
 ·
  simp [a]
set_option maxRecDepth 100000 in
theorem nW (n:Nat) (w:World) (hn:K256 n) :
  Calls zP 57 #[.agg (ds n)] w (KeyPost n w):=by
 have hfr:=((((Fr.start w).row (ds n) 31 (g:=w.heap.size) rfl).any (ks 0) 23 32 (aG 0) (g:=w.heap.size+1) (by simp)).row (ks 0) 23 (g:=w.heap.size+1+1) (by simp))
 rw [dK] at hfr
 have HFR:=Lib.hid hfr
 clear hfr
 have HNN:=Lib.hid hn
 clear hn
 go_enter Tryz.func57,Tryz.ntmps57
 go_wp2_with (fail)
 go_loopw [4] (fun c wr=>∃ k:Nat,k≤16∧c=.int .i64 k∧Fr w wr [(w.heap.size+1+1,23,ks (n%65536^k)),(w.heap.size,31,ds n)] [(w.heap.size+1,23,32)]) (fun c _=>16-(intOf c).toNat)
 case atStart=>exact ⟨0,by omega,rfl,by have:=HFR.out;rw [Nat.pow_zero,Nat.mod_one,dK];exact this⟩
 case round =>
  obtain ⟨k,hk,rfl,hF⟩:=hrel
  by_cases hlt:k<16
  ·
   have hB:=hF.get (g:=w.heap.size+1+1) (t:=23) (cs:=ks (n%65536^k)) (by simp)
   have hE:=hF.get (g:=w.heap.size) (t:=31) (cs:=ds n) (by simp)
   have hc:wr.cell? ⟨w.heap.size,k,none⟩=some (.int .u64 ((n/65536^k%65536:Nat):Int)):=by rw [hE.cell,fF _ hlt]
   have hf:=hB.frozen (2*k)
   have hf2:=hB.frozen (2*k+1)
   have hd1:wr.cell? ⟨w.heap.size+1+1,2*k,none⟩=some (.int .u8 ((n%65536^k/256^(2*k)%256:Nat):Int)):=by rw [hB.cell,dR _ (by omega)]
   have hd2:wr.cell? ⟨w.heap.size+1+1,2*k+1,none⟩=some (.int .u8 ((n%65536^k/256^(2*k+1)%256:Nat):Int)):=by rw [hB.cell,dR _ (by omega)]
   have hlo:=nJ n k
   have hhi:=uQ n k
   rw [Nat.mod_eq_of_lt (show n/65536^k%65536/256<256 by have:n/65536^k%65536<65536:=Nat.mod_lt _ (by omega);omega)] at hhi
   have hs1:=ks_two n k hlt
   have hs2:=ks_two' n k hlt
   have x0:n/65536^k%65536<65536:=Nat.mod_lt _ (by omega)
   have HLO:=Lib.hid hlo
   have HHI:=Lib.hid hhi
   have HS1:=Lib.hid hs1
   have HS2:=Lib.hid hs2
   have HF:=Lib.hid hF
   clear hlo hhi hs1 hs2 hF hB hE
   generalize n%65536^k/256^(2*k)%256=z1 at *
   generalize n%65536^k/256^(2*k+1)%256=z2 at *
   generalize n/65536^k%65536=d at *
   have b1:(0:Int)≤2*(k:Int):=by omega
   have b2:2*(k:Int)<32:=by omega
   have b3:2*(k:Int)+1<32:=by omega
   go_wp2
   go_region
   all_goals go_wp2
   all_goals go_roundw
   case rel =>
    refine ⟨k+1,by omega,by go_num,?_⟩
    have e1:(d:Int)%256=((n/256^(2*k)%256:Nat):Int):=by rw [←HLO.out];omega
    have e2:(d:Int)/256=((n/256^(2*k+1)%256:Nat):Int):=by rw [←HHI.out];omega
    rw [e1,e2]
    refine Fr.drew ?_
    first
    | (rw [←HS1.out];exact (HF.out.setHead (by simp<;>omega) (by simp<;>omega) _ _ (by omega)).setHead (by simp<;>omega) (by simp<;>omega) _ _ (by omega))
    | (rw [←HS2.out];exact (HF.out.setHead (by simp<;>omega) (by simp<;>omega) _ _ (by omega)).setHead (by simp<;>omega) (by simp<;>omega) _ _ (by omega))
   case measure=>simp [intOf];omega
  ·
   obtain rfl:k=16:=by omega
   have e16:n%65536^16=n:=Nat.mod_eq_of_lt HNN.out
   rw [e16] at hF
   have kT:=hF.get (g:=w.heap.size+1+1) (t:=23) (cs:=ks n) (by simp)
   obtain ⟨old,hold,kR⟩:=hF.old (g:=w.heap.size+1) (t:=23) (n:=32) (by simp)
   have kS:=kR.setRow_same (ks n)
   have hB:=below_setRow hF.below (show w.heap.size≤w.heap.size+1 by omega) (ks n)
   have hold':old.size=(ks n).size:=by rw [hold,aG]
   have HF:=Lib.hid hF
   have HS:=Lib.hid kS
   have HB:=Lib.hid hB
   have HO:=Lib.hid hold'
   clear hF e16 kS hB hold hold'
   go_wp2_with (first | (refine wpList_load_row rfl 23 (.tmp 3) rfl (w.heap.size+1+1) rfl 23 (ks n) (0,0) _ kT Tryz.underlying23 rfl (aL n) ?_) | (refine wpList_store_row rfl 23 (.tmp 2) (.tmp 25) rfl (w.heap.size+1) (ks n) rfl rfl 23 _ kR (aL n) HO.out (bU n) ?_))
   exact bodyPost_ret (results_cell_row rfl _ _ (w.heap.size+1) 23 (ks n) (0,0) _ rfl HS.out Tryz.underlying23 rfl (aL n)) rfl ⟨rfl,HB.out⟩
end
section
open Go.RowKit
theorem less_top {a b k:Nat} (h:a/65536^(k+1)=b/65536^(k+1)) (hne:a/65536^k%65536≠b/65536^k%65536):decide (a/65536^k%65536<b/65536^k%65536)=decide (a<b):=by
 rw [Nat.pow_succ,←Nat.div_div_eq_div_mul,←Nat.div_div_eq_div_mul] at h
 have h1:a<b→a/65536^k≤b/65536^k:=fun h=>Nat.div_le_div_right (Nat.le_of_lt h)
 have h2:b≤a→b/65536^k≤a/65536^k:=fun h=>Nat.div_le_div_right h
 rw [decide_eq_decide]
 constructor
 ·
  intro h3
  apply Nat.lt_of_not_le
  intro h4
  have:=h2 h4
  omega
 ·
  intro h3
  have:=h1 h3
  omega
theorem less_down {a b k:Nat} (h:a/65536^(k+1)=b/65536^(k+1)) (he:a/65536^k%65536=b/65536^k%65536):a/65536^k=b/65536^k:=by
 rw [Nat.pow_succ,←Nat.div_div_eq_div_mul,←Nat.div_div_eq_div_mul] at h
 omega
set_option maxRecDepth 100000 in
theorem jZ (a b:Nat) (w:World) (ha:K256 a) (hb:K256 b) :
  Calls zP 76 #[.agg (ds a),.agg (ds b)] w (fun e w'=>e=.returned (.bool (decide (a<b)))∧Below w.heap.size w w'):=by
 have hfr:=(((Fr.start w).row (ds a) 31 (g:=w.heap.size) rfl).row (ds b) 31 (g:=w.heap.size+1) (by simp))
 have htop:a/65536^16=b/65536^16:=by rw [Nat.div_eq_of_lt ha,Nat.div_eq_of_lt hb]
 have HFR:=Lib.hid hfr
 have HT:=Lib.hid htop
 clear hfr htop ha hb
 go_enter Tryz.func76,Tryz.ntmps76
 go_wp2_with (fail)
 go_loopw [5] (fun c wr=>∃ k:Nat,k≤16∧c=.int .i64 ((k:Int)-1)∧a/65536^k=b/65536^k∧Fr w wr [(w.heap.size+1,31,ds b),(w.heap.size,31,ds a)] []) (fun c _=>(intOf c+1).toNat)
 case atStart=>exact ⟨16,by omega,rfl,HT.out,HFR.out⟩
 case round =>
  obtain ⟨k,hk,rfl,he,hF⟩:=hrel
  cases k with
  | succ k =>
   have hA:=hF.get (g:=w.heap.size) (t:=31) (cs:=ds a) (by simp)
   have hB:=hF.get (g:=w.heap.size+1) (t:=31) (cs:=ds b) (by simp)
   have hc:wr.cell? ⟨w.heap.size,k,none⟩=some (.int .u64 ((a/65536^k%65536:Nat):Int)):=by rw [hA.cell,fF _ (by omega)]
   have hd:wr.cell? ⟨w.heap.size+1,k,none⟩=some (.int .u64 ((b/65536^k%65536:Nat):Int)):=by rw [hB.cell,fF _ (by omega)]
   have hlt:=fun h=>less_top (k:=k) he h
   have hdn:=fun h=>less_down (k:=k) he h
   have HL:=Lib.hid hlt
   have HD:=Lib.hid hdn
   have HF:=Lib.hid hF
   have e1:((k+1:Nat):Int)-1=(k:Int):=by omega
   rw [e1]
   clear hlt hdn hF hA hB he
   generalize a/65536^k%65536=x at *
   generalize b/65536^k%65536=y at *
   by_cases hxy:x=y
   ·
    subst hxy
    have HE:=Lib.hid (HD.out rfl)
    go_wp2
    go_region
    go_wp2
    exact ⟨⟨k,by omega,rfl,HE.out,HF.out.drew⟩,by simp [intOf]<;>omega⟩
   ·
    have HE:=Lib.hid (HL.out hxy)
    go_wp2
    go_region
    go_wp2
    go_region
    go_wp2
    rw [HE.out]
    go_ret
    exact ⟨rfl,HF.out.below.drew.drew⟩
  | zero =>
   rw [Nat.pow_zero,Nat.div_one,Nat.div_one] at he
   have hff:decide (a<b)=false:=decide_eq_false (by omega)
   have HFF:=Lib.hid hff
   have HF:=Lib.hid hF
   clear hff hF he
   go_wp2
   rw [←HFF.out]
   go_ret
   exact ⟨rfl,HF.out.below⟩
end
section
open Go.RowKit
theorem uP {n k x:Nat} (hk:k<16) (hx:x<65536):(ds n).setIfInBounds k (.int .u64 (x:Int))=ds (putd 65536 n k x):=by
 rw [ds,dV,ds]
 congr 1
 apply List.ext_getElem?
 intro j
 rw [List.getElem?_set]
 by_cases hj:j<16
 ·
  rw [uR (putd 65536 n k x) hj,kI (by omega) hx (eU 65536 n k x) j]
  by_cases e:k=j
  ·
   subst e
   rw [if_pos rfl,if_pos rfl,lJ,if_pos hk]
  ·
   rw [if_neg e,if_neg (fun h=>e h.symm),uR n hj]
 ·
  have:k≠j:=by omega
  rw [if_neg this,List.getElem?_eq_none (by rw [lJ];omega),List.getElem?_eq_none (by rw [lJ];omega)]
theorem d16:(65536:Nat)^16=115792089237316195423570985008687907853269984665640564039457584007913129639936:=by decide
set_option maxRecDepth 100000 in
theorem nV (a b:Nat) (w:World) (ha:K256 a) (hb:b≤a) :
  Calls zP 85 #[.agg (ds a),.agg (ds b)] w (NumPost (a-b) w):=by
 have hfr:=(((Fr.start w).row (ds a) 31 (g:=w.heap.size) rfl).row (ds b) 31 (g:=w.heap.size+1) (by simp)).any (ds 0) 31 16 (aS 0) (g:=w.heap.size+1+1) (by simp)
 rw [dC] at hfr
 have HFR:=Lib.hid hfr
 have HA:=Lib.hid ha
 have HB0:=Lib.hid hb
 clear hfr ha hb
 go_enter Tryz.func85,Tryz.ntmps85
 go_wp2_with (fail)
 go_loopw [6,5] (fun i q wr=>∃ k v c:Nat,k≤16∧i=.int .i64 k∧q=.int .u64 c∧TakeAt 65536 a b k v c∧Fr w wr [(w.heap.size,31,ds v),(w.heap.size+1,31,ds b)] [(w.heap.size+1+1,31,16)]) (fun i _ _=>16-(intOf i).toNat)
 case atStart=>exact ⟨0,a,0,by omega,rfl,rfl,take_start _ _ _,HFR.out.sub (by simp) (by simp)⟩
 case round =>
  obtain ⟨k,v,c,hk,rfl,rfl,hT,hF⟩:=hrel
  clear HFR
  by_cases hlt:k<16
  ·
   have hV:=hF.get (g:=w.heap.size) (t:=31) (cs:=ds v) (by simp)
   have hB:=hF.get (g:=w.heap.size+1) (t:=31) (cs:=ds b) (by simp)
   have cv:wr.cell? ⟨w.heap.size,k,none⟩=some (.int .u64 ((v/65536^k%65536:Nat):Int)):=by rw [hV.cell,fF _ hlt]
   have cb:wr.cell? ⟨w.heap.size+1,k,none⟩=some (.int .u64 ((b/65536^k%65536:Nat):Int)):=by rw [hB.cell,fF _ hlt]
   have hf:=hV.frozen k
   have hc:=hT.2.2
   have hx:v/65536^k%65536<65536:=Nat.mod_lt _ (by omega)
   have hy:b/65536^k%65536<65536:=Nat.mod_lt _ (by omega)
   have hst:=fun n=>@mN 65536 a b k v c n (by omega) hT
   have hpt:=fun n h=>@uP v k n hlt h
   have HST:=Lib.hid hst
   have HPT:=Lib.hid hpt
   have HF:=Lib.hid hF
   clear hst hpt hT hF hV hB
   generalize v/65536^k%65536=x at *
   generalize b/65536^k%65536=y at *
   go_wp2
   go_region
   go_wp2
   go_roundw
   case rel =>
    obtain ⟨n,hn⟩:∃ n,n=x+65536-y-c:=⟨_,rfl⟩
    have e1:(x:Int)+65536-y-c=(n:Int):=by omega
    have e2:(1:Int)-(n:Int)/65536=((1-n/65536:Nat):Int):=by omega
    have e3:(n:Int)%65536=((n%65536:Nat):Int):=by omega
    rw [e1,e2,e3]
    refine ⟨k+1,_,_,by omega,by go_num,rfl,HST.out n (by omega),?_⟩
    rw [←HPT.out (n%65536) (by omega)]
    exact (HF.out.drew).setHead (by simp<;>omega) (by simp<;>omega) _ _ (by omega)
   case measure=>simp [intOf]<;>omega
  ·
   obtain rfl:k=16:=by omega
   obtain rfl:=take_end hT (by rw [d16];exact HA.out) HB0.out
   generalize a-b=m at *
   have kT:=hF.get (g:=w.heap.size) (t:=31) (cs:=ds m) (by simp)
   obtain ⟨old,hold,kR⟩:=hF.old (g:=w.heap.size+1+1) (t:=31) (n:=16) (by simp)
   have kS:=kR.setRow_same (ds m)
   have hB:=below_setRow hF.below (show w.heap.size≤w.heap.size+1+1 by omega) (ds m)
   have hold':old.size=(ds m).size:=by rw [hold,aS]
   have HS:=Lib.hid kS
   have HB:=Lib.hid hB
   have HO:=Lib.hid hold'
   clear hF kS hB hold hold' hT
   go_wp2_with (first | (refine wpList_load_row rfl 31 (.tmp 2) rfl (w.heap.size) rfl 31 (ds m) (0,0) _ kT Tryz.underlying31 rfl (bG m) ?_) | (refine wpList_store_row rfl 31 (.tmp 4) (.tmp 29) rfl (w.heap.size+1+1) (ds m) rfl rfl 31 old kR (bG m) HO.out (cU _) ?_))
   exact bodyPost_ret (results_cell_row rfl _ _ (w.heap.size+1+1) 31 (ds m) (0,0) _ rfl HS.out Tryz.underlying31 rfl (bG m)) rfl ⟨rfl,HB.out⟩
end
section
def LL:Nat:=7237005577332262213973186563042994240857116359379907606001950938285454250989
theorem nP:LL=7237005577332262213973186563042994240857116359379907606001950938285454250989:=rfl
theorem LL_lt:K256 LL:=by rw [nP];omega
theorem yK {a b c:Nat} (ha:K256 a) (hb:K256 b) (hc:K256 c):a*b+c<18446744073709551616^8:=by
 have h1:a*b≤115792089237316195423570985008687907853269984665640564039457584007913129639935*115792089237316195423570985008687907853269984665640564039457584007913129639935:=Nat.mul_le_mul (by omega) (by omega)
 have e:(18446744073709551616:Nat)^8=13407807929942597099574024998205846127479365820592393377723561443721764030073546976801874298166903427690031858186486050853753882811946569946433649006084096:=by decide
 rw [e]
 omega
theorem b512:(256:Nat)^64=18446744073709551616^8:=by
 have e:(18446744073709551616:Nat)=256^8:=by decide
 rw [e,←Nat.pow_mul]
end
section
open Go.RowKit
def NT:Nat:=27742317777372353535851937790883648493
def TXT:ByteArray:={ data:=#[50,55,55,52,50,51,49,55,55,55,55,51,55,50,51,53,51,53,51,53,56,53,49,57,51,55,55,57,48,56,56,51,54,52,56,52,57,51] }
theorem vD:TXT.size=38:=rfl
def dgt (j:Nat):Nat:=NT/10^(37-j)%10
theorem dgt_lt (j:Nat):dgt j<10:=Nat.mod_lt _ (by omega)
theorem txt_at:∀ j:Fin 38,TXT.data[j.val]?.map (·.toNat)=some (48+dgt j.val):=by decide +kernel
theorem txt_index (j:Nat) (hj:j<38) (W:World):(Instr.index 9 (.string TXT) (.int .i64 (j:Int))).run zP W=.ok (.int .u8 ((48+dgt j:Nat):Int)) W:=by
 have h:=txt_at ⟨j,hj⟩
 have hs:TXT.data.size=38:=vD
 rw [run_index_string (P:=zP) W 9 TXT .i64 (j:Int) Tryz.underlying9,dif_pos (by rw [vD];omega)]
 simp only [Array.getElem?_eq_getElem (show j<TXT.data.size by omega),Option.map_some,Option.some.injEq] at h
 congr 3
def pre (j:Nat):Nat:=NT/10^(38-j)
theorem pre_step {j:Nat} (hj:j<38):pre (j+1)=10*pre j+dgt j:=by
 unfold pre dgt
 have h1:38-(j+1)=37-j:=by omega
 have h2:38-j=37-j+1:=by omega
 rw [h1,h2,Nat.pow_succ,←Nat.div_div_eq_div_mul]
 omega
theorem pre_le (j:Nat):pre j≤NT:=Nat.div_le_self _ _
theorem pre_end:pre 38=NT:=by decide
theorem pre_start:pre 0=0:=by decide
theorem order_put:(ds NT).setIfInBounds 15 (.int .u64 4096)=ds LL:=by kernel_rfl
theorem order_top:(ds NT)[15]?=some (.int .u64 0):=by kernel_rfl
set_option maxRecDepth 100000 in
theorem sY (w:World):Calls zP 78 #[] w (NumPost LL w):=by
 have hfr:=((Fr.start w).any (ds 0) 31 16 (aS 0) (g:=w.heap.size) rfl).row (ds 0) 31 (g:=w.heap.size+1) (by simp)
 rw [dC] at hfr
 have HFR:=Lib.hid hfr
 clear hfr
 go_enter Tryz.func78,Tryz.ntmps78
 go_wp2_with (fail)
 obtain ⟨TX,hTX⟩:∃ TX,TX=TXT:=⟨_,rfl⟩
 have hix:=txt_index
 have hsz:=vD
 rw [←hTX] at hix hsz
 have hT:({ data:=#[50,55,55,52,50,51,49,55,55,55,55,51,55,50,51,53,51,53,51,53,56,53,49,57,51,55,55,57,48,56,56,51,54,52,56,52,57,51] }:ByteArray)=TX:=hTX.symm
 rw [hT]
 have HIX:=Lib.hid hix
 clear hix hTX hT
 go_loopw [3] (fun i wr=>∃ j:Nat,j≤38∧i=.int .i64 j∧Fr w wr [(w.heap.size+1,31,ds (pre j))] [(w.heap.size,31,16)]) (fun i _=>38-(intOf i).toNat)
 case atStart=>exact ⟨0,by omega,rfl,by rw [pre_start,dC];exact HFR.out⟩
 case round =>
  obtain ⟨j,hj,rfl,hF⟩:=hrel
  clear HFR
  by_cases hlt:j<38
  ·
   have hx:=HIX.out j hlt
   have hd:=dgt_lt j
   have hps:=pre_step hlt
   have hpl:=pre_le (j+1)
   have HPS:=Lib.hid hps
   have HPL:=Lib.hid hpl
   have HF:=Lib.hid hF
   clear hF hps hpl
   generalize dgt j=d at *
   go_wp2_with (fail)
   have e0:(48:Int)+(d:Int)-48=(d:Int):=by omega
   rw [e0]
   rw [decide_eq_true (show (j:Int)<38 by omega)]
   have hst:=@rC 65536 (pre j) 10 d hd
   have HST0:=Lib.hid hst
   have hN:10*pre j+d<65536^16:=by rw [←HPS.out,d16];have:=HPL.out;unfold NT at this;omega
   have HN:=Lib.hid hN
   clear hst hN
   go_loopw [5,4] (fun i c' wq=>∃ k v c:Nat,k≤16∧i=.int .i64 k∧c'=.int .u64 c∧ScaleAt 65536 10 (pre j) d k v c∧Fr w wq [(w.heap.size+1,31,ds v)] [(w.heap.size,31,16)]) (fun i _ _=>16-(intOf i).toNat)
   case atStart=>exact ⟨0,pre j,d,by omega,rfl,rfl,HST0.out,HF.out⟩
   case round =>
    obtain ⟨k,v,c,hk,rfl,rfl,hS,hF⟩:=hrel
    clear HF HST0
    by_cases hkt:k<16
    ·
     have hV:=hF.get (g:=w.heap.size+1) (t:=31) (cs:=ds v) (by simp)
     have cv:wr.cell? ⟨w.heap.size+1,k,none⟩=some (.int .u64 ((v/65536^k%65536:Nat):Int)):=by rw [hV.cell,fF _ hkt]
     have hf:=hV.frozen k
     have hc:=hS.2.2
     have hx:v/65536^k%65536<65536:=Nat.mod_lt _ (by omega)
     have hst:=@sQ 65536 10 (pre j) d k v c (by omega) (by omega) hS
     have hpt:=@uP v k ((10*(v/65536^k%65536)+c)%65536) hkt (Nat.mod_lt _ (by omega))
     have HST:=Lib.hid hst
     have HPT:=Lib.hid hpt
     have HF:=Lib.hid hF
     clear hst hpt hS hF hV
     generalize v/65536^k%65536=x at *
     go_wp2
     go_roundw
     case rel =>
      have e1:(10*(x:Int)+c)%65536=(((10*x+c)%65536:Nat):Int):=by omega
      have e2:(10*(x:Int)+c)/65536=(((10*x+c)/65536:Nat):Int):=by omega
      rw [e1,e2]
      refine ⟨k+1,_,_,by omega,by go_num,rfl,HST.out,?_⟩
      rw [←HPT.out]
      exact HF.out.setHead (by simp<;>omega) (by simp<;>omega) _ _ (by omega)
     case measure=>simp [intOf]<;>omega
    ·
     obtain rfl:k=16:=by omega
     have hp:pre j<65536^16:=by rw [d16];have:=pre_le j;unfold NT at this;omega
     obtain rfl:=wB hS hp (by omega) HN.out
     have HF:=Lib.hid hF
     clear hF hS hp
     go_wp2_with (fail)
     go_roundw
     case rel=>exact ⟨j+1,by omega,by go_num,by rw [HPS.out];exact HF.out⟩
     case measure=>simp [intOf]<;>omega
  ·
   obtain rfl:j=38:=by omega
   rw [pre_end] at hF
   have hV:=hF.get (g:=w.heap.size+1) (t:=31) (cs:=ds NT) (by simp)
   have cv:wr.cell? ⟨w.heap.size+1,15,none⟩=some (.int .u64 0):=by rw [hV.cell,order_top]
   have hf:=hV.frozen 15
   have hF2:=hF.setHead (by simp) (by simp) 15 (.int .u64 4096) (by omega)
   rw [order_put] at hF2
   have kT:=hF2.get (g:=w.heap.size+1) (t:=31) (cs:=ds LL) (by simp)
   obtain ⟨old,hold,kR⟩:=hF2.old (g:=w.heap.size) (t:=31) (n:=16) (by simp)
   have kS:=kR.setRow_same (ds LL)
   have hB:=below_setRow hF2.below (Nat.le_refl _) (ds LL)
   have hold':old.size=(ds LL).size:=by rw [hold,aS]
   have HS:=Lib.hid kS
   have HB:=Lib.hid hB
   have HO:=Lib.hid hold'
   have KT:=Lib.hid kT
   have KR:=Lib.hid kR
   clear hF hF2 kS hB hold hold' hV kT kR
   go_wp2_with (first | (refine wpList_load_row rfl 31 (.tmp 1) rfl (w.heap.size+1) rfl 31 (ds LL) (0,0) _ KT.out Tryz.underlying31 rfl (bG LL) ?_) | (refine wpList_store_row rfl 31 (.tmp 0) (.tmp 38) rfl (w.heap.size) (ds LL) rfl rfl 31 old KR.out (bG LL) HO.out (cU _) ?_))
   exact bodyPost_ret (results_cell_row rfl _ _ (w.heap.size) 31 (ds LL) (0,0) _ rfl HS.out Tryz.underlying31 rfl (bG LL)) rfl ⟨rfl,HB.out⟩
end
section
open Go Go.RowKit
theorem info_u8:(zP.info? 5).map (fun i=>(i.zero,i.size,i.bytes))=some (some (.int .u8 0),1,1):=by kernel_rfl
theorem zK (w:World) (t:TypeId) (x:UInt8):BS (w.alloc (.cells #[.int .u8 (x.toNat:Int)] t)) (w.heap.size+1) (some ⟨w.heap.size,0,none⟩) 1 1 [x] :=
 BS.ofBlk (l:=[x]) (Blk.new w t #[.int .u8 (x.toNat:Int)]) 1 rfl _ (by omega)
theorem pX (w:World) (t:TypeId) (v:Int) (x:UInt8) (hv:v=(x.toNat:Int)):BS (w.alloc (.cells #[.int .u8 v] t)) (w.heap.size+1) (some ⟨w.heap.size,0,none⟩) 1 1 [x]:=by subst hv;exact zK w t x
theorem bs_newv2 (w:World) (t:TypeId) (u v:Int) (x y:UInt8) (hu:u=(x.toNat:Int)) (hv:v=(y.toNat:Int)):BS (w.alloc (.cells #[.int .u8 u,.int .u8 v] t)) (w.heap.size+1) (some ⟨w.heap.size,0,none⟩) 2 2 [x,y]:=by
 subst hu
 subst hv
 exact BS.ofBlk (l:=[x,y]) (Blk.new w t #[.int .u8 (x.toNat:Int),.int .u8 (y.toNat:Int)]) 2 rfl _ (by omega)
def kbl (N n:Nat):List UInt8:=(List.range n).map fun i=>UInt8.ofNat (N/256^i%256)
theorem rZ (N n:Nat):(kbl N n).length=n:=by simp [kbl]
theorem kbl_get (N n:Nat) {i:Nat} (h:i<n):(kbl N n)[i]?=some (UInt8.ofNat (N/256^i%256)):=by simp [kbl,h]
theorem kbl_step (N n:Nat):kbl N (n+1)=kbl N n++[UInt8.ofNat (N/256^n%256)]:=by simp [kbl,List.range_succ]
theorem sG {x:Nat} (h:x<256):(UInt8.ofNat x).toNat=x:=by simp [Nat.mod_eq_of_lt h]
def hbl (N m j:Nat):List UInt8:=(List.range j).map fun t=>UInt8.ofNat (N/2^(m-1-t)%2)
theorem hbl_len (N m j:Nat):(hbl N m j).length=j:=by simp [hbl]
theorem hbl_get (N m j:Nat) {i:Nat} (h:i<j):(hbl N m j)[i]?=some (UInt8.ofNat (N/2^(m-1-i)%2)):=by simp [hbl,h]
theorem hbl_step (N m j:Nat):hbl N m (j+1)=hbl N m j++[UInt8.ofNat (N/2^(m-1-j)%2)]:=by simp [hbl,List.range_succ]
theorem bit_of_byte (N i k:Nat) (hk:k<8):N/256^i%256/2^k%2=N/2^(8*i+k)%2:=by
 have h1:N/2^(8*i+k)=N/256^i/2^k:=by
  rw [show (256:Nat)=2^8 by decide,←Nat.pow_mul,Nat.div_div_eq_div_mul,←Nat.pow_add]
 rw [h1]
 generalize N/256^i=x
 have h:=fX 2 x 8 k (by omega)
 rw [if_pos hk] at h
 exact h
set_option maxRecDepth 100000 in
theorem high_any (A:Option Addr) (n c B N:Nat) (w:World) (hl:BS w B A n c (kbl N n)) (hB:B≤w.heap.size) (hn:n≤100) :
  Calls zP 103 #[.slice A n c] w fun e w'=>∃ v,e=.returned v∧OwnB w' w.heap.size 5 v (hbl N (8*n) (8*n))∧Below w.heap.size w w':=by
 go_enter Tryz.func103,Tryz.ntmps103
 go_wp2_with (fail)
 go_loopw [3,4] (fun v i wr=>∃ r j:Nat,r+j=n∧i=.int .i64 ((r:Int)-1)∧OwnB wr w.heap.size 5 v (hbl N (8*n) (8*j))∧Below w.heap.size w wr) (fun _ i _=>(intOf i+1).toNat)
 case atStart=>exact ⟨n,0,by omega,rfl,OwnB.nil _ _ _,Below.refl _ _⟩
 case round =>
  obtain ⟨r,j,hrj,rfl,hown,hb⟩:=hrel
  cases r with
  | succ r =>
   have e1:((r+1:Nat):Int)-1=(r:Int):=by omega
   rw [e1]
   clear e1
   have HOWN:=Lib.hid hown
   have HB:=Lib.hid hb
   clear hown hb
   go_wp2_with (fail)
   try rw [decide_eq_true (show (0:Int)≤(r:Int) by omega)]
   go_loopw [3,5] (fun v i wq=>∃ s q:Nat,s+q=8∧i=.int .i64 ((s:Int)-1)∧OwnB wq w.heap.size 5 v (hbl N (8*n) (8*j+q))∧Below w.heap.size w wq) (fun _ i _=>(intOf i+1).toNat)
   case atStart=>exact ⟨8,0,by omega,rfl,HOWN.out,HB.out⟩
   case round =>
    obtain ⟨s,q,hsq,rfl,hown,hb⟩:=hrel
    clear HOWN HB
    cases s with
    | succ s =>
     have e1:((s+1:Nat):Int)-1=(s:Int):=by omega
     rw [e1]
     clear e1
     obtain ⟨b,o,x,rfl,hb',hx,hc⟩:=(hl.below (hb.mono hB)).at' (k:=r) (by omega)
     rw [kbl_get N n (by omega)] at hx
     injection hx with hx
     have hbit:=bit_of_byte N r s (by omega)
     have hstep:=hbl_step N (8*n) (8*j+q)
     have hidx:8*n-1-(8*j+q)=8*r+s:=by omega
     rw [hidx,←hbit] at hstep
     have hxl:N/256^r%256<256:=Nat.mod_lt _ (by omega)
     have hxn:x.toNat=N/256^r%256:=by rw [←hx,sG hxl]
     rw [hxn] at hc
     have hb2:N/256^r%256/2^s%2<256:=by omega
     have hnw:((N/256^r%256:Nat):Int)/2^s%2=((UInt8.ofNat (N/256^r%256/2^s%2)).toNat:Int):=by
      rw [sG hb2,Int.natCast_emod,Int.natCast_ediv,Int.natCast_pow]
      rfl
     obtain ⟨A9,n9,c9,rfl,hbs9,hlo9⟩:=hown.form
     have hbig:(hbl N (8*n) (8*j+q)).length+1≤140737488355328:=by rw [hbl_len];omega
     obtain ⟨z,hz⟩:∃ z,z=UInt8.ofNat (N/256^r%256/2^s%2):=⟨_,rfl⟩
     rw [←hz] at hstep hnw
     have HSTEP:=Lib.hid hstep
     have HNW:=Lib.hid hnw
     have HBG:=Lib.hid hbig
     clear hbit hstep hidx hxn hb2 hnw hbs9 hbig hx hz
     generalize N/256^r%256=p at *
     have b3:(s:Int)<65:=by omega
     go_wp2_with (at_builtin;refine eA rfl (.tmp 17) (.tmp 26) 24 rfl 5 Tryz.underlying24 info_u8 w.heap.size (.slice A9 n9 c9) (hbl N (8*n) (8*j+q)) rfl (by exact hown.alloc _) (wr.heap.size+1) 1 1 (some ⟨wr.heap.size,0,none⟩) [z] rfl (by exact pX wr 5 _ _ HNW.out) HBG.out (by have:=hb.size;simp;omega) ?_;intro v1 w1 hown1 hg1 hat1)
     have hb1:=(hb.alloc hb.size _).grown hg1 (hb.alloc hb.size _).size hlo9
     refine ⟨⟨s,q+1,by omega,rfl,?_,hb1⟩,by simp [intOf]<;>omega⟩
     rw [show 8*j+(q+1)=8*j+q+1 by omega,HSTEP.out]
     exact hown1
    | zero =>
     obtain rfl:q=8:=by omega
     go_wp2_with (fail)
     go_roundw
     case rel=>exact ⟨r,j+1,by omega,rfl,by rw [show 8*(j+1)=8*j+8 by omega];exact hown,hb⟩
     case measure=>simp [intOf]<;>omega
  | zero =>
   obtain rfl:j=n:=by omega
   go_wp2_with (fail)
   go_ret
   exact ⟨_,rfl,hown,hb⟩
end
section
open Go Go.RowKit
def gl (N m j:Nat):Nat:=N/2^(m-j)%LL
theorem gl_lt (N m j:Nat):gl N m j<LL:=Nat.mod_lt _ (by rw [nP];omega)
theorem gl_zero {N m:Nat} (h:N<2^m):gl N m 0=0:=by
 unfold gl
 rw [Nat.sub_zero,Nat.div_eq_of_lt h,Nat.zero_mod]
theorem gl_end (N m:Nat):gl N m m=N%LL:=by
 unfold gl
 rw [Nat.sub_self,Nat.pow_zero,Nat.div_one]
theorem gl_step (N m j:Nat) (hj:j<m):(2*gl N m j+N/2^(m-1-j)%2)%LL=gl N m (j+1):=by
 unfold gl
 have h1:m-(j+1)=m-1-j:=by omega
 have h2:m-j=m-1-j+1:=by omega
 have h3:N/2^(m-1-j)=2*(N/2^(m-1-j+1))+N/2^(m-1-j)%2:=by
  rw [Nat.pow_succ,←Nat.div_div_eq_div_mul]
  omega
 rw [h1,h2]
 conv=>rhs;rw [h3]
 rw [Nat.add_mod,Nat.mul_mod,Nat.mod_mod,←Nat.mul_mod,←Nat.add_mod]
set_option maxRecDepth 100000 in
theorem rbits_any (A:Option Addr) (m c B N:Nat) (w:World) (hl:BS w B A m c (hbl N m m)) (hB:B≤w.heap.size) (hm:m≤1000) (hN:N<2^m) :
  Calls zP 102 #[.slice A m c] w (NumPost (N%LL) w):=by
 have hfr:=((Fr.start w).any (ds 0) 31 16 (aS 0) (g:=w.heap.size) rfl).row (ds 0) 31 (g:=w.heap.size+1) (by simp)
 rw [dC] at hfr
 have HFR:=Lib.hid hfr
 have hz:=gl_zero hN
 have HZ:=Lib.hid hz
 clear hfr hz hN
 go_enter Tryz.func102,Tryz.ntmps102
 go_wp2_with (fail)
 refine (sY _).mono ?_
 rintro e v1 ⟨rfl,hb⟩
 have hf:=HFR.out.ext hb
 have hf2:=hf.row (ds 0) 31 (g:=v1.heap.size) rfl
 have hzo:w.heap.size+1<v1.heap.size:=by have:=(hf.get (g:=w.heap.size+1) (t:=31) (cs:=#[.int .u64 0,.int .u64 0,.int .u64 0,.int .u64 0,.int .u64 0,.int .u64 0,.int .u64 0,.int .u64 0,.int .u64 0,.int .u64 0,.int .u64 0,.int .u64 0,.int .u64 0,.int .u64 0,.int .u64 0,.int .u64 0]) (by simp)).lt;omega
 have ka:=hf2.get (g:=v1.heap.size) (t:=31) (cs:=ds 0) (by simp)
 have hf3:=hf2.setRowHead (by simp<;>omega) (by simp<;>omega) (ds LL) (by omega)
 rw [dC] at hf3 ka
 have hso:(#[.int .u64 0,.int .u64 0,.int .u64 0,.int .u64 0,.int .u64 0,.int .u64 0,.int .u64 0,.int .u64 0,.int .u64 0,.int .u64 0,.int .u64 0,.int .u64 0,.int .u64 0,.int .u64 0,.int .u64 0,.int .u64 0]:Array Value).size=(ds LL).size:=by rw [aS];rfl
 have KA:=Lib.hid ka
 have HSO:=Lib.hid hso
 have HF3:=Lib.hid hf3
 clear hb hf hf2 ka hso hf3 HFR
 go_wp2_with (first | (refine wpList_store_row rfl 31 (.tmp 4) (.tmp 9) rfl (v1.heap.size) (ds LL) rfl rfl 31 _ KA.out (bG _) HSO.out (cU _) ?_))
 clear KA HSO
 go_loopw [5] (fun i wr=>∃ j:Nat,j≤m∧i=.int .i64 j∧Fr w wr [(w.heap.size+1,31,ds (gl N m j)),(v1.heap.size,31,ds LL)] [(w.heap.size,31,16)]) (fun i _=>m-(intOf i).toNat)
 case atStart=>exact ⟨0,by omega,rfl,by rw [HZ.out,dC];exact HF3.out.sub (by simp) (by simp)⟩
 case round =>
  obtain ⟨j,hj,rfl,hF⟩:=hrel
  clear HF3
  by_cases hlt:j<m
  ·
   obtain ⟨b,o,x,rfl,hb',hx,hc⟩:=(hl.below (hF.below.mono hB)).at' hlt
   rw [hbl_get N m m hlt] at hx
   injection hx with hx
   have hb2:N/2^(m-1-j)%2<2:=Nat.mod_lt _ (by omega)
   have hxn:x.toNat=N/2^(m-1-j)%2:=by rw [←hx,sG (by omega)]
   rw [hxn] at hc
   have hst:=gl_step N m j hlt
   have hgl:=gl_lt N m j
   have HST:=Lib.hid hst
   have HGL:=Lib.hid hgl
   have HF:=Lib.hid hF
   clear hF hst hgl hx hxn
   generalize N/2^(m-1-j)%2=d at *
   generalize gl N m j=r at *
   have hq:2*r+d<65536^16:=by have:=HGL.out;rw [nP] at this;rw [d16];omega
   have hr16:r<65536^16:=by omega
   have HQ:=Lib.hid hq
   have HR16:=Lib.hid hr16
   clear hq hr16
   go_wp2_with (fail)
   try rw [decide_eq_true (show (j:Int)<(m:Int) by omega)]
   have hs0:=@rC 65536 r 2 d (by omega)
   have HS0:=Lib.hid hs0
   clear hs0
   go_loopw [7,6] (fun i c' wq=>∃ k v cc:Nat,k≤16∧i=.int .i64 k∧c'=.int .u64 cc∧ScaleAt 65536 2 r d k v cc∧Fr w wq [(w.heap.size+1,31,ds v),(v1.heap.size,31,ds LL)] [(w.heap.size,31,16)]) (fun i _ _=>16-(intOf i).toNat)
   case atStart=>exact ⟨0,r,d,by omega,rfl,rfl,HS0.out,HF.out⟩
   case round =>
    obtain ⟨k,v,cc,hk,rfl,rfl,hS,hF⟩:=hrel
    clear HF HS0
    by_cases hkt:k<16
    ·
     have hV:=hF.get (g:=w.heap.size+1) (t:=31) (cs:=ds v) (by simp)
     have cv:wr.cell? ⟨w.heap.size+1,k,none⟩=some (.int .u64 ((v/65536^k%65536:Nat):Int)):=by rw [hV.cell,fF _ hkt]
     have hf:=hV.frozen k
     have hcc:=hS.2.2
     have hx:v/65536^k%65536<65536:=Nat.mod_lt _ (by omega)
     have hst:=@sQ 65536 2 r d k v cc (by omega) (by omega) hS
     have hpt:=@uP v k ((2*(v/65536^k%65536)+cc)%65536) hkt (Nat.mod_lt _ (by omega))
     have HST2:=Lib.hid hst
     have HPT:=Lib.hid hpt
     have HF:=Lib.hid hF
     clear hst hpt hS hF hV
     generalize v/65536^k%65536=y at *
     go_wp2
     go_roundw
     case rel =>
      have e1:(2*(y:Int)+cc)%65536=(((2*y+cc)%65536:Nat):Int):=by omega
      have e2:(2*(y:Int)+cc)/65536=(((2*y+cc)/65536:Nat):Int):=by omega
      rw [e1,e2]
      refine ⟨k+1,_,_,by omega,by go_num,rfl,HST2.out,?_⟩
      rw [←HPT.out]
      exact HF.out.setHead (by simp<;>omega) (by simp<;>omega) _ _ (by omega)
     case measure=>simp [intOf]<;>omega
    ·
     obtain rfl:k=16:=by omega
     obtain rfl:=wB hS HR16.out (by omega) HQ.out
     obtain ⟨q,hq⟩:∃ q,q=2*r+d:=⟨_,rfl⟩
     have hst:=HST.out
     have hql:q<2*LL:=by have:=HGL.out;omega
     have hqb:=HQ.out
     rw [←hq] at hF hst hqb
     rw [d16] at hqb
     have kq:=hF.get (g:=w.heap.size+1) (t:=31) (cs:=ds q) (by simp)
     have kl:=hF.get (g:=v1.heap.size) (t:=31) (cs:=ds LL) (by simp)
     have hless:=fun W=>jZ q LL W hqb LL_lt
     have HF:=Lib.hid hF
     have HGS:=Lib.hid hst
     have HQL:=Lib.hid hql
     clear hS hF hst hql HST hq
     go_wp2_with (first | (refine wpList_load_row rfl 31 (.tmp 3) rfl (w.heap.size+1) rfl 31 (ds q) (0,0) _ kq Tryz.underlying31 rfl (bG _) ?_) | (refine wpList_load_row rfl 31 (.tmp 4) rfl (v1.heap.size) rfl 31 (ds LL) (0,0) _ kl Tryz.underlying31 rfl (bG _) ?_))
     by_cases hc2:q<LL
     ·
      rw [decide_eq_true hc2] at hless
      have hg:=HGS.out
      rw [Nat.mod_eq_of_lt hc2] at hg
      have HG:=Lib.hid hg
      refine (hless _).mono ?_
      clear hless
      rintro e v2 ⟨rfl,hb⟩
      have hf:=HF.out.ext hb
      have HF4:=Lib.hid hf
      clear hb hf kq kl hg
      go_wp2_with (fail)
      go_roundw
      case rel=>exact ⟨j+1,by omega,by go_num,by rw [←HG.out];exact HF4.out⟩
      case measure=>simp [intOf]<;>omega
     ·
      rw [decide_eq_false hc2] at hless
      have hg:=HGS.out
      rw [Nat.mod_eq_sub_mod (by omega),Nat.mod_eq_of_lt (by have:=HQL.out;omega)] at hg
      have HG:=Lib.hid hg
      refine (hless _).mono ?_
      clear hless
      rintro e v2 ⟨rfl,hb⟩
      have hf:=HF.out.ext hb
      have kq2:=hf.get (g:=w.heap.size+1) (t:=31) (cs:=ds q) (by simp)
      have kl2:=hf.get (g:=v1.heap.size) (t:=31) (cs:=ds LL) (by simp)
      have HF4:=Lib.hid hf
      clear hb hf kq kl hg
      go_wp2_with (first | (refine wpList_load_row rfl 31 (.tmp 3) rfl (w.heap.size+1) rfl 31 (ds q) (0,0) _ kq2 Tryz.underlying31 rfl (bG _) ?_) | (refine wpList_load_row rfl 31 (.tmp 4) rfl (v1.heap.size) rfl 31 (ds LL) (0,0) _ kl2 Tryz.underlying31 rfl (bG _) ?_))
      refine (nV q LL _ hqb (by omega)).mono ?_
      rintro e v3 ⟨rfl,hb⟩
      rw [HG.out]
      have hf:=HF4.out.ext hb
      have kq3:=hf.get (g:=w.heap.size+1) (t:=31) (cs:=ds q) (by simp)
      have hf5:=hf.setRowHead (by simp<;>omega) (by simp<;>omega) (ds (gl N m (j+1))) (by omega)
      have hso:(ds q).size=(ds (gl N m (j+1))).size:=by rw [aS,aS]
      have HF5:=Lib.hid hf5
      have HSO:=Lib.hid hso
      clear hb hf kq2 kl2 hf5 hso
      go_wp2_with (first | (refine wpList_store_row rfl 31 (.tmp 3) (.tmp 43) rfl (w.heap.size+1) (ds (gl N m (j+1))) rfl rfl 31 _ kq3 (bG _) HSO.out (cU _) ?_))
      go_roundw
      case rel=>exact ⟨j+1,by omega,by go_num,HF5.out⟩
      case measure=>simp [intOf]<;>omega
  ·
   obtain rfl:j=m:=by omega
   rw [gl_end] at hF
   generalize N%LL=z at *
   have kT:=hF.get (g:=w.heap.size+1) (t:=31) (cs:=ds z) (by simp)
   obtain ⟨old,hold,kR⟩:=hF.old (g:=w.heap.size) (t:=31) (n:=16) (by simp)
   have kS:=kR.setRow_same (ds z)
   have hB2:=below_setRow hF.below (Nat.le_refl _) (ds z)
   have hold':old.size=(ds z).size:=by rw [hold,aS]
   have HS:=Lib.hid kS
   have HB2:=Lib.hid hB2
   have HO:=Lib.hid hold'
   clear hF kS hB2 hold hold'
   go_wp2_with (first | (refine wpList_load_row rfl 31 (.tmp 3) rfl (w.heap.size+1) rfl 31 (ds z) (0,0) _ kT Tryz.underlying31 rfl (bG z) ?_) | (refine wpList_store_row rfl 31 (.tmp 2) (.tmp 44) rfl (w.heap.size) (ds z) rfl rfl 31 old kR (bG z) HO.out (cU _) ?_))
   exact bodyPost_ret (results_cell_row rfl _ _ (w.heap.size) 31 (ds z) (0,0) _ rfl HS.out Tryz.underlying31 rfl (bG z)) rfl ⟨rfl,HB2.out⟩
set_option maxRecDepth 100000 in
theorem rD (A:Option Addr) (n c B N:Nat) (w:World) (hl:BS w B A n c (kbl N n)) (hB:B≤w.heap.size) (hn:n≤100) (hN:N<256^n) :
  Calls zP 59 #[.slice A n c] w (KeyPost (N%LL) w):=by
 have hfr:=(Fr.start w).any (ks 0) 23 32 (aG 0) (g:=w.heap.size) rfl
 rw [dK] at hfr
 have HFR:=Lib.hid hfr
 have hz:N%LL<LL:=Nat.mod_lt _ (by rw [nP];omega)
 have h2:N<2^(8*n):=by rw [Nat.pow_mul];exact hN
 have HZ:=Lib.hid hz
 have H2:=Lib.hid h2
 clear hfr hz h2 hN
 go_enter Tryz.func59,Tryz.ntmps59
 go_wp2_with (fail)
 refine (high_any A n c B N _ (hl.alloc hB _) (by simp;omega) hn).mono ?_
 rintro e v1 ⟨v,rfl,hown,hb⟩
 obtain ⟨A9,n9,c9,rfl,hbs9,hlo9⟩:=hown.form
 have hln:=hbs9.len
 rw [hbl_len] at hln
 subst hln
 have hf:=HFR.out.ext hb
 have HF:=Lib.hid hf
 clear hb hf HFR hown hlo9
 go_wp2_with (fail)
 refine (rbits_any A9 (8*n) c9 _ N _ hbs9 (Nat.le_refl _) (by omega) H2.out).mono ?_
 rintro e v2 ⟨rfl,hb⟩
 have hf:=HF.out.ext hb
 have HF2:=Lib.hid hf
 clear hb hf hbs9
 generalize N%LL=z at *
 go_wp2_with (fail)
 refine (nW z _ (by have:=HZ.out;have:=LL_lt;omega)).mono ?_
 rintro e v3 ⟨rfl,hb⟩
 have hf:=HF2.out.ext hb
 obtain ⟨old,hold,kR⟩:=hf.old (g:=w.heap.size) (t:=23) (n:=32) (by simp)
 have kS:=kR.setRow_same (ks z)
 have hB2:=below_setRow hf.below (Nat.le_refl _) (ks z)
 have hold':old.size=(ks z).size:=by rw [hold,aG]
 have HS:=Lib.hid kS
 have HB2:=Lib.hid hB2
 have HO:=Lib.hid hold'
 clear hb hf kS hB2 hold hold'
 go_wp2_with (first | (refine wpList_store_row rfl 23 (.tmp 2) (.tmp 6) rfl (w.heap.size) (ks z) rfl rfl 23 old kR (aL z) HO.out (bU _) ?_))
 exact gN (g:=w.heap.size) rfl rfl rfl HS.out HB2.out
end
section
namespace Scl
open Go.RowKit
def wd0 (n:Nat):Nat:=n%18446744073709551616
def wd1 (n:Nat):Nat:=n/18446744073709551616%18446744073709551616
def wd2 (n:Nat):Nat:=n/340282366920938463463374607431768211456%18446744073709551616
def wd3 (n:Nat):Nat:=n/6277101735386680763835789423207666416102355444464034512896%18446744073709551616
def wd4 (n:Nat):Nat:=n/115792089237316195423570985008687907853269984665640564039457584007913129639936
theorem cZ (n:Nat):wd0 n<18446744073709551616:=Nat.mod_lt _ (by decide)
theorem fP (n:Nat):wd1 n<18446744073709551616:=Nat.mod_lt _ (by decide)
theorem fO (n:Nat):wd2 n<18446744073709551616:=Nat.mod_lt _ (by decide)
theorem fA (n:Nat):wd3 n<18446744073709551616:=Nat.mod_lt _ (by decide)
def num5 (a b c d e:Nat):Nat:=a+18446744073709551616*b+340282366920938463463374607431768211456*c+6277101735386680763835789423207666416102355444464034512896*d+115792089237316195423570985008687907853269984665640564039457584007913129639936*e
theorem rU {n a b c d e:Nat} (h:n=num5 a b c d e) (ha:a<18446744073709551616) (hb:b<18446744073709551616) (hc:c<18446744073709551616) (hd:d<18446744073709551616) :
  wd0 n=a∧wd1 n=b∧wd2 n=c∧wd3 n=d∧wd4 n=e:=by
 subst h
 unfold num5 wd0 wd1 wd2 wd3 wd4
 omega
theorem rW (n:Nat):num5 (wd0 n) (wd1 n) (wd2 n) (wd3 n) (wd4 n)=n:=by
 unfold num5 wd0 wd1 wd2 wd3 wd4
 omega
theorem wd4_zero {n:Nat} (h:K256 n):wd4 n=0:=by
 unfold wd4
 omega
def es (n:Nat):Array Value:=#[.int .u64 (wd0 n:Int),.int .u64 (wd1 n:Int),.int .u64 (wd2 n:Int),.int .u64 (wd3 n:Int)]
theorem qZ (x y c:Nat) (hx:x<18446744073709551616) (hy:y<18446744073709551616) (hc:c≤1) (w:World) :
  (callFunc 120 #[.int .u64 x,.int .u64 y,.int .u64 c]).run zP w =
   .ok (.value (.tuple #[.int .u64 (((x+y+c)%18446744073709551616:Nat):Int),.int .u64 (((x+y+c)/18446744073709551616:Nat):Int)])) w:=by
 rw [run_callFunc_extern Tryz.func120 (by kernel_rfl) (by kernel_rfl) (by kernel_rfl) (e:=add64Entry) (by kernel_rfl),run_add64 x y c (by omega) (by omega) (by omega) (by omega)]
 simp only [Result.andThen]
 congr 5<;>omega
theorem qE (x y b:Nat) (hb:b≤1) (w:World) :
  (callFunc 111 #[.int .u64 x,.int .u64 y,.int .u64 b]).run zP w =
   .ok (.value (.tuple #[.int .u64 (((x+18446744073709551616-y-b)%18446744073709551616:Nat):Int),.int .u64 ((if x<y+b then 1 else 0:Nat):Int)])) w:=by
 rw [run_callFunc_extern Tryz.func111 (by kernel_rfl) (by kernel_rfl) (by kernel_rfl) (e:=sub64Entry) (by kernel_rfl),run_sub64 x y b hb]
 rfl
theorem eP (x y c:Nat) (hx:x<18446744073709551616) (hy:y<18446744073709551616) (hc:c≤1) :
  ∃ s k:Nat,(∀ w,(callFunc 120 #[.int .u64 x,.int .u64 y,.int .u64 c]).run zP w=.ok (.value (.tuple #[.int .u64 (s:Int),.int .u64 (k:Int)])) w) ∧
   s+18446744073709551616*k=x+y+c∧s<18446744073709551616∧k≤1 :=
 ⟨_,_,fun w=>qZ x y c hx hy hc w,by omega,by omega,by omega⟩
theorem jY (x y c:Nat) (hx:x<18446744073709551616) (hy:y<18446744073709551616) (hc:c≤1) :
  ∃ s k:Nat,(∀ w,(callFunc 111 #[.int .u64 x,.int .u64 y,.int .u64 c]).run zP w=.ok (.value (.tuple #[.int .u64 (s:Int),.int .u64 (k:Int)])) w) ∧
   s+y+c=x+18446744073709551616*k∧s<18446744073709551616∧k≤1:=by
 refine ⟨_,_,fun w=>qE x y c hc w,?_,?_,?_⟩
 ·
  split<;>omega
 ·
  omega
 ·
  split<;>omega
theorem qO (x y:Nat) (hx:x<18446744073709551616) (hy:y<18446744073709551616) (w:World) :
  Calls zP 117 #[.int .u64 x,.int .u64 y] w fun e w'=>e=.returned (.tuple #[.int .u64 ((x*y/18446744073709551616:Nat):Int),.int .u64 ((x*y%18446744073709551616:Nat):Int)])∧w=w':=by
 obtain ⟨bd,bt,bw,hhi⟩:=Lib.mul64_hi x y hx hy
 have ba:=Lib.half_mul_le (a:=x/4294967296) (b:=y/4294967296) (by omega) (by omega)
 have bb:=Lib.half_mul_le (a:=x/4294967296) (b:=y%4294967296) (by omega) (by omega)
 have bc:=Lib.half_mul_le (a:=x%4294967296) (b:=y/4294967296) (by omega) (by omega)
 have ba':x/4294967296*(y/4294967296)<18446744073709551616:=by omega
 have bb':x/4294967296*(y%4294967296)<18446744073709551616:=by omega
 have bc':x%4294967296*(y/4294967296)<18446744073709551616:=by omega
 have bh1:x/4294967296*(y/4294967296)+(x/4294967296*(y%4294967296)+x%4294967296*(y%4294967296)/4294967296)/4294967296<18446744073709551616:=by omega
 have bh:x/4294967296*(y/4294967296)+(x/4294967296*(y%4294967296)+x%4294967296*(y%4294967296)/4294967296)/4294967296+((x/4294967296*(y%4294967296)+x%4294967296*(y%4294967296)/4294967296)%4294967296+x%4294967296*(y/4294967296))/4294967296<18446744073709551616:=by omega
 go_enter Tryz.func117,Tryz.ntmps117
 go_wp2
 simp only [Mul64.maskN x hx,Mul64.maskN y hy,Mul64.divN,Mul64.mulN,Mul64.addN,Mul64.wrapN _ bd,Mul64.wrapN _ bb',Mul64.wrapN _ bt,Mul64.maskN _ bt,Mul64.wrapN _ bc',Mul64.wrapN _ bw,Mul64.wrapN _ ba',Mul64.wrapN _ bh1,Mul64.wrapN _ bh,Mul64.wrapM (x*y)]
 rw [hhi]
 go_ret2
 exact ⟨rfl,rfl⟩
def MulAt (x y hi lo:Nat):Prop:=hi*18446744073709551616+lo=x*y∧lo<18446744073709551616
theorem kF (x y:Nat) (hx:x<18446744073709551616) (hy:y<18446744073709551616) :
  ∃ hi lo:Nat,(∀ w,Calls zP 117 #[.int .u64 x,.int .u64 y] w fun e w'=>e=.returned (.tuple #[.int .u64 (hi:Int),.int .u64 (lo:Int)])∧w=w')∧MulAt x y hi lo :=
 ⟨_,_,fun w=>qO x y hx hy w,by unfold MulAt;omega⟩
def MulAddAt (a b c d hi lo:Nat):Prop:=hi*18446744073709551616+lo=a*b+c+d∧lo<18446744073709551616∧hi<18446744073709551616
def MulAddPost (a b c d:Nat) (w:World) (e:Ending) (w':World):Prop:=∃ hi lo:Nat,e=.returned (.tuple #[.int .u64 (hi:Int),.int .u64 (lo:Int)])∧MulAddAt a b c d hi lo∧w=w'
theorem gB {x y:Nat} (hx:x<18446744073709551616) (hy:y<18446744073709551616):x*y≤340282366920938463426481119284349108225:=Nat.mul_le_mul (show x≤18446744073709551615 by omega) (show y≤18446744073709551615 by omega)
theorem gW (a b c d:Nat) (w:World) (ha:a<18446744073709551616) (hb:b<18446744073709551616) (hc:c<18446744073709551616) (hd:d<18446744073709551616) :
  Calls zP 100 #[.int .u64 a,.int .u64 b,.int .u64 c,.int .u64 d] w (MulAddPost a b c d w):=by
 obtain ⟨hi,lo,h1,e1,l1⟩:=kF a b ha hb
 obtain ⟨s,k,h2,e2,l2,k2⟩:=eP lo c 0 l1 hc (by omega)
 obtain ⟨t,j,h3,e3,l3,k3⟩:=eP s d 0 l2 hd (by omega)
 have hm:=gB ha hb
 have hAt:MulAddAt a b c d (hi+k+j) t:=by
  unfold MulAddAt
  generalize a*b=m at *
  omega
 have b1:hi+k+j<18446744073709551616:=hAt.2.2
 clear hm
 have HA:=Lib.hid hAt
 have E1:=Lib.hid e1
 have E2:=Lib.hid e2
 have E3:=Lib.hid e3
 clear hAt e1 e2 e3
 rw [Int.natCast_zero] at h2 h3
 go_enter Tryz.func100,Tryz.ntmps100
 go_wp2_with (first | simp only [h2] | simp only [h3] | (go_at_call 117;refine (h1 _).mono ?_;rintro e w' ⟨rfl,rfl⟩))
 go_ret2
 exact ⟨hi+k+j,t,by go_num,HA.out,rfl⟩
end Scl
end
section
namespace Scl
open Go.RowKit
theorem gR (n:Nat):(es n).all (·.oneCell')=true:=by simp [es,Value.oneCell']
theorem jJ:es 0=#[.int .u64 0,.int .u64 0,.int .u64 0,.int .u64 0]:=rfl
theorem hH:(zP.info? 54).map (·.size)=some 4:=by kernel_rfl
def ElemPost (n:Nat) (w:World) (e:Ending) (w':World):Prop:=e=.returned (.agg (es n))∧Below w.heap.size w w'
def kb (n:Nat):List Nat:=(List.range 32).map fun i=>n/256^i%256
theorem dP (n:Nat):(kb n).length=32:=by simp [kb]
theorem fQ (n:Nat) {i:Nat} (h:i<32):(kb n)[i]?=some (n/256^i%256):=by simp [kb,h]
def ks (n:Nat):Array Value:=ncs .u8 (kb n)
theorem aG (n:Nat):(ks n).size=32:=by rw [ks,dL,dP]
theorem dR (n:Nat) {i:Nat} (h:i<32):(ks n)[i]?=some (.int .u8 ((n/256^i%256:Nat):Int)):=by rw [ks,dW,fQ n h];rfl
theorem bU (n:Nat):(ks n).all (·.oneCell')=true:=iH _ _
theorem uD:(zP.info? 23).map (·.size)=some 32:=by kernel_rfl
theorem aL (n:Nat):(zP.info? 23).map (·.size)=some (ks n).size:=by rw [aG];exact uD
def wj (n j:Nat):Nat:=n/18446744073709551616^j%18446744073709551616
theorem uI (n:Nat) {j:Nat} (h:j<4):(es n)[j]?=some (.int .u64 (wj n j:Int)):=by
 have:j=0∨j=1∨j=2∨j=3:=by omega
 rcases this with rfl | rfl | rfl | rfl
 ·
  simp [es,wj,wd0]
 ·
  simp [es,wj,wd1]
 ·
  simp [es,wj,wd2]
 ·
  simp [es,wj,wd3]
theorem iX {k:Nat} (hk:k<32):k=0∨k=1∨k=2∨k=3∨k=4∨k=5∨k=6∨k=7∨k=8∨k=9∨k=10∨k=11∨k=12∨k=13∨k=14∨k=15∨k=16∨k=17∨k=18∨k=19∨k=20∨k=21∨k=22∨k=23∨k=24∨k=25∨k=26∨k=27∨k=28∨k=29∨k=30∨k=31:=by omega
theorem qW (n k:Nat) (hk:k<32):wj (n%256^(k+1)) (k/8)=wj (n%256^k) (k/8)+n/256^k%256*2^(8*(k%8))∧wj (n%256^k) (k/8)<2^(8*(k%8)) ∧
  (0≠k/8→wj (n%256^k) 0=wj (n%256^(k+1)) 0)∧(1≠k/8→wj (n%256^k) 1=wj (n%256^(k+1)) 1)∧(2≠k/8→wj (n%256^k) 2=wj (n%256^(k+1)) 2)∧(3≠k/8→wj (n%256^k) 3=wj (n%256^(k+1)) 3):=by
 unfold wj
 rcases iX hk with rfl | rfl | rfl | rfl | rfl | rfl | rfl | rfl | rfl | rfl | rfl | rfl | rfl | rfl | rfl | rfl | rfl | rfl | rfl | rfl | rfl | rfl | rfl | rfl | rfl | rfl | rfl | rfl | rfl | rfl | rfl | rfl
 all_goals
  simp only [Nat.reducePow,Nat.reduceDiv,Nat.reduceMod,Nat.reduceMul,Nat.reduceAdd,Nat.div_one,ne_eq,Nat.reduceEqDiff,not_false_eq_true,not_true_eq_false,false_implies,true_implies,true_and,and_true]
  omega
theorem xA (n:Nat):es n=ncs .u64 [wj n 0,wj n 1,wj n 2,wj n 3]:=by
 simp [es,ncs,nc,wj,wd0,wd1,wd2,wd3]
theorem es_set (m m' j:Nat) (hj:j<4) (h0:0≠j→wj m 0=wj m' 0) (h1:1≠j→wj m 1=wj m' 1) (h2:2≠j→wj m 2=wj m' 2) (h3:3≠j→wj m 3=wj m' 3) :
  (es m).setIfInBounds j (.int .u64 (wj m' j:Int))=es m':=by
 rw [xA,xA,dV]
 have:j=0∨j=1∨j=2∨j=3:=by omega
 rcases this with rfl | rfl | rfl | rfl
 ·
  rw [h1 (by omega),h2 (by omega),h3 (by omega)];rfl
 ·
  rw [h0 (by omega),h2 (by omega),h3 (by omega)];rfl
 ·
  rw [h0 (by omega),h1 (by omega),h3 (by omega)];rfl
 ·
  rw [h0 (by omega),h1 (by omega),h2 (by omega)];rfl
theorem pE (a x r:Nat) (ha:a<2^(8*r)) (hx:x<256) (hr:r<8):bits .or .u64 (a:Int) (IntKind.u64.wrap ((x:Int)*2^(8*r)))=((a+x*2^(8*r):Nat):Int):=by
 have hp:2^(8*r)≤2^56:=Nat.pow_le_pow_right (by omega) (by omega)
 have hm:x*2^(8*r)≤255*2^56:=Nat.mul_le_mul (by omega) hp
 have e:(x:Int)*2^(8*r)=((x*2^(8*r):Nat):Int):=by push_cast;rfl
 have h2:(2:Nat)^56=72057594037927936:=by decide
 rw [e,IntKind.wrap_u64,Int.emod_eq_of_lt (by omega) (by omega),u64_or_nat _ _ (by omega) (by omega)]
 have:=Nat.two_pow_add_eq_or_of_lt ha x
 rw [Nat.or_comm,Nat.mul_comm x,←this,Nat.add_comm]
theorem jB (n:Nat) (w:World) (hn:K256 n) :
  Calls zP 53 #[.agg (ks n)] w (ElemPost n w):=by
 have hfr:=((((Fr.start w).row (ks n) 23 (g:=w.heap.size) rfl).any #[.int .u64 0,.int .u64 0,.int .u64 0,.int .u64 0] 54 4 rfl (g:=w.heap.size+1) (by simp)).row (es 0) 54 (g:=w.heap.size+1+1) (by simp))
 have k1:=hfr.get (g:=w.heap.size) (t:=23) (cs:=ks n) (by simp)
 rw [jJ] at k1
 have HFR:=Lib.hid hfr
 clear hfr
 go_enter Tryz.func53,Tryz.ntmps53
 go_wp2_with (first | (refine wpList_load_row rfl 23 (.tmp 1) rfl w.heap.size rfl 23 (ks n) (0,0) _ k1 Tryz.underlying23 rfl (aL n) ?_))
 go_loopw [7] (fun c wr=>∃ k:Nat,k≤32∧c=.int .i64 k∧Fr w wr [(w.heap.size+1+1,54,es (n%256^k)),(w.heap.size,23,ks n)] [(w.heap.size+1,54,4)]) (fun c _=>32-(intOf c).toNat)
 case atStart=>exact ⟨0,by omega,rfl,by have:=HFR.out;rw [Nat.pow_zero,Nat.mod_one];exact this⟩
 case round =>
  obtain ⟨k,hk,rfl,hF⟩:=hrel
  by_cases hlt:k<32
  ·
   have hB:=hF.get (g:=w.heap.size+1+1) (t:=54) (cs:=es (n%256^k)) (by simp)
   have hc:wr.cell? ⟨w.heap.size+1+1,k/8,none⟩=some (.int .u64 (wj (n%256^k) (k/8):Int)):=by rw [hB.cell,uI _ (by omega)]
   have hf:=hB.frozen (k/8)
   have hix:=fun W=>gH (P:=zP) W 23 5 32 .u8 Tryz.underlying23 Tryz.underlying5 (fun W=>fH (by kernel_rfl) W) (kb n) k (n/256^k%256) hlt (fQ n hlt)
   have hx8:n/256^k%256<256:=Nat.mod_lt _ (by omega)
   have hix2:∀ W,(Instr.index 23 (.agg (ks n)) (.int .i64 (k:Int))).run zP W=.ok (.int .u8 ((n/256^k%256:Nat):Int)) W:=hix
   clear hix
   obtain ⟨s1,s2,s3,s4,s5,s6⟩:=qW n k hlt
   have hset:=es_set (n%256^k) (n%256^(k+1)) (k/8) (by omega) s3 s4 s5 s6
   have hor:=pE (wj (n%256^k) (k/8)) (n/256^k%256) (k%8) s2 hx8 (by omega)
   rw [←s1] at hor
   have HS:=Lib.hid hset
   have HO:=Lib.hid hor
   have HF:=Lib.hid hF
   clear s1 s2 s3 s4 s5 s6 hset hor hF hB
   generalize n/256^k%256=x at *
   have b1:(0:Int)≤(k:Int)/8:=by omega
   have b2:(k:Int)/8<4:=by omega
   go_wp2
   go_region
   go_wp2
   go_roundw
   case rel =>
    refine ⟨k+1,by omega,by go_num,?_⟩
    rw [HO.out]
    refine Fr.drew ?_
    rw [←HS.out]
    exact HF.out.setHead (by simp<;>omega) (by simp<;>omega) _ _ (by omega)
   case measure=>simp [intOf];omega
  ·
   obtain rfl:k=32:=by omega
   have e32:n%256^32=n:=Nat.mod_eq_of_lt hn
   rw [e32] at hF
   have kT:=hF.get (g:=w.heap.size+1+1) (t:=54) (cs:=es n) (by simp)
   obtain ⟨old,hold,kR⟩:=hF.old (g:=w.heap.size+1) (t:=54) (n:=4) (by simp)
   have kS:=kR.setRow_same (es n)
   have hB:=below_setRow hF.below (show w.heap.size≤w.heap.size+1 by omega) (es n)
   have HF:=Lib.hid hF
   have HS:=Lib.hid kS
   have HB:=Lib.hid hB
   have HO:=Lib.hid hold
   clear hF e32 kS hB hold
   go_wp2_with (first | (refine wpList_load_row rfl 54 (.tmp 3) rfl (w.heap.size+1+1) rfl 54 (es n) (0,0) _ kT Tryz.underlying54 rfl hH ?_) | (refine wpList_store_row rfl 54 (.tmp 2) (.tmp 24) rfl (w.heap.size+1) (es n) rfl rfl 54 old kR hH HO.out (gR _) ?_))
   exact bodyPost_ret (results_cell_row rfl _ _ (w.heap.size+1) 54 (es n) (0,0) _ rfl HS.out Tryz.underlying54 rfl hH) rfl ⟨rfl,HB.out⟩
end Scl
end
section
namespace Scl
open Go.RowKit
theorem fX (b n k i:Nat) (hb:0<b):n%b^k/b^i%b=if i<k then n/b^i%b else 0:=by
 have hp:0<b^i:=Nat.pow_pos hb
 split
 ·
  rename_i h
  obtain ⟨d,rfl⟩:∃ d,k=i+(d+1):=⟨k-i-1,by omega⟩
  rw [Nat.pow_add,Nat.mod_mul_right_div_self,Nat.pow_succ,Nat.mod_mul_left_mod]
 ·
  rename_i h
  have h1:n%b^k<b^k:=Nat.mod_lt _ (Nat.pow_pos hb)
  have h2:b^k≤b^i:=Nat.pow_le_pow_right hb (by omega)
  rw [Nat.div_eq_of_lt (by omega),Nat.zero_mod]
theorem zC (n k:Nat) (hk:k<32):(kb (n%256^k)).set k (n/256^k%256)=kb (n%256^(k+1)):=by
 apply List.ext_getElem?
 intro i
 rw [List.getElem?_set]
 by_cases hi:i<32
 ·
  rw [fQ (n%256^(k+1)) hi,dP,fX 256 n (k+1) i (by omega)]
  by_cases e:k=i
  ·
   subst e
   rw [if_pos rfl,if_pos hk,if_pos (by omega)]
  ·
   rw [if_neg e,fQ _ hi,fX 256 n k i (by omega)]
   by_cases h:i<k
   ·
    rw [if_pos h,if_pos (by omega)]
   ·
    rw [if_neg h,if_neg (by omega)]
 ·
  have h1:(kb (n%256^(k+1)))[i]?=none:=by simp [dP];omega
  have h2:(kb (n%256^k))[i]?=none:=by simp [dP];omega
  rw [h1,h2]
  have:k≠i:=by omega
  simp [this]
theorem pK (n k:Nat) (hk:k<32):(ks (n%256^k)).setIfInBounds k (.int .u8 ((n/256^k%256:Nat):Int))=ks (n%256^(k+1)):=by
 rw [ks,dV,zC n k hk,ks]
theorem dK:ks 0=#[.int .u8 0,.int .u8 0,.int .u8 0,.int .u8 0,.int .u8 0,.int .u8 0,.int .u8 0,.int .u8 0,.int .u8 0,.int .u8 0,.int .u8 0,.int .u8 0,.int .u8 0,.int .u8 0,.int .u8 0,.int .u8 0,.int .u8 0,.int .u8 0,.int .u8 0,.int .u8 0,.int .u8 0,.int .u8 0,.int .u8 0,.int .u8 0,.int .u8 0,.int .u8 0,.int .u8 0,.int .u8 0,.int .u8 0,.int .u8 0,.int .u8 0,.int .u8 0]:=by kernel_rfl
theorem lN (n k:Nat) (hk:k<32) (hn:K256 n):wj n (k/8)/2^(8*(k%8))%256=n/256^k%256:=by
 unfold wj
 rcases iX hk with rfl | rfl | rfl | rfl | rfl | rfl | rfl | rfl | rfl | rfl | rfl | rfl | rfl | rfl | rfl | rfl | rfl | rfl | rfl | rfl | rfl | rfl | rfl | rfl | rfl | rfl | rfl | rfl | rfl | rfl | rfl | rfl
 all_goals
  simp only [Nat.reducePow,Nat.reduceDiv,Nat.reduceMod,Nat.reduceMul,Nat.reduceAdd,Nat.div_one]
  omega
def KeyPost (n:Nat) (w:World) (e:Ending) (w':World):Prop:=e=.returned (.agg (ks n))∧Below w.heap.size w w'
theorem gF (n:Nat) (w:World) (hn:K256 n) :
  Calls zP 99 #[.agg (es n)] w (KeyPost n w):=by
 have hfr:=((((Fr.start w).row (es n) 54 (g:=w.heap.size) rfl).any (ks 0) 23 32 (aG 0) (g:=w.heap.size+1) (by simp)).row (ks 0) 23 (g:=w.heap.size+1+1) (by simp))
 rw [dK] at hfr
 have HFR:=Lib.hid hfr
 clear hfr
 go_enter Tryz.func99,Tryz.ntmps99
 go_wp2_with (fail)
 go_loopw [5] (fun c wr=>∃ k:Nat,k≤32∧c=.int .i64 k∧Fr w wr [(w.heap.size+1+1,23,ks (n%256^k)),(w.heap.size,54,es n)] [(w.heap.size+1,23,32)]) (fun c _=>32-(intOf c).toNat)
 case atStart=>exact ⟨0,by omega,rfl,by have:=HFR.out;rw [Nat.pow_zero,Nat.mod_one,dK];exact this⟩
 case round =>
  obtain ⟨k,hk,rfl,hF⟩:=hrel
  by_cases hlt:k<32
  ·
   have hB:=hF.get (g:=w.heap.size+1+1) (t:=23) (cs:=ks (n%256^k)) (by simp)
   have hE:=hF.get (g:=w.heap.size) (t:=54) (cs:=es n) (by simp)
   have hc:wr.cell? ⟨w.heap.size,k/8,none⟩=some (.int .u64 (wj n (k/8):Int)):=by rw [hE.cell,uI _ (by omega)]
   have hd:wr.cell? ⟨w.heap.size+1+1,k,none⟩=some (.int .u8 ((n%256^k/256^k%256:Nat):Int)):=by rw [hB.cell,dR _ hlt]
   have hf:=hB.frozen k
   have h8:(8:Int)*((k:Int)%8)<65:=by omega
   have hby:=lN n k hlt hn
   have hst:=pK n k hlt
   have HB:=Lib.hid hby
   have HS:=Lib.hid hst
   have HF:=Lib.hid hF
   clear hby hst hF hB hE
   generalize n%256^k/256^k%256=z at *
   have b1:(0:Int)≤(k:Int)/8:=by omega
   have b2:(k:Int)/8<4:=by omega
   go_wp2
   go_roundw
   case rel =>
    refine ⟨k+1,by omega,by go_num,?_⟩
    have e:(wj n (k/8):Int)/2^(8*(k%8))%256=((n/256^k%256:Nat):Int):=by
     rw [←HB.out]
     rw [Int.natCast_emod,Int.natCast_ediv,Int.natCast_pow]
     rfl
    rw [e,←HS.out]
    exact HF.out.setHead (by simp<;>omega) (by simp<;>omega) _ _ (by omega)
   case measure=>simp [intOf];omega
  ·
   obtain rfl:k=32:=by omega
   have e32:n%256^32=n:=Nat.mod_eq_of_lt hn
   rw [e32] at hF
   have kT:=hF.get (g:=w.heap.size+1+1) (t:=23) (cs:=ks n) (by simp)
   obtain ⟨old,hold,kR⟩:=hF.old (g:=w.heap.size+1) (t:=23) (n:=32) (by simp)
   have kS:=kR.setRow_same (ks n)
   have hB:=below_setRow hF.below (show w.heap.size≤w.heap.size+1 by omega) (ks n)
   have hold':old.size=(ks n).size:=by rw [hold,aG]
   have HF:=Lib.hid hF
   have HS:=Lib.hid kS
   have HB:=Lib.hid hB
   have HO:=Lib.hid hold'
   clear hF e32 kS hB hold hold'
   go_wp2_with (first | (refine wpList_load_row rfl 23 (.tmp 3) rfl (w.heap.size+1+1) rfl 23 (ks n) (0,0) _ kT Tryz.underlying23 rfl (aL n) ?_) | (refine wpList_store_row rfl 23 (.tmp 2) (.tmp 20) rfl (w.heap.size+1) (ks n) rfl rfl 23 old kR (aL n) HO.out (bU _) ?_))
   exact bodyPost_ret (results_cell_row rfl _ _ (w.heap.size+1) 23 (ks n) (0,0) _ rfl HS.out Tryz.underlying23 rfl (aL n)) rfl ⟨rfl,HB.out⟩
end Scl
end
section
namespace Scl
open Go.RowKit
def wl (c n:Nat):List Nat:=(List.range c).map fun i=>wj n i
theorem xT (c n:Nat):(wl c n).length=c:=by simp [wl]
theorem wl_get (c n:Nat) {i:Nat} (h:i<c):(wl c n)[i]?=some (wj n i):=by simp [wl,h]
def ws (c n:Nat):Array Value:=ncs .u64 (wl c n)
theorem jA (c n:Nat):(ws c n).size=c:=by rw [ws,dL,xT]
theorem jP (c n:Nat) {i:Nat} (h:i<c):(ws c n)[i]?=some (.int .u64 (wj n i:Int)):=by rw [ws,dW,wl_get c n h];rfl
theorem iN (c n:Nat):(ws c n).all (·.oneCell')=true:=iH _ _
theorem es_ws (n:Nat):es n=ws 4 n:=by rw [xA];rfl
theorem rA (n j:Nat):wj n j<18446744073709551616:=Nat.mod_lt _ (by omega)
theorem sC {c n m k x:Nat} (hk:k<c) (hx:x<18446744073709551616) (h:m+18446744073709551616^k*wj n k=n+18446744073709551616^k*x) :
  (ws c n).setIfInBounds k (.int .u64 (x:Int))=ws c m:=by
 rw [ws,dV,ws]
 congr 1
 apply List.ext_getElem?
 intro j
 rw [List.getElem?_set]
 by_cases hj:j<c
 ·
  have hd:=kI (by omega) hx h j
  rw [wl_get c m hj]
  unfold wj at hd ⊢
  rw [hd]
  by_cases e:k=j
  ·
   subst e
   rw [if_pos rfl,if_pos rfl,xT,if_pos hk]
  ·
   rw [if_neg e,if_neg (fun h=>e h.symm),wl_get c n hj]
   rfl
 ·
  have:k≠j:=by omega
  rw [if_neg this,List.getElem?_eq_none (by rw [xT];omega),List.getElem?_eq_none (by rw [xT];omega)]
theorem mM {n k:Nat} (h:n<18446744073709551616^k):wj n k=0:=by
 unfold wj
 rw [Nat.div_eq_of_lt h]
def SubAt (a b k m c:Nat):Prop:=m+b%18446744073709551616^k=a%18446744073709551616^k+18446744073709551616^k*c∧m<18446744073709551616^k∧c≤1
theorem sub_start (a b:Nat):SubAt a b 0 0 0:=by
 unfold SubAt
 rw [Nat.pow_zero,Nat.mod_one,Nat.mod_one]
 omega
theorem sub_step {a b k m c s j:Nat} (h:SubAt a b k m c) (e:s+wj b k+c=wj a k+18446744073709551616*j) (hs:s<18446744073709551616) (hj:j≤1) :
  SubAt a b (k+1) (m+18446744073709551616^k*s) j:=by
 obtain ⟨h1,h2,h3⟩:=h
 unfold wj at e
 unfold SubAt
 rw [Nat.mod_pow_succ,Nat.mod_pow_succ,Nat.pow_succ]
 generalize a/18446744073709551616^k%18446744073709551616=x at *
 generalize b/18446744073709551616^k%18446744073709551616=y at *
 generalize 18446744073709551616^k=P at *
 have e2:=congrArg (P*·) e
 simp only [Nat.mul_add] at e2
 rw [←Nat.mul_assoc] at e2
 have e3:P*s≤P*18446744073709551615:=Nat.mul_le_mul_left _ (by omega)
 omega
theorem sub_put {a b k m c s:Nat} (h:SubAt a b k m c) (hk:k<4) (hs:s<18446744073709551616):(ws 4 m).setIfInBounds k (.int .u64 (s:Int))=ws 4 (m+18446744073709551616^k*s) :=
 sC hk hs (by rw [mM h.2.1,Nat.mul_zero,Nat.add_zero])
theorem sub_end {a b m c:Nat} (h:SubAt a b 4 m c) (ha:K256 a) (hb:K256 b) :
  m+b=a+115792089237316195423570985008687907853269984665640564039457584007913129639936*c∧K256 m∧c≤1:=by
 obtain ⟨h1,h2,h3⟩:=h
 have e:18446744073709551616^4=115792089237316195423570985008687907853269984665640564039457584007913129639936:=by decide
 rw [e] at h1 h2
 rw [Nat.mod_eq_of_lt ha,Nat.mod_eq_of_lt hb] at h1
 exact ⟨h1,h2,h3⟩
def DblAt (a c0 k v c:Nat):Prop:=v/18446744073709551616^k=a/18446744073709551616^k∧v+18446744073709551616^k*c=a+a%18446744073709551616^k+c0∧c≤1
theorem dbl_start (a:Nat) {c0:Nat} (h:c0≤1):DblAt a c0 0 a c0:=by
 unfold DblAt
 rw [Nat.pow_zero,Nat.mod_one]
 omega
theorem dbl_same {a c0 k v c:Nat} (h:DblAt a c0 k v c):wj v k=wj a k:=by
 unfold wj
 rw [h.1]
theorem dbl_step {a c0 k v c s j:Nat} (h:DblAt a c0 k v c) (e:s+18446744073709551616*j=wj v k+wj v k+c) (hs:s<18446744073709551616) (hj:j≤1) :
  ∃ v',v'+18446744073709551616^k*wj v k=v+18446744073709551616^k*s∧DblAt a c0 (k+1) v' j:=by
 have hd:=dbl_same h
 obtain ⟨h1,h2,h3⟩:=h
 have hle:18446744073709551616^k*wj v k≤v:=by
  have h4:=Nat.mod_add_div v (18446744073709551616^k)
  have h5:=Nat.mul_le_mul_left (18446744073709551616^k) (Nat.mod_le (v/18446744073709551616^k) 18446744073709551616)
  unfold wj
  omega
 refine ⟨v-18446744073709551616^k*wj v k+18446744073709551616^k*s,by omega,?_,?_,hj⟩
 ·
  rw [jL (n:=v) (by omega) hs (by unfold wj at hle ⊢;omega)]
  rw [Nat.pow_succ,←Nat.div_div_eq_div_mul,←Nat.div_div_eq_div_mul,h1]
 ·
  rw [Nat.mod_pow_succ,Nat.pow_succ]
  rw [hd] at e hle ⊢
  unfold wj at e hle ⊢
  generalize a/18446744073709551616^k%18446744073709551616=x at *
  generalize 18446744073709551616^k=P at *
  have e2:=congrArg (P*·) e
  simp only [Nat.mul_add] at e2
  rw [←Nat.mul_assoc] at e2
  omega
theorem dbl_end {a c0 v c:Nat} (h:DblAt a c0 4 v c) (ha:2*a+c0<115792089237316195423570985008687907853269984665640564039457584007913129639936):v=2*a+c0:=by
 obtain ⟨h1,h2,h3⟩:=h
 have e:18446744073709551616^4=115792089237316195423570985008687907853269984665640564039457584007913129639936:=by decide
 rw [e] at h1 h2
 rw [Nat.mod_eq_of_lt (by omega)] at h2
 omega
theorem bit_of (n i:Nat):wj n (i/64)/2^(i%64)%2=n/2^i%2:=by
 unfold wj
 have h1:n/2^i=n/18446744073709551616^(i/64)/2^(i%64):=by
  rw [show (18446744073709551616:Nat)=2^64 by decide,←Nat.pow_mul,Nat.div_div_eq_div_mul,←Nat.pow_add,Nat.div_add_mod]
 rw [h1]
 generalize n/18446744073709551616^(i/64)=x
 have h:=fX 2 x 64 (i%64) (by omega)
 rw [if_pos (by omega)] at h
 exact h
def MulRow (a b c i j n o:Nat):Prop :=
 n+18446744073709551616^(i+j)*o=c+a%18446744073709551616^i*b+18446744073709551616^i*wj a i*(b%18446744073709551616^j)∧n<18446744073709551616^(i+4)∧o<18446744073709551616
def MulAtI (a b c i n:Nat):Prop:=n=c+a%18446744073709551616^i*b
theorem mul_below {a b c i n:Nat} (h:MulAtI a b c i n) (hb:b<18446744073709551616^4) (hc:c<18446744073709551616^4):n<18446744073709551616^(i+4):=by
 unfold MulAtI at h
 have h1:a%18446744073709551616^i<18446744073709551616^i:=Nat.mod_lt _ (Nat.pow_pos (by omega))
 rw [Nat.pow_add]
 generalize a%18446744073709551616^i=x at *
 generalize 18446744073709551616^i=P at *
 generalize 18446744073709551616^4=Q at *
 have h2:(x+1)*Q≤P*Q:=Nat.mul_le_mul_right _ h1
 have h3:x*b≤x*Q:=Nat.mul_le_mul_left _ (by omega)
 rw [Nat.add_mul] at h2
 omega
theorem yV {a b c i n:Nat} (h:MulAtI a b c i n) (hn:n<18446744073709551616^(i+4)):MulRow a b c i 0 n 0:=by
 unfold MulRow MulAtI at *
 rw [Nat.pow_zero,Nat.mod_one]
 refine ⟨by omega,hn,by omega⟩
theorem mulrow_step {a b c i j n o hi lo:Nat} (hj:j<4) (h:MulRow a b c i j n o) (e:MulAddAt (wj a i) (wj b j) (wj n (i+j)) o hi lo) :
  ∃ n',n'+18446744073709551616^(i+j)*wj n (i+j)=n+18446744073709551616^(i+j)*lo∧MulRow a b c i (j+1) n' hi:=by
 obtain ⟨h1,h2,h3⟩:=h
 obtain ⟨e1,e2,e3⟩:=e
 have hle:18446744073709551616^(i+j)*wj n (i+j)≤n:=by
  have h4:=Nat.mod_add_div n (18446744073709551616^(i+j))
  have h5:=Nat.mul_le_mul_left (18446744073709551616^(i+j)) (Nat.mod_le (n/18446744073709551616^(i+j)) 18446744073709551616)
  unfold wj
  omega
 have hnew:n-18446744073709551616^(i+j)*wj n (i+j)+18446744073709551616^(i+j)*lo+18446744073709551616^(i+j)*wj n (i+j)=n+18446744073709551616^(i+j)*lo:=by omega
 refine ⟨n-18446744073709551616^(i+j)*wj n (i+j)+18446744073709551616^(i+j)*lo,hnew,?_,?_,e3⟩
 ·
  rw [show i+(j+1)=i+j+1 by omega,Nat.mod_pow_succ,Nat.pow_succ,Nat.mul_add]
  have e4:=congrArg (18446744073709551616^(i+j)*·) e1
  simp only [Nat.mul_add] at e4
  rw [←Nat.mul_assoc,Nat.mul_right_comm] at e4
  have e5:18446744073709551616^i*wj a i*(18446744073709551616^j*(b/18446744073709551616^j%18446744073709551616))=18446744073709551616^(i+j)*(wj a i*wj b j):=by
   rw [Nat.pow_add]
   show _*_*(_*wj b j)=_
   ac_rfl
  rw [e5]
  generalize 18446744073709551616^(i+j)*(wj a i*wj b j)=X at *
  generalize 18446744073709551616^(i+j)*wj n (i+j)=Y at *
  generalize 18446744073709551616^(i+j)*lo=Z at *
  generalize 18446744073709551616^i*wj a i*(b%18446744073709551616^j)=U at *
  generalize 18446744073709551616^(i+j)*o=V at *
  have e6:18446744073709551616^(i+j)*18446744073709551616*hi=18446744073709551616^(i+j)*hi*18446744073709551616:=by ac_rfl
  rw [e6]
  omega
 ·
  generalize n-18446744073709551616^(i+j)*wj n (i+j)+18446744073709551616^(i+j)*lo=m at *
  have hd:=jL (n:=n) (m:=m) (k:=i+j) (by omega) e2 (by unfold wj at hnew;exact hnew)
  obtain ⟨d,hd4⟩:∃ d,i+4=i+j+1+d:=⟨3-j,by omega⟩
  rw [hd4,Nat.pow_add] at h2 ⊢
  have hp:0<18446744073709551616^(i+j+1):=Nat.pow_pos (by omega)
  rw [Nat.mul_comm] at h2 ⊢
  rw [←Nat.div_lt_iff_lt_mul hp] at h2 ⊢
  rw [hd]
  exact h2
theorem mulrow_end {a b c i n o:Nat} (hb:b<18446744073709551616^4) (h:MulRow a b c i 4 n o) :
  ∃ n',n'+18446744073709551616^(i+4)*wj n (i+4)=n+18446744073709551616^(i+4)*o∧MulAtI a b c (i+1) n':=by
 obtain ⟨h1,h2,h3⟩:=h
 refine ⟨n+18446744073709551616^(i+4)*o,by rw [mM h2];omega,?_⟩
 unfold MulAtI
 rw [h1,Nat.mod_eq_of_lt hb,Nat.mod_pow_succ,Nat.add_mul]
 unfold wj
 omega
theorem mul_end {a b c n:Nat} (ha:a<18446744073709551616^4) (h:MulAtI a b c 4 n):n=a*b+c:=by
 unfold MulAtI at h
 rw [Nat.mod_eq_of_lt ha] at h
 omega
end Scl
end
section
namespace Scl
open Go.RowKit
theorem jW:ws 4 0=#[.int .u64 0,.int .u64 0,.int .u64 0,.int .u64 0]:=by rw [←es_ws,jJ]
theorem dB (n:Nat):(zP.info? 54).map (·.size)=some (ws 4 n).size:=by rw [jA];exact hH
def MinusPost (a b:Nat) (w:World) (e:Ending) (w':World):Prop :=
 ∃ m c:Nat,e=.returned (.tuple #[.agg (ws 4 m),.int .u64 (c:Int)])∧m+b=a+115792089237316195423570985008687907853269984665640564039457584007913129639936*c∧K256 m∧c≤1∧Below w.heap.size w w'
set_option maxRecDepth 100000 in
theorem iL (a b:Nat) (w:World) (ha:K256 a) (hb:K256 b) :
  Calls zP 69 #[.agg (ws 4 a),.agg (ws 4 b)] w (MinusPost a b w):=by
 have hfr:=(((Fr.start w).row (ws 4 a) 54 (g:=w.heap.size) rfl).row (ws 4 b) 54 (g:=w.heap.size+1) (by simp)).row (ws 4 0) 54 (g:=w.heap.size+1+1) (by simp)
 rw [jW] at hfr
 have HFR:=Lib.hid hfr
 clear hfr
 have HA:=Lib.hid ha
 have HBB:=Lib.hid hb
 clear ha hb
 go_enter Tryz.func69,Tryz.ntmps69
 go_wp2_with (fail)
 go_loopw [7,5] (fun i b' wr=>∃ k m c:Nat,k≤4∧i=.int .i64 k∧b'=.int .u64 c∧SubAt a b k m c∧Fr w wr [(w.heap.size+1+1,54,ws 4 m),(w.heap.size,54,ws 4 a),(w.heap.size+1,54,ws 4 b)] []) (fun i _ _=>4-(intOf i).toNat)
 case atStart=>exact ⟨0,0,0,by omega,rfl,rfl,sub_start a b,by rw [jW];exact HFR.out.sub (by simp) (by simp)⟩
 case round =>
  obtain ⟨k,m,c,hk,rfl,rfl,hS,hF⟩:=hrel
  by_cases hlt:k<4
  ·
   have hA:=hF.get (g:=w.heap.size) (t:=54) (cs:=ws 4 a) (by simp)
   have hB:=hF.get (g:=w.heap.size+1) (t:=54) (cs:=ws 4 b) (by simp)
   have hM:=hF.get (g:=w.heap.size+1+1) (t:=54) (cs:=ws 4 m) (by simp)
   have ca:wr.cell? ⟨w.heap.size,k,none⟩=some (.int .u64 (wj a k:Int)):=by rw [hA.cell,jP _ _ hlt]
   have cb:wr.cell? ⟨w.heap.size+1,k,none⟩=some (.int .u64 (wj b k:Int)):=by rw [hB.cell,jP _ _ hlt]
   have cm:wr.cell? ⟨w.heap.size+1+1,k,none⟩=some (.int .u64 (wj m k:Int)):=by rw [hM.cell,jP _ _ hlt]
   have hf:=hM.frozen k
   obtain ⟨s,j,h0,e0,l0,j0⟩:=jY (wj a k) (wj b k) c (rA _ _) (rA _ _) hS.2.2
   have hst:=sub_step hS e0 l0 j0
   have hpt:=sub_put hS hlt l0
   have HST:=Lib.hid hst
   have HPT:=Lib.hid hpt
   have HF:=Lib.hid hF
   clear hst hpt hF hA hB hM hS e0
   generalize wj a k=x at *
   generalize wj b k=y at *
   generalize wj m k=z at *
   go_wp2_with (fail)
   go_region_with (simp only [h0])
   all_goals go_wp2_with (fail)
   all_goals
    refine ⟨⟨k+1,_,j,by omega,by go_num,rfl,HST.out,?_⟩,by simp [intOf];omega⟩
    rw [←HPT.out]
    exact Fr.drew (HF.out.setHead (by simp<;>omega) (by simp<;>omega) _ _ (by omega))
  ·
   obtain rfl:k=4:=by omega
   obtain ⟨e1,e2,e3⟩:=sub_end hS HA.out HBB.out
   have kT:=hF.get (g:=w.heap.size+1+1) (t:=54) (cs:=ws 4 m) (by simp)
   have kS:=kT.setRow_same (ws 4 m)
   have hB:=below_setRow hF.below (show w.heap.size≤w.heap.size+1+1 by omega) (ws 4 m)
   have HS:=Lib.hid kS
   have HB:=Lib.hid hB
   have HE:=Lib.hid e1
   clear hF kS hB hS e1
   go_wp2_with (first | (refine wpList_load_row rfl 54 (.tmp 4) rfl (w.heap.size+1+1) rfl 54 (ws 4 m) (0,0) _ kT Tryz.underlying54 rfl (dB m) ?_) | (refine wpList_store_row rfl 54 (.tmp 4) (.tmp 24) rfl (w.heap.size+1+1) (ws 4 m) rfl rfl 54 _ kT (dB m) rfl (iN _ _) ?_))
   exact bodyPost_ret (lT rfl rfl rfl HS.out Tryz.underlying54 rfl (dB m)) rfl ⟨m,c,rfl,HE.out,e2,e3,HB.out⟩
def WPost (c n:Nat) (w:World) (e:Ending) (w':World):Prop:=e=.returned (.agg (ws c n))∧Below w.heap.size w w'
set_option maxRecDepth 100000 in
theorem double_any (a c0:Nat) (w:World) (hc:c0≤1) (ha:2*a+c0<115792089237316195423570985008687907853269984665640564039457584007913129639936) :
  Calls zP 97 #[.agg (ws 4 a),.int .u64 (c0:Int)] w (WPost 4 (2*a+c0) w):=by
 have hfr:=((Fr.start w).row (ws 4 a) 54 (g:=w.heap.size) rfl).any (ws 4 0) 54 4 (jA 4 0) (g:=w.heap.size+1) (by simp)
 rw [jW] at hfr
 have HFR:=Lib.hid hfr
 clear hfr
 have HA:=Lib.hid ha
 clear ha
 go_enter Tryz.func97,Tryz.ntmps97
 go_wp2_with (fail)
 go_loopw [6,1] (fun i b' wr=>∃ k v c:Nat,k≤4∧i=.int .i64 k∧b'=.int .u64 c∧DblAt a c0 k v c∧Fr w wr [(w.heap.size,54,ws 4 v)] [(w.heap.size+1,54,4)]) (fun i _ _=>4-(intOf i).toNat)
 case atStart=>exact ⟨0,a,c0,by omega,rfl,rfl,dbl_start a hc,HFR.out⟩
 case round =>
  obtain ⟨k,v,c,hk,rfl,rfl,hS,hF⟩:=hrel
  by_cases hlt:k<4
  ·
   have hM:=hF.get (g:=w.heap.size) (t:=54) (cs:=ws 4 v) (by simp)
   have cm:wr.cell? ⟨w.heap.size,k,none⟩=some (.int .u64 (wj v k:Int)):=by rw [hM.cell,jP _ _ hlt]
   have hf:=hM.frozen k
   obtain ⟨s,j,h0,e0,l0,j0⟩:=eP (wj v k) (wj v k) c (rA _ _) (rA _ _) hS.2.2
   obtain ⟨v',hv,hst⟩:=dbl_step hS e0 l0 j0
   have hpt:=sC hlt l0 hv
   have HST:=Lib.hid hst
   have HPT:=Lib.hid hpt
   have HF:=Lib.hid hF
   clear hst hpt hF hM hS e0 hv
   generalize wj v k=x at *
   go_wp2_with (fail)
   go_region_with (simp only [h0])
   all_goals go_wp2_with (fail)
   all_goals
    refine ⟨⟨k+1,_,j,by omega,by go_num,rfl,HST.out,?_⟩,by simp [intOf];omega⟩
    rw [←HPT.out]
    exact Fr.drew (HF.out.setHead (by simp<;>omega) (by simp<;>omega) _ _ (by omega))
  ·
   obtain rfl:k=4:=by omega
   obtain rfl:=dbl_end hS HA.out
   generalize 2*a+c0=m at *
   have kT:=hF.get (g:=w.heap.size) (t:=54) (cs:=ws 4 m) (by simp)
   obtain ⟨old,hold,kR⟩:=hF.old (g:=w.heap.size+1) (t:=54) (n:=4) (by simp)
   have kS:=kR.setRow_same (ws 4 m)
   have hB:=below_setRow hF.below (show w.heap.size≤w.heap.size+1 by omega) (ws 4 m)
   have hold':old.size=(ws 4 m).size:=by rw [hold,jA]
   have HS:=Lib.hid kS
   have HB:=Lib.hid hB
   have HO:=Lib.hid hold'
   clear hF kS hB hS hold hold'
   go_wp2_with (first | (refine wpList_load_row rfl 54 (.tmp 2) rfl (w.heap.size) rfl 54 (ws 4 m) (0,0) _ kT Tryz.underlying54 rfl (dB m) ?_) | (refine wpList_store_row rfl 54 (.tmp 4) (.tmp 23) rfl (w.heap.size+1) (ws 4 m) rfl rfl 54 _ kR (dB m) HO.out (iN _ _) ?_))
   exact bodyPost_ret (results_cell_row rfl _ _ (w.heap.size+1) 54 (ws 4 m) (0,0) _ rfl HS.out Tryz.underlying54 rfl (dB m)) rfl ⟨rfl,HB.out⟩
theorem and_one64 (x:Nat) (hx:x<18446744073709551616):bits .and .u64 (x:Int) 1=((x%2:Nat):Int):=by
 have h:=bits_and_u64_nat x 1 hx (by omega)
 have e:x &&& 1=x%2:=Nat.and_one_is_mod x
 rw [e] at h
 exact h
set_option maxRecDepth 100000 in
theorem zM (n i:Nat) (w:World) (hi:i<512) :
  Calls zP 98 #[.agg (ws 8 n),.int .i64 (i:Int)] w fun r w'=>r=.returned (.int .u64 ((n/2^i%2:Nat):Int))∧Below w.heap.size w w':=by
 have hc:(w.alloc (.cells (ws 8 n) 91)).cell? ⟨w.heap.size,i/64,none⟩=some (.int .u64 (wj n (i/64):Int)):=by
  rw [(Blk.new w 91 (ws 8 n)).cell,jP _ _ (by omega)]
 have hx:=rA n (i/64)
 have hb:=bit_of n i
 have ha:=and_one64 (wj n (i/64)/2^(i%64)) (Nat.lt_of_le_of_lt (Nat.div_le_self _ _) hx)
 rw [hb,Int.natCast_ediv,Int.natCast_pow] at ha
 have HA:=Lib.hid ha
 clear hb ha
 generalize wj n (i/64)=x at *
 have b1:(0:Int)≤(i:Int)/64:=by omega
 have b2:(i:Int)/64<8:=by omega
 have b3:((i:Int)%64)<65:=by omega
 go_enter Tryz.func98,Tryz.ntmps98
 go_wp2
 go_ret
 refine ⟨?_,(Below.refl _ _).alloc (Nat.le_refl _) _⟩
 show Ending.returned (.int .u64 (bits .and .u64 ((x:Int)/2^(i%64)) 1))=_
 have:=HA.out
 rw [show ((2:Nat):Int)=2 from rfl] at this
 rw [this]
end Scl
end
section
namespace Scl
open Go.RowKit
theorem lX:ws 8 0=#[.int .u64 0,.int .u64 0,.int .u64 0,.int .u64 0,.int .u64 0,.int .u64 0,.int .u64 0,.int .u64 0]:=by kernel_rfl
theorem mH (n:Nat):(zP.info? 91).map (·.size)=some (ws 8 n).size:=by rw [jA];kernel_rfl
theorem mulAddW_ex (a b c d:Nat) (ha:a<18446744073709551616) (hb:b<18446744073709551616) (hc:c<18446744073709551616) (hd:d<18446744073709551616) :
  ∃ hi lo:Nat,(∀ w,Calls zP 100 #[.int .u64 a,.int .u64 b,.int .u64 c,.int .u64 d] w fun e w'=>e=.returned (.tuple #[.int .u64 (hi:Int),.int .u64 (lo:Int)])∧w=w')∧MulAddAt a b c d hi lo:=by
 refine ⟨(a*b+c+d)/18446744073709551616,(a*b+c+d)%18446744073709551616,fun w=>(gW a b c d w ha hb hc hd).mono ?_,?_⟩
 ·
  rintro e w' ⟨hi,lo,rfl,⟨h1,h2,h3⟩,rfl⟩
  rw [←h1]
  have e1:(hi*18446744073709551616+lo)/18446744073709551616=hi:=by omega
  have e2:(hi*18446744073709551616+lo)%18446744073709551616=lo:=by omega
  rw [e1,e2]
  exact ⟨rfl,rfl⟩
 ·
  have:=gB ha hb
  unfold MulAddAt
  generalize a*b=m at *
  omega
theorem _root_.Go.Proofs.YtpagiffbjofihaaGreatDoor.Fr.keepS {w W W':World} {L:List (Nat × TypeId × Array Value)} {R:List (Nat × TypeId × Nat)} {B:Nat} (h:Fr w W L R) (hb:Below B W W') (hB:w.heap.size≤B) (hL:∀ p∈L,p.1<B) (hR:∀ p∈R,p.1<B):Fr w W' L R :=
 ⟨h.below.trans (hb.mono hB),fun p hp=>(h.rows p hp).below hb (hL p hp),fun p hp=>by
  obtain ⟨cs,e,k⟩:=h.some_ p hp
  exact ⟨cs,e,k.below hb (hR p hp)⟩,h.own⟩
theorem ws_mem (c n:Nat):∀ v∈(ws c n).toList,v.oneCell'=true:=by
 intro v hv
 simp only [ws,ncs,List.mem_map] at hv
 obtain ⟨x,_,rfl⟩:=hv
 rfl
theorem splice_ws {c:Nat} (hc:c<18446744073709551616^4):(splice (ws 8 0).toList 0 (ws 4 c).toList).toArray=ws 8 c:=by
 have h4:wj c 4=0:=mM hc
 have h5:wj c 5=0:=mM (Nat.lt_of_lt_of_le hc (Nat.pow_le_pow_right (by omega) (by omega)))
 have h6:wj c 6=0:=mM (Nat.lt_of_lt_of_le hc (Nat.pow_le_pow_right (by omega) (by omega)))
 have h7:wj c 7=0:=mM (Nat.lt_of_lt_of_le hc (Nat.pow_le_pow_right (by omega) (by omega)))
 rw [lX]
 simp [splice,ws,wl,ncs,nc,h4,h5,h6,h7,show List.range 4=[0,1,2,3] from rfl,show List.range 8=[0,1,2,3,4,5,6,7] from rfl]
set_option maxRecDepth 100000 in
theorem mulAdd8_any (a b c:Nat) (w:World) (ha:a<18446744073709551616^4) (hb:b<18446744073709551616^4) (hc:c<18446744073709551616^4) :
  Calls zP 52 #[.agg (ws 4 a),.agg (ws 4 b),.agg (ws 4 c)] w (WPost 8 (a*b+c) w):=by
 have hfr:=((((Fr.start w).row (ws 4 a) 54 (g:=w.heap.size) rfl).row (ws 4 b) 54 (g:=w.heap.size+1) (by simp)).row (ws 4 c) 54 (g:=w.heap.size+1+1) (by simp)).any (ws 8 0) 91 8 (jA 8 0) (g:=w.heap.size+1+1+1) (by simp)
 have hfr:=hfr.row (ws 8 0) 91 (g:=w.heap.size+1+1+1+1) (by simp)
 have hsp:=splice_ws hc
 rw [lX] at hfr
 have HFR:=Lib.hid hfr
 have HSP:=Lib.hid hsp
 clear hfr hsp
 have HA:=Lib.hid ha
 have HBB:=Lib.hid hb
 have HC:=Lib.hid hc
 clear ha hb hc
 go_enter Tryz.func52,Tryz.ntmps52
 go_wp2_with (fail)
 obtain ⟨wa,hwa⟩:∃ wa:World,wa=((((w.alloc (Obj.cells (ws 4 a) 54)).alloc (Obj.cells (ws 4 b) 54)).alloc (Obj.cells (ws 4 c) 54)).alloc (Obj.cells #[.int .u64 0,.int .u64 0,.int .u64 0,.int .u64 0,.int .u64 0,.int .u64 0,.int .u64 0,.int .u64 0] 91)).alloc (Obj.cells #[.int .u64 0,.int .u64 0,.int .u64 0,.int .u64 0,.int .u64 0,.int .u64 0,.int .u64 0,.int .u64 0] 91):=⟨_,rfl⟩
 rw [←hwa] at HFR ⊢
 clear hwa
 have hF:=HFR.out
 have hN:=hF.get (g:=w.heap.size+1+1+1+1) (t:=91) (cs:=#[.int .u64 0,.int .u64 0,.int .u64 0,.int .u64 0,.int .u64 0,.int .u64 0,.int .u64 0,.int .u64 0]) (by simp)
 have hC:=hF.get (g:=w.heap.size+1+1) (t:=54) (cs:=ws 4 c) (by simp)
 have HN:=Lib.hid hN
 have HCC:=Lib.hid hC
 clear hF hN hC
 go_region_law (refine step_copy_splice rfl (.tmp 11) (.tmp 12) 26 26 rfl 29 Tryz.underlying26 (by kernel_rfl) (some ⟨w.heap.size+1+1+1+1,0,none⟩) (some ⟨w.heap.size+1+1,0,none⟩) 8 8 4 4 rfl rfl (w.heap.size+1+1+1+1) 0 (ws 8 0).toList 91 (by rw [lX];exact HN.out.drew) (ws 4 c).toList (by simp [jA]) (fun _=>⟨rfl,_,rfl,by intro j v hv;rw [Addr.add_lit,Nat.zero_add,HCC.out.drew.cell];simpa using hv⟩) (by simp [jA]) (ws_mem 4 c) (w.heap.size+1+1+1+1) wa ((Below.refl _ wa).drew) (Nat.le_refl _) ?_;intro wb hg4 hb4)
 have hf2:=(HFR.out.sub (L':=[(w.heap.size,54,ws 4 a),(w.heap.size+1,54,ws 4 b)]) (R':=[(w.heap.size+1+1+1,91,8)]) (by simp) (by simp)).keepS hb4 (by omega) (by simp<;>omega) (by simp)
 have hg5:Blk wb (w.heap.size+1+1+1+1) 91 (ws 8 c):=by rw [←HSP.out];exact hg4.out
 have hf3:=hf2.more hg5
 have HF3:=Lib.hid hf3
 clear hf2 hg5 hf3 hg4 hb4 HN HCC HFR
 go_wp2_with (fail)
 go_loopw [14] (fun i wr=>∃ k n:Nat,k≤4∧i=.int .i64 k∧MulAtI a b c k n∧Fr w wr [(w.heap.size+1+1+1+1,91,ws 8 n),(w.heap.size,54,ws 4 a),(w.heap.size+1,54,ws 4 b)] [(w.heap.size+1+1+1,91,8)]) (fun i _=>4-(intOf i).toNat)
 case atStart=>exact ⟨0,c,by omega,rfl,by unfold MulAtI;rw [Nat.pow_zero,Nat.mod_one];omega,HF3.out⟩
 case round =>
  obtain ⟨k,n,hk,rfl,hM,hF⟩:=hrel
  by_cases hlt:k<4
  ·
   have hms:=yV hM (mul_below hM HBB.out HC.out)
   have HF:=Lib.hid hF
   have HMS:=Lib.hid hms
   clear hF hM hms
   go_wp2_with (fail)
   rw [decide_eq_true (show (k:Int)<4 by omega)]
   go_loopw [17,9] (fun i o wq=>∃ j n' ov:Nat,j≤4∧i=.int .i64 j∧o=.int .u64 ov∧MulRow a b c k j n' ov∧Fr w wq [(w.heap.size+1+1+1+1,91,ws 8 n'),(w.heap.size,54,ws 4 a),(w.heap.size+1,54,ws 4 b)] [(w.heap.size+1+1+1,91,8)]) (fun i _ _=>4-(intOf i).toNat)
   case atStart=>exact ⟨0,n,0,by omega,rfl,rfl,HMS.out,HF.out⟩
   case round =>
    obtain ⟨j,n',ov,hj,rfl,rfl,hR,hF⟩:=hrel
    clear HF HMS
    by_cases hjt:j<4
    ·
     have hA:=hF.get (g:=w.heap.size) (t:=54) (cs:=ws 4 a) (by simp)
     have hB:=hF.get (g:=w.heap.size+1) (t:=54) (cs:=ws 4 b) (by simp)
     have hN:=hF.get (g:=w.heap.size+1+1+1+1) (t:=91) (cs:=ws 8 n') (by simp)
     have ca:wr.cell? ⟨w.heap.size,k,none⟩=some (.int .u64 (wj a k:Int)):=by rw [hA.cell,jP _ _ hlt]
     have cb:wr.cell? ⟨w.heap.size+1,j,none⟩=some (.int .u64 (wj b j:Int)):=by rw [hB.cell,jP _ _ hjt]
     have cn:wr.cell? ⟨w.heap.size+1+1+1+1,k+j,none⟩=some (.int .u64 (wj n' (k+j):Int)):=by rw [hN.cell,jP _ _ (by omega)]
     have hf:=hN.frozen (k+j)
     obtain ⟨hi,lo,h0W,hAt⟩:=mulAddW_ex (wj a k) (wj b j) (wj n' (k+j)) ov (rA _ _) (rA _ _) (rA _ _) hR.2.2
     obtain ⟨n2,hn2,hst⟩:=mulrow_step hjt hR hAt
     have hpt:=sC (c:=8) (by omega) hAt.2.1 hn2
     have HST:=Lib.hid hst
     have HPT:=Lib.hid hpt
     have HF:=Lib.hid hF
     clear hst hpt hF hA hB hN hR hAt hn2
     generalize wj a k=x at *
     generalize wj b j=y at *
     generalize wj n' (k+j)=z at *
     go_wp2_with (fail)
     have b0:IntKind.i64.wrap ((k:Int)+(j:Int))=(k:Int)+(j:Int):=by rw [IntKind.wrap_i64];omega
     have b1:(0:Int)≤(k:Int)+(j:Int):=by omega
     have b2:(k:Int)+(j:Int)<8:=by omega
     have b3:((k:Int)+(j:Int)).toNat=k+j:=by omega
     --BEGIN
     refine wp_region_held_drew (S:=fun W=>W.cell? ⟨w.heap.size,k,none⟩=some (.int .u64 (x:Int))∧W.cell? ⟨w.heap.size+1,j,none⟩=some (.int .u64 (y:Int))) (by kernel_rfl) ?_ (fun hHeld=>?_)
     ·
      exact ⟨ca,cb⟩
     refine tk 0 hHeld ?_
     try simp only [Act.put,lA,lB,lC,lD,lE,lF]
     refine tk 1 hHeld ?_
     try simp only [Act.put,lA,lB,lC,lD,lE,lF]
     refine tk 2 hHeld ?_
     try simp only [Act.put,lA,lB,lC,lD,lE,lF]
     refine tk 3 hHeld ?_
     try simp only [Act.put,lA,lB,lC,lD,lE,lF]
     refine tk 4 hHeld ?_
     try simp only [Act.put,lA,lB,lC,lD,lE,lF]
     refine tk 5 hHeld ?_
     try simp only [Act.put,lA,lB,lC,lD,lE,lF]
     refine tk 6 hHeld ?_
     try simp only [Act.put,lA,lB,lC,lD,lE,lF]
     refine tk 7 hHeld ?_
     try simp only [Act.put,lA,lB,lC,lD,lE,lF]
     refine tk 8 hHeld ?_
     try simp only [Act.put,lA,lB,lC,lD,lE,lF]
     refine tk 9 hHeld ?_
     try simp only [Act.put,lA,lB,lC,lD,lE,lF]
     refine tk 10 hHeld ?_
     try simp only [Act.put,lA,lB,lC,lD,lE,lF]
     refine tk 11 hHeld ?_
     try simp only [Act.put,lA,lB,lC,lD,lE,lF]
     refine tk 12 hHeld ?_
     try simp only [Act.put,lA,lB,lC,lD,lE,lF]
     refine tk 14 hHeld ?_
     try simp only [Act.put,lA,lB,lC,lD,lE,lF]
     refine wpAnyH_ready (rs:=[13]) (by kernel_rfl) (by simp) (AllReadyH.cons rfl (fun K hK=>?_) AllReadyH.nil)
     have h0:=hHeld
     clear hHeld
     try simp only [lA,lB,lC]
     go_simp
     refine hK.out _ _ (h0) (fun hHeld=>?_)
     clear hK K h0
     try simp only [Act.put,lA,lB,lC,lD,lE,lF]
     refine wpAnyH_ready (rs:=[15]) (by kernel_rfl) (by simp) (AllReadyH.cons rfl (fun K hK=>?_) AllReadyH.nil)
     have h0:=hHeld
     clear hHeld
     try simp only [lA,lB,lC]
     go_simp
     go_at_call 100
     refine (h0W _).mono ?_
     rintro e vv ⟨rfl,rfl⟩
     go_wp2_with (fail)
     refine hK.out _ _ h0 (fun hHeld=>?_)
     clear hK K h0
     try simp only [Act.put,lA,lB,lC,lD,lE,lF]
     refine tk 16 hHeld ?_
     try simp only [Act.put,lA,lB,lC,lD,lE,lF]
     refine tk 17 hHeld ?_
     try simp only [Act.put,lA,lB,lC,lD,lE,lF]
     refine tk 18 hHeld ?_
     try simp only [Act.put,lA,lB,lC,lD,lE,lF]
     refine tk 19 hHeld ?_
     try simp only [Act.put,lA,lB,lC,lD,lE,lF]
     refine tk 20 hHeld ?_
     try simp only [Act.put,lA,lB,lC,lD,lE,lF]
     refine wpAnyH_ready (rs:=[21]) (by kernel_rfl) (by simp) (AllReadyH.cons rfl (fun K hK=>?_) AllReadyH.nil)
     have h0:=hHeld
     clear hHeld
     try simp only [lA,lB,lC]
     go_simp
     refine hK.out _ _ (⟨(World.cell?_setCell_far _ _ _ _ (by simp<;>omega)).trans h0.1,(World.cell?_setCell_far _ _ _ _ (by simp<;>omega)).trans h0.2⟩) (fun hHeld=>?_)
     clear hK K h0
     try simp only [Act.put,lA,lB,lC,lD,lE,lF]
     refine wpAnyH_done (by kernel_rfl) ?_ _
     --END
     go_wp2_with (fail)
     go_roundw
     case rel =>
      refine ⟨j+1,n2,hi,by omega,by go_num,rfl,HST.out,?_⟩
      rw [←HPT.out]
      exact Fr.drew (HF.out.setHead (by simp<;>omega) (by simp<;>omega) _ _ (by omega))
     case measure=>simp [intOf]<;>omega
    ·
     obtain rfl:j=4:=by omega
     obtain ⟨n2,hn2,hst⟩:=mulrow_end HBB.out hR
     have hpt:=sC (c:=8) (by omega) hR.2.2 hn2
     have hN:=hF.get (g:=w.heap.size+1+1+1+1) (t:=91) (cs:=ws 8 n') (by simp)
     have cn:wr.cell? ⟨w.heap.size+1+1+1+1,k+4,none⟩=some (.int .u64 (wj n' (k+4):Int)):=by rw [hN.cell,jP _ _ (by omega)]
     have hf:=hN.frozen (k+4)
     have HST:=Lib.hid hst
     have HPT:=Lib.hid hpt
     have HF:=Lib.hid hF
     clear hst hpt hF hN hR hn2
     generalize wj n' (k+4)=z at *
     go_wp2_with (fail)
     go_roundw
     case rel =>
      refine ⟨k+1,n2,by omega,by go_num,HST.out,?_⟩
      rw [←HPT.out]
      exact HF.out.setHead (by simp<;>omega) (by simp<;>omega) _ _ (by omega)
     case measure=>simp [intOf]<;>omega
  ·
   obtain rfl:k=4:=by omega
   obtain rfl:=mul_end HA.out hM
   generalize a*b+c=m at *
   have kT:=hF.get (g:=w.heap.size+1+1+1+1) (t:=91) (cs:=ws 8 m) (by simp)
   obtain ⟨old,hold,kR⟩:=hF.old (g:=w.heap.size+1+1+1) (t:=91) (n:=8) (by simp)
   have kS:=kR.setRow_same (ws 8 m)
   have hB:=below_setRow hF.below (show w.heap.size≤w.heap.size+1+1+1 by omega) (ws 8 m)
   have hold':old.size=(ws 8 m).size:=by rw [hold,jA]
   have HS:=Lib.hid kS
   have HB:=Lib.hid hB
   have HO:=Lib.hid hold'
   clear hF kS hB hM hold hold'
   go_wp2_with (first | (refine wpList_load_row rfl 91 (.tmp 7) rfl (w.heap.size+1+1+1+1) rfl 91 (ws 8 m) (0,0) _ kT Tryz.underlying91 rfl (mH m) ?_) | (refine wpList_store_row rfl 91 (.tmp 6) (.tmp 46) rfl (w.heap.size+1+1+1) (ws 8 m) rfl rfl 91 _ kR (mH m) HO.out (iN _ _) ?_))
   exact bodyPost_ret (results_cell_row rfl _ _ (w.heap.size+1+1+1) 91 (ws 8 m) (0,0) _ rfl HS.out Tryz.underlying91 rfl (mH m)) rfl ⟨rfl,HB.out⟩
end Scl
end
section
namespace Scl
open Go.RowKit
def LL:Nat:=7237005577332262213973186563042994240857116359379907606001950938285454250989
theorem nP:LL=7237005577332262213973186563042994240857116359379907606001950938285454250989:=rfl
theorem ws_LL:ws 4 LL=#[.int .u64 6346243789798364141,.int .u64 1503914060200516822,.int .u64 0,.int .u64 1152921504606846976]:=by kernel_rfl
structure OG (w:World):Prop where
 lt:0<w.heap.size
 c0:w.cell? ⟨0,0,none⟩=some (.int .u64 6346243789798364141)
 c1:w.cell? ⟨0,1,none⟩=some (.int .u64 1503914060200516822)
 c2:w.cell? ⟨0,2,none⟩=some (.int .u64 0)
 c3:w.cell? ⟨0,3,none⟩=some (.int .u64 1152921504606846976)
theorem OG.below {w w':World} {B:Nat} (h:OG w) (hb:Below B w w') (hB:0<B) (hs:w.heap.size≤w'.heap.size):OG w' :=
 ⟨Nat.lt_of_lt_of_le h.lt hs,(hb.cell (p:=⟨0,0,none⟩) hB).trans h.c0,(hb.cell (p:=⟨0,1,none⟩) hB).trans h.c1,(hb.cell (p:=⟨0,2,none⟩) hB).trans h.c2,(hb.cell (p:=⟨0,3,none⟩) hB).trans h.c3⟩
theorem OG.ext {w w':World} (h:OG w) (hb:Below w.heap.size w w'):OG w':=h.below hb h.lt hb.size
theorem OG.drew {w:World} (h:OG w):OG w.drew:=⟨h.1,h.2,h.3,h.4,h.5⟩
theorem OG.alloc {w:World} (h:OG w) (o:Obj):OG (w.alloc o):=h.ext ((Below.refl _ _).alloc (Nat.le_refl _) _)
theorem _root_.Go.Proofs.YtpagiffbjofihaaGreatDoor.Fr.og {w W:World} {L:List (Nat × TypeId × Array Value)} {R:List (Nat × TypeId × Nat)} (h:Fr w W L R) (hp:OG w):OG W:=hp.ext h.below
def lf (n k:Nat):Nat:=n/2^(512-k)%LL
theorem lf_lt (n k:Nat):lf n k<LL:=Nat.mod_lt _ (by rw [nP];omega)
theorem b8 {x:Nat} (h:x=512):(18446744073709551616:Nat)^8=2^x:=by
 have e:(18446744073709551616:Nat)=2^64:=by decide
 rw [e,←Nat.pow_mul]
 have e2:64*8=x:=by omega
 rw [e2]
theorem lf_zero {n:Nat} (h:n<18446744073709551616^8):lf n 0=0:=by
 unfold lf
 generalize hx:512-0=x
 have e:=b8 (x:=x) (by omega)
 rw [Nat.div_eq_of_lt (by rw [←e];exact h),Nat.zero_mod]
theorem lf_end (n:Nat):lf n 512=n%LL:=by
 unfold lf
 rw [Nat.sub_self,Nat.pow_zero,Nat.div_one]
theorem lf_step (n k:Nat) (hk:k<512):(2*lf n k+n/2^(511-k)%2)%LL=lf n (k+1):=by
 unfold lf
 have h1:512-(k+1)=511-k:=by omega
 have h2:512-k=511-k+1:=by omega
 have h3:n/2^(511-k)=2*(n/2^(511-k+1))+n/2^(511-k)%2:=by
  rw [Nat.pow_succ,←Nat.div_div_eq_div_mul]
  omega
 rw [h1,h2]
 conv=>rhs;rw [h3]
 rw [Nat.add_mod,Nat.mul_mod,Nat.mod_mod,←Nat.mul_mod,←Nat.add_mod]
theorem lf_more {n k m:Nat} (hk:k<512) (h:m+LL=2*lf n k+n/2^(511-k)%2+115792089237316195423570985008687907853269984665640564039457584007913129639936*0):m=lf n (k+1):=by
 have h1:=lf_step n k hk
 have h2:=lf_lt n k
 have h3:n/2^(511-k)%2<2:=Nat.mod_lt _ (by omega)
 rw [Nat.mul_zero,Nat.add_zero] at h
 rw [←h,Nat.add_mod_right,Nat.mod_eq_of_lt (by omega)] at h1
 exact h1
theorem lf_less {n k m:Nat} (hk:k<512) (hm:K256 m) (h:m+LL=2*lf n k+n/2^(511-k)%2+115792089237316195423570985008687907853269984665640564039457584007913129639936*1):2*lf n k+n/2^(511-k)%2=lf n (k+1):=by
 have h1:=lf_step n k hk
 rw [Nat.mod_eq_of_lt (by omega)] at h1
 exact h1
set_option maxRecDepth 100000 in
theorem rest_any (n:Nat) (w:World) (hog:OG w) (hn:n<18446744073709551616^8) :
  Calls zP 51 #[.agg (ws 8 n)] w (KeyPost (n%LL) w):=by
 have hfr:=(((Fr.start w).row (ws 8 n) 91 (g:=w.heap.size) rfl).any (ks 0) 23 32 (aG 0) (g:=w.heap.size+1) (by simp)).row (ws 4 0) 54 (g:=w.heap.size+1+1) (by simp)
 rw [jW] at hfr
 have hfr2:=hfr
 rw [dK] at hfr2
 have HFR:=Lib.hid hfr2
 have HOG:=Lib.hid hog
 have hlz:=lf_zero hn
 have HLZ:=Lib.hid hlz
 clear hfr hfr2 hog hlz hn
 go_enter Tryz.func51,Tryz.ntmps51
 go_wp2_with (fail)
 go_loopw [7] (fun c wr=>∃ k:Nat,k≤512∧c=.int .i64 k∧Fr w wr [(w.heap.size+1+1,54,ws 4 (lf n k)),(w.heap.size,91,ws 8 n)] [(w.heap.size+1,23,32)]) (fun c _=>512-(intOf c).toNat)
 case atStart=>exact ⟨0,by omega,rfl,by rw [HLZ.out,jW];exact HFR.out⟩
 case round =>
  obtain ⟨k,hk,rfl,hF⟩:=hrel
  clear HFR HLZ
  by_cases hlt:k<512
  ·
   have hmore:=fun m=>@lf_more n k m hlt
   have hless:=fun m=>@lf_less n k m hlt
   have hl:=lf_lt n k
   rw [nP] at hl
   have hbit:=zM n (511-k)
   rw [show ((511-k:Nat):Int)=511-(k:Int) by omega] at hbit
   have hb2:n/2^(511-k)%2≤1:=by omega
   generalize n/2^(511-k)%2=t at *
   generalize lf n k=r at *
   obtain ⟨q,hq⟩:∃ q,q=2*r+t:=⟨_,rfl⟩
   have hdbl:=fun W=>double_any r t W hb2 (by omega)
   rw [←hq] at hdbl
   simp only [←hq] at hmore hless
   have hql:K256 q:=by omega
   clear hl hb2 hq
   have hS:Fr w wr [(w.heap.size,91,ws 8 n)] [(w.heap.size+1,23,32)]:=hF.sub (by simp) (by simp)
   have kz:=hF.get (g:=w.heap.size+1+1) (t:=54) (cs:=ws 4 r) (by simp)
   have KZ0:=Lib.hid kz.drew
   have HS:=Lib.hid hS
   have hsz:=hF.size
   have hzz:w.heap.size+1+1<wr.heap.size:=kz.lt
   have HMORE:=Lib.hid hmore
   have HLESS:=Lib.hid hless
   have HBIT:=Lib.hid hbit
   have HDBL:=Lib.hid hdbl
   clear hmore hless hbit hdbl hS kz hF
   have b1:IntKind.i64.wrap (511-(k:Int))=511-(k:Int):=by rw [IntKind.wrap_i64];omega
   go_wp2_with (fail)
   go_cut [] (fun wz=>Fr w wz [(w.heap.size+1+1,54,ws 4 q),(w.heap.size,91,ws 8 n)] [(w.heap.size+1,23,32)])
   case first =>
    refine wp_region_held_drew (S:=fun W=>Fr w W [(w.heap.size,91,ws 8 n)] [(w.heap.size+1,23,32)]) (by kernel_rfl) ?_ (fun hHeld=>?_)
    ·
     exact HS.out.drew
    refine wpAnyH_take (i:=1) (v:=.agg (ws 8 n)) rfl (by kernel_rfl) (by kernel_rfl) (by kernel_rfl) (fun _ _ _ h=>h) (cY (by rfl) 91 (.tmp 1) rfl (w.heap.size) rfl 91 (ws 8 n) _ (fun W (h:Fr _ W _ _)=>h.get (by simp)) Tryz.underlying91 rfl (mH n)) hHeld ?_
    try simp only [Act.put,lA,lB,lC,lD,lE,lF]
    refine tk 2 hHeld ?_
    try simp only [Act.put,lA,lB,lC,lD,lE,lF]
    refine tk 3 hHeld ?_
    try simp only [Act.put,lA,lB,lC,lD,lE,lF]
    have KZ:=KZ0
    clear KZ0
    refine wpAnyH_ready (rs:=[0,4]) (by kernel_rfl) (by simp) (AllReadyH.cons rfl (fun K hK=>?_) (AllReadyH.cons rfl (fun K hK=>?_) AllReadyH.nil))
    ·
     have h0:=hHeld
     clear hHeld
     try simp only [lA,lB,lC]
     rw [if_pos (by rfl)]
     refine wp_load_row 54 (.tmp 3) rfl (w.heap.size+1+1) rfl 54 (ws 4 r) (0,0) _ KZ.out Tryz.underlying54 rfl (dB r) ?_
     refine hK.out _ _ h0 (fun hHeld=>?_)
     clear hK K h0
     try simp only [Act.put,lA,lB,lC,lD,lE,lF]
     refine wpAnyH_ready (rs:=[4]) (by kernel_rfl) (by simp) (AllReadyH.cons rfl (fun K hK=>?_) AllReadyH.nil)
     have h0:=hHeld
     clear hHeld
     try simp only [lA,lB,lC]
     have H0:=Lib.hid h0
     clear h0
     go_simp
     go_at_call 98
     refine (HBIT.out _ (by omega)).mono ?_
     rintro e vv ⟨rfl,hb⟩
     have kz:=KZ.out.below hb KZ.out.lt
     clear KZ
     have KZ:=Lib.hid kz
     clear kz
     have h1:=H0.out.ext hb
     clear hb H0
     go_wp2_with (fail)
     refine hK.out _ _ h1 (fun hHeld=>?_)
     clear hK K h1
     try simp only [Act.put,lA,lB,lC,lD,lE,lF]
     refine wpAnyH_ready (rs:=[5]) (by kernel_rfl) (by simp) (AllReadyH.cons rfl (fun K hK=>?_) AllReadyH.nil)
     have h0:=hHeld
     clear hHeld
     try simp only [lA,lB,lC]
     have H0:=Lib.hid h0
     clear h0
     go_simp
     go_at_call 97
     refine (HDBL.out _).mono ?_
     rintro e vv ⟨rfl,hb⟩
     have kz:=KZ.out.below hb KZ.out.lt
     clear KZ
     have KZ:=Lib.hid kz
     clear kz
     have h1:=H0.out.ext hb
     clear hb H0
     go_wp2_with (fail)
     refine hK.out _ _ h1 (fun hHeld=>?_)
     clear hK K h1
     try simp only [Act.put,lA,lB,lC,lD,lE,lF]
     refine wpAnyH_ready (rs:=[6]) (by kernel_rfl) (by simp) (AllReadyH.cons rfl (fun K hK=>?_) AllReadyH.nil)
     have h0:=hHeld
     clear hHeld
     try simp only [lA,lB,lC]
     rw [if_pos (by rfl)]
     refine wp_store_row 54 (.tmp 3) (.tmp 15) rfl (w.heap.size+1+1) (ws 4 q) rfl rfl 54 _ KZ.out (dB q) rfl (iN _ _) ?_
     refine hK.out _ _ (Fr.setOut h0 (g:=w.heap.size+1+1) (by omega) (by simp<;>omega) (by simp<;>omega) _) (fun hHeld=>?_)
     have kb:=KZ.out.setRow_same (ws 4 q)
     clear hK K h0
     try simp only [Act.put,lA,lB,lC,lD,lE,lF]
     refine wpAnyH_done (by kernel_rfl) ?_ _
     have hf4:=hHeld.more kb
     have HF4:=Lib.hid hf4
     clear hHeld hf4 kb
     go_wp2_with (fail)
     go_meet
     exact HF4.out
    ·
     have h0:=hHeld
     clear hHeld
     try simp only [lA,lB,lC]
     have H0:=Lib.hid h0
     clear h0
     go_simp
     go_at_call 98
     refine (HBIT.out _ (by omega)).mono ?_
     rintro e vv ⟨rfl,hb⟩
     have kz:=KZ.out.below hb KZ.out.lt
     clear KZ
     have KZ:=Lib.hid kz
     clear kz
     have h1:=H0.out.ext hb
     clear hb H0
     go_wp2_with (fail)
     refine hK.out _ _ h1 (fun hHeld=>?_)
     clear hK K h1
     try simp only [Act.put,lA,lB,lC,lD,lE,lF]
     refine wpAnyH_ready (rs:=[0]) (by kernel_rfl) (by simp) (AllReadyH.cons rfl (fun K hK=>?_) AllReadyH.nil)
     have h0:=hHeld
     clear hHeld
     try simp only [lA,lB,lC]
     rw [if_pos (by rfl)]
     refine wp_load_row 54 (.tmp 3) rfl (w.heap.size+1+1) rfl 54 (ws 4 r) (0,0) _ KZ.out Tryz.underlying54 rfl (dB r) ?_
     refine hK.out _ _ h0 (fun hHeld=>?_)
     clear hK K h0
     try simp only [Act.put,lA,lB,lC,lD,lE,lF]
     refine wpAnyH_ready (rs:=[5]) (by kernel_rfl) (by simp) (AllReadyH.cons rfl (fun K hK=>?_) AllReadyH.nil)
     have h0:=hHeld
     clear hHeld
     try simp only [lA,lB,lC]
     have H0:=Lib.hid h0
     clear h0
     go_simp
     go_at_call 97
     refine (HDBL.out _).mono ?_
     rintro e vv ⟨rfl,hb⟩
     have kz:=KZ.out.below hb KZ.out.lt
     clear KZ
     have KZ:=Lib.hid kz
     clear kz
     have h1:=H0.out.ext hb
     clear hb H0
     go_wp2_with (fail)
     refine hK.out _ _ h1 (fun hHeld=>?_)
     clear hK K h1
     try simp only [Act.put,lA,lB,lC,lD,lE,lF]
     refine wpAnyH_ready (rs:=[6]) (by kernel_rfl) (by simp) (AllReadyH.cons rfl (fun K hK=>?_) AllReadyH.nil)
     have h0:=hHeld
     clear hHeld
     try simp only [lA,lB,lC]
     rw [if_pos (by rfl)]
     refine wp_store_row 54 (.tmp 3) (.tmp 15) rfl (w.heap.size+1+1) (ws 4 q) rfl rfl 54 _ KZ.out (dB q) rfl (iN _ _) ?_
     refine hK.out _ _ (Fr.setOut h0 (g:=w.heap.size+1+1) (by omega) (by simp<;>omega) (by simp<;>omega) _) (fun hHeld=>?_)
     have kb:=KZ.out.setRow_same (ws 4 q)
     clear hK K h0
     try simp only [Act.put,lA,lB,lC,lD,lE,lF]
     refine wpAnyH_done (by kernel_rfl) ?_ _
     have hf4:=hHeld.more kb
     have HF4:=Lib.hid hf4
     clear hHeld hf4 kb
     go_wp2_with (fail)
     go_meet
     exact HF4.out
   case rest =>
    have hF:=hcut
    have hO:=hF.og HOG.out
    obtain ⟨hz,p0,p1,p2,p3⟩:=hO
    have k5:=hF.get (g:=w.heap.size+1+1) (t:=54) (cs:=ws 4 q) (by simp)
    have HF:=Lib.hid hF
    clear hF hcut
    go_wp2_with (first | (refine wpList_load_row rfl 54 (.tmp 3) rfl (w.heap.size+1+1) rfl 54 (ws 4 q) (0,0) _ k5 Tryz.underlying54 rfl (dB q) ?_))
    have hm:=fun W=>iL q LL W hql (by rw [nP];omega)
    simp only [ws_LL] at hm
    refine (hm _).mono ?_
    clear hm
    rintro e v1 ⟨m,c,rfl,e1,l1,c1,hb⟩
    have f1:=HF.out.ext hb
    have f2:=f1.row (ws 4 0) 54 (g:=v1.heap.size) rfl
    rw [jW] at f2
    have hz2:w.heap.size+1+1<v1.heap.size:=by have:=(f1.get (g:=w.heap.size+1+1) (t:=54) (cs:=ws 4 q) (by simp)).lt;omega
    have kl:=f2.get (g:=v1.heap.size) (t:=54) (cs:=#[.int .u64 0,.int .u64 0,.int .u64 0,.int .u64 0]) (by simp)
    have f3:=f2.setRowHead (by simp<;>omega) (by simp<;>omega) (ws 4 m) (by omega)
    have F3:=Lib.hid f3
    have KL:=Lib.hid kl
    clear f1 f2 f3 kl hb k5
    have hcc:c=0∨c=1:=by omega
    rcases hcc with rfl | rfl
    ·
     have hr:=HMORE.out m (by rw [e1])
     have HR:=Lib.hid hr
     have k6:=F3.out.get (g:=v1.heap.size) (t:=54) (cs:=ws 4 m) (by simp)
     have k7:=F3.out.get (g:=w.heap.size+1+1) (t:=54) (cs:=ws 4 q) (by simp)
     have f4:=(F3.out.sub (L':=[(w.heap.size+1+1,54,ws 4 q),(w.heap.size,91,ws 8 n)]) (R':=[(w.heap.size+1,23,32)]) (by simp) (by simp)).setRowHead (by simp<;>omega) (by simp) (ws 4 m) (by omega)
     have F4:=Lib.hid f4
     have K6:=Lib.hid k6
     have K7:=Lib.hid k7
     clear hr f4 e1 k6 k7
     go_wp2_with (first | (refine wpList_store_row rfl 54 (.tmp 5) (.tmp 20) rfl (v1.heap.size) (ws 4 m) rfl rfl 54 _ KL.out (dB m) rfl (iN _ _) ?_) | (refine wpList_load_row rfl 54 (.tmp 5) rfl (v1.heap.size) rfl 54 (ws 4 m) (0,0) _ K6.out Tryz.underlying54 rfl (dB m) ?_) | (refine wpList_store_row rfl 54 (.tmp 3) (.tmp 24) rfl (w.heap.size+1+1) (ws 4 m) rfl rfl 54 _ K7.out (dB m) rfl (iN _ _) ?_))
     go_roundw
     case rel=>exact ⟨k+1,by omega,by go_num,by rw [←HR.out];exact F4.out⟩
     case measure=>simp [intOf]<;>omega
    ·
     have hr:=HLESS.out m l1 (by rw [e1])
     have HR:=Lib.hid hr
     have f4:=(F3.out.sub (L':=[(w.heap.size+1+1,54,ws 4 q),(w.heap.size,91,ws 8 n)]) (R':=[(w.heap.size+1,23,32)]) (by simp) (by simp))
     have F4:=Lib.hid f4
     clear hr f4 e1
     go_wp2_with (first | (refine wpList_store_row rfl 54 (.tmp 5) (.tmp 20) rfl (v1.heap.size) (ws 4 m) rfl rfl 54 _ KL.out (dB m) rfl (iN _ _) ?_))
     go_roundw
     case rel=>exact ⟨k+1,by omega,by go_num,by rw [←HR.out];exact F4.out⟩
     case measure=>simp [intOf]<;>omega
  ·
   obtain rfl:k=512:=by omega
   have hl:=lf_lt n 512
   rw [lf_end] at hF hl
   generalize n%LL=m at *
   rw [nP] at hl
   have kT:=hF.get (g:=w.heap.size+1+1) (t:=54) (cs:=ws 4 m) (by simp)
   have HF:=Lib.hid hF
   clear hF
   go_wp2_with (first | (refine wpList_load_row rfl 54 (.tmp 3) rfl (w.heap.size+1+1) rfl 54 (ws 4 m) (0,0) _ kT Tryz.underlying54 rfl (dB m) ?_))
   have hby:=fun W=>gF m W (by omega)
   simp only [es_ws] at hby
   refine (hby _).mono ?_
   rintro e v1 ⟨rfl,hb⟩
   have f1:=HF.out.ext hb
   obtain ⟨old,hold,kR⟩:=f1.old (g:=w.heap.size+1) (t:=23) (n:=32) (by simp)
   have kS:=kR.setRow_same (ks m)
   have hB:=below_setRow f1.below (show w.heap.size≤w.heap.size+1 by omega) (ks m)
   have hold':old.size=(ks m).size:=by rw [hold,aG]
   have HS:=Lib.hid kS
   have HB:=Lib.hid hB
   have HO:=Lib.hid hold'
   clear hby hb f1 kS hB hold hold' kT
   go_wp2_with (first | (refine wpList_store_row rfl 23 (.tmp 2) (.tmp 27) rfl (w.heap.size+1) (ks m) rfl rfl 23 old kR (aL m) HO.out (bU _) ?_))
   exact bodyPost_ret (results_cell_row rfl _ _ (w.heap.size+1) 23 (ks m) (0,0) _ rfl HS.out Tryz.underlying23 rfl (aL m)) rfl ⟨rfl,HB.out⟩
end Scl
end
end Go.Proofs.YtpagiffbjofihaaGreatDoor
