/- Words, contracts and walks (Gd, Gr, Gm, Ge, Gt), laid together. No condition. -/
import Derived.Test.YtpagiffbjofihaaGreatDoorZe
namespace Go.Proofs.YtpagiffbjofihaaGreatDoor
set_option linter.unusedVariables false
set_option linter.unusedSimpArgs false
set_option maxHeartbeats 16000000
open Go
open _root_.Go.Proofs.Tryz renaming prog → zP
open List renaming getElem_toArray → lA,getElem_cons_succ → lB,getElem_cons_zero → lC,setIfInBounds_toArray → lD,set_cons_zero → lE,set_cons_succ → lF
section
set_option maxRecDepth 99999
open Go Go.RowKit
abbrev SB:Rel:=fun w w'=>Below w.heap.size w w'
def WR (B:Nat) (h:Hep):Rel:=fun w w'=>∃ row,w.grownBy w' row∧∀ g,row=some g→B≤g∧(∀ p∈h,p.1≠g)∧∃ cur,w.heap[g]?=some (.cells cur 5 (0,0))
def OF (B:Nat) (h:Hep) (l:List UInt8) (v:Value) (w:World):Prop:=OwnB w B 5 v l∧∀ g,v.ownBlock=some g→∀ p∈h,p.1≠g
structure UC (cur:Array Value) (n cap:Nat) (l:List Value):Prop where
 le:n≤cap
 max:cap≤maxLen
 size:cur.size=cap
 take:cur.toList.take n=l
 len:l.length=n
abbrev US8 (cur:Array Value) (n cap:Nat) (l:List UInt8):Prop:=UC cur n cap (l.map bv)
abbrev US64 (cur:Array Value) (n cap:Nat) (l:List Nat):Prop:=UC cur n cap (l.map (nc .u64))
theorem UC.at_ {cur:Array Value} {n cap:Nat} {l:List Value} (h:UC cur n cap l) {j:Nat} {u:Value} (hj:l[j]?=some u):cur[j]?=some u:=by
 rw [←h.take,List.getElem?_take] at hj
 split at hj
 ·
  rw [←Array.getElem?_toList]
  exact hj
 ·
  cases hj
theorem bf_uc {w:World} {g n cap:Nat} {cur:Array Value} {l:List UInt8} (hb:Blk w g 5 cur) (hu:US8 cur n cap l):BF l (.slice (some ⟨g,0,none⟩) n cap) w:=by
 have hl:l.length=n:=by simpa using hu.len
 refine ⟨_,_,_,rfl,hl,hu.le,(by intro e;cases e),fun _=>⟨g,0,rfl,hb.lt,fun j x hx=>?_⟩⟩
 rw [Nat.zero_add,hb.cell]
 exact hu.at_ (by rw [List.getElem?_map,hx];rfl)
theorem us_uc {w:World} {g n cap:Nat} {t:TypeId} {cur:Array Value} {l:List Nat} (hb:Blk w g t cur) (hu:US64 cur n cap l):Sha.US w w.heap.size (some ⟨g,0,none⟩) n cap l:=by
 have hl:l.length=n:=by simpa using hu.len
 refine ⟨hl,hu.le,(by intro e;cases e),fun _=>⟨g,0,rfl,hb.lt,fun j x hx=>?_⟩⟩
 rw [Nat.zero_add,hb.cell]
 exact hu.at_ (by rw [List.getElem?_map,hx];rfl)
theorem own_uc {w:World} {base:Nat} {e:TypeId} {v:Value} {n:Nat} {xs:List Value} (h:w.ownsRow base e 1 v n xs) (hn:0<n):∃ g cap cur,v=.slice (some ⟨g,0,none⟩) n cap∧base≤g∧Blk w g e cur∧UC cur n cap xs:=by
 obtain ⟨h0,h1⟩:=h
 rcases h1 with ⟨_,h2⟩ | ⟨g,cap,cur,rfl,hb,hh,hc,hm,hs,ht⟩
 ·
  omega
 ·
  exact ⟨g,cap,cur,rfl,hb,hh,hc,hm,by omega,by rw [←ht,Nat.mul_one],by omega⟩
section
variable {P:Program} {n:Nat} {w0 w w':World} {a:Act} {e:Env} {h:Hep} {Q:Exit→Act→World→Prop} {ops:Array Oper} {o:Oper}
theorem dA:∀ (a:Act) (w w':World),St n w0 a w e h→SB w w'→St n w0 a w' e h:=fun _ _ _ H hb=>H.call hb
theorem wr_st:∀ (a:Act) (w w':World),St n w0 a w e h→WR w0.heap.size h w w'→St n w0 a w' e h:=fun a w w' H ⟨row,hg,hr⟩ =>
 ⟨H.size,H.defers,H.env,H.below.grown hg H.below.size (fun g hg'=>(hr g hg').1),fun p hp=>(hg.block p.1 (H.heap p hp).lt (fun e=>(hr p.1 e.symm).2.1 p hp rfl)).trans (H.heap p hp),H.own,H.apart⟩
abbrev ObS (P:Program) (ops:Array Oper) (Q:Exit→Act→World→Prop) (o:Oper) (a:Act) (w:World) (F:Value→World→Prop):Prop :=
 Region.wanted o (yielded ops a.tmps)=true∧o.wp P a w (fun a' w'=>∃ v,a'=a.put o.dst v∧SB w w'∧F v w') Q
theorem aR {V:Value} (H:St n w0 a w e h) (hw:∀ a w,St n w0 a w e h→Region.wanted o (yielded ops a.tmps)=true) (hd:Does P Q n w0 e h o V):ObS P ops Q o a w (fun v _=>v=V) :=
 ⟨hw a w H,Oper.wp_mono (fun a' w' hx=>⟨V,hx.1,hx.2,rfl⟩) (hd a w H)⟩
theorem pF {R:Rel} {F:Value→World→Prop} (H:St n w0 a w e h) (hw:∀ a w,St n w0 a w e h→Region.wanted o (yielded ops a.tmps)=true) (hr:∃ v w',(execOp a.eval o).run P w=.ok (.value v) w'∧R w w'∧F v w') :
  Region.wanted o (yielded ops a.tmps)=true∧o.wp P a w (fun a' w'=>∃ v,a'=a.put o.dst v∧R w w'∧F v w') Q:=by
 refine ⟨hw a w H,?_⟩
 obtain ⟨v,w',h1,h2,h3⟩:=hr
 unfold Oper.wp
 rw [h1]
 exact ⟨v,rfl,h2,h3⟩
theorem tQ {f:FuncId} {args:List Operand} {tys:Array TypeId} {vs:List Value} {F:Value→World→Prop} (H:St n w0 a w e h) (hw:∀ a w,St n w0 a w e h→Region.wanted o (yielded ops a.tmps)=true)
  (ho:o.op=.call { callee:=.value (.func f),args:=args.toArray,argTypes:=tys }) (hf:Ours P f) (hx:sevs e args=some vs)
  (hc:Calls P f vs.toArray w (fun r W'=>∃ v,r=.returned v∧Below w.heap.size w W'∧F v W')):ObS P ops Q o a w F:=by
 refine ⟨hw a w H,?_⟩
 unfold Oper.wp
 rw [sR ho hf rfl,H.evs hx,Oper.upon_enter]
 refine hc.mono ?_
 rintro r W' ⟨v,rfl,hb,hF⟩
 exact ⟨v,rfl,hb,hF⟩
theorem cT {f:FuncId} {args:List Operand} {tys:Array TypeId} {vs:List Value} {V:Value} (H:St n w0 a w e h) (hw:∀ a w,St n w0 a w e h→Region.wanted o (yielded ops a.tmps)=true)
  (ho:o.op=.call { callee:=.value (.func f),args:=args.toArray,argTypes:=tys }) (hf:Ours P f) (hx:sevs e args=some vs)
  (hc:Calls P f vs.toArray w (fun r W'=>r=.returned V∧Below w.heap.size w W')):ObS P ops Q o a w (fun v _=>v=V) :=
 tQ H hw ho hf hx (hc.mono fun r W' ⟨h1,h2⟩=>⟨V,h1,h2,rfl⟩)
end
section
variable {n:Nat} {w0 w w':World} {a:Act} {e:Env} {h:Hep} {Q:Exit→Act→World→Prop} {ops:Array Oper} {o:Oper}
theorem iK {x:Operand} {v:Value} {l:List UInt8} (H:St n w0 a w e h) (hw:∀ a w,St n w0 a w e h→Region.wanted o (yielded ops a.tmps)=true) (ho:o.op=.buildSlice 51 1 #[(0,x)]) (hx:sev e x=some v) (hv:BF l v w) :
  ObS zP ops Q o a w (LF [l]):=by
 refine pF H hw ?_
 obtain ⟨A,k,c,rfl,hb⟩:=hv
 obtain ⟨h1,h2⟩:=tY ((PV.nil w w.heap.size).cons hb) (k:=1) rfl
 refine ⟨_,_,?_,h1,h2⟩
 simp [execOp,ho,H.ev hx,wD,Result.andThen]
theorem qL {x y:Operand} {v u:Value} {l m:List UInt8} (H:St n w0 a w e h) (hw:∀ a w,St n w0 a w e h→Region.wanted o (yielded ops a.tmps)=true) (ho:o.op=.buildSlice 51 2 #[(0,x),(1,y)]) (hx:sev e x=some v) (hy:sev e y=some u) (hv:BF l v w) (hu:BF m u w) :
  ObS zP ops Q o a w (LF [l,m]):=by
 refine pF H hw ?_
 obtain ⟨A,k,c,rfl,hb⟩:=hv
 obtain ⟨A2,k2,c2,rfl,hb2⟩:=hu
 obtain ⟨h1,h2⟩:=tY (((PV.nil w w.heap.size).cons hb2).cons hb) (k:=2) rfl
 refine ⟨_,_,?_,h1,h2⟩
 simp [execOp,ho,H.ev hx,H.ev hy,wC,Result.andThen]
theorem ob_rows3S {x y z:Operand} {v u t:Value} {l m k:List UInt8} (H:St n w0 a w e h) (hw:∀ a w,St n w0 a w e h→Region.wanted o (yielded ops a.tmps)=true) (ho:o.op=.buildSlice 51 3 #[(0,x),(1,y),(2,z)]) (hx:sev e x=some v) (hy:sev e y=some u) (hz:sev e z=some t) (hv:BF l v w) (hu:BF m u w) (ht:BF k t w) :
  ObS zP ops Q o a w (LF [l,m,k]):=by
 refine pF H hw ?_
 obtain ⟨A,i,c,rfl,hb⟩:=hv
 obtain ⟨A2,i2,c2,rfl,hb2⟩:=hu
 obtain ⟨A3,i3,c3,rfl,hb3⟩:=ht
 obtain ⟨h1,h2⟩:=tY ((((PV.nil w w.heap.size).cons hb3).cons hb2).cons hb) (k:=3) rfl
 refine ⟨_,_,?_,h1,h2⟩
 simp [execOp,ho,H.ev hx,H.ev hy,H.ev hz,run_rows3,Result.andThen]
theorem u8_info:(zP.info? 5).map (fun i=>(i.zero,i.size,i.bytes))=some (some (.int .u8 0),1,1):=by kernel_rfl
theorem grown_none {w w':World} (h:w.grownBy w' none):SB w w':=(Below.refl _ _).grown h (Nat.le_refl _) (fun g e=>by cases e)
theorem of_after {B:Nat} {h:Hep} {l:List UInt8} {v v':Value} {w w':World} (H:St n w0 a w e h) (hv:∀ g,v.ownBlock=some g→∀ p∈h,p.1≠g) (h2:v'.ownBlock=v.ownBlock∨v'.ownBlock=some w.heap.size) (ho:OwnB w' B 5 v' l):OF B h l v' w':=by
 refine ⟨ho,fun g hg p hp=>?_⟩
 rcases h2 with h2 | h2
 ·
  exact hv g (h2 ▸ hg) p hp
 ·
  rw [h2] at hg
  injection hg with hg
  subst hg
  exact Nat.ne_of_lt (H.heap p hp).lt
theorem ob_app0S {x:Operand} {u:Value} {l:List UInt8} (H:St n w0 a w e h) (hw:∀ a w,St n w0 a w e h→Region.wanted o (yielded ops a.tmps)=true) (ho:o.op=.call { callee:=.builtin .append,args:=#[.const (.slice none 0 0),x],argTypes:=#[24,24] })
  (hx:sev e x=some u) (hu:BF l u w) (hs:l.length≤1000000):ObS zP ops Q o a w (OF w0.heap.size h l):=by
 refine pF H hw ?_
 obtain ⟨A,k,c,rfl,hr⟩:=hu
 have hk:=hr.len
 obtain ⟨v',w',h1,h2,h3,h4⟩:=mE (P:=zP) (w:=w) 24 o.type 5 Tryz.underlying24 u8_info w0.heap.size (.slice none 0 0) [] (OwnB.nil _ _ _) _ k c A l hr (by simp only [List.length_nil];omega) H.below.size
 refine ⟨v',w',?_,grown_none h3,of_after H (v:=.slice none 0 0) (fun g hg=>by cases hg) h4 (by simpa using h2)⟩
 have hc:a.eval (.const (.slice none 0 0))=.slice none 0 0:=rfl
 simp [execOp,ho,resolve,invoke,builtin,hc,H.ev hx,h1,Result.andThen]
theorem ob_appW {x y:Operand} {v u:Value} {l m:List UInt8} (H:St n w0 a w e h) (hw:∀ a w,St n w0 a w e h→Region.wanted o (yielded ops a.tmps)=true) (ho:o.op=.call { callee:=.builtin .append,args:=#[x,y],argTypes:=#[24,24] })
  (hx:sev e x=some v) (hy:sev e y=some u) (hv:OF w0.heap.size h l v w) (hu:BF m u w) (hs:l.length+m.length≤1000000) :
  Region.wanted o (yielded ops a.tmps)=true∧o.wp zP a w (fun a' w'=>∃ v,a'=a.put o.dst v∧WR w0.heap.size h w w'∧OF w0.heap.size h (l++m) v w') Q:=by
 refine pF H hw ?_
 obtain ⟨A,k,c,rfl,hr⟩:=hu
 have hk:=hr.len
 obtain ⟨hown,hap⟩:=hv
 obtain ⟨v',w',h1,h2,h3,h4⟩:=mE (P:=zP) (w:=w) 24 o.type 5 Tryz.underlying24 u8_info w0.heap.size v l hown _ k c A m hr (by omega) H.below.size
 refine ⟨v',w',?_,⟨_,h3,fun g hg=>⟨(hown.own hg).1,fun p hp=>hap g hg p hp,?_⟩⟩,of_after H hap h4 h2⟩
 ·
  simp [execOp,ho,resolve,invoke,builtin,H.ev hx,H.ev hy,h1,Result.andThen]
 ·
  rcases hown.2 with ⟨rfl,_⟩ | ⟨g',cap,cur,rfl,_,hh,_⟩
  ·
   cases hg
  ·
   injection hg with hg
   subst hg
   exact ⟨cur,hh⟩
end
theorem BF.sb {l:List UInt8}:∀ (v:Value) (w w':World),BF l v w→SB w w'→BF l v w':=fun v w w' h hb=>BF.below h hb
theorem RF.sb {L:List (List UInt8)}:∀ (v:Value) (w w':World),RF L v w→SB w w'→RF L v w':=fun v w w' h hb=>RF.below h hb
theorem LF.sb {L:List (List UInt8)}:∀ (v:Value) (w w':World),LF L v w→SB w w'→LF L v w':=fun v w w' h hb=>LF.grow (B:=0) (h:=[]) v w w' h (gro hb (Nat.zero_le _))
theorem NewF.sb {B:Nat} {h:Hep} {t:TypeId} {z:Array Value}:∀ (v:Value) (w w':World),NewF B h t z v w→SB w w'→NewF B h t z v w':=fun v w w' ⟨g,e,hb,h1,h2⟩ hs=>⟨g,e,hb.below hs hb.lt,h1,h2⟩
theorem NewF.wr {B B':Nat} {h h':Hep} {t:TypeId} {z:Array Value} (ht:t≠5):∀ (v:Value) (w w':World),NewF B h t z v w→WR B' h' w w'→NewF B h t z v w':=fun v w w' ⟨g,e,hb,h1,h2⟩ ⟨row,hg,hr⟩=>⟨g,e,(hg.block g hb.lt (fun e2=>by
 obtain ⟨_,_,cur,hc⟩:=hr g e2.symm
 have h3:=hb.symm.trans hc
 injection h3 with h3
 injection h3 with h3 h4
 exact ht h4)).trans hb,h1,h2⟩
theorem OF.sb {B:Nat} {h:Hep} {l:List UInt8}:∀ (v:Value) (w w':World),OF B h l v w→SB w w'→OF B h l v w':=fun v w w' ⟨ho,ha⟩ hb=>by
 refine ⟨⟨ho.1,ho.2.imp id ?_⟩,ha⟩
 rintro ⟨g,cap,cur,rfl,h1,hh,r⟩
 exact ⟨g,cap,cur,rfl,h1,(hb.block g (Array.getElem?_eq_some_iff.1 hh).1).trans hh,r⟩
theorem OF.bf {B:Nat} {h:Hep} {l:List UInt8} {v:Value} {w:World} (hv:OF B h l v w):BF l v w:=by
 obtain ⟨A,n,c,e,hb,_⟩:=hv.1.form
 exact ⟨A,n,c,e,hb⟩
theorem OF.uc {B:Nat} {h:Hep} {l:List UInt8} {v:Value} {w:World} {n:Nat} (hv:OF B h l v w) (hn:l.length=n) (h0:0<n):∃ g cap cur,v=.slice (some ⟨g,0,none⟩) n cap∧Blk w g 5 cur∧B≤g∧(∀ p∈h,p.1≠g)∧US8 cur n cap l:=by
 obtain ⟨ho,ha⟩:=hv
 unfold OwnB at ho
 rw [hn] at ho
 obtain ⟨g,cap,cur,rfl,h1,h2,h3⟩:=own_uc ho h0
 exact ⟨g,cap,cur,rfl,h2,h1,ha g rfl,h3⟩
def sgd (gS cS gK cK:Nat) (d:Fin PP) (r:Pj3):Array Value:=#[.slice (some ⟨gS,0,none⟩) 8 cS,.slice (some ⟨gK,0,none⟩) 80 cK]++cv d r
def sg (gS cS gK cK:Nat):Array Value:=sgd gS cS gK cK TD BR
def sg0:Array Value:=#[.slice none 0 0,.slice none 0 0]++cv 0 RZ
theorem sgd_size (gS cS gK cK:Nat) (d:Fin PP) (r:Pj3):(sgd gS cS gK cK d r).size=66:=by unfold sgd;rw [Array.size_append,bJ];rfl
theorem cQ (gS cS gK cK:Nat):(sg gS cS gK cK).size=66:=sgd_size ..
theorem cL:sg0.size=66:=by unfold sg0;rw [Array.size_append,bJ];rfl
theorem sgd_one (gS cS gK cK:Nat) (d:Fin PP) (r:Pj3):(sgd gS cS gK cK d r).all (·.oneCell')=true:=by
 unfold sgd
 rw [Array.all_append,cv_one,Bool.and_true]
 simp [Value.oneCell']
theorem sg_one (gS cS gK cK:Nat):(sg gS cS gK cK).all (·.oneCell')=true:=sgd_one ..
theorem info_sgd (gS cS gK cK:Nat) (d:Fin PP) (r:Pj3):(zP.info? 37).map (·.size)=some (sgd gS cS gK cK d r).size:=by rw [sgd_size];kernel_rfl
theorem eW (gS cS gK cK:Nat):(zP.info? 37).map (·.size)=some (sg gS cS gK cK).size:=info_sgd ..
theorem al_sg (W:World):(Instr.alloc 37 true (.tuple #[])).run zP W=.ok (.pointer (some ⟨W.heap.size,0,none⟩)) (W.alloc (.cells sg0 37)):=by kernel_rfl
theorem bx_sgd (gS cS gK cK:Nat) (d:Fin PP) (r:Pj3) (W:World):(Instr.box 37 (.agg (sgd gS cS gK cK d r))).run zP W=.ok (.pointer (some ⟨W.heap.size,0,none⟩)) (W.alloc (.cells (sgd gS cS gK cK d r) 37)):=by kernel_rfl
theorem xI (gS cS gK cK:Nat) (W:World):(Instr.box 37 (.agg (sg gS cS gK cK))).run zP W=.ok (.pointer (some ⟨W.heap.size,0,none⟩)) (W.alloc (.cells (sg gS cS gK cK) 37)):=bx_sgd ..
theorem bd_sgd (gS cS gK cK:Nat) (d:Fin PP) (r:Pj3) (W:World):(Instr.build 37 [(0,.agg #[.slice (some ⟨gS,0,none⟩) 8 cS,.slice (some ⟨gK,0,none⟩) 80 cK]),(1,.agg (cv d r))].toArray).run zP W=.ok (.agg (sgd gS cS gK cK d r)) W:=run_build W 37 _ _ (by kernel_rfl)
theorem bd_sg (gS cS gK cK:Nat) (W:World):(Instr.build 37 [(0,.agg #[.slice (some ⟨gS,0,none⟩) 8 cS,.slice (some ⟨gK,0,none⟩) 80 cK]),(1,.agg (cv TD BR))].toArray).run zP W=.ok (.agg (sg gS cS gK cK)) W:=bd_sgd ..
theorem iU (g:Nat) (W:World):(Instr.fieldAt 37 (.pointer (some ⟨g,0,none⟩)) 0).run zP W=.ok (.pointer (some ⟨g,0,none⟩)) W∧(Instr.fieldAt 37 (.pointer (some ⟨g,0,none⟩)) 1).run zP W=.ok (.pointer (some ⟨g,2,none⟩)) W∧(Instr.fieldAt 35 (.pointer (some ⟨g,2,none⟩)) 1).run zP W=.ok (.pointer (some ⟨g,18,none⟩)) W:=by
 refine ⟨?_,?_,?_⟩<;>kernel_rfl
theorem info_begun2 (x y:Value):(zP.info? 28).map (·.size)=some (#[x,y]:Array Value).size:=by kernel_rfl
theorem sgd_0 (gS cS gK cK:Nat) (d:Fin PP) (r:Pj3):sgd gS cS gK cK d r=#[]++#[.slice (some ⟨gS,0,none⟩) 8 cS,.slice (some ⟨gK,0,none⟩) 80 cK]++cv d r:=by unfold sgd;simp
theorem sgd_1 (gS cS gK cK:Nat) (d:Fin PP) (r:Pj3):sgd gS cS gK cK d r=#[.slice (some ⟨gS,0,none⟩) 8 cS,.slice (some ⟨gK,0,none⟩) 80 cK]++cv d r++#[]:=by unfold sgd;simp
theorem sgd_2 (gS cS gK cK:Nat) (d:Fin PP) (r:Pj3):sgd gS cS gK cK d r=(#[.slice (some ⟨gS,0,none⟩) 8 cS,.slice (some ⟨gK,0,none⟩) 80 cK]++dv d)++tv r++#[]:=by unfold sgd cv;rw [Array.append_empty,Array.append_assoc]
theorem ld_sg0 {g gS cS gK cK:Nat} {t:TypeId} (W:World) (h:Blk W g t (sg gS cS gK cK)):(Instr.loadAt 28 (.pointer (some ⟨g,0,none⟩))).run zP W=.ok (.agg #[.slice (some ⟨gS,0,none⟩) 8 cS,.slice (some ⟨gK,0,none⟩) 80 cK]) W:=nZ h (sgd_0 ..) rfl Tryz.underlying28 rfl (info_begun2 _ _)
theorem nY {g gS cS gK cK:Nat} {t:TypeId} (W:World) (h:Blk W g t (sg gS cS gK cK)):(Instr.loadAt 35 (.pointer (some ⟨g,2,none⟩))).run zP W=.ok (.agg (cv TD BR)) W:=nZ h (sgd_1 ..) rfl Tryz.underlying35 rfl (iI _ _)
theorem ld_sg2 {g gS cS gK cK:Nat} {t:TypeId} (W:World) (h:Blk W g t (sg gS cS gK cK)):(Instr.loadAt 33 (.pointer (some ⟨g,18,none⟩))).run zP W=.ok (.agg (tv BR)) W:=nZ h (sgd_2 ..) (by rw [Array.size_append,aZ];rfl) Tryz.underlying33 rfl (cC _)
def SGF (gS cS gK cK:Nat) (w:World):Prop:=∃ curS curK,Blk w gS 29 curS∧Blk w gK 29 curK∧US64 curS 8 cS Sha.HS∧US64 curK 80 cK Sha.HK
def SG (v:Value) (w:World):Prop:=∃ gS cS gK cK,v=.agg (sg gS cS gK cK)∧SGF gS cS gK cK w
theorem SGF.sb {gS cS gK cK:Nat} {w w':World} (h:SGF gS cS gK cK w) (hb:Below w.heap.size w w'):SGF gS cS gK cK w':=by
 obtain ⟨curS,curK,h1,h2,h3,h4⟩:=h
 exact ⟨curS,curK,h1.below hb h1.lt,h2.below hb h2.lt,h3,h4⟩
theorem jD {n:Nat} {w0 w:World} {a:Act} {e:Env} {h:Hep} {gS cS gK cK:Nat} (hs:SGF gS cS gK cK w0) (H:St n w0 a w e h):SGF gS cS gK cK w:=by
 obtain ⟨curS,curK,h1,h2,h3,h4⟩:=hs
 exact ⟨curS,curK,zL h1 H,zL h2 H,h3,h4⟩
theorem SGF.sg {gS cS gK cK:Nat} {w:World} (h:SGF gS cS gK cK w):SG (.agg (sg gS cS gK cK)) w:=⟨gS,cS,gK,cK,rfl,h⟩
def BegF (B:Nat) (h:Hep) (v:Value) (w:World):Prop:=∃ gS cS curS gK cK curK,v=.agg (Go.Proofs.YtpagiffbjofihaaGreatDoor.sg gS cS gK cK)∧Blk w gS 29 curS∧Blk w gK 29 curK∧US64 curS 8 cS Sha.HS∧US64 curK 80 cK Sha.HK∧B≤gS∧B≤gK∧gS≠gK∧(∀ p∈h,p.1≠gS)∧∀ p∈h,p.1≠gK
theorem BegF.sb {B:Nat} {h:Hep}:∀ (v:Value) (w w':World),BegF B h v w→SB w w'→BegF B h v w':=fun v w w' ⟨gS,cS,curS,gK,cK,curK,e,h1,h2,r⟩ hb=>⟨gS,cS,curS,gK,cK,curK,e,h1.below hb h1.lt,h2.below hb h2.lt,r⟩
theorem BegF.sg {B:Nat} {h:Hep} {v:Value} {w:World} (hv:BegF B h v w):SG v w:=by
 obtain ⟨gS,cS,curS,gK,cK,curK,e,h1,h2,h3,h4,_⟩:=hv
 exact ⟨gS,cS,gK,cK,e,curS,curK,h1,h2,h3,h4⟩
theorem BegF.lift {n:Nat} {w0 w w':World} {a:Act} {e:Env} {h:Hep} {v:Value} (H:St n w0 a w e h) (hv:BegF w.heap.size [] v w'):BegF w0.heap.size h v w':=by
 obtain ⟨gS,cS,curS,gK,cK,curK,e,h1,h2,h3,h4,h5,h6,h7,_⟩:=hv
 have:=H.below.size
 exact ⟨gS,cS,curS,gK,cK,curK,e,h1,h2,h3,h4,by omega,by omega,h7,fun p hp e=>by have:=(H.heap p hp).lt;omega,fun p hp e=>by have:=(H.heap p hp).lt;omega⟩
def BgF (B:Nat) (h:Hep) (v:Value) (w:World):Prop:=∃ gS cS curS gK cK curK,v=.agg #[.slice (some ⟨gS,0,none⟩) 8 cS,.slice (some ⟨gK,0,none⟩) 80 cK]∧Blk w gS 29 curS∧Blk w gK 29 curK∧US64 curS 8 cS Sha.HS∧US64 curK 80 cK Sha.HK∧B≤gS∧B≤gK∧gS≠gK∧(∀ p∈h,p.1≠gS)∧∀ p∈h,p.1≠gK
theorem begin_bg {n:Nat} {w0 w:World} {a:Act} {e:Env} {h:Hep} (H:St n w0 a w e h):Calls zP 14 #[] w (fun r W'=>∃ v,r=.returned v∧Below w.heap.size w W'∧BgF w0.heap.size h v W'):=by
 refine (Sha.begin_own w).mono ?_
 rintro r W' ⟨vS,vK,rfl,hS,hK,hne,hb⟩
 unfold Sha.OwnU at hS hK
 rw [Sha.fG] at hS
 rw [Sha.eT] at hK
 obtain ⟨gS,cS,curS,rfl,h1,h2,h3⟩:=own_uc hS (by omega)
 obtain ⟨gK,cK,curK,rfl,h4,h5,h6⟩:=own_uc hK (by omega)
 have:=H.below.size
 exact ⟨_,rfl,hb,gS,cS,curS,gK,cK,curK,rfl,h2,h5,h3,h6,by omega,by omega,fun e=>hne gS rfl (by rw [e];rfl),fun p hp e=>by have:=(H.heap p hp).lt;omega,fun p hp e=>by have:=(H.heap p hp).lt;omega⟩
theorem rsum7 {gS cS gK cK:Nat} {v:Value} {l:List UInt8} {m:Nat} (hm:m=hN l) {w:World} (hs:SGF gS cS gK cK w) (hv:BF l v w) (hn:l.length≤100000):Calls zP 54 #[.agg #[.slice (some ⟨gS,0,none⟩) 8 cS,.slice (some ⟨gK,0,none⟩) 80 cK],v] w (fun r W'=>r=.returned (.agg (Scl.ls m))∧Below w.heap.size w W'):=by
 obtain ⟨A,n,c,rfl,hr⟩:=hv
 obtain ⟨curS,curK,h1,h2,h3,h4⟩:=hs
 refine (Sha.rbsum_any gS 0 cS gK 0 cK A n c w.heap.size l w hr (Nat.le_refl _) (by have:=hr.len;omega) (us_uc h1 h3) (us_uc h2 h4)).mono ?_
 rintro r W' ⟨rfl,hb⟩
 rw [hN_row,hm]
 exact ⟨rfl,hb⟩
theorem kbl_long (N:Nat):kbl N 64=(Scl.lb N).map UInt8.ofNat:=by
 unfold kbl Scl.lb
 rw [List.map_map]
 rfl
theorem ls_kbl (N:Nat):Scl.ls N=bvs (kbl N 64):=by
 rw [kbl_long,Scl.ls,bvs_nat]
 intro x hx
 unfold Scl.lb at hx
 obtain ⟨i,_,rfl⟩:=List.mem_map.1 hx
 exact Nat.mod_lt _ (by omega)
theorem bf_long {w:World} {g N:Nat} (hb:Blk w g 40 (Scl.ls N)):BF (kbl N 64) (.slice (some ⟨g,0,none⟩) 64 64) w:=by
 rw [ls_kbl] at hb
 exact ⟨_,_,_,rfl,BS.ofBlk hb 64 (rZ N 64).symm _ hb.lt⟩
theorem bf_hi {w:World} {g N:Nat} (hb:Blk w g 40 (Scl.ls N)):BF (kby (N/115792089237316195423570985008687907853269984665640564039457584007913129639936)) (.slice (some ⟨g,32,none⟩) 32 32) w:=by
 refine ⟨_,_,_,rfl,fK _,Nat.le_refl _,(by intro e;cases e),fun _=>⟨g,32,rfl,hb.lt,fun j x hx=>?_⟩⟩
 rw [hb.cell]
 unfold kby at hx
 rw [wU,List.getElem?_map,List.getElem?_drop] at hx
 obtain ⟨y,hy,rfl⟩:=Option.map_eq_some_iff.1 hx
 have hy2:y<256:=by
  have:=List.mem_of_getElem? hy
  unfold Scl.lb at this
  obtain ⟨i,_,rfl⟩:=List.mem_map.1 this
  exact Nat.mod_lt _ (by omega)
 rw [Scl.ls,dW,hy]
 show some (nc .u8 y)=some (bv (UInt8.ofNat y))
 rw [nc_byte hy2]
theorem bf_hi_z {w:World} {g N p:Nat} (hp:p=N/115792089237316195423570985008687907853269984665640564039457584007913129639936) (hb:Blk w g 40 (Scl.ls N)):BF (kby p) (.slice (some ⟨g,32,none⟩) 32 32) w:=by
 subst hp
 exact bf_hi hb
def HalfF (B:Nat) (h:Hep) (x:Nat) (v:Value) (w:World):Prop:=∃ g cap cur,v=.tuple #[.agg (ks (seedA x)),.slice (some ⟨g,0,none⟩) 32 cap]∧Blk w g 5 cur∧B≤g∧(∀ p∈h,p.1≠g)∧US8 cur 32 cap (kby (seedP x))
theorem half_fin {n:Nat} {w W:World} {a:Act} {e:Env} {h:Hep} {k g cap x:Nat} {cur:Array Value} (H:St n w a W e h) (hk:h[k]?=some (g,5,cur)) (hu:US8 cur 32 cap (kby (seedP x))):HalfF w.heap.size [] x (.tuple #[.agg (ks (seedA x)),.slice (some ⟨g,0,none⟩) 32 cap]) W :=
 ⟨g,cap,cur,rfl,H.blk hk,H.own _ (List.mem_iff_getElem?.2 ⟨k,hk⟩),(fun p hp=>by cases hp),hu⟩
theorem HalfF.lift {n:Nat} {w0 w w':World} {a:Act} {e:Env} {h:Hep} {x:Nat} {v:Value} (H:St n w0 a w e h) (hv:HalfF w.heap.size [] x v w'):HalfF w0.heap.size h x v w':=by
 obtain ⟨g,cap,cur,e,h1,h2,_,h3⟩:=hv
 have:=H.below.size
 exact ⟨g,cap,cur,e,h1,by omega,fun p hp e=>by have:=(H.heap p hp).lt;omega,h3⟩
theorem begf_fin {n:Nat} {w W:World} {a:Act} {e:Env} {h:Hep} {k k2 gS cS gK cK:Nat} {curS curK:Array Value} (H:St n w a W e h) (hk:h[k]?=some (gS,29,curS)) (hk2:h[k2]?=some (gK,29,curK)) (hne:gS≠gK) (huS:US64 curS 8 cS Sha.HS) (huK:US64 curK 80 cK Sha.HK):BegF w.heap.size [] (.agg (sg gS cS gK cK)) W :=
 ⟨gS,cS,curS,gK,cK,curK,rfl,H.blk hk,H.blk hk2,huS,huK,H.own _ (List.mem_iff_getElem?.2 ⟨k,hk⟩),H.own _ (List.mem_iff_getElem?.2 ⟨k2,hk2⟩),hne,(fun p hp=>by cases hp),fun p hp=>by cases hp⟩
theorem rQ {n:Nat} {w W:World} {a:Act} {e:Env} {h:Hep} {k k2 gS cS gK cK:Nat} {curS curK:Array Value} (H:St n w a W e h) (hk:h[k]?=some (gS,29,curS)) (hk2:h[k2]?=some (gK,29,curK)) (huS:US64 curS 8 cS Sha.HS) (huK:US64 curK 80 cK Sha.HK):SGF gS cS gK cK W:=⟨curS,curK,H.blk hk,H.blk hk2,huS,huK⟩
theorem pH {g k:Nat} {t:TypeId} {c:Array Value} {h:Hep} (hne:g≠k) (hn:∀ p∈h,p.1≠g):∀ p∈((k,t,c)::h:Hep),p.1≠g:=fun p hp=>by
 rcases List.mem_cons.1 hp with rfl | hp
 ·
  exact Ne.symm hne
 ·
  exact hn p hp
theorem rreduceF {N m:Nat} {v:Value} (hm:m=N%LL') {w:World} (hv:BF (kbl N 64) v w) (hN:N<13407807929942597099574024998205846127479365820592393377723561443721764030073546976801874298166903427690031858186486050853753882811946569946433649006084096):Calls zP 59 #[v] w (fun r W'=>r=.returned (.agg (ks m))∧Below w.heap.size w W'):=by
 subst hm
 obtain ⟨A,n,c,rfl,hr⟩:=hv
 have hn:n=64:=by rw [←hr.len,rZ]
 subst hn
 rw [tX] at hN
 exact rD A 64 c w.heap.size N w hr (Nat.le_refl _) (by omega) hN
theorem clamp_out (n:Nat):clampN n=clampK n:=rfl
theorem rclampF {n m:Nat} (hm:m=clampK n) (w:World):Calls zP 55 #[.agg (ks n)] w (fun r W'=>r=.returned (.agg (ks m))∧Below w.heap.size w W'):=by
 rw [hm,←clamp_out]
 exact tE n w
theorem rmulAddF {a b c m:Nat} (hm:m=(a*b+c)%LL') (w:World) (ha:K256 a) (hb:K256 b) (hc:K256 c):Calls zP 27 #[.agg (ks a),.agg (ks b),.agg (ks c)] w (fun r W'=>r=.returned (.agg (ks m))∧Below w.heap.size w W'):=by
 subst hm
 exact rmulAdd_any a b c w ha hb hc
theorem rlessL {a:Nat} {b:Bool} (h:decide (a<LL')=b) (w:World) (ha:K256 a):Calls zP 76 #[.agg (ds a),.agg (ds LL)] w (fun r W'=>r=.returned (.bool b)∧Below w.heap.size w W'):=by
 rw [←h]
 exact jZ a LL w ha LL_lt
end
section
set_option maxRecDepth 99999
open Go Go.RowKit
attribute [local irreducible] ev sv ks dv ds tv cv sg Scl.ls rpAdd rpMul rpNeg ptSet ptAdd ptMul ptNeg ptE rootC EE II TD BX BY BE BR kby kbl num seedA seedP pubN sigR sigP sigH sigS signN checkN clampK pbn BP er putd LL
theorem rmay_any {s:Nat} {b:Bool} (hs:K256 s) (hb0:decide (s<LL')=b) (w:World):Calls zP 35 #[.agg (ks s)] w (fun rr w'=>rr=.returned (.bool b)∧Below w.heap.size w w'):=by
 refine bN (vs:=[.agg (ks s)]) 7 Tryz.func35 rfl Tryz.ntmps35 rfl (fun a W H=>?_)
 refine wp_seq_k (fun K1 hK1=>?_)
 refine aE ?_
 refine bP rfl rfl (dG s) rfl rfl rfl rfl H ?_
 try clear H a W
 intro g1 a W H
 refine aY (F:=fun u_ _=>u_=.bool false) (aI H (aA rfl) (aM rfl rfl)) rfl rfl rfl H ?_
 try clear H a W
 rintro _ a W rfl H
 refine aH ?_
 replace H:St 7 w a W [(2,.bool false),(1,pA g1)] [(g1,23,ks s)]:=H.pick [0,1] [0] rfl
 refine hK1 _ _ ?_
 clear hK1
 refine wp_seq_k (fun K2 hK2=>?_)
 refine aE ?_
 refine aY (F:=fun u_ _=>u_=.agg (ks s)) (aI H (aA rfl) (aC rfl rfl (k:=0) rfl Tryz.underlying23 rfl (aL _))) rfl rfl rfl H ?_
 try clear H a W
 rintro _ a W rfl H
 refine aY (F:=fun u_ _=>u_=.agg (ds s)) (cE H (aA rfl) rfl ⟨_,Tryz.func60,by kernel_rfl⟩ rfl (mU s W hs)) rfl rfl rfl H ?_
 try clear H a W
 rintro _ a W rfl H
 refine aY (F:=fun u_ _=>u_=.agg (ds LL)) (cE H (aA rfl) rfl ⟨_,Tryz.func78,by kernel_rfl⟩ rfl (sY W)) rfl rfl rfl H ?_
 try clear H a W
 rintro _ a W rfl H
 refine aY (F:=fun u_ _=>u_=.bool b) (cE H (aA rfl) rfl ⟨_,Tryz.func76,by kernel_rfl⟩ rfl (rlessL hb0 W hs)) rfl rfl rfl H ?_
 try clear H a W
 rintro _ a W rfl H
 replace H:St 7 w a W [(6,.bool b),(5,.agg (ds LL)),(4,.agg (ds s)),(3,.agg (ks s)),(1,pA g1)] [(g1,23,ks s)]:=H.pick [0,1,2,3,5] [0] rfl
 refine aY (F:=fun u_ _=>u_=.bool b) (aI H (aA rfl) (aM rfl rfl)) rfl rfl rfl H ?_
 try clear H a W
 rintro _ a W rfl H
 refine aH ?_
 replace H:St 7 w a W [(2,.bool b)] []:=H.pick [0] [] rfl
 refine hK2 _ _ ?_
 clear hK2
 refine wp_ret ?_
 repeat (first | (with_reducible refine bD ?_) | (with_reducible refine bI ?_))
 refine dX (p:=2) rfl rfl H (fun hb=>?_)
 exact ⟨rfl,hb⟩
theorem rbegin7 (w:World):Calls zP 7 #[] w (fun rr w'=>∃ v,rr=.returned v∧Below w.heap.size w w'∧BegF w.heap.size [] v w'):=by
 refine bN (vs:=[]) 4 Tryz.func7 rfl Tryz.ntmps7 rfl (fun a W H=>?_)
 refine wp_seq_k (fun K1 hK1=>?_)
 refine aE ?_
 refine bC (aN rfl al_sg) rfl rfl rfl rfl H ?_
 try clear H a W
 intro g1 a W H
 refine aH ?_
 refine hK1 _ _ ?_
 clear hK1
 refine wp_seq_k (fun K2 hK2=>?_)
 refine aE ?_
 refine jR (F:=BgF w.heap.size [(g1,37,sg0)]) (mX H (aA rfl) rfl ⟨_,Tryz.func14,by kernel_rfl⟩ rfl (begin_bg H)) rfl rfl rfl H ?_
 try clear H a W
 intro v_ a W hv_ hb H
 clear hb
 obtain ⟨gS1,cS1,curS1,gK1,cK1,curK1,rfl,hbS,hbK,huS1,huK1,hoS,hoK,hne1,hnS,hnK⟩:=hv_
 replace H:=H.add hbK hoK hnK
 replace H:=H.add hbS hoS (pH hne1 hnS)
 clear hbK hoK hnK hbS hoS hnS
 refine aY (F:=fun u_ _=>u_=.agg (cv TD BR)) (cE H (aA rfl) rfl ⟨_,Tryz.func15,by kernel_rfl⟩ rfl (rbegin W)) rfl rfl rfl H ?_
 try clear H a W
 rintro _ a W rfl H
 refine aY (F:=fun u_ _=>u_=.agg (sg gS1 cS1 gK1 cK1)) (aI H (aA rfl) (cD rfl rfl (bd_sg _ _ _ _))) rfl rfl rfl H ?_
 try clear H a W
 rintro _ a W rfl H
 refine aO rfl rfl rfl (k:=2) rfl (eW _ _ _ _) (by simp only [aX,aU,aG,Scl.bE,cQ,cL,bH,bJ,aZ,aS]<;>rfl) (sg_one _ _ _ _) rfl rfl H ?_
 try clear H a W
 intro a W H
 refine aH ?_
 replace H:St 4 w a W [(0,pA g1)] [(gS1,29,curS1),(gK1,29,curK1),(g1,37,sg gS1 cS1 gK1 cK1)]:=H.pick [3] [0,1,2] rfl
 refine hK2 _ _ ?_
 clear hK2
 refine wp_ret ?_
 repeat (first | (with_reducible refine bD ?_) | (with_reducible refine bI ?_))
 refine cI (p:=0) rfl rfl (k:=2) rfl Tryz.underlying37 rfl (eW _ _ _ _) H (fun hb=>?_)
 exact ⟨_,rfl,hb,begf_fin H (k:=0) (k2:=1) rfl rfl hne1 huS1 huK1⟩
theorem rhalves7 {gS cS gK cK:Nat} (x:Nat) (w:World) (hsg:SGF gS cS gK cK w):Calls zP 23 #[.agg (sg gS cS gK cK),.agg (ks x)] w (fun rr w'=>∃ v,rr=.returned v∧Below w.heap.size w w'∧HalfF w.heap.size [] x v w'):=by
 refine bN (vs:=[.agg (sg gS cS gK cK),.agg (ks x)]) 19 Tryz.func23 rfl Tryz.ntmps23 rfl (fun a W H=>?_)
 refine wp_seq_k (fun K1 hK1=>?_)
 refine aE ?_
 refine bP rfl rfl (xI _ _ _ _) rfl rfl rfl rfl H ?_
 try clear H a W
 intro g1 a W H
 refine bP rfl rfl (dG x) rfl rfl rfl rfl H ?_
 try clear H a W
 intro g2 a W H
 refine bC (aN rfl bZ) rfl rfl rfl rfl H ?_
 try clear H a W
 intro g3 a W H
 refine aY (F:=fun u_ _=>u_=.slice none 0 0) (aI H (aA rfl) (aM rfl rfl)) rfl rfl rfl H ?_
 try clear H a W
 rintro _ a W rfl H
 refine aH ?_
 replace H:St 19 w a W [(5,.slice none 0 0),(4,pA g3),(3,pA g2),(2,pA g1)] [(g3,23,ks 0),(g2,23,ks x),(g1,37,sg gS cS gK cK)]:=H.pick [0,1,2,3] [0,1,2] rfl
 refine hK1 _ _ ?_
 clear hK1
 refine wp_seq_k (fun K2 hK2=>?_)
 refine drawnR SB SB [⟨8,fun u_ _=>u_=.pointer (some ⟨g1,0,none⟩),[],none,false⟩,⟨9,fun u_ _=>u_=.agg (#[.slice (some ⟨gS,0,none⟩) 8 cS,.slice (some ⟨gK,0,none⟩) 80 cK]),[0],none,false⟩,⟨10,fun u_ _=>u_=.slice (some ⟨g2,0,none⟩) 32 32,[],none,false⟩,⟨11,fun u_ _=>u_=.agg (Scl.ls (hN (kby x))),[1,2],none,false⟩,⟨6,NewF w.heap.size [(g3,23,ks 0),(g2,23,ks x),(g1,37,sg gS cS gK cK)] 40 (Scl.ls 0),[],none,false⟩] [0,1,0,6,0,31] [3,4] dA dA (by kernel_rfl) (by kernel_rfl) (by kernel_rfl) H ⟨⟨fun a W  H=>by exact aR H (aA rfl) (aP rfl rfl (fun W=>(iU g1 W).1)),aB,fun _=>aB⟩,⟨fun a W y0 hy0 H=>by subst hy0;exact aR H (aA rfl) (aT (v:=.agg (#[.slice (some ⟨gS,0,none⟩) 8 cS,.slice (some ⟨gK,0,none⟩) 80 cK])) rfl rfl (k:=2) rfl ld_sg0),aB,fun _=>aB⟩,⟨fun a W  H=>by exact aR H (aA rfl) (bL rfl rfl (vl:=none) (vh:=none) rfl rfl (eB g2)),aB,fun _=>aB⟩,⟨fun a W y1 hy1 y2 hy2 H=>by subst hy1;subst hy2;exact cT H (aA rfl) rfl ⟨_,Tryz.func54,by kernel_rfl⟩ rfl (rsum7 rfl (jD hsg H) (lR (H.blk (k:=1) rfl)) (by rw [fK];omega)),aB,fun _=>aB⟩,⟨fun a W  H=>by exact kU H (aN rfl eZ) rfl,NewF.sb,fun _=>NewF.sb⟩,trivial⟩ (by kernel_rfl) ?_
 try clear H a W
 intro a W
 rintro _ rfl
 intro v6 hv6
 intro H
 obtain ⟨g4,rfl,hbg4,hog4,hng4⟩:=hv6
 replace H:=H.add hbg4 hog4 hng4
 clear hbg4 hog4 hng4
 refine aO rfl rfl rfl (k:=0) rfl (cG _) (by simp only [aX,aU,aG,Scl.bE,cQ,cL,bH,bJ,aZ,aS]<;>rfl) (fD _) rfl rfl H ?_
 try clear H a W
 intro a W H
 refine aH ?_
 replace H:St 19 w a W [(6,pA g4),(5,.slice none 0 0),(4,pA g3)] [(g4,40,Scl.ls (hN (kby x))),(g3,23,ks 0)]:=H.pick [0,2,3] [0,1] rfl
 refine hK2 _ _ ?_
 clear hK2
 refine wp_seq_k (fun K3 hK3=>?_)
 refine aE ?_
 refine bC (aN rfl bZ) rfl rfl rfl rfl H ?_
 try clear H a W
 intro g5 a W H
 refine aH ?_
 refine hK3 _ _ ?_
 clear hK3
 refine wp_seq_k (fun K4 hK4=>?_)
 refine drawnR SB SB [⟨12,fun u_ _=>u_=.slice (some ⟨g5,0,none⟩) 32 32,[],none,false⟩,⟨13,fun u_ _=>u_=.slice (some ⟨g4,0,none⟩) 32 64,[],none,false⟩] [0,0,3] [0,1] dA dA (by kernel_rfl) (by kernel_rfl) (by kernel_rfl) H ⟨⟨fun a W  H=>by exact aR H (aA rfl) (bL rfl rfl (vl:=none) (vh:=none) rfl rfl (eB g5)),aB,fun _=>aB⟩,⟨fun a W  H=>by exact aR H (aA rfl) (bL rfl rfl (vl:=none) (vh:=some (.int .i64 32)) rfl rfl (sl_lo g4)),aB,fun _=>aB⟩,trivial⟩ (by kernel_rfl) ?_
 try clear H a W
 intro a W
 rintro _ rfl
 rintro _ rfl
 intro H
 refine gJ rfl Tryz.underlying24 fB rfl rfl (k:=0) rfl (k2:=1) rfl (m:=32) rfl (by simp only [aG,Scl.bE]<;>omega) (by simp only [aG,Scl.bE]<;>omega) (fD _) (mQ _ _) rfl rfl rfl rfl H ?_
 try clear H a W
 intro a W H
 refine aH ?_
 replace H:St 19 w a W [(7,pA g5),(6,pA g4),(5,.slice none 0 0),(4,pA g3)] [(g5,23,ks ((hN (kby x))%115792089237316195423570985008687907853269984665640564039457584007913129639936)),(g4,40,Scl.ls (hN (kby x))),(g3,23,ks 0)]:=H.pick [3,4,5,6] [0,1,2] rfl
 refine hK4 _ _ ?_
 clear hK4
 refine wp_seq_k (fun K5 hK5=>?_)
 replace H:St 19 w a W [(7,pA g5),(6,pA g4),(4,pA g3)] [(g5,23,ks ((hN (kby x))%115792089237316195423570985008687907853269984665640564039457584007913129639936)),(g4,40,Scl.ls (hN (kby x))),(g3,23,ks 0)]:=H.pick [0,1,3] [0,1,2] rfl
 refine drawnR SB SB [⟨15,fun u_ _=>u_=.agg (ks ((hN (kby x))%115792089237316195423570985008687907853269984665640564039457584007913129639936)),[],none,false⟩,⟨16,fun u_ _=>u_=.agg (ks (seedA x)),[0],none,false⟩,⟨17,fun u_ _=>u_=.slice (some ⟨g4,32,none⟩) 32 32,[],none,false⟩,⟨18,OF w.heap.size [(g5,23,ks ((hN (kby x))%115792089237316195423570985008687907853269984665640564039457584007913129639936)),(g4,40,Scl.ls (hN (kby x))),(g3,23,ks 0)] (kby (seedP x)),[2],none,false⟩] [0,1,0,6,11,31] [1,3] dA dA (by kernel_rfl) (by kernel_rfl) (by kernel_rfl) H ⟨⟨fun a W  H=>by exact aR H (aA rfl) (aC rfl rfl (k:=0) rfl Tryz.underlying23 rfl (aL _)),aB,fun _=>aB⟩,⟨fun a W y0 hy0 H=>by subst hy0;exact cT H (aA rfl) rfl ⟨_,Tryz.func55,by kernel_rfl⟩ rfl (rclampF (wA x) W),aB,fun _=>aB⟩,⟨fun a W  H=>by exact aR H (aA rfl) (bL rfl rfl (vl:=some (.int .i64 32)) (vh:=none) rfl rfl (vW g4)),aB,fun _=>aB⟩,⟨fun a W y2 hy2 H=>by subst hy2;exact ob_app0S H (aA rfl) rfl rfl (bf_hi_z (vZ x) (H.blk (k:=1) rfl)) (by rw [fK];omega),OF.sb,fun _=>OF.sb⟩,trivial⟩ (by kernel_rfl) ?_
 try clear H a W
 intro a W
 rintro _ rfl
 intro v18 hv18
 intro H
 obtain ⟨go1,cap1,cur1,rfl,hbgo1,hogo1,hngo1,hugo1⟩:=hv18.uc (n:=32) (fK _) (by omega)
 replace H:=H.add hbgo1 hogo1 hngo1
 clear hbgo1 hogo1 hngo1
 refine aO rfl rfl rfl (k:=3) rfl (aL _) (by simp only [aX,aU,aG,Scl.bE,cQ,cL,bH,bJ,aZ,aS]<;>rfl) (bU _) rfl rfl H ?_
 try clear H a W
 intro a W H
 refine aY (F:=fun u_ _=>u_=.slice (some ⟨go1,0,none⟩) 32 cap1) (aI H (aA rfl) (aM rfl rfl)) rfl rfl rfl H ?_
 try clear H a W
 rintro _ a W rfl H
 refine aH ?_
 replace H:St 19 w a W [(5,.slice (some ⟨go1,0,none⟩) 32 cap1),(4,pA g3)] [(go1,5,cur1),(g3,23,ks (seedA x))]:=H.pick [0,5] [0,3] rfl
 refine hK5 _ _ ?_
 clear hK5
 refine wp_ret ?_
 repeat (first | (with_reducible refine bD ?_) | (with_reducible refine bI ?_))
 refine bW (p:=4) (q:=5) rfl rfl rfl (k:=1) rfl Tryz.underlying23 rfl (aL _) H (fun hb=>?_)
 exact ⟨_,rfl,hb,half_fin H (k:=0) rfl hugo1⟩
theorem rhash7 {gS cS gK cK:Nat} {va vb vm:Value} {la lb_ lm:List UInt8} {z:Nat} (w:World) (hsg:SGF gS cS gK cK w) (ha:BF la va w) (hb_:BF lb_ vb w) (hm:BF lm vm w) (hn:la.length+lb_.length+lm.length≤100000) (hz:z=num (la++(lb_++lm))):Calls zP 26 #[.agg (sg gS cS gK cK),va,vb,vm] w (fun rr w'=>rr=.returned (.agg (ks z))∧Below w.heap.size w w'):=by
 refine bN (vs:=[.agg (sg gS cS gK cK),va,vb,vm]) 21 Tryz.func26 rfl Tryz.ntmps26 rfl (fun a W H=>?_)
 refine wp_seq_k (fun K1 hK1=>?_)
 refine aE ?_
 refine bP rfl rfl (xI _ _ _ _) rfl rfl rfl rfl H ?_
 try clear H a W
 intro g1 a W H
 refine bC (aN rfl bZ) rfl rfl rfl rfl H ?_
 try clear H a W
 intro g2 a W H
 refine aH ?_
 replace H:St 21 w a W [(8,pA g2),(4,pA g1),(1,va),(2,vb),(3,vm)] [(g2,23,ks 0),(g1,37,sg gS cS gK cK)]:=H.pick [0,1,3,4,5] [0,1] rfl
 refine hK1 _ _ ?_
 clear hK1
 refine wp_seq_k (fun K2 hK2=>?_)
 refine drawnR SB (WR w.heap.size [(g2,23,ks 0),(g1,37,sg gS cS gK cK)]) [⟨10,fun u_ _=>u_=.pointer (some ⟨g1,0,none⟩),[],none,false⟩,⟨11,fun u_ _=>u_=.agg (#[.slice (some ⟨gS,0,none⟩) 8 cS,.slice (some ⟨gK,0,none⟩) 80 cK]),[0],none,false⟩,⟨12,fun u_ _=>u_=va,[],none,false⟩,⟨13,OF w.heap.size [(g2,23,ks 0),(g1,37,sg gS cS gK cK)] la,[2],(some 5),false⟩,⟨14,fun u_ _=>u_=vb,[],none,false⟩,⟨15,OF w.heap.size [(g2,23,ks 0),(g1,37,sg gS cS gK cK)] (la++lb_),[3,4],(some 7),true⟩,⟨16,fun u_ _=>u_=vm,[],none,false⟩,⟨17,OF w.heap.size [(g2,23,ks 0),(g1,37,sg gS cS gK cK)] ((la++lb_)++lm),[5,6],(some 8),true⟩,⟨18,fun u_ _=>u_=.agg (Scl.ls (hN ((la++lb_)++lm))),[1,7],none,false⟩,⟨9,NewF w.heap.size [(g2,23,ks 0),(g1,37,sg gS cS gK cK)] 40 (Scl.ls 0),[],none,false⟩] [0,1,0,4,0,24,0,96,130,0,1023] [8,9] dA wr_st (by kernel_rfl) (by kernel_rfl) (by kernel_rfl) H ⟨⟨fun a W  H=>by exact aR H (aA rfl) (aP rfl rfl (fun W=>(iU g1 W).1)),aB,fun _=>aB⟩,⟨fun a W y0 hy0 H=>by subst hy0;exact aR H (aA rfl) (aT (v:=.agg (#[.slice (some ⟨gS,0,none⟩) 8 cS,.slice (some ⟨gK,0,none⟩) 80 cK])) rfl rfl (k:=1) rfl ld_sg0),aB,fun _=>aB⟩,⟨fun a W  H=>by exact aR H (aA rfl) (aK rfl rfl),aB,fun _=>aB⟩,⟨fun a W y2 hy2 H=>by have e_:=hy2.symm;subst e_;exact ob_app0S H (aA rfl) rfl rfl (dH ha H) (by (try simp only [List.length_append]);omega),OF.sb,fun ht_=>by cases ht_⟩,⟨fun a W  H=>by exact aR H (aA rfl) (aK rfl rfl),aB,fun _=>aB⟩,⟨fun a W v13 hv13 y4 hy4 H=>by have e_:=hy4.symm;subst e_;exact ob_appW H (aA rfl) rfl rfl rfl hv13 (dH hb_ H) (by (try simp only [List.length_append]);omega),OF.sb,fun ht_=>by cases ht_⟩,⟨fun a W  H=>by exact aR H (aA rfl) (aK rfl rfl),aB,fun _=>aB⟩,⟨fun a W v15 hv15 y6 hy6 H=>by have e_:=hy6.symm;subst e_;exact ob_appW H (aA rfl) rfl rfl rfl hv15 (dH hm H) (by (try simp only [List.length_append]);omega),OF.sb,fun ht_=>by cases ht_⟩,⟨fun a W y1 hy1 v17 hv17 H=>by subst hy1;exact cT H (aA rfl) rfl ⟨_,Tryz.func54,by kernel_rfl⟩ rfl (rsum7 rfl (jD hsg H) hv17.bf (by simp only [List.length_append];omega)),aB,fun _=>aB⟩,⟨fun a W  H=>by exact kU H (aN rfl eZ) rfl,NewF.sb,fun _=>NewF.wr (by decide)⟩,trivial⟩ (by kernel_rfl) ?_
 try clear H a W
 intro a W
 rintro _ rfl
 intro v9 hv9
 intro H
 obtain ⟨g3,rfl,hbg3,hog3,hng3⟩:=hv9
 replace H:=H.add hbg3 hog3 hng3
 clear hbg3 hog3 hng3
 refine aO rfl rfl rfl (k:=0) rfl (cG _) (by simp only [aX,aU,aG,Scl.bE,cQ,cL,bH,bJ,aZ,aS]<;>rfl) (fD _) rfl rfl H ?_
 try clear H a W
 intro a W H
 refine aH ?_
 replace H:St 21 w a W [(9,pA g3),(8,pA g2)] [(g3,40,Scl.ls (hN ((la++lb_)++lm))),(g2,23,ks 0)]:=H.pick [0,2] [0,1] rfl
 refine hK2 _ _ ?_
 clear hK2
 refine wp_seq_k (fun K3 hK3=>?_)
 refine aE ?_
 refine aY (F:=fun u_ _=>u_=.slice (some ⟨g3,0,none⟩) 64 64) (aI H (aA rfl) (bL rfl rfl (vl:=none) (vh:=none) rfl rfl (sl_long g3))) rfl rfl rfl H ?_
 try clear H a W
 rintro _ a W rfl H
 refine aY (F:=fun u_ _=>u_=.agg (ks z)) (cE H (aA rfl) rfl ⟨_,Tryz.func59,by kernel_rfl⟩ rfl (rreduceF (by rw [hz,num_def,List.append_assoc]) (bf_long (H.blk (k:=0) rfl)) (hN_lt _))) rfl rfl rfl H ?_
 try clear H a W
 rintro _ a W rfl H
 refine aO rfl rfl rfl (k:=1) rfl (aL _) (by simp only [aX,aU,aG,Scl.bE,cQ,cL,bH,bJ,aZ,aS]<;>rfl) (bU _) rfl rfl H ?_
 try clear H a W
 intro a W H
 refine aH ?_
 replace H:St 21 w a W [(8,pA g2)] [(g2,23,ks z)]:=H.pick [3] [1] rfl
 refine hK3 _ _ ?_
 clear hK3
 refine wp_ret ?_
 repeat (first | (with_reducible refine bD ?_) | (with_reducible refine bI ?_))
 refine cI (p:=8) rfl rfl (k:=0) rfl Tryz.underlying23 rfl (aL _) H (fun hb=>?_)
 exact ⟨rfl,hb⟩
theorem rpublic7 {gS cS gK cK x:Nat} (w:World) (hsg:SGF gS cS gK cK w):Calls zP 10 #[.agg (sg gS cS gK cK),.agg (ks x)] w (fun rr w'=>rr=.returned (.agg (ks (pubN x)))∧Below w.heap.size w w'):=by
 obtain ⟨z1,hz1⟩:∃ z:Pj3,z=rpMul BR (seedA x) 256:=⟨_,rfl⟩
 have rz1:RepR (Pt.mul BP (seedA x)) z1:=by rw [hz1];exact RepR.mul BR_rep (mD x)
 refine bN (vs:=[.agg (sg gS cS gK cK),.agg (ks x)]) 21 Tryz.func10 rfl Tryz.ntmps10 rfl (fun a W H=>?_)
 refine wp_seq_k (fun K1 hK1=>?_)
 refine aE ?_
 refine bP rfl rfl (xI _ _ _ _) rfl rfl rfl rfl H ?_
 try clear H a W
 intro g1 a W H
 refine bP rfl rfl (dG x) rfl rfl rfl rfl H ?_
 try clear H a W
 intro g2 a W H
 refine bC (aN rfl bZ) rfl rfl rfl rfl H ?_
 try clear H a W
 intro g3 a W H
 refine aH ?_
 replace H:St 21 w a W [(4,pA g3),(3,pA g2),(2,pA g1)] [(g3,23,ks 0),(g2,23,ks x),(g1,37,sg gS cS gK cK)]:=H.pick [0,1,2] [0,1,2] rfl
 refine hK1 _ _ ?_
 clear hK1
 refine wp_seq_k (fun K2 hK2=>?_)
 refine aE ?_
 refine aY (F:=fun u_ _=>u_=.agg (sg gS cS gK cK)) (aI H (aA rfl) (aC rfl rfl (k:=2) rfl Tryz.underlying37 rfl (eW _ _ _ _))) rfl rfl rfl H ?_
 try clear H a W
 rintro _ a W rfl H
 refine aY (F:=fun u_ _=>u_=.agg (ks x)) (aI H (aA rfl) (aC rfl rfl (k:=1) rfl Tryz.underlying23 rfl (aL _))) rfl rfl rfl H ?_
 try clear H a W
 rintro _ a W rfl H
 refine jR (F:=HalfF w.heap.size [(g3,23,ks 0),(g2,23,ks x),(g1,37,sg gS cS gK cK)] x) (mX H (aA rfl) rfl ⟨_,Tryz.func23,by kernel_rfl⟩ rfl ((rhalves7 x W (jD hsg H)).mono fun r W' ⟨v,e,hb,hF⟩=>⟨v,e,hb,hF.lift H⟩)) rfl rfl rfl H ?_
 try clear H a W
 intro v_ a W hv_ hb H
 clear hb
 obtain ⟨gp1,cap1,cur1,rfl,hbp,hop,hnp,hup1⟩:=hv_
 replace H:=H.add hbp hop hnp
 clear hbp hop hnp
 refine aY (F:=fun u_ _=>u_=.tuple #[.agg (ks (seedA x)),.slice (some ⟨gp1,0,none⟩) 32 cap1]) (aI H (aA rfl) (aK rfl rfl)) rfl rfl rfl H ?_
 try clear H a W
 rintro _ a W rfl H
 refine aY (F:=fun u_ _=>u_=.agg (ks (seedA x))) (aI H (aA rfl) (bF rfl rfl (fun _=>rfl))) rfl rfl rfl H ?_
 try clear H a W
 rintro _ a W rfl H
 refine aY (F:=fun u_ _=>u_=.slice (some ⟨gp1,0,none⟩) 32 cap1) (aI H (aA rfl) (bF rfl rfl (fun _=>rfl))) rfl rfl rfl H ?_
 try clear H a W
 rintro _ a W rfl H
 refine bC (aN rfl bZ) rfl rfl rfl rfl H ?_
 try clear H a W
 intro g4 a W H
 refine aO rfl rfl rfl (k:=0) rfl (aL _) (by simp only [aX,aU,aG,Scl.bE,cQ,cL,bH,bJ,aZ,aS]<;>rfl) (bU _) rfl rfl H ?_
 try clear H a W
 intro a W H
 refine aY (F:=fun u_ _=>u_=.slice (some ⟨gp1,0,none⟩) 32 cap1) (aI H (aA rfl) (aM rfl rfl)) rfl rfl rfl H ?_
 try clear H a W
 rintro _ a W rfl H
 refine aH ?_
 replace H:St 21 w a W [(5,pA g4),(4,pA g3),(2,pA g1)] [(g4,23,ks (seedA x)),(gp1,5,cur1),(g3,23,ks 0),(g1,37,sg gS cS gK cK)]:=H.pick [1,8,10] [0,1,2,4] rfl
 refine hK2 _ _ ?_
 clear hK2
 refine wp_seq_k (fun K3 hK3=>?_)
 refine aE ?_
 refine aY (F:=fun u_ _=>u_=.pointer (some ⟨g1,2,none⟩)) (aI H (aA rfl) (aP rfl rfl (fun W=>(iU g1 W).2.1))) rfl rfl rfl H ?_
 try clear H a W
 rintro _ a W rfl H
 refine aY (F:=fun u_ _=>u_=.agg (cv TD BR)) (aI H (aA rfl) (aT (v:=.agg (cv TD BR)) rfl rfl (k:=3) rfl nY)) rfl rfl rfl H ?_
 try clear H a W
 rintro _ a W rfl H
 refine aY (F:=fun u_ _=>u_=.pointer (some ⟨g1,2,none⟩)) (aI H (aA rfl) (aP rfl rfl (fun W=>(iU g1 W).2.1))) rfl rfl rfl H ?_
 try clear H a W
 rintro _ a W rfl H
 refine aY (F:=fun u_ _=>u_=.pointer (some ⟨g1,18,none⟩)) (aI H (aA rfl) (aP rfl rfl (fun W=>(iU g1 W).2.2))) rfl rfl rfl H ?_
 try clear H a W
 rintro _ a W rfl H
 refine aY (F:=fun u_ _=>u_=.agg (tv BR)) (aI H (aA rfl) (aT (v:=.agg (tv BR)) rfl rfl (k:=3) rfl ld_sg2)) rfl rfl rfl H ?_
 try clear H a W
 rintro _ a W rfl H
 refine aY (F:=fun u_ _=>u_=.agg (ks (seedA x))) (aI H (aA rfl) (aC rfl rfl (k:=0) rfl Tryz.underlying23 rfl (aL _))) rfl rfl rfl H ?_
 try clear H a W
 rintro _ a W rfl H
 refine aY (F:=fun u_ _=>u_=.agg (tv z1)) (cE H (aA rfl) rfl ⟨_,Tryz.func25,by kernel_rfl⟩ rfl (rS hz1 W)) rfl rfl rfl H ?_
 try clear H a W
 rintro _ a W rfl H
 refine aY (F:=fun u_ _=>u_=.agg (ks (pubN x))) (cE H (aA rfl) rfl ⟨_,Tryz.func24,by kernel_rfl⟩ rfl (qJ rz1 (m:=(pubN x)) (tF x) W)) rfl rfl rfl H ?_
 try clear H a W
 rintro _ a W rfl H
 refine aO rfl rfl rfl (k:=2) rfl (aL _) (by simp only [aX,aU,aG,Scl.bE,cQ,cL,bH,bJ,aZ,aS]<;>rfl) (bU _) rfl rfl H ?_
 try clear H a W
 intro a W H
 refine aH ?_
 replace H:St 21 w a W [(4,pA g3)] [(gp1,5,cur1),(g3,23,ks (pubN x))]:=H.pick [9] [1,2] rfl
 refine hK3 _ _ ?_
 clear hK3
 refine wp_ret ?_
 repeat (first | (with_reducible refine bD ?_) | (with_reducible refine bI ?_))
 refine cI (p:=4) rfl rfl (k:=1) rfl Tryz.underlying23 rfl (aL _) H (fun hb=>?_)
 exact ⟨rfl,hb⟩
theorem rsign7 {gS cS gK cK x:Nat} {v:Value} {l:List UInt8} (w:World) (hsg:SGF gS cS gK cK w) (hv:BF l v w) (hl:l.length≤90000):Calls zP 11 #[.agg (sg gS cS gK cK),.agg (ks x),v] w (fun rr w'=>rr=.returned (.agg (Scl.ls (signN x l)))∧Below w.heap.size w w'):=by
 obtain ⟨z1,hz1⟩:∃ z:Pj3,z=rpMul BR (sigR x l) 256:=⟨_,rfl⟩
 have rz1:RepR (Pt.mul BP (sigR x l)) z1:=by rw [hz1];exact RepR.mul BR_rep (rN x l)
 refine bN (vs:=[.agg (sg gS cS gK cK),.agg (ks x),v]) 52 Tryz.func11 rfl Tryz.ntmps11 rfl (fun a W H=>?_)
 refine wp_seq_k (fun K1 hK1=>?_)
 refine aE ?_
 refine bP rfl rfl (xI _ _ _ _) rfl rfl rfl rfl H ?_
 try clear H a W
 intro g1 a W H
 refine bP rfl rfl (dG x) rfl rfl rfl rfl H ?_
 try clear H a W
 intro g2 a W H
 refine bC (aN rfl eZ) rfl rfl rfl rfl H ?_
 try clear H a W
 intro g3 a W H
 refine aH ?_
 replace H:St 52 w a W [(6,pA g3),(4,pA g2),(3,pA g1),(2,v)] [(g3,40,Scl.ls 0),(g2,23,ks x),(g1,37,sg gS cS gK cK)]:=H.pick [0,1,2,5] [0,1,2] rfl
 refine hK1 _ _ ?_
 clear hK1
 refine wp_seq_k (fun K2 hK2=>?_)
 refine aE ?_
 refine aY (F:=fun u_ _=>u_=.agg (sg gS cS gK cK)) (aI H (aA rfl) (aC rfl rfl (k:=2) rfl Tryz.underlying37 rfl (eW _ _ _ _))) rfl rfl rfl H ?_
 try clear H a W
 rintro _ a W rfl H
 refine aY (F:=fun u_ _=>u_=.agg (ks x)) (aI H (aA rfl) (aC rfl rfl (k:=1) rfl Tryz.underlying23 rfl (aL _))) rfl rfl rfl H ?_
 try clear H a W
 rintro _ a W rfl H
 refine jR (F:=HalfF w.heap.size [(g3,40,Scl.ls 0),(g2,23,ks x),(g1,37,sg gS cS gK cK)] x) (mX H (aA rfl) rfl ⟨_,Tryz.func23,by kernel_rfl⟩ rfl ((rhalves7 x W (jD hsg H)).mono fun r W' ⟨v,e,hb,hF⟩=>⟨v,e,hb,hF.lift H⟩)) rfl rfl rfl H ?_
 try clear H a W
 intro v_ a W hv_ hb H
 clear hb
 obtain ⟨gp1,cap1,cur1,rfl,hbp,hop,hnp,hup1⟩:=hv_
 replace H:=H.add hbp hop hnp
 clear hbp hop hnp
 refine aY (F:=fun u_ _=>u_=.tuple #[.agg (ks (seedA x)),.slice (some ⟨gp1,0,none⟩) 32 cap1]) (aI H (aA rfl) (aK rfl rfl)) rfl rfl rfl H ?_
 try clear H a W
 rintro _ a W rfl H
 refine aY (F:=fun u_ _=>u_=.agg (ks (seedA x))) (aI H (aA rfl) (bF rfl rfl (fun _=>rfl))) rfl rfl rfl H ?_
 try clear H a W
 rintro _ a W rfl H
 refine aY (F:=fun u_ _=>u_=.slice (some ⟨gp1,0,none⟩) 32 cap1) (aI H (aA rfl) (bF rfl rfl (fun _=>rfl))) rfl rfl rfl H ?_
 try clear H a W
 rintro _ a W rfl H
 refine bC (aN rfl bZ) rfl rfl rfl rfl H ?_
 try clear H a W
 intro g4 a W H
 refine aO rfl rfl rfl (k:=0) rfl (aL _) (by simp only [aX,aU,aG,Scl.bE,cQ,cL,bH,bJ,aZ,aS]<;>rfl) (bU _) rfl rfl H ?_
 try clear H a W
 intro a W H
 refine aY (F:=fun u_ _=>u_=.slice (some ⟨gp1,0,none⟩) 32 cap1) (aI H (aA rfl) (aM rfl rfl)) rfl rfl rfl H ?_
 try clear H a W
 rintro _ a W rfl H
 refine aH ?_
 replace H:St 52 w a W [(8,.slice (some ⟨gp1,0,none⟩) 32 cap1),(7,pA g4),(6,pA g3),(4,pA g2),(3,pA g1),(2,v)] [(g4,23,ks (seedA x)),(gp1,5,cur1),(g3,40,Scl.ls 0),(g2,23,ks x),(g1,37,sg gS cS gK cK)]:=H.pick [0,1,8,9,10,11] [0,1,2,3,4] rfl
 refine hK2 _ _ ?_
 clear hK2
 refine wp_seq_k (fun K3 hK3=>?_)
 refine aE ?_
 refine aY (F:=fun u_ _=>u_=.agg (sg gS cS gK cK)) (aI H (aA rfl) (aC rfl rfl (k:=4) rfl Tryz.underlying37 rfl (eW _ _ _ _))) rfl rfl rfl H ?_
 try clear H a W
 rintro _ a W rfl H
 refine aY (F:=fun u_ _=>u_=.agg (ks x)) (aI H (aA rfl) (aC rfl rfl (k:=3) rfl Tryz.underlying23 rfl (aL _))) rfl rfl rfl H ?_
 try clear H a W
 rintro _ a W rfl H
 refine aY (F:=fun u_ _=>u_=.agg (ks (pubN x))) (cE H (aA rfl) rfl ⟨_,Tryz.func10,by kernel_rfl⟩ rfl (rpublic7 W (jD hsg H))) rfl rfl rfl H ?_
 try clear H a W
 rintro _ a W rfl H
 refine bC (aN rfl bZ) rfl rfl rfl rfl H ?_
 try clear H a W
 intro g5 a W H
 refine aO rfl rfl rfl (k:=0) rfl (aL _) (by simp only [aX,aU,aG,Scl.bE,cQ,cL,bH,bJ,aZ,aS]<;>rfl) (bU _) rfl rfl H ?_
 try clear H a W
 intro a W H
 refine aH ?_
 replace H:St 52 w a W [(9,pA g5),(8,.slice (some ⟨gp1,0,none⟩) 32 cap1),(7,pA g4),(6,pA g3),(3,pA g1),(2,v)] [(g5,23,ks (pubN x)),(g4,23,ks (seedA x)),(gp1,5,cur1),(g3,40,Scl.ls 0),(g1,37,sg gS cS gK cK)]:=H.pick [0,4,5,6,8,9] [0,1,2,3,5] rfl
 refine hK3 _ _ ?_
 clear hK3
 refine wp_seq_k (fun K4 hK4=>?_)
 refine aE ?_
 refine aY (F:=fun u_ _=>u_=.agg (sg gS cS gK cK)) (aI H (aA rfl) (aC rfl rfl (k:=4) rfl Tryz.underlying37 rfl (eW _ _ _ _))) rfl rfl rfl H ?_
 try clear H a W
 rintro _ a W rfl H
 refine aY (F:=fun u_ _=>u_=.slice (some ⟨gp1,0,none⟩) 32 cap1) (aI H (aA rfl) (aK rfl rfl)) rfl rfl rfl H ?_
 try clear H a W
 rintro _ a W rfl H
 refine aY (F:=fun u_ _=>u_=v) (aI H (aA rfl) (aK rfl rfl)) rfl rfl rfl H ?_
 try clear H a W
 intro y_ a W hy_ H
 replace hy_:=hy_.symm
 subst hy_
 refine aY (F:=fun u_ _=>u_=.agg (ks (sigR x l))) (cE H (aA rfl) rfl ⟨_,Tryz.func26,by kernel_rfl⟩ rfl (rhash7 (la:=kby (seedP x)) (lb_:=[]) (lm:=l) W (jD hsg H) (bf_uc (H.blk (k:=2) rfl) hup1) (BF.nil _) (dH hv H) (by rw [fK,List.length_nil];omega) (sigR_def x l))) rfl rfl rfl H ?_
 try clear H a W
 rintro _ a W rfl H
 refine bC (aN rfl bZ) rfl rfl rfl rfl H ?_
 try clear H a W
 intro g6 a W H
 refine aO rfl rfl rfl (k:=0) rfl (aL _) (by simp only [aX,aU,aG,Scl.bE,cQ,cL,bH,bJ,aZ,aS]<;>rfl) (bU _) rfl rfl H ?_
 try clear H a W
 intro a W H
 refine aH ?_
 replace H:St 52 w a W [(10,pA g6),(9,pA g5),(7,pA g4),(6,pA g3),(3,pA g1),(2,v)] [(g6,23,ks (sigR x l)),(g5,23,ks (pubN x)),(g4,23,ks (seedA x)),(gp1,5,cur1),(g3,40,Scl.ls 0),(g1,37,sg gS cS gK cK)]:=H.pick [0,5,7,8,9,10] [0,1,2,3,4,5] rfl
 refine hK4 _ _ ?_
 clear hK4
 refine wp_seq_k (fun K5 hK5=>?_)
 refine aE ?_
 refine aY (F:=fun u_ _=>u_=.pointer (some ⟨g1,2,none⟩)) (aI H (aA rfl) (aP rfl rfl (fun W=>(iU g1 W).2.1))) rfl rfl rfl H ?_
 try clear H a W
 rintro _ a W rfl H
 refine aY (F:=fun u_ _=>u_=.agg (cv TD BR)) (aI H (aA rfl) (aT (v:=.agg (cv TD BR)) rfl rfl (k:=5) rfl nY)) rfl rfl rfl H ?_
 try clear H a W
 rintro _ a W rfl H
 refine aY (F:=fun u_ _=>u_=.pointer (some ⟨g1,2,none⟩)) (aI H (aA rfl) (aP rfl rfl (fun W=>(iU g1 W).2.1))) rfl rfl rfl H ?_
 try clear H a W
 rintro _ a W rfl H
 refine aY (F:=fun u_ _=>u_=.pointer (some ⟨g1,18,none⟩)) (aI H (aA rfl) (aP rfl rfl (fun W=>(iU g1 W).2.2))) rfl rfl rfl H ?_
 try clear H a W
 rintro _ a W rfl H
 refine aY (F:=fun u_ _=>u_=.agg (tv BR)) (aI H (aA rfl) (aT (v:=.agg (tv BR)) rfl rfl (k:=5) rfl ld_sg2)) rfl rfl rfl H ?_
 try clear H a W
 rintro _ a W rfl H
 refine aY (F:=fun u_ _=>u_=.agg (ks (sigR x l))) (aI H (aA rfl) (aC rfl rfl (k:=0) rfl Tryz.underlying23 rfl (aL _))) rfl rfl rfl H ?_
 try clear H a W
 rintro _ a W rfl H
 refine aY (F:=fun u_ _=>u_=.agg (tv z1)) (cE H (aA rfl) rfl ⟨_,Tryz.func25,by kernel_rfl⟩ rfl (rS hz1 W)) rfl rfl rfl H ?_
 try clear H a W
 rintro _ a W rfl H
 refine aY (F:=fun u_ _=>u_=.agg (ks (sigP x l))) (cE H (aA rfl) rfl ⟨_,Tryz.func24,by kernel_rfl⟩ rfl (qJ rz1 (m:=(sigP x l)) (sigP_def x l) W)) rfl rfl rfl H ?_
 try clear H a W
 rintro _ a W rfl H
 refine bC (aN rfl bZ) rfl rfl rfl rfl H ?_
 try clear H a W
 intro g7 a W H
 refine aO rfl rfl rfl (k:=0) rfl (aL _) (by simp only [aX,aU,aG,Scl.bE,cQ,cL,bH,bJ,aZ,aS]<;>rfl) (bU _) rfl rfl H ?_
 try clear H a W
 intro a W H
 refine aH ?_
 replace H:St 52 w a W [(11,pA g7),(10,pA g6),(9,pA g5),(7,pA g4),(6,pA g3),(3,pA g1),(2,v)] [(g7,23,ks (sigP x l)),(g6,23,ks (sigR x l)),(g5,23,ks (pubN x)),(g4,23,ks (seedA x)),(gp1,5,cur1),(g3,40,Scl.ls 0),(g1,37,sg gS cS gK cK)]:=H.pick [0,9,10,11,12,13,14] [0,1,2,3,4,5,6] rfl
 refine hK5 _ _ ?_
 clear hK5
 refine wp_seq_k (fun K6 hK6=>?_)
 refine drawnR SB SB [⟨36,fun u_ _=>u_=.agg (sg gS cS gK cK),[],none,false⟩,⟨37,fun u_ _=>u_=.slice (some ⟨g7,0,none⟩) 32 32,[],none,false⟩,⟨38,fun u_ _=>u_=.slice (some ⟨g5,0,none⟩) 32 32,[],none,false⟩,⟨39,fun u_ _=>u_=v,[],none,false⟩,⟨40,fun u_ _=>u_=.agg (ks (sigH (sigP x l) (pubN x) l)),[0,1,2,3],none,false⟩,⟨12,NewF w.heap.size [(g7,23,ks (sigP x l)),(g6,23,ks (sigR x l)),(g5,23,ks (pubN x)),(g4,23,ks (seedA x)),(gp1,5,cur1),(g3,40,Scl.ls 0),(g1,37,sg gS cS gK cK)] 23 (ks 0),[],none,false⟩] [0,0,0,0,15,0,63] [4,5] dA dA (by kernel_rfl) (by kernel_rfl) (by kernel_rfl) H ⟨⟨fun a W  H=>by exact aR H (aA rfl) (aC rfl rfl (k:=6) rfl Tryz.underlying37 rfl (eW _ _ _ _)),aB,fun _=>aB⟩,⟨fun a W  H=>by exact aR H (aA rfl) (bL rfl rfl (vl:=none) (vh:=none) rfl rfl (eB g7)),aB,fun _=>aB⟩,⟨fun a W  H=>by exact aR H (aA rfl) (bL rfl rfl (vl:=none) (vh:=none) rfl rfl (eB g5)),aB,fun _=>aB⟩,⟨fun a W  H=>by exact aR H (aA rfl) (aK rfl rfl),aB,fun _=>aB⟩,⟨fun a W y0 hy0 y1 hy1 y2 hy2 y3 hy3 H=>by subst hy0;subst hy1;subst hy2;have e_:=hy3.symm;subst e_;exact cT H (aA rfl) rfl ⟨_,Tryz.func26,by kernel_rfl⟩ rfl (rhash7 (la:=kby (sigP x l)) (lb_:=kby (pubN x)) (lm:=l) W (jD hsg H) (lR (H.blk (k:=0) rfl)) (lR (H.blk (k:=2) rfl)) (dH hv H) (by rw [fK,fK];omega) (sN _ _ l)),aB,fun _=>aB⟩,⟨fun a W  H=>by exact kU H (aN rfl bZ) rfl,NewF.sb,fun _=>NewF.sb⟩,trivial⟩ (by kernel_rfl) ?_
 try clear H a W
 intro a W
 rintro _ rfl
 intro v12 hv12
 intro H
 obtain ⟨g8,rfl,hbg8,hog8,hng8⟩:=hv12
 replace H:=H.add hbg8 hog8 hng8
 clear hbg8 hog8 hng8
 refine aO rfl rfl rfl (k:=0) rfl (aL _) (by simp only [aX,aU,aG,Scl.bE,cQ,cL,bH,bJ,aZ,aS]<;>rfl) (bU _) rfl rfl H ?_
 try clear H a W
 intro a W H
 refine aH ?_
 replace H:St 52 w a W [(12,pA g8),(11,pA g7),(10,pA g6),(7,pA g4),(6,pA g3)] [(g8,23,ks (sigH (sigP x l) (pubN x) l)),(g7,23,ks (sigP x l)),(g6,23,ks (sigR x l)),(g4,23,ks (seedA x)),(gp1,5,cur1),(g3,40,Scl.ls 0)]:=H.pick [0,2,3,5,6] [0,1,2,4,5,6] rfl
 refine hK6 _ _ ?_
 clear hK6
 refine wp_seq_k (fun K7 hK7=>?_)
 refine aE ?_
 refine aY (F:=fun u_ _=>u_=.agg (ks (sigH (sigP x l) (pubN x) l))) (aI H (aA rfl) (aC rfl rfl (k:=0) rfl Tryz.underlying23 rfl (aL _))) rfl rfl rfl H ?_
 try clear H a W
 rintro _ a W rfl H
 refine aY (F:=fun u_ _=>u_=.agg (ks (seedA x))) (aI H (aA rfl) (aC rfl rfl (k:=3) rfl Tryz.underlying23 rfl (aL _))) rfl rfl rfl H ?_
 try clear H a W
 rintro _ a W rfl H
 refine aY (F:=fun u_ _=>u_=.agg (ks (sigR x l))) (aI H (aA rfl) (aC rfl rfl (k:=2) rfl Tryz.underlying23 rfl (aL _))) rfl rfl rfl H ?_
 try clear H a W
 rintro _ a W rfl H
 refine aY (F:=fun u_ _=>u_=.agg (ks (sigS x l))) (cE H (aA rfl) rfl ⟨_,Tryz.func27,by kernel_rfl⟩ rfl (rmulAddF (sigS_def x l) W (rO _ _ _) (mD x) (rN _ _))) rfl rfl rfl H ?_
 try clear H a W
 rintro _ a W rfl H
 refine bC (aN rfl bZ) rfl rfl rfl rfl H ?_
 try clear H a W
 intro g9 a W H
 refine aO rfl rfl rfl (k:=0) rfl (aL _) (by simp only [aX,aU,aG,Scl.bE,cQ,cL,bH,bJ,aZ,aS]<;>rfl) (bU _) rfl rfl H ?_
 try clear H a W
 intro a W H
 refine aH ?_
 replace H:St 52 w a W [(13,pA g9),(11,pA g7),(6,pA g3)] [(g9,23,ks (sigS x l)),(g7,23,ks (sigP x l)),(gp1,5,cur1),(g3,40,Scl.ls 0)]:=H.pick [0,6,9] [0,2,5,6] rfl
 refine hK7 _ _ ?_
 clear hK7
 refine wp_seq_k (fun K8 hK8=>?_)
 refine aE ?_
 refine bC (aN rfl eZ) rfl rfl rfl rfl H ?_
 try clear H a W
 intro g10 a W H
 refine aH ?_
 refine hK8 _ _ ?_
 clear hK8
 refine wp_seq_k (fun K9 hK9=>?_)
 refine drawnR SB SB [⟨45,fun u_ _=>u_=.slice (some ⟨g10,0,none⟩) 64 64,[],none,false⟩,⟨46,fun u_ _=>u_=.slice (some ⟨g7,0,none⟩) 32 32,[],none,false⟩] [0,0,3] [0,1] dA dA (by kernel_rfl) (by kernel_rfl) (by kernel_rfl) H ⟨⟨fun a W  H=>by exact aR H (aA rfl) (bL rfl rfl (vl:=none) (vh:=none) rfl rfl (sl_long g10)),aB,fun _=>aB⟩,⟨fun a W  H=>by exact aR H (aA rfl) (bL rfl rfl (vl:=none) (vh:=none) rfl rfl (eB g7)),aB,fun _=>aB⟩,trivial⟩ (by kernel_rfl) ?_
 try clear H a W
 intro a W
 rintro _ rfl
 rintro _ rfl
 intro H
 refine gJ rfl Tryz.underlying24 fB rfl rfl (k:=0) rfl (k2:=2) rfl (m:=32) rfl (by simp only [aG,Scl.bE]<;>omega) (by simp only [aG,Scl.bE]<;>omega) (bU _) (join1 (jC x l)) rfl rfl rfl rfl H ?_
 try clear H a W
 intro a W H
 refine aH ?_
 replace H:St 52 w a W [(14,pA g10),(13,pA g9),(6,pA g3)] [(g10,40,Scl.ls (sigP x l)),(g9,23,ks (sigS x l)),(gp1,5,cur1),(g3,40,Scl.ls 0)]:=H.pick [3,4,6] [0,1,3,4] rfl
 refine hK9 _ _ ?_
 clear hK9
 refine wp_seq_k (fun K10 hK10=>?_)
 refine drawnR SB SB [⟨48,fun u_ _=>u_=.slice (some ⟨g10,32,none⟩) 32 32,[],none,false⟩,⟨49,fun u_ _=>u_=.slice (some ⟨g9,0,none⟩) 32 32,[],none,false⟩] [0,0,3] [0,1] dA dA (by kernel_rfl) (by kernel_rfl) (by kernel_rfl) H ⟨⟨fun a W  H=>by exact aR H (aA rfl) (bL rfl rfl (vl:=some (.int .i64 32)) (vh:=none) rfl rfl (vW g10)),aB,fun _=>aB⟩,⟨fun a W  H=>by exact aR H (aA rfl) (bL rfl rfl (vl:=none) (vh:=none) rfl rfl (eB g9)),aB,fun _=>aB⟩,trivial⟩ (by kernel_rfl) ?_
 try clear H a W
 intro a W
 rintro _ rfl
 rintro _ rfl
 intro H
 refine gJ rfl Tryz.underlying24 fB rfl rfl (k:=0) rfl (k2:=1) rfl (m:=32) rfl (by simp only [aG,Scl.bE]<;>omega) (by simp only [aG,Scl.bE]<;>omega) (bU _) ((join2 (jC x l)).trans (congrArg Scl.ls (vX x l).symm)) rfl rfl rfl rfl H ?_
 try clear H a W
 intro a W H
 refine aH ?_
 replace H:St 52 w a W [(14,pA g10),(6,pA g3)] [(g10,40,Scl.ls (signN x l)),(gp1,5,cur1),(g3,40,Scl.ls 0)]:=H.pick [3,5] [0,2,3] rfl
 refine hK10 _ _ ?_
 clear hK10
 refine wp_seq_k (fun K11 hK11=>?_)
 refine aE ?_
 refine aY (F:=fun u_ _=>u_=.agg (Scl.ls (signN x l))) (aI H (aA rfl) (aC rfl rfl (k:=0) rfl Tryz.underlying40 rfl (cG _))) rfl rfl rfl H ?_
 try clear H a W
 rintro _ a W rfl H
 refine aO rfl rfl rfl (k:=2) rfl (cG _) (by simp only [aX,aU,aG,Scl.bE,cQ,cL,bH,bJ,aZ,aS]<;>rfl) (fD _) rfl rfl H ?_
 try clear H a W
 intro a W H
 refine aH ?_
 replace H:St 52 w a W [(6,pA g3)] [(gp1,5,cur1),(g3,40,Scl.ls (signN x l))]:=H.pick [2] [1,2] rfl
 refine hK11 _ _ ?_
 clear hK11
 refine wp_ret ?_
 repeat (first | (with_reducible refine bD ?_) | (with_reducible refine bI ?_))
 refine cI (p:=6) rfl rfl (k:=1) rfl Tryz.underlying40 rfl (cG _) H (fun hb=>?_)
 exact ⟨rfl,hb⟩
theorem rof_yes_z {q:Pj3} {n:Nat} {z:Pj3} (hn:K256 n) (h:isPt n=true) (hz:z=⟨ptX n,ofK n,1⟩) (w:World):Calls zP 34 #[.agg (cv TD q),.agg (ks n)] w (fun rr w'=>rr=.returned (.tuple #[.agg (tv z),.bool true])∧Below w.heap.size w w'):=by
 subst hz;exact rof_yes hn h w
theorem rcheck_a {gS cS gK cK p n:Nat} {v:Value} {l:List UInt8} (w:World) (hsg:SGF gS cS gK cK w) (hv:BF l v w) (hl:l.length≤90000) (hp:K256 p) (hn:n<13407807929942597099574024998205846127479365820592393377723561443721764030073546976801874298166903427690031858186486050853753882811946569946433649006084096) (hisp:isPt p=false):Calls zP 13 #[.agg (sg gS cS gK cK),.agg (ks p),.agg (Scl.ls n),v] w (fun rr w'=>rr=.returned (.bool false)∧Below w.heap.size w w'):=by
 refine bN (vs:=[.agg (sg gS cS gK cK),.agg (ks p),.agg (Scl.ls n),v]) 60 Tryz.func13 rfl Tryz.ntmps13 rfl (fun a W H=>?_)
 refine wp_seq_k (fun K1 hK1=>?_)
 refine aE ?_
 refine bP rfl rfl (xI _ _ _ _) rfl rfl rfl rfl H ?_
 try clear H a W
 intro g1 a W H
 refine bP rfl rfl (dG p) rfl rfl rfl rfl H ?_
 try clear H a W
 intro g2 a W H
 refine bP rfl rfl (jN n) rfl rfl rfl rfl H ?_
 try clear H a W
 intro g3 a W H
 refine aY (F:=fun u_ _=>u_=.bool false) (aI H (aA rfl) (aM rfl rfl)) rfl rfl rfl H ?_
 try clear H a W
 rintro _ a W rfl H
 refine aH ?_
 replace H:St 60 w a W [(8,.bool false),(6,pA g3),(5,pA g2),(4,pA g1),(3,v)] [(g3,40,Scl.ls n),(g2,23,ks p),(g1,37,sg gS cS gK cK)]:=H.pick [0,1,2,3,7] [0,1,2] rfl
 refine hK1 _ _ ?_
 clear hK1
 refine wp_seq_k (fun K2 hK2=>?_)
 refine aE ?_
 refine bC (aN rfl bZ) rfl rfl rfl rfl H ?_
 try clear H a W
 intro g4 a W H
 refine bC (aN rfl bZ) rfl rfl rfl rfl H ?_
 try clear H a W
 intro g5 a W H
 refine aH ?_
 refine hK2 _ _ ?_
 clear hK2
 refine wp_seq_k (fun K3 hK3=>?_)
 refine drawnR SB SB [⟨15,fun u_ _=>u_=.slice (some ⟨g4,0,none⟩) 32 32,[],none,false⟩,⟨16,fun u_ _=>u_=.slice (some ⟨g3,0,none⟩) 32 64,[],none,false⟩] [0,0,3] [0,1] dA dA (by kernel_rfl) (by kernel_rfl) (by kernel_rfl) H ⟨⟨fun a W  H=>by exact aR H (aA rfl) (bL rfl rfl (vl:=none) (vh:=none) rfl rfl (eB g4)),aB,fun _=>aB⟩,⟨fun a W  H=>by exact aR H (aA rfl) (bL rfl rfl (vl:=none) (vh:=some (.int .i64 32)) rfl rfl (sl_lo g3)),aB,fun _=>aB⟩,trivial⟩ (by kernel_rfl) ?_
 try clear H a W
 intro a W
 rintro _ rfl
 rintro _ rfl
 intro H
 refine gJ rfl Tryz.underlying24 fB rfl rfl (k:=1) rfl (k2:=2) rfl (m:=32) rfl (by simp only [aG,Scl.bE]<;>omega) (by simp only [aG,Scl.bE]<;>omega) (fD _) (mQ _ _) rfl rfl rfl rfl H ?_
 try clear H a W
 intro a W H
 refine aH ?_
 replace H:St 60 w a W [(10,pA g5),(9,pA g4),(8,.bool false),(6,pA g3),(5,pA g2),(4,pA g1),(3,v)] [(g5,23,ks 0),(g4,23,ks (n%115792089237316195423570985008687907853269984665640564039457584007913129639936)),(g3,40,Scl.ls n),(g2,23,ks p),(g1,37,sg gS cS gK cK)]:=H.pick [3,4,5,6,7,8,9] [0,1,2,3,4] rfl
 refine hK3 _ _ ?_
 clear hK3
 refine wp_seq_k (fun K4 hK4=>?_)
 refine drawnR SB SB [⟨18,fun u_ _=>u_=.slice (some ⟨g5,0,none⟩) 32 32,[],none,false⟩,⟨19,fun u_ _=>u_=.slice (some ⟨g3,32,none⟩) 32 32,[],none,false⟩] [0,0,3] [0,1] dA dA (by kernel_rfl) (by kernel_rfl) (by kernel_rfl) H ⟨⟨fun a W  H=>by exact aR H (aA rfl) (bL rfl rfl (vl:=none) (vh:=none) rfl rfl (eB g5)),aB,fun _=>aB⟩,⟨fun a W  H=>by exact aR H (aA rfl) (bL rfl rfl (vl:=some (.int .i64 32)) (vh:=none) rfl rfl (vW g3)),aB,fun _=>aB⟩,trivial⟩ (by kernel_rfl) ?_
 try clear H a W
 intro a W
 rintro _ rfl
 rintro _ rfl
 intro H
 refine gJ rfl Tryz.underlying24 fB rfl rfl (k:=0) rfl (k2:=2) rfl (m:=32) rfl (by simp only [aG,Scl.bE]<;>omega) (by simp only [aG,Scl.bE]<;>omega) (fD _) (qG _ _) rfl rfl rfl rfl H ?_
 try clear H a W
 intro a W H
 refine aH ?_
 replace H:St 60 w a W [(10,pA g5),(9,pA g4),(8,.bool false),(5,pA g2),(4,pA g1),(3,v)] [(g5,23,ks (n/115792089237316195423570985008687907853269984665640564039457584007913129639936)),(g4,23,ks (n%115792089237316195423570985008687907853269984665640564039457584007913129639936)),(g2,23,ks p),(g1,37,sg gS cS gK cK)]:=H.pick [3,4,5,7,8,9] [0,1,3,4] rfl
 refine hK4 _ _ ?_
 clear hK4
 refine wp_seq_k (fun K5 hK5=>?_)
 refine aE ?_
 refine aY (F:=fun u_ _=>u_=.pointer (some ⟨g1,2,none⟩)) (aI H (aA rfl) (aP rfl rfl (fun W=>(iU g1 W).2.1))) rfl rfl rfl H ?_
 try clear H a W
 rintro _ a W rfl H
 refine aY (F:=fun u_ _=>u_=.agg (cv TD BR)) (aI H (aA rfl) (aT (v:=.agg (cv TD BR)) rfl rfl (k:=3) rfl nY)) rfl rfl rfl H ?_
 try clear H a W
 rintro _ a W rfl H
 refine aY (F:=fun u_ _=>u_=.agg (ks p)) (aI H (aA rfl) (aC rfl rfl (k:=2) rfl Tryz.underlying23 rfl (aL _))) rfl rfl rfl H ?_
 try clear H a W
 rintro _ a W rfl H
 refine aY (F:=fun u_ _=>u_=.tuple #[.agg (tv rpNil),.bool false]) (cE H (aA rfl) rfl ⟨_,Tryz.func34,by kernel_rfl⟩ rfl (rof_no hp hisp W)) rfl rfl rfl H ?_
 try clear H a W
 rintro _ a W rfl H
 refine aY (F:=fun u_ _=>u_=.tuple #[.agg (tv rpNil),.bool false]) (aI H (aA rfl) (aK rfl rfl)) rfl rfl rfl H ?_
 try clear H a W
 rintro _ a W rfl H
 refine aY (F:=fun u_ _=>u_=.agg (tv rpNil)) (aI H (aA rfl) (bF rfl rfl (fun _=>rfl))) rfl rfl rfl H ?_
 try clear H a W
 rintro _ a W rfl H
 refine aY (F:=fun u_ _=>u_=.bool false) (aI H (aA rfl) (bF rfl rfl (fun _=>rfl))) rfl rfl rfl H ?_
 try clear H a W
 rintro _ a W rfl H
 refine bC (aN rfl jV) rfl rfl rfl rfl H ?_
 try clear H a W
 intro g6 a W H
 refine aO rfl rfl rfl (k:=0) rfl (cC _) (by simp only [aX,aU,aG,Scl.bE,cQ,cL,bH,bJ,aZ,aS]<;>rfl) (eR _) rfl rfl H ?_
 try clear H a W
 intro a W H
 refine aY (F:=fun u_ _=>u_=.bool false) (aI H (aA rfl) (aM rfl rfl)) rfl rfl rfl H ?_
 try clear H a W
 rintro _ a W rfl H
 refine aH ?_
 replace H:St 60 w a W [(12,.bool false),(11,pA g6),(10,pA g5),(9,pA g4),(8,.bool false),(5,pA g2),(4,pA g1),(3,v)] [(g6,33,tv rpNil),(g5,23,ks (n/115792089237316195423570985008687907853269984665640564039457584007913129639936)),(g4,23,ks (n%115792089237316195423570985008687907853269984665640564039457584007913129639936)),(g2,23,ks p),(g1,37,sg gS cS gK cK)]:=H.pick [0,1,9,10,11,12,13,14] [0,1,2,3,4] rfl
 refine hK5 _ _ ?_
 clear hK5
 refine wp_seq_k (fun K6 hK6=>?_)
 refine wp_seq_k (fun K7 hK7=>?_)
 refine aE ?_
 refine aY (F:=fun u_ _=>u_=.bool false) (aI H (aA rfl) (aK rfl rfl)) rfl rfl rfl H ?_
 try clear H a W
 rintro _ a W rfl H
 refine aY (F:=fun u_ _=>u_=.bool true) (aI H (aA rfl) (cX rfl rfl (fun _=>rfl))) rfl rfl rfl H ?_
 try clear H a W
 rintro _ a W rfl H
 refine aY (F:=fun u_ _=>u_=.bool true) (aI H (aA rfl) (aK rfl rfl)) rfl rfl rfl H ?_
 try clear H a W
 rintro _ a W rfl H
 refine dE (aJ rfl rfl rfl rfl rfl) rfl rfl rfl H ?_
 try clear H a W
 intro a W H
 refine dE (aJ rfl rfl rfl rfl rfl) rfl rfl rfl H ?_
 try clear H a W
 intro a W H
 refine dE (aJ rfl rfl rfl rfl rfl) rfl rfl rfl H ?_
 try clear H a W
 intro a W H
 refine aY (F:=fun u_ _=>u_=.bool true) (aI H (aA rfl) (cH rfl rfl (fun _=>rfl) (fun hb=>by cases hb))) rfl rfl rfl H ?_
 try clear H a W
 rintro _ a W rfl H
 refine aH ?_
 replace H:St 60 w a W [(34,.bool true),(11,pA g6),(10,pA g5),(9,pA g4),(8,.bool false),(5,pA g2),(4,pA g1),(3,v)] [(g6,33,tv rpNil),(g5,23,ks (n/115792089237316195423570985008687907853269984665640564039457584007913129639936)),(g4,23,ks (n%115792089237316195423570985008687907853269984665640564039457584007913129639936)),(g2,23,ks p),(g1,37,sg gS cS gK cK)]:=H.pick [0,8,9,10,11,12,13,14] [0,1,2,3,4] rfl
 refine hK7 _ _ ?_
 clear hK7
 refine wp_cond_true (H.ev rfl) ?_
 refine wp_seq_k (fun K8 hK8=>?_)
 refine aE ?_
 replace H:St 60 w a W [(34,.bool true),(11,pA g6),(10,pA g5),(9,pA g4),(5,pA g2),(4,pA g1),(3,v)] [(g6,33,tv rpNil),(g5,23,ks (n/115792089237316195423570985008687907853269984665640564039457584007913129639936)),(g4,23,ks (n%115792089237316195423570985008687907853269984665640564039457584007913129639936)),(g2,23,ks p),(g1,37,sg gS cS gK cK)]:=H.pick [0,1,2,3,5,6,7] [0,1,2,3,4] rfl
 refine aY (F:=fun u_ _=>u_=.bool false) (aI H (aA rfl) (aM rfl rfl)) rfl rfl rfl H ?_
 try clear H a W
 rintro _ a W rfl H
 refine aH ?_
 replace H:St 60 w a W [(8,.bool false),(11,pA g6),(10,pA g5),(9,pA g4),(5,pA g2),(4,pA g1),(3,v)] [(g6,33,tv rpNil),(g5,23,ks (n/115792089237316195423570985008687907853269984665640564039457584007913129639936)),(g4,23,ks (n%115792089237316195423570985008687907853269984665640564039457584007913129639936)),(g2,23,ks p),(g1,37,sg gS cS gK cK)]:=H.pick [0,2,3,4,5,6,7] [0,1,2,3,4] rfl
 refine hK8 _ _ ?_
 clear hK8
 refine wp_ret ?_
 repeat (first | (with_reducible refine bD ?_) | (with_reducible refine bI ?_))
 refine dX (p:=8) rfl rfl H (fun hb=>?_)
 exact ⟨rfl,hb⟩
theorem rcheck_b {gS cS gK cK p n:Nat} {v:Value} {l:List UInt8} {bm b:Bool} (w:World) (hsg:SGF gS cS gK cK w) (hv:BF l v w) (hl:l.length≤90000) (hp:K256 p) (hn:n<13407807929942597099574024998205846127479365820592393377723561443721764030073546976801874298166903427690031858186486050853753882811946569946433649006084096) (hisp:isPt p=true) (hbm:decide (n/115792089237316195423570985008687907853269984665640564039457584007913129639936<LL')=bm) (heq:decide (pbn (chkP p hisp (n/115792089237316195423570985008687907853269984665640564039457584007913129639936) (sigH (n%115792089237316195423570985008687907853269984665640564039457584007913129639936) p l))=n%115792089237316195423570985008687907853269984665640564039457584007913129639936)=b):Calls zP 13 #[.agg (sg gS cS gK cK),.agg (ks p),.agg (Scl.ls n),v] w (fun rr w'=>rr=.returned (.bool (bm&&b))∧Below w.heap.size w w'):=by
 obtain ⟨zo,hzo⟩:∃ z:Pj3,z=⟨ptX p,ofK p,1⟩:=⟨_,rfl⟩
 have rzo:RepR (ptOf p hisp) zo:=by rw [hzo];exact RepR.of (ptOf p hisp)
 obtain ⟨mm,hmm⟩:∃ m,m=pbn (chkP p hisp (n/115792089237316195423570985008687907853269984665640564039457584007913129639936) (sigH (n%115792089237316195423570985008687907853269984665640564039457584007913129639936) p l)):=⟨_,rfl⟩
 rw [←hmm] at heq
 have hmml:K256 mm:=by rw [hmm];exact yO _
 obtain ⟨z1,hz1⟩:∃ z:Pj3,z=rpMul BR (n/115792089237316195423570985008687907853269984665640564039457584007913129639936) 256:=⟨_,rfl⟩
 have rz1:RepR (Pt.mul BP (n/115792089237316195423570985008687907853269984665640564039457584007913129639936)) z1:=by rw [hz1];exact RepR.mul BR_rep (uE hn)
 obtain ⟨z2,hz2⟩:∃ z:Pj3,z=rpNeg zo:=⟨_,rfl⟩
 have rz2:RepR (Pt.neg (ptOf p hisp)) z2:=by rw [hz2];exact RepR.neg rzo
 obtain ⟨z3,hz3⟩:∃ z:Pj3,z=rpMul z2 (sigH (n%115792089237316195423570985008687907853269984665640564039457584007913129639936) p l) 256:=⟨_,rfl⟩
 have rz3:RepR (Pt.mul (Pt.neg (ptOf p hisp)) (sigH (n%115792089237316195423570985008687907853269984665640564039457584007913129639936) p l)) z3:=by rw [hz3];exact RepR.mul rz2 (rO _ _ _)
 obtain ⟨z4,hz4⟩:∃ z:Pj3,z=rpAdd z1 z3:=⟨_,rfl⟩
 have rz4:RepR (Pt.add (Pt.mul BP (n/115792089237316195423570985008687907853269984665640564039457584007913129639936)) (Pt.mul (Pt.neg (ptOf p hisp)) (sigH (n%115792089237316195423570985008687907853269984665640564039457584007913129639936) p l))) z4:=by rw [hz4];exact RepR.add rz1 rz3
 refine bN (vs:=[.agg (sg gS cS gK cK),.agg (ks p),.agg (Scl.ls n),v]) 60 Tryz.func13 rfl Tryz.ntmps13 rfl (fun a W H=>?_)
 refine wp_seq_k (fun K1 hK1=>?_)
 refine aE ?_
 refine bP rfl rfl (xI _ _ _ _) rfl rfl rfl rfl H ?_
 try clear H a W
 intro g1 a W H
 refine bP rfl rfl (dG p) rfl rfl rfl rfl H ?_
 try clear H a W
 intro g2 a W H
 refine bP rfl rfl (jN n) rfl rfl rfl rfl H ?_
 try clear H a W
 intro g3 a W H
 refine aY (F:=fun u_ _=>u_=.bool false) (aI H (aA rfl) (aM rfl rfl)) rfl rfl rfl H ?_
 try clear H a W
 rintro _ a W rfl H
 refine aH ?_
 replace H:St 60 w a W [(8,.bool false),(6,pA g3),(5,pA g2),(4,pA g1),(3,v)] [(g3,40,Scl.ls n),(g2,23,ks p),(g1,37,sg gS cS gK cK)]:=H.pick [0,1,2,3,7] [0,1,2] rfl
 refine hK1 _ _ ?_
 clear hK1
 refine wp_seq_k (fun K2 hK2=>?_)
 refine aE ?_
 refine bC (aN rfl bZ) rfl rfl rfl rfl H ?_
 try clear H a W
 intro g4 a W H
 refine bC (aN rfl bZ) rfl rfl rfl rfl H ?_
 try clear H a W
 intro g5 a W H
 refine aH ?_
 refine hK2 _ _ ?_
 clear hK2
 refine wp_seq_k (fun K3 hK3=>?_)
 refine drawnR SB SB [⟨15,fun u_ _=>u_=.slice (some ⟨g4,0,none⟩) 32 32,[],none,false⟩,⟨16,fun u_ _=>u_=.slice (some ⟨g3,0,none⟩) 32 64,[],none,false⟩] [0,0,3] [0,1] dA dA (by kernel_rfl) (by kernel_rfl) (by kernel_rfl) H ⟨⟨fun a W  H=>by exact aR H (aA rfl) (bL rfl rfl (vl:=none) (vh:=none) rfl rfl (eB g4)),aB,fun _=>aB⟩,⟨fun a W  H=>by exact aR H (aA rfl) (bL rfl rfl (vl:=none) (vh:=some (.int .i64 32)) rfl rfl (sl_lo g3)),aB,fun _=>aB⟩,trivial⟩ (by kernel_rfl) ?_
 try clear H a W
 intro a W
 rintro _ rfl
 rintro _ rfl
 intro H
 refine gJ rfl Tryz.underlying24 fB rfl rfl (k:=1) rfl (k2:=2) rfl (m:=32) rfl (by simp only [aG,Scl.bE]<;>omega) (by simp only [aG,Scl.bE]<;>omega) (fD _) (mQ _ _) rfl rfl rfl rfl H ?_
 try clear H a W
 intro a W H
 refine aH ?_
 replace H:St 60 w a W [(10,pA g5),(9,pA g4),(8,.bool false),(6,pA g3),(5,pA g2),(4,pA g1),(3,v)] [(g5,23,ks 0),(g4,23,ks (n%115792089237316195423570985008687907853269984665640564039457584007913129639936)),(g3,40,Scl.ls n),(g2,23,ks p),(g1,37,sg gS cS gK cK)]:=H.pick [3,4,5,6,7,8,9] [0,1,2,3,4] rfl
 refine hK3 _ _ ?_
 clear hK3
 refine wp_seq_k (fun K4 hK4=>?_)
 refine drawnR SB SB [⟨18,fun u_ _=>u_=.slice (some ⟨g5,0,none⟩) 32 32,[],none,false⟩,⟨19,fun u_ _=>u_=.slice (some ⟨g3,32,none⟩) 32 32,[],none,false⟩] [0,0,3] [0,1] dA dA (by kernel_rfl) (by kernel_rfl) (by kernel_rfl) H ⟨⟨fun a W  H=>by exact aR H (aA rfl) (bL rfl rfl (vl:=none) (vh:=none) rfl rfl (eB g5)),aB,fun _=>aB⟩,⟨fun a W  H=>by exact aR H (aA rfl) (bL rfl rfl (vl:=some (.int .i64 32)) (vh:=none) rfl rfl (vW g3)),aB,fun _=>aB⟩,trivial⟩ (by kernel_rfl) ?_
 try clear H a W
 intro a W
 rintro _ rfl
 rintro _ rfl
 intro H
 refine gJ rfl Tryz.underlying24 fB rfl rfl (k:=0) rfl (k2:=2) rfl (m:=32) rfl (by simp only [aG,Scl.bE]<;>omega) (by simp only [aG,Scl.bE]<;>omega) (fD _) (qG _ _) rfl rfl rfl rfl H ?_
 try clear H a W
 intro a W H
 refine aH ?_
 replace H:St 60 w a W [(10,pA g5),(9,pA g4),(8,.bool false),(5,pA g2),(4,pA g1),(3,v)] [(g5,23,ks (n/115792089237316195423570985008687907853269984665640564039457584007913129639936)),(g4,23,ks (n%115792089237316195423570985008687907853269984665640564039457584007913129639936)),(g2,23,ks p),(g1,37,sg gS cS gK cK)]:=H.pick [3,4,5,7,8,9] [0,1,3,4] rfl
 refine hK4 _ _ ?_
 clear hK4
 refine wp_seq_k (fun K5 hK5=>?_)
 refine aE ?_
 refine aY (F:=fun u_ _=>u_=.pointer (some ⟨g1,2,none⟩)) (aI H (aA rfl) (aP rfl rfl (fun W=>(iU g1 W).2.1))) rfl rfl rfl H ?_
 try clear H a W
 rintro _ a W rfl H
 refine aY (F:=fun u_ _=>u_=.agg (cv TD BR)) (aI H (aA rfl) (aT (v:=.agg (cv TD BR)) rfl rfl (k:=3) rfl nY)) rfl rfl rfl H ?_
 try clear H a W
 rintro _ a W rfl H
 refine aY (F:=fun u_ _=>u_=.agg (ks p)) (aI H (aA rfl) (aC rfl rfl (k:=2) rfl Tryz.underlying23 rfl (aL _))) rfl rfl rfl H ?_
 try clear H a W
 rintro _ a W rfl H
 refine aY (F:=fun u_ _=>u_=.tuple #[.agg (tv zo),.bool true]) (cE H (aA rfl) rfl ⟨_,Tryz.func34,by kernel_rfl⟩ rfl (rof_yes_z hp hisp hzo W)) rfl rfl rfl H ?_
 try clear H a W
 rintro _ a W rfl H
 refine aY (F:=fun u_ _=>u_=.tuple #[.agg (tv zo),.bool true]) (aI H (aA rfl) (aK rfl rfl)) rfl rfl rfl H ?_
 try clear H a W
 rintro _ a W rfl H
 refine aY (F:=fun u_ _=>u_=.agg (tv zo)) (aI H (aA rfl) (bF rfl rfl (fun _=>rfl))) rfl rfl rfl H ?_
 try clear H a W
 rintro _ a W rfl H
 refine aY (F:=fun u_ _=>u_=.bool true) (aI H (aA rfl) (bF rfl rfl (fun _=>rfl))) rfl rfl rfl H ?_
 try clear H a W
 rintro _ a W rfl H
 refine bC (aN rfl jV) rfl rfl rfl rfl H ?_
 try clear H a W
 intro g6 a W H
 refine aO rfl rfl rfl (k:=0) rfl (cC _) (by simp only [aX,aU,aG,Scl.bE,cQ,cL,bH,bJ,aZ,aS]<;>rfl) (eR _) rfl rfl H ?_
 try clear H a W
 intro a W H
 refine aY (F:=fun u_ _=>u_=.bool true) (aI H (aA rfl) (aM rfl rfl)) rfl rfl rfl H ?_
 try clear H a W
 rintro _ a W rfl H
 refine aH ?_
 replace H:St 60 w a W [(12,.bool true),(11,pA g6),(10,pA g5),(9,pA g4),(8,.bool false),(5,pA g2),(4,pA g1),(3,v)] [(g6,33,tv zo),(g5,23,ks (n/115792089237316195423570985008687907853269984665640564039457584007913129639936)),(g4,23,ks (n%115792089237316195423570985008687907853269984665640564039457584007913129639936)),(g2,23,ks p),(g1,37,sg gS cS gK cK)]:=H.pick [0,1,9,10,11,12,13,14] [0,1,2,3,4] rfl
 refine hK5 _ _ ?_
 clear hK5
 refine wp_seq_k (fun K6 hK6=>?_)
 refine wp_seq_k (fun K7 hK7=>?_)
 refine aE ?_
 refine aY (F:=fun u_ _=>u_=.bool true) (aI H (aA rfl) (aK rfl rfl)) rfl rfl rfl H ?_
 try clear H a W
 rintro _ a W rfl H
 refine aY (F:=fun u_ _=>u_=.bool false) (aI H (aA rfl) (cX rfl rfl (fun _=>rfl))) rfl rfl rfl H ?_
 try clear H a W
 rintro _ a W rfl H
 refine aY (F:=fun u_ _=>u_=.bool false) (aI H (aA rfl) (aK rfl rfl)) rfl rfl rfl H ?_
 try clear H a W
 rintro _ a W rfl H
 refine aY (F:=fun u_ _=>u_=.agg (ks (n/115792089237316195423570985008687907853269984665640564039457584007913129639936))) (aI H (aJ rfl rfl rfl rfl rfl) (aC rfl rfl (k:=1) rfl Tryz.underlying23 rfl (aL _))) rfl rfl rfl H ?_
 try clear H a W
 rintro _ a W rfl H
 refine aY (F:=fun u_ _=>u_=.bool bm) (cE H (aJ rfl rfl rfl rfl rfl) rfl ⟨_,Tryz.func35,by kernel_rfl⟩ rfl (rmay_any (uE hn) hbm W)) rfl rfl rfl H ?_
 try clear H a W
 rintro _ a W rfl H
 refine aY (F:=fun u_ _=>u_=.bool (!bm)) (aI H (aJ rfl rfl rfl rfl rfl) (cX rfl rfl (fun _=>rfl))) rfl rfl rfl H ?_
 try clear H a W
 rintro _ a W rfl H
 refine aY (F:=fun u_ _=>u_=.bool (!bm)) (aI H (aA rfl) (cH rfl rfl (fun hb=>by cases hb) (fun _=>rfl))) rfl rfl rfl H ?_
 try clear H a W
 rintro _ a W rfl H
 refine aH ?_
 replace H:St 60 w a W [(34,.bool (!bm)),(11,pA g6),(10,pA g5),(9,pA g4),(8,.bool false),(5,pA g2),(4,pA g1),(3,v)] [(g6,33,tv zo),(g5,23,ks (n/115792089237316195423570985008687907853269984665640564039457584007913129639936)),(g4,23,ks (n%115792089237316195423570985008687907853269984665640564039457584007913129639936)),(g2,23,ks p),(g1,37,sg gS cS gK cK)]:=H.pick [0,8,9,10,11,12,13,14] [0,1,2,3,4] rfl
 refine hK7 _ _ ?_
 clear hK7
 cases bm with
 | true =>
  refine wp_cond_false (H.ev rfl) ?_
  refine wp_skip ?_
  refine hK6 _ _ ?_
  clear hK6
  refine wp_seq_k (fun K8 hK8=>?_)
  refine drawnR SB SB [⟨35,fun u_ _=>u_=.agg (sg gS cS gK cK),[],none,false⟩,⟨36,fun u_ _=>u_=.slice (some ⟨g4,0,none⟩) 32 32,[],none,false⟩,⟨37,fun u_ _=>u_=.slice (some ⟨g2,0,none⟩) 32 32,[],none,false⟩,⟨38,fun u_ _=>u_=v,[],none,false⟩,⟨39,fun u_ _=>u_=.agg (ks (sigH (n%115792089237316195423570985008687907853269984665640564039457584007913129639936) p l)),[0,1,2,3],none,false⟩,⟨13,NewF w.heap.size [(g6,33,tv zo),(g5,23,ks (n/115792089237316195423570985008687907853269984665640564039457584007913129639936)),(g4,23,ks (n%115792089237316195423570985008687907853269984665640564039457584007913129639936)),(g2,23,ks p),(g1,37,sg gS cS gK cK)] 23 (ks 0),[],none,false⟩] [0,0,0,0,15,0,63] [4,5] dA dA (by kernel_rfl) (by kernel_rfl) (by kernel_rfl) H ⟨⟨fun a W  H=>by exact aR H (aA rfl) (aC rfl rfl (k:=4) rfl Tryz.underlying37 rfl (eW _ _ _ _)),aB,fun _=>aB⟩,⟨fun a W  H=>by exact aR H (aA rfl) (bL rfl rfl (vl:=none) (vh:=none) rfl rfl (eB g4)),aB,fun _=>aB⟩,⟨fun a W  H=>by exact aR H (aA rfl) (bL rfl rfl (vl:=none) (vh:=none) rfl rfl (eB g2)),aB,fun _=>aB⟩,⟨fun a W  H=>by exact aR H (aA rfl) (aK rfl rfl),aB,fun _=>aB⟩,⟨fun a W y0 hy0 y1 hy1 y2 hy2 y3 hy3 H=>by subst hy0;subst hy1;subst hy2;have e_:=hy3.symm;subst e_;exact cT H (aA rfl) rfl ⟨_,Tryz.func26,by kernel_rfl⟩ rfl (rhash7 (la:=kby (n%115792089237316195423570985008687907853269984665640564039457584007913129639936)) (lb_:=kby p) (lm:=l) W (jD hsg H) (lR (H.blk (k:=2) rfl)) (lR (H.blk (k:=3) rfl)) (dH hv H) (by rw [fK,fK];omega) (sN _ _ l)),aB,fun _=>aB⟩,⟨fun a W  H=>by exact kU H (aN rfl bZ) rfl,NewF.sb,fun _=>NewF.sb⟩,trivial⟩ (by kernel_rfl) ?_
  try clear H a W
  intro a W
  rintro _ rfl
  intro v13 hv13
  intro H
  obtain ⟨g7,rfl,hbg7,hog7,hng7⟩:=hv13
  replace H:=H.add hbg7 hog7 hng7
  clear hbg7 hog7 hng7
  refine aO rfl rfl rfl (k:=0) rfl (aL _) (by simp only [aX,aU,aG,Scl.bE,cQ,cL,bH,bJ,aZ,aS]<;>rfl) (bU _) rfl rfl H ?_
  try clear H a W
  intro a W H
  refine aH ?_
  replace H:St 60 w a W [(13,pA g7),(11,pA g6),(10,pA g5),(9,pA g4),(8,.bool false),(4,pA g1)] [(g7,23,ks (sigH (n%115792089237316195423570985008687907853269984665640564039457584007913129639936) p l)),(g6,33,tv zo),(g5,23,ks (n/115792089237316195423570985008687907853269984665640564039457584007913129639936)),(g4,23,ks (n%115792089237316195423570985008687907853269984665640564039457584007913129639936)),(g1,37,sg gS cS gK cK)]:=H.pick [0,3,4,5,6,8] [0,1,2,3,5] rfl
  refine hK8 _ _ ?_
  clear hK8
  refine wp_seq_k (fun K9 hK9=>?_)
  refine drawnS [.val 40 (.pointer (some ⟨g1,2,none⟩)) [] [],.val 41 (.agg (cv TD BR)) [0] [4],.val 42 (.pointer (some ⟨g1,2,none⟩)) [] [],.val 43 (.agg (cv TD BR)) [2] [4],.val 44 (.pointer (some ⟨g1,2,none⟩)) [] [],.val 45 (.pointer (some ⟨g1,18,none⟩)) [4] [],.val 46 (.agg (tv BR)) [5] [4],.val 47 (.agg (ks (n/115792089237316195423570985008687907853269984665640564039457584007913129639936))) [] [2],.val 48 (.agg (tv z1)) [3,6,7] [],.val 49 (.pointer (some ⟨g1,2,none⟩)) [] [],.val 50 (.agg (cv TD BR)) [9] [4],.val 51 (.agg (tv zo)) [] [1],.val 52 (.agg (tv z2)) [11] [],.val 53 (.agg (ks (sigH (n%115792089237316195423570985008687907853269984665640564039457584007913129639936) p l))) [] [0],.val 54 (.agg (tv z3)) [10,12,13] [],.val 55 (.agg (tv z4)) [1,8,14] [],.new 14 33 (tv RZ),.ston 16 14 33 (tv RZ) (tv z4) [15]] [0,1,0,4,0,16,32,0,200,0,512,0,2304,0,13312,16642,0,131071] (by kernel_rfl) (by kernel_rfl) (by kernel_rfl) H ⟨⟨aP rfl rfl (fun W=>(iU g1 W).2.1),aA rfl⟩,⟨aT (v:=.agg (cv TD BR)) rfl rfl (k:=0) rfl nY,aA rfl⟩,⟨aP rfl rfl (fun W=>(iU g1 W).2.1),aA rfl⟩,⟨aT (v:=.agg (cv TD BR)) rfl rfl (k:=0) rfl nY,aA rfl⟩,⟨aP rfl rfl (fun W=>(iU g1 W).2.1),aA rfl⟩,⟨aP rfl rfl (fun W=>(iU g1 W).2.2),aA rfl⟩,⟨aT (v:=.agg (tv BR)) rfl rfl (k:=0) rfl ld_sg2,aA rfl⟩,⟨aC rfl rfl (k:=0) rfl Tryz.underlying23 rfl (aL _),aA rfl⟩,⟨aF rfl ⟨_,Tryz.func25,by kernel_rfl⟩ rfl (fun W hb=>rS hz1 W),aA rfl⟩,⟨aP rfl rfl (fun W=>(iU g1 W).2.1),aA rfl⟩,⟨aT (v:=.agg (cv TD BR)) rfl rfl (k:=0) rfl nY,aA rfl⟩,⟨aC rfl rfl (k:=0) rfl Tryz.underlying33 rfl (cC _),aA rfl⟩,⟨aF rfl ⟨_,Tryz.func37,by kernel_rfl⟩ rfl (fun W hb=>rneg_pt hz2 W),aA rfl⟩,⟨aC rfl rfl (k:=0) rfl Tryz.underlying23 rfl (aL _),aA rfl⟩,⟨aF rfl ⟨_,Tryz.func25,by kernel_rfl⟩ rfl (fun W hb=>rS hz3 W),aA rfl⟩,⟨aF rfl ⟨_,Tryz.func36,by kernel_rfl⟩ rfl (fun W hb=>rT hz4 W),aA rfl⟩,⟨aN rfl jV,rfl⟩,⟨rfl,rfl,fun g=>bQ rfl rfl rfl (cC _) (by simp only [aX,aU,aG,Scl.bE,cQ,cL,bH,bJ,aZ,aS]<;>rfl) (eR _)⟩,trivial⟩ ?_
  try clear H a W
  intro G8 a W H
  replace H:St 60 w a W [(14,pA (G8 16)),(9,pA g4),(8,.bool false)] [((G8 16),33,tv z4),(g4,23,ks (n%115792089237316195423570985008687907853269984665640564039457584007913129639936))]:=H.pick [16,20,21] [0,4] rfl
  refine hK9 _ _ ?_
  clear hK9
  refine wp_seq_k (fun K10 hK10=>?_)
  replace H:St 60 w a W [(14,pA (G8 16)),(9,pA g4)] [((G8 16),33,tv z4),(g4,23,ks (n%115792089237316195423570985008687907853269984665640564039457584007913129639936))]:=H.pick [0,1] [0,1] rfl
  refine drawnS [.val 56 (.agg (tv z4)) [] [0],.val 57 (.agg (ks mm)) [0] [],.val 58 (.agg (ks (n%115792089237316195423570985008687907853269984665640564039457584007913129639936))) [] [1],.val 59 (.bool b) [1,2] [],.val 8 (.bool b) [3] []] [0,1,0,6,15] (by kernel_rfl) (by kernel_rfl) (by kernel_rfl) H ⟨⟨aC rfl rfl (k:=0) rfl Tryz.underlying33 rfl (cC _),aA rfl⟩,⟨aF rfl ⟨_,Tryz.func24,by kernel_rfl⟩ rfl (fun W hb=>qJ rz4 (m:=mm) hmm W),aA rfl⟩,⟨aC rfl rfl (k:=0) rfl Tryz.underlying23 rfl (aL _),aA rfl⟩,⟨aQ rfl rfl rfl (seq_key hmml (lo_lt n) heq _ _),aA rfl⟩,⟨aM rfl rfl,aA rfl⟩,trivial⟩ ?_
  try clear H a W
  intro G9 a W H
  replace H:St 60 w a W [(8,.bool b)] []:=H.pick [4] [] rfl
  refine hK10 _ _ ?_
  clear hK10
  refine wp_ret ?_
  repeat (first | (with_reducible refine bD ?_) | (with_reducible refine bI ?_))
  refine dX (p:=8) rfl rfl H (fun hb=>?_)
  exact ⟨by rw [Bool.true_and],hb⟩
 | false =>
  refine wp_cond_true (H.ev rfl) ?_
  refine wp_seq_k (fun K11 hK11=>?_)
  refine aE ?_
  replace H:St 60 w a W [(34,.bool (!false)),(11,pA g6),(10,pA g5),(9,pA g4),(5,pA g2),(4,pA g1),(3,v)] [(g6,33,tv zo),(g5,23,ks (n/115792089237316195423570985008687907853269984665640564039457584007913129639936)),(g4,23,ks (n%115792089237316195423570985008687907853269984665640564039457584007913129639936)),(g2,23,ks p),(g1,37,sg gS cS gK cK)]:=H.pick [0,1,2,3,5,6,7] [0,1,2,3,4] rfl
  refine aY (F:=fun u_ _=>u_=.bool false) (aI H (aA rfl) (aM rfl rfl)) rfl rfl rfl H ?_
  try clear H a W
  rintro _ a W rfl H
  refine aH ?_
  replace H:St 60 w a W [(8,.bool false),(11,pA g6),(10,pA g5),(9,pA g4),(5,pA g2),(4,pA g1),(3,v)] [(g6,33,tv zo),(g5,23,ks (n/115792089237316195423570985008687907853269984665640564039457584007913129639936)),(g4,23,ks (n%115792089237316195423570985008687907853269984665640564039457584007913129639936)),(g2,23,ks p),(g1,37,sg gS cS gK cK)]:=H.pick [0,2,3,4,5,6,7] [0,1,2,3,4] rfl
  refine hK11 _ _ ?_
  clear hK11
  refine wp_ret ?_
  repeat (first | (with_reducible refine bD ?_) | (with_reducible refine bI ?_))
  refine dX (p:=8) rfl rfl H (fun hb=>?_)
  exact ⟨by rw [Bool.false_and],hb⟩
theorem rcheck7 {u v:Value} {p n:Nat} {l:List UInt8} (w:World) (hs:SG u w) (hv:BF l v w) (hl:l.length≤90000) (hp:K256 p) (hn:n<13407807929942597099574024998205846127479365820592393377723561443721764030073546976801874298166903427690031858186486050853753882811946569946433649006084096) {b:Bool} (hb:checkN p n l=b):Calls zP 13 #[u,.agg (ks p),.agg (Scl.ls n),v] w (fun rr w'=>rr=.returned (.bool b)∧Below w.heap.size w w'):=by
 obtain ⟨gS,cS,gK,cK,rfl,hsg⟩:=hs
 cases hisp:isPt p with
 | false =>
  have e:b=false:=by rw [←hb];unfold checkN;rw [dif_neg (by rw [hisp];decide)]
  rw [e]
  exact rcheck_a w hsg hv hl hp hn hisp
 | true =>
  have e:checkN p n l=(decide (n/115792089237316195423570985008687907853269984665640564039457584007913129639936<LL')&&decide (pbn (chkP p hisp (n/115792089237316195423570985008687907853269984665640564039457584007913129639936) (sigH (n%115792089237316195423570985008687907853269984665640564039457584007913129639936) p l))=n%115792089237316195423570985008687907853269984665640564039457584007913129639936)):=by unfold checkN;rw [dif_pos hisp]
  rw [←hb,e]
  exact rcheck_b w hsg hv hl hp hn hisp rfl rfl
end
section
set_option maxRecDepth 99999
open Go Go.RowKit
attribute [local irreducible] ev sv ks Scl.ls ptSet ptAdd ptMul ptNeg ptE rootC EE II TD BX BY BE kby num seedA seedP pubN sigR sigP sigH sigS signN checkN clampK pbn BP er putd
theorem known7  (w:World) (hgl:GL w):Calls zP 6 #[] w (fun rr w'=>rr=.returned (.bool true)∧Below w.heap.size w w'):=by
 obtain ⟨y,hy⟩:∃ z,z=signN 5 [109]:=⟨_,rfl⟩
 obtain ⟨p,hp⟩:∃ z,z=pubN 5:=⟨_,rfl⟩
 obtain ⟨d,hd⟩:∃ z,y/256^32%256=z:=⟨_,rfl⟩
 obtain ⟨v,hv⟩:∃ z,(d+1)%256=z:=⟨_,rfl⟩
 obtain ⟨t,ht⟩:∃ z,putd 256 y 32 v=z:=⟨_,rfl⟩
 have hd2:d<256:=by rw [←hd];exact Nat.mod_lt _ (by omega)
 have hv2:v<256:=by rw [←hv];exact Nat.mod_lt _ (by omega)
 have hpl:K256 p:=by rw [hp];exact gI _
 have hyl:y<13407807929942597099574024998205846127479365820592393377723561443721764030073546976801874298166903427690031858186486050853753882811946569946433649006084096:=by rw [hy];exact eC _ _
 have htl:t<13407807929942597099574024998205846127479365820592393377723561443721764030073546976801874298166903427690031858186486050853753882811946569946433649006084096:=by rw [←ht];exact put_lt hyl hv2
 have hcy:checkN p y [109]=true:=by rw [hp,hy];exact iW _ _
 have hct:checkN p t [109]=false:=by rw [hp,←ht,hy];rw [hy] at hd;exact check_put hd hv
 refine bN (vs:=[]) 33 Tryz.func6 rfl Tryz.ntmps6 rfl (fun a W H=>?_)
 refine wp_seq_k (fun K1 hK1=>?_)
 refine aE ?_
 refine aY (F:=fun u_ _=>u_=.bool false) (aI H (aA rfl) (aM rfl rfl)) rfl rfl rfl H ?_
 try clear H a W
 rintro _ a W rfl H
 refine aH ?_
 refine hK1 _ _ ?_
 clear hK1
 refine wp_seq_k (fun K2 hK2=>?_)
 refine aE ?_
 refine aY (F:=fun u_ _=>u_=.agg (ks 5)) (aI H (aA rfl) (cD rfl rfl bd_key5)) rfl rfl rfl H ?_
 try clear H a W
 rintro _ a W rfl H
 refine bC (aN rfl bZ) rfl rfl rfl rfl H ?_
 try clear H a W
 intro g1 a W H
 refine aO rfl rfl rfl (k:=0) rfl (aL _) (by simp only [aX,aU,aG,Scl.bE]<;>rfl) (bU _) rfl rfl H ?_
 try clear H a W
 intro a W H
 refine aH ?_
 replace H:St 33 w a W [(1,pA g1),(0,.bool false)] [(g1,23,ks 5)]:=H.pick [0,2] [0] rfl
 refine hK2 _ _ ?_
 clear hK2
 refine wp_seq_k (fun K3 hK3=>?_)
 refine aE ?_
 refine aY (F:=fun u_ _=>u_=.agg (ks 5)) (aI H (aA rfl) (aC rfl rfl (k:=0) rfl Tryz.underlying23 rfl (aL _))) rfl rfl rfl H ?_
 try clear H a W
 rintro _ a W rfl H
 refine aY (F:=MF w.heap.size [(g1,23,ks 5)] [109]) (tR H (aA rfl) rfl) rfl rfl rfl H ?_
 try clear H a W
 intro v6 a W hv6 H
 refine jR (F:=BF [109]) (yR H (aA rfl) rfl rfl hv6) rfl rfl rfl H ?_
 intro v7 a W hv7 hb H
 replace hv6:=MF.grow _ _ _ hv6 hb
 refine jR (F:=LF [[109]]) (iR H (aA rfl) rfl rfl hv7) rfl rfl rfl H ?_
 intro v8 a W hv8 hb H
 replace hv7:=BF.grow _ _ _ hv7 hb
 replace hv6:=MF.grow _ _ _ hv6 hb
 refine jR (F:=fun u_ _=>u_=.agg (Scl.ls y)) (cE H (aA rfl) rfl ⟨_,Tryz.func8,by kernel_rfl⟩ rfl (sign_z hy W hv8.rf rfl fit_m (hgl.ext H.below))) rfl rfl rfl H ?_
 rintro _ a W rfl hb H
 replace hv8:=LF.grow _ _ _ hv8 hb
 replace hv7:=BF.grow _ _ _ hv7 hb
 replace hv6:=MF.grow _ _ _ hv6 hb
 replace H:St 33 w a W [(9,.agg (Scl.ls y)),(5,.agg (ks 5)),(1,pA g1),(0,.bool false)] [(g1,23,ks 5)]:=H.pick [0,4,5,6] [0] rfl
 refine bC (aN rfl eZ) rfl rfl rfl rfl H ?_
 try clear H a W
 intro g2 a W H
 refine aO rfl rfl rfl (k:=0) rfl (cG _) (by simp only [aX,aU,aG,Scl.bE]<;>rfl) (fD _) rfl rfl H ?_
 try clear H a W
 intro a W H
 refine aH ?_
 replace H:St 33 w a W [(2,pA g2),(1,pA g1),(0,.bool false)] [(g2,40,Scl.ls y),(g1,23,ks 5)]:=H.pick [0,3,4] [0,1] rfl
 refine hK3 _ _ ?_
 clear hK3
 refine wp_seq_k (fun K4 hK4=>?_)
 refine aE ?_
 refine aY (F:=fun u_ _=>u_=.agg (Scl.ls y)) (aI H (aA rfl) (aC rfl rfl (k:=0) rfl Tryz.underlying40 rfl (cG _))) rfl rfl rfl H ?_
 try clear H a W
 rintro _ a W rfl H
 refine bC (aN rfl eZ) rfl rfl rfl rfl H ?_
 try clear H a W
 intro g3 a W H
 refine aO rfl rfl rfl (k:=0) rfl (cG _) (by simp only [aX,aU,aG,Scl.bE]<;>rfl) (fD _) rfl rfl H ?_
 try clear H a W
 intro a W H
 refine aH ?_
 replace H:St 33 w a W [(3,pA g3),(2,pA g2),(1,pA g1),(0,.bool false)] [(g3,40,Scl.ls y),(g2,40,Scl.ls y),(g1,23,ks 5)]:=H.pick [0,2,3,4] [0,1,2] rfl
 refine hK4 _ _ ?_
 clear hK4
 refine wp_seq_k (fun K5 hK5=>?_)
 refine aE ?_
 refine aY (F:=fun u_ _=>u_=.pointer (some ⟨g3,32,none⟩)) (aI H (aA rfl) (bV rfl rfl rfl (wV _))) rfl rfl rfl H ?_
 try clear H a W
 rintro _ a W rfl H
 refine aY (F:=fun u_ _=>u_=.int .u8 ((d:Nat):Int)) (aI H (aA rfl) (aT (v:=.int .u8 ((d:Nat):Int)) rfl rfl (k:=0) rfl (ld_long32 hd))) rfl rfl rfl H ?_
 try clear H a W
 rintro _ a W rfl H
 refine aY (F:=fun u_ _=>u_=.int .u8 ((v:Nat):Int)) (aI H (aA rfl) (aQ rfl rfl rfl (b_inc hd2 hv _ _))) rfl rfl rfl H ?_
 try clear H a W
 rintro _ a W rfl H
 refine aY (F:=fun u_ _=>u_=.pointer (some ⟨g3,32,none⟩)) (aI H (aA rfl) (bV rfl rfl rfl (wV _))) rfl rfl rfl H ?_
 try clear H a W
 rintro _ a W rfl H
 refine fY rfl rfl rfl (k:=0) rfl st_long32 (sv_long32 hv2 ht) rfl rfl H ?_
 try clear H a W
 intro a W H
 refine aH ?_
 replace H:St 33 w a W [(3,pA g3),(2,pA g2),(1,pA g1),(0,.bool false)] [(g3,40,Scl.ls t),(g2,40,Scl.ls y),(g1,23,ks 5)]:=H.pick [4,5,6,7] [0,1,2] rfl
 refine hK5 _ _ ?_
 clear hK5
 refine wp_seq_k (fun K6 hK6=>?_)
 replace H:St 33 w a W [(3,pA g3),(2,pA g2),(1,pA g1)] [(g3,40,Scl.ls t),(g2,40,Scl.ls y),(g1,23,ks 5)]:=H.pick [0,1,2] [0,1,2] rfl
 refine drawnR (Grow w.heap.size [(g3,40,Scl.ls t),(g2,40,Scl.ls y),(g1,23,ks 5)]) (Grow w.heap.size [(g3,40,Scl.ls t),(g2,40,Scl.ls y),(g1,23,ks 5)]) [⟨15,fun u_ _=>u_=.agg (ks 5),[],none,false⟩,⟨16,fun u_ _=>u_=.agg (ks p),[0],none,false⟩,⟨17,fun u_ _=>u_=.agg (Scl.ls y),[],none,false⟩,⟨18,MF w.heap.size [(g3,40,Scl.ls t),(g2,40,Scl.ls y),(g1,23,ks 5)] [109],[],none,false⟩,⟨19,BF [109],[3],none,false⟩,⟨20,LF [[109]],[4],none,false⟩,⟨21,fun u_ _=>u_=.int .i64 (er true),[1,2,5],none,false⟩,⟨22,fun u_ _=>u_=.bool true,[6],none,false⟩,⟨23,fun u_ _=>u_=.bool true,[7],none,false⟩,⟨24,fun u_ _=>u_=.agg (ks 5),[8],none,false⟩,⟨25,fun u_ _=>u_=.agg (ks p),[9,8],none,false⟩,⟨26,fun u_ _=>u_=.agg (Scl.ls t),[8],none,false⟩,⟨27,MF w.heap.size [(g3,40,Scl.ls t),(g2,40,Scl.ls y),(g1,23,ks 5)] [109],[8],none,false⟩,⟨28,BF [109],[12,8],none,false⟩,⟨29,LF [[109]],[13,8],none,false⟩,⟨30,fun u_ _=>u_=.int .i64 (er false),[10,11,14,8],none,false⟩,⟨31,fun u_ _=>u_=.bool true,[15,8],none,false⟩,⟨32,fun u_ _=>u_=.bool true,[8,16],none,false⟩] [0,1,0,0,8,16,38,64,192,256,768,256,256,4352,8448,19712,33024,65792,262143] [17] fL fL (by kernel_rfl) (by kernel_rfl) (by kernel_rfl) H ⟨⟨fun a W  H=>by exact aI H (aA rfl) (aC rfl rfl (k:=2) rfl Tryz.underlying23 rfl (aL _)),aB,fun _=>aB⟩,⟨fun a W y0 hy0 H=>by subst hy0;exact cE H (aA rfl) rfl ⟨_,Tryz.func9,by kernel_rfl⟩ rfl (public_z hp W (hgl.ext H.below)),aB,fun _=>aB⟩,⟨fun a W  H=>by exact aI H (aA rfl) (aC rfl rfl (k:=1) rfl Tryz.underlying40 rfl (cG _)),aB,fun _=>aB⟩,⟨fun a W  H=>by exact tR H (aA rfl) rfl,MF.grow,fun _=>MF.grow⟩,⟨fun a W v18 hv18 H=>by exact yR H (aA rfl) rfl rfl hv18,BF.grow,fun _=>BF.grow⟩,⟨fun a W v19 hv19 H=>by exact iR H (aA rfl) rfl rfl hv19,LF.grow,fun _=>LF.grow⟩,⟨fun a W y1 hy1 y2 hy2 v20 hv20 H=>by subst hy1;subst hy2;exact cE H (aA rfl) rfl ⟨_,Tryz.func12,by kernel_rfl⟩ rfl (eQ W hv20.rf (l:=[109]) rfl fit_m hpl hyl hcy (hgl.ext H.below)),aB,fun _=>aB⟩,⟨fun a W y6 hy6 H=>by subst hy6;exact aI H (aA rfl) (aQ rfl rfl rfl (qV true _ _)),aB,fun _=>aB⟩,⟨fun a W y7 hy7 H=>by subst hy7;exact aI H (aA rfl) (aK rfl rfl),aB,fun _=>aB⟩,⟨fun a W y8 hy8 H=>by subst hy8;exact aI H (aJ rfl rfl rfl rfl rfl) (aC rfl rfl (k:=2) rfl Tryz.underlying23 rfl (aL _)),aB,fun _=>aB⟩,⟨fun a W y9 hy9 y8 hy8 H=>by subst hy9;subst hy8;exact cE H (aJ rfl rfl rfl rfl rfl) rfl ⟨_,Tryz.func9,by kernel_rfl⟩ rfl (public_z hp W (hgl.ext H.below)),aB,fun _=>aB⟩,⟨fun a W y8 hy8 H=>by subst hy8;exact aI H (aJ rfl rfl rfl rfl rfl) (aC rfl rfl (k:=0) rfl Tryz.underlying40 rfl (cG _)),aB,fun _=>aB⟩,⟨fun a W y8 hy8 H=>by subst hy8;exact tR H (aJ rfl rfl rfl rfl rfl) rfl,MF.grow,fun _=>MF.grow⟩,⟨fun a W v27 hv27 y8 hy8 H=>by subst hy8;exact yR H (aJ rfl rfl rfl rfl rfl) rfl rfl hv27,BF.grow,fun _=>BF.grow⟩,⟨fun a W v28 hv28 y8 hy8 H=>by subst hy8;exact iR H (aJ rfl rfl rfl rfl rfl) rfl rfl hv28,LF.grow,fun _=>LF.grow⟩,⟨fun a W y10 hy10 y11 hy11 v29 hv29 y8 hy8 H=>by subst hy10;subst hy11;subst hy8;exact cE H (aJ rfl rfl rfl rfl rfl) rfl ⟨_,Tryz.func12,by kernel_rfl⟩ rfl (eQ W hv29.rf (l:=[109]) rfl fit_m hpl htl hct (hgl.ext H.below)),aB,fun _=>aB⟩,⟨fun a W y15 hy15 y8 hy8 H=>by subst hy15;subst hy8;exact aI H (aJ rfl rfl rfl rfl rfl) (aQ rfl rfl rfl (er_ne0 false _ _)),aB,fun _=>aB⟩,⟨fun a W y8 hy8 y16 hy16 H=>by subst hy8;subst hy16;exact aI H (aA rfl) (cH rfl rfl (fun _=>rfl) (fun hb=>by cases hb)),aB,fun _=>aB⟩,trivial⟩ (by kernel_rfl) ?_
 try clear H a W
 intro a W
 rintro _ rfl
 intro H
 refine aY (F:=fun u_ _=>u_=.bool true) (aI H (aA rfl) (aM rfl rfl)) rfl rfl rfl H ?_
 try clear H a W
 rintro _ a W rfl H
 refine aH ?_
 replace H:St 33 w a W [(0,.bool true)] []:=H.pick [0] [] rfl
 refine hK6 _ _ ?_
 clear hK6
 refine wp_ret ?_
 repeat (first | (with_reducible refine bD ?_) | (with_reducible refine bI ?_))
 refine dX (p:=0) rfl rfl H (fun hb=>?_)
 exact ⟨rfl,hb⟩
end
section
set_option maxRecDepth 99999
open Go Go.RowKit
theorem size_u8c (W:World):(sizeOf 5).run zP W=.ok 1 W:=fH (by kernel_rfl) W
theorem kX:zP.elem 24=5:=by kernel_rfl
theorem cut_lo {A:Option Addr} {k c K:Nat} {l:List UInt8} {w:World} (hm:BF l (.slice A k c) w) (hK:K≤k):∃ v,BF (l.take K) v w∧∀ W,(Instr.sliceAt 24 (.slice A k c) none (some (.int .i64 (K:Int))) none).run zP W=.ok v W:=by
 obtain ⟨A',n',c',e,hb⟩:=hm
 injection e with e1 e2 e3
 subst e1 e2 e3
 have hl:=hb.len
 have hc:=hb.cap
 refine ⟨.slice A K c,⟨A,K,c,rfl,?_⟩,fun W=>?_⟩
 ·
  refine ⟨by rw [List.length_take];omega,by omega,hb.nil_,fun h0=>?_⟩
  obtain ⟨b,o,e,hlt,hx⟩:=hb.at_ (by omega)
  refine ⟨b,o,e,hlt,fun j x hj=>hx j x ?_⟩
  rw [List.getElem?_take] at hj
  split at hj
  ·
   exact hj
  ·
   cases hj
 ·
  have ht:zP.underlying 24=some (.slice (zP.elem 24)):=by rw [kX];exact Tryz.underlying24
  rw [run_sliceAt_slice (h:=ht),run_slice_h (ht:=ht) (h0:=by omega) (h2:=by omega),kX,size_u8c]
  simp only [Result.andThen_ok,sliced,Int.toNat_natCast,Nat.sub_zero,Nat.zero_mul]
  congr 2
  split
  ·
   rfl
  ·
   cases A with
   | none=>rfl
   | some a=>rfl
theorem cut_hi {A:Option Addr} {k c K:Nat} {l:List UInt8} {w:World} (hm:BF l (.slice A k c) w) (hK:K≤k):∃ v,BF (l.drop K) v w∧∀ W,(Instr.sliceAt 24 (.slice A k c) (some (.int .i64 (K:Int))) none none).run zP W=.ok v W:=by
 obtain ⟨A',n',c',e,hb⟩:=hm
 injection e with e1 e2 e3
 subst e1 e2 e3
 have hl:=hb.len
 have hc:=hb.cap
 refine ⟨.slice (if c=K then A else A.map (·.add (K*1))) (k-K) (c-K),⟨_,_,_,rfl,?_⟩,fun W=>?_⟩
 ·
  refine ⟨by rw [List.length_drop];omega,by omega,fun e=>?_,fun h0=>?_⟩
  ·
   have hA:A=none:=by
    split at e
    ·
     exact e
    ·
     cases A with
     | none=>rfl
     | some a=>cases e
   have:=hb.nil_ hA
   omega
  ·
   obtain ⟨b,o,rfl,hlt,hx⟩:=hb.at_ (by omega)
   refine ⟨b,o+K,?_,hlt,fun j x hj=>?_⟩
   ·
    rw [if_neg (by omega)]
    simp only [Option.map_some,Addr.add_lit,Nat.mul_one]
   ·
    rw [List.getElem?_drop] at hj
    rw [Nat.add_assoc]
    exact hx (K+j) x hj
 ·
  have ht:zP.underlying 24=some (.slice (zP.elem 24)):=by rw [kX];exact Tryz.underlying24
  rw [run_sliceAt_slice (h:=ht),run_slice_l (ht:=ht) (h0:=by omega) (h1:=by omega),kX,size_u8c]
  simp only [Result.andThen_ok,sliced,Int.toNat_natCast]
theorem nD {z r:Int} {d:Nat} (hd:0<d) (hd2:d<1000000) (h:z.tmod (d:Int)=r) (p q:Operand) (W:World):(do eqGuard .rem 3 p q (.int .i64 z) (.int .i64 (d:Int));binOp .rem 3 (.int .i64 z) (.int .i64 (d:Int)):Sem Value).run zP W=.ok (.int .i64 r) W:=by
 have h1:=Int.tmod_lt_of_pos z (show 0<(d:Int) by omega)
 have h2:=Int.lt_tmod_of_pos z (show 0<(d:Int) by omega)
 rw [h] at h1 h2
 have e:IntKind.i64.wrap (z.tmod (d:Int))=r:=by rw [h];exact IntWalk.i64_in _ (by omega)
 have hne:¬ (d=0):=by omega
 go_simp
theorem gD {x y r:Int} (h:x+y=r) (h1:-1000000≤r) (h2:r≤1000000) (p q:Operand) (W:World):(do eqGuard .add 3 p q (.int .i64 x) (.int .i64 y);binOp .add 3 (.int .i64 x) (.int .i64 y):Sem Value).run zP W=.ok (.int .i64 r) W:=by
 have e:IntKind.i64.wrap r=r:=IntWalk.i64_in _ (by omega)
 go_simp
theorem place (z:Int) (k:Nat) (hk:k≤1000):∃ (r:Int) (K:Nat),z.tmod ((k+1:Nat):Int)=r∧(r+(k:Int)+1).tmod ((k+1:Nat):Int)=(K:Int)∧K≤k∧-1000000≤r+(k:Int)∧r+(k:Int)≤999000:=by
 have h1:=Int.tmod_lt_of_pos z (show 0<((k+1:Nat):Int) by omega)
 have h2:=Int.lt_tmod_of_pos z (show 0<((k+1:Nat):Int) by omega)
 obtain ⟨r,hr⟩:∃ r,z.tmod ((k+1:Nat):Int)=r:=⟨_,rfl⟩
 rw [hr] at h1 h2
 have h3:=Int.tmod_lt_of_pos (r+(k:Int)+1) (show 0<((k+1:Nat):Int) by omega)
 have h4:=Int.tmod_nonneg ((k+1:Nat):Int) (show 0≤r+(k:Int)+1 by omega)
 obtain ⟨K,hK⟩:=Int.eq_ofNat_of_zero_le h4
 refine ⟨r,K,hr,hK,?_,by omega,by omega⟩
 rw [hK] at h3
 omega
theorem rV {P:Program} {n:Nat} {w0 w:World} {a:Act} {e:Env} {h:Hep} {Q:Exit→Act→World→Prop} {o:Oper} {t:TypeId} {z:Array Value} (H:St n w0 a w e h) (hn:News P o t z):o.wp P a w (fun a' w'=>∃ v,a'=a.put o.dst v∧SB w w'∧NewF w0.heap.size h t z v w'∧FreshAt w v) Q:=by
 unfold Oper.wp
 rw [hn a w]
 exact ⟨_,rfl,(Below.refl _ _).alloc (Nat.le_refl _) _,⟨_,rfl,Blk.new _ _ _,H.below.size,fun p hp=>Nat.ne_of_lt (H.heap p hp).lt⟩,fun g e=>by injection e with e;injection e with e;injection e with e;omega⟩
theorem mZ {B:Nat} {h:Hep} {t:TypeId} {z:Array Value}:∀ (v:Value) (w:World),NewF B h t z v w→∃ g,v=.pointer (some ⟨g,0,none⟩)∧g<w.heap.size:=fun v w ⟨g,e,hb,_⟩=>⟨g,e,hb.lt⟩
theorem ptr_ne {g k:Nat} (h:some (Value.pointer (some ⟨g,0,none⟩))≠some (Value.pointer (some ⟨k,0,none⟩))):g≠k:=fun e=>h (by rw [e])
theorem oR (l:List UInt8) (K:Nat):[l.take K,l.drop K].flatten=l:=by simp
theorem sI (l:List UInt8) (K:Nat):[l.take K,[],l.drop K].flatten=l:=by simp
theorem zD {l:List UInt8} {K:Nat} (h:l.length≤1000):Fit [l.take K,l.drop K]:=⟨by rw [oR];omega,by simp⟩
theorem fit_three {l:List UInt8} {K:Nat} (h:l.length≤1000):Fit [l.take K,[],l.drop K]:=⟨by rw [sI];omega,by simp⟩
end
section
set_option maxRecDepth 99999
open Go Go.RowKit
attribute [local irreducible] ev sv ks dv ds tv cv sg Scl.ls rpAdd rpMul rpNeg ptSet ptAdd ptMul ptNeg ptE rootC EE II TD BX BY BE BR kby kbl num seedA seedP pubN sigR sigP sigH sigS signN checkN clampK pbn BP er putd LL
theorem signs_a {x:Nat} {z:Int} {A:Option Addr} {k c:Nat} {l:List UInt8} (w:World) (hm:BF l (.slice A k c) w) (hlen:500<k) (hgl:GL w):Calls zP 3 #[.agg (ks x),.slice A k c,.int .i64 z] w (fun rr w'=>rr=.returned (.bool true)∧Below w.heap.size w w'):=by
 refine bN (vs:=[.agg (ks x),.slice A k c,.int .i64 z]) 77 Tryz.func3 rfl Tryz.ntmps3 rfl (fun a W H=>?_)
 refine wp_seq_k (fun K1 hK1=>?_)
 refine aE ?_
 refine bP rfl rfl (dG x) rfl rfl rfl rfl H ?_
 try clear H a W
 intro g1 a W H
 refine aY (F:=fun u_ _=>u_=.bool false) (aI H (aA rfl) (aM rfl rfl)) rfl rfl rfl H ?_
 try clear H a W
 rintro _ a W rfl H
 refine aH ?_
 replace H:St 77 w a W [(6,.bool false),(3,pA g1),(1,.slice A k c),(2,.int .i64 z)] [(g1,23,ks x)]:=H.pick [0,1,3,4] [0] rfl
 refine hK1 _ _ ?_
 clear hK1
 refine wp_seq_k (fun K2 hK2=>?_)
 refine wp_seq_k (fun K3 hK3=>?_)
 refine aE ?_
 refine aY (F:=fun u_ _=>u_=.slice A k c) (aI H (aA rfl) (aK rfl rfl)) rfl rfl rfl H ?_
 try clear H a W
 rintro _ a W rfl H
 refine aY (F:=fun u_ _=>u_=.int .i64 (k:Int)) (aI H (aA rfl) (eF Tryz.underlying24 rfl rfl)) rfl rfl rfl H ?_
 try clear H a W
 rintro _ a W rfl H
 refine aY (F:=fun u_ _=>u_=.bool true) (aI H (aA rfl) (aQ rfl rfl rfl (gt_yes hlen _ _))) rfl rfl rfl H ?_
 try clear H a W
 rintro _ a W rfl H
 refine aH ?_
 replace H:St 77 w a W [(13,.bool true),(6,.bool false),(3,pA g1),(1,.slice A k c),(2,.int .i64 z)] [(g1,23,ks x)]:=H.pick [0,3,4,5,6] [0] rfl
 refine hK3 _ _ ?_
 clear hK3
 refine wp_cond_true (H.ev rfl) ?_
 refine wp_seq_k (fun K4 hK4=>?_)
 refine aE ?_
 refine aY (F:=fun u_ _=>u_=.bool true) (cE H (aA rfl) rfl ⟨_,Tryz.func6,by kernel_rfl⟩ rfl (known7 W (hgl.ext H.below))) rfl rfl rfl H ?_
 try clear H a W
 rintro _ a W rfl H
 replace H:St 77 w a W [(14,.bool true),(13,.bool true),(3,pA g1),(1,.slice A k c),(2,.int .i64 z)] [(g1,23,ks x)]:=H.pick [0,1,3,4,5] [0] rfl
 refine aY (F:=fun u_ _=>u_=.bool true) (aI H (aA rfl) (aM rfl rfl)) rfl rfl rfl H ?_
 try clear H a W
 rintro _ a W rfl H
 refine aH ?_
 replace H:St 77 w a W [(6,.bool true),(3,pA g1),(1,.slice A k c),(2,.int .i64 z)] [(g1,23,ks x)]:=H.pick [0,3,4,5] [0] rfl
 refine hK4 _ _ ?_
 clear hK4
 refine wp_ret ?_
 repeat (first | (with_reducible refine bD ?_) | (with_reducible refine bI ?_))
 refine dX (p:=6) rfl rfl H (fun hb=>?_)
 exact ⟨rfl,hb⟩
theorem signs_b {x:Nat} {z:Int} {A:Option Addr} {k c:Nat} {l:List UInt8} (w:World) (hm:BF l (.slice A k c) w) (hlen:k≤500) (hgl:GL w):Calls zP 3 #[.agg (ks x),.slice A k c,.int .i64 z] w (fun rr w'=>rr=.returned (.bool true)∧Below w.heap.size w w'):=by
 have hl:l.length≤1000:=by have h1:=hlen;obtain ⟨A',n',c',e',h2⟩:=hm;injection e' with e1 e2 e3;have h3:=h2.len;omega
 obtain ⟨r,K,hr,hK,hKk,hr2,hr3⟩:=place z k (by omega)
 obtain ⟨v1,hv1,hs1⟩:=cut_lo hm hKk
 obtain ⟨v2,hv2,hs2⟩:=cut_hi hm hKk
 refine bN (vs:=[.agg (ks x),.slice A k c,.int .i64 z]) 77 Tryz.func3 rfl Tryz.ntmps3 rfl (fun a W H=>?_)
 refine wp_seq_k (fun K1 hK1=>?_)
 refine aE ?_
 refine bP rfl rfl (dG x) rfl rfl rfl rfl H ?_
 try clear H a W
 intro g1 a W H
 refine aY (F:=fun u_ _=>u_=.bool false) (aI H (aA rfl) (aM rfl rfl)) rfl rfl rfl H ?_
 try clear H a W
 rintro _ a W rfl H
 refine aH ?_
 replace H:St 77 w a W [(6,.bool false),(3,pA g1),(1,.slice A k c),(2,.int .i64 z)] [(g1,23,ks x)]:=H.pick [0,1,3,4] [0] rfl
 refine hK1 _ _ ?_
 clear hK1
 refine wp_seq_k (fun K2 hK2=>?_)
 refine wp_seq_k (fun K3 hK3=>?_)
 refine aE ?_
 refine aY (F:=fun u_ _=>u_=.slice A k c) (aI H (aA rfl) (aK rfl rfl)) rfl rfl rfl H ?_
 try clear H a W
 rintro _ a W rfl H
 refine aY (F:=fun u_ _=>u_=.int .i64 (k:Int)) (aI H (aA rfl) (eF Tryz.underlying24 rfl rfl)) rfl rfl rfl H ?_
 try clear H a W
 rintro _ a W rfl H
 refine aY (F:=fun u_ _=>u_=.bool false) (aI H (aA rfl) (aQ rfl rfl rfl (gt_no hlen _ _))) rfl rfl rfl H ?_
 try clear H a W
 rintro _ a W rfl H
 refine aH ?_
 replace H:St 77 w a W [(13,.bool false),(6,.bool false),(3,pA g1),(1,.slice A k c),(2,.int .i64 z)] [(g1,23,ks x)]:=H.pick [0,3,4,5,6] [0] rfl
 refine hK3 _ _ ?_
 clear hK3
 refine wp_cond_false (H.ev rfl) ?_
 refine wp_skip ?_
 refine hK2 _ _ ?_
 clear hK2
 refine wp_seq_k (fun K4 hK4=>?_)
 refine aE ?_
 refine jR (F:=BegF w.heap.size [(g1,23,ks x)]) (mX H (aA rfl) rfl ⟨_,Tryz.func7,by kernel_rfl⟩ rfl ((rbegin7 W).mono fun r W' ⟨v,e,hb,hF⟩=>⟨v,e,hb,hF.lift H⟩)) rfl rfl rfl H ?_
 try clear H a W
 intro v_ a W hv_ hb H
 clear hb
 obtain ⟨gS1,cS1,curS1,gK1,cK1,curK1,rfl,hbS,hbK,huS1,huK1,hoS,hoK,hne1,hnS,hnK⟩:=hv_
 replace H:=H.add hbK hoK hnK
 replace H:=H.add hbS hoS (pH hne1 hnS)
 clear hbK hoK hnK hbS hoS hnS
 refine bC (aN rfl al_sg) rfl rfl rfl rfl H ?_
 try clear H a W
 intro g2 a W H
 refine aO rfl rfl rfl (k:=0) rfl (eW _ _ _ _) (by simp only [aX,aU,aG,Scl.bE,cQ,cL,bH,bJ,aZ,aS]<;>rfl) (sg_one _ _ _ _) rfl rfl H ?_
 try clear H a W
 intro a W H
 refine aH ?_
 replace H:St 77 w a W [(7,pA g2),(6,.bool false),(3,pA g1),(1,.slice A k c),(2,.int .i64 z)] [(g2,37,sg gS1 cS1 gK1 cK1),(gS1,29,curS1),(gK1,29,curK1),(g1,23,ks x)]:=H.pick [0,3,4,5,6] [0,1,2,3] rfl
 refine hK4 _ _ ?_
 clear hK4
 refine wp_seq_k (fun K5 hK5=>?_)
 refine aE ?_
 refine aY (F:=fun u_ _=>u_=.int .i64 z) (aI H (aA rfl) (aK rfl rfl)) rfl rfl rfl H ?_
 try clear H a W
 rintro _ a W rfl H
 refine aY (F:=fun u_ _=>u_=.slice A k c) (aI H (aA rfl) (aK rfl rfl)) rfl rfl rfl H ?_
 try clear H a W
 rintro _ a W rfl H
 refine aY (F:=fun u_ _=>u_=.int .i64 (k:Int)) (aI H (aA rfl) (eF Tryz.underlying24 rfl rfl)) rfl rfl rfl H ?_
 try clear H a W
 rintro _ a W rfl H
 refine aY (F:=fun u_ _=>u_=.int .i64 ((k+1:Nat):Int)) (aI H (aA rfl) (aQ rfl rfl rfl (gD (by omega) (by omega) (by omega) _ _))) rfl rfl rfl H ?_
 try clear H a W
 rintro _ a W rfl H
 refine aY (F:=fun u_ _=>u_=.int .i64 r) (aI H (aA rfl) (aQ rfl rfl rfl (nD (by omega) (by omega) hr _ _))) rfl rfl rfl H ?_
 try clear H a W
 rintro _ a W rfl H
 refine aY (F:=fun u_ _=>u_=.slice A k c) (aI H (aA rfl) (aK rfl rfl)) rfl rfl rfl H ?_
 try clear H a W
 rintro _ a W rfl H
 refine aY (F:=fun u_ _=>u_=.int .i64 (k:Int)) (aI H (aA rfl) (eF Tryz.underlying24 rfl rfl)) rfl rfl rfl H ?_
 try clear H a W
 rintro _ a W rfl H
 refine aY (F:=fun u_ _=>u_=.int .i64 (r+(k:Int))) (aI H (aA rfl) (aQ rfl rfl rfl (gD rfl hr2 (by omega) _ _))) rfl rfl rfl H ?_
 try clear H a W
 rintro _ a W rfl H
 refine aY (F:=fun u_ _=>u_=.int .i64 (r+(k:Int)+1)) (aI H (aA rfl) (aQ rfl rfl rfl (gD rfl (by omega) (by omega) _ _))) rfl rfl rfl H ?_
 try clear H a W
 rintro _ a W rfl H
 refine aY (F:=fun u_ _=>u_=.slice A k c) (aI H (aA rfl) (aK rfl rfl)) rfl rfl rfl H ?_
 try clear H a W
 rintro _ a W rfl H
 refine aY (F:=fun u_ _=>u_=.int .i64 (k:Int)) (aI H (aA rfl) (eF Tryz.underlying24 rfl rfl)) rfl rfl rfl H ?_
 try clear H a W
 rintro _ a W rfl H
 refine aY (F:=fun u_ _=>u_=.int .i64 ((k+1:Nat):Int)) (aI H (aA rfl) (aQ rfl rfl rfl (gD (by omega) (by omega) (by omega) _ _))) rfl rfl rfl H ?_
 try clear H a W
 rintro _ a W rfl H
 refine aY (F:=fun u_ _=>u_=.int .i64 (K:Int)) (aI H (aA rfl) (aQ rfl rfl rfl (nD (by omega) (by omega) hK _ _))) rfl rfl rfl H ?_
 try clear H a W
 rintro _ a W rfl H
 refine aY (F:=fun u_ _=>u_=.int .i64 (K:Int)) (aI H (aA rfl) (aM rfl rfl)) rfl rfl rfl H ?_
 try clear H a W
 rintro _ a W rfl H
 refine aH ?_
 replace H:St 77 w a W [(8,.int .i64 (K:Int)),(7,pA g2),(6,.bool false),(3,pA g1),(1,.slice A k c)] [(g2,37,sg gS1 cS1 gK1 cK1),(gS1,29,curS1),(gK1,29,curK1),(g1,23,ks x)]:=H.pick [0,14,15,16,17] [0,1,2,3] rfl
 refine hK5 _ _ ?_
 clear hK5
 refine wp_seq_k (fun K6 hK6=>?_)
 refine drawnR SB SB [⟨29,fun u_ _=>u_=.agg (ks x),[],none,false⟩,⟨30,fun u_ _=>u_=.slice A k c,[],none,false⟩,⟨31,fun u_ _=>u_=.int .i64 (K:Int),[],none,false⟩,⟨32,fun u_ _=>u_=v1,[1,2],none,false⟩,⟨33,fun u_ _=>u_=.slice A k c,[],none,false⟩,⟨34,fun u_ _=>u_=.int .i64 (K:Int),[],none,false⟩,⟨35,fun u_ _=>u_=v2,[4,5],none,false⟩,⟨36,LF [(l.take K),(l.drop K)],[3,6],none,false⟩,⟨37,fun u_ _=>u_=.agg (Scl.ls (signN x l)),[0,7],none,false⟩,⟨9,NewF w.heap.size [(g2,37,sg gS1 cS1 gK1 cK1),(gS1,29,curS1),(gK1,29,curK1),(g1,23,ks x)] 40 (Scl.ls 0),[],none,false⟩] [0,0,0,6,0,0,48,72,129,0,1023] [8,9] dA dA (by kernel_rfl) (by kernel_rfl) (by kernel_rfl) H ⟨⟨fun a W  H=>by exact aR H (aA rfl) (aC rfl rfl (k:=3) rfl Tryz.underlying23 rfl (aL _)),aB,fun _=>aB⟩,⟨fun a W  H=>by exact aR H (aA rfl) (aK rfl rfl),aB,fun _=>aB⟩,⟨fun a W  H=>by exact aR H (aA rfl) (aK rfl rfl),aB,fun _=>aB⟩,⟨fun a W y1 hy1 y2 hy2 H=>by subst hy1;subst hy2;exact aR H (aA rfl) (bL rfl rfl (vl:=none) (vh:=some (.int .i64 (K:Int))) rfl rfl hs1),aB,fun _=>aB⟩,⟨fun a W  H=>by exact aR H (aA rfl) (aK rfl rfl),aB,fun _=>aB⟩,⟨fun a W  H=>by exact aR H (aA rfl) (aK rfl rfl),aB,fun _=>aB⟩,⟨fun a W y4 hy4 y5 hy5 H=>by subst hy4;subst hy5;exact aR H (aA rfl) (bL rfl rfl (vl:=some (.int .i64 (K:Int))) (vh:=none) rfl rfl hs2),aB,fun _=>aB⟩,⟨fun a W y3 hy3 y6 hy6 H=>by have e_:=hy3.symm;subst e_;have e_:=hy6.symm;subst e_;exact qL H (aA rfl) rfl rfl rfl (dH hv1 H) (dH hv2 H),LF.sb,fun _=>LF.sb⟩,⟨fun a W y0 hy0 v36 hv36 H=>by subst hy0;exact cT H (aA rfl) rfl ⟨_,Tryz.func8,by kernel_rfl⟩ rfl (mB W hv36.rf (oR l K) (zD hl) (hgl.ext H.below)),aB,fun _=>aB⟩,⟨fun a W  H=>by exact kU H (aN rfl eZ) rfl,NewF.sb,fun _=>NewF.sb⟩,trivial⟩ (by kernel_rfl) ?_
 try clear H a W
 intro a W
 rintro _ rfl
 intro v9 hv9
 intro H
 obtain ⟨g3,rfl,hbg3,hog3,hng3⟩:=hv9
 replace H:=H.add hbg3 hog3 hng3
 clear hbg3 hog3 hng3
 refine aO rfl rfl rfl (k:=0) rfl (cG _) (by simp only [aX,aU,aG,Scl.bE,cQ,cL,bH,bJ,aZ,aS]<;>rfl) (fD _) rfl rfl H ?_
 try clear H a W
 intro a W H
 refine aH ?_
 replace H:St 77 w a W [(9,pA g3),(8,.int .i64 (K:Int)),(7,pA g2),(6,.bool false),(3,pA g1),(1,.slice A k c)] [(g3,40,Scl.ls (signN x l)),(g2,37,sg gS1 cS1 gK1 cK1),(gS1,29,curS1),(gK1,29,curK1),(g1,23,ks x)]:=H.pick [0,2,3,4,5,6] [0,1,2,3,4] rfl
 refine hK6 _ _ ?_
 clear hK6
 refine wp_seq_k (fun K7 hK7=>?_)
 refine aE ?_
 refine aY (F:=fun u_ _=>u_=.agg (ks x)) (aI H (aA rfl) (aC rfl rfl (k:=4) rfl Tryz.underlying23 rfl (aL _))) rfl rfl rfl H ?_
 try clear H a W
 rintro _ a W rfl H
 refine aY (F:=fun u_ _=>u_=.agg (ks (pubN x))) (cE H (aA rfl) rfl ⟨_,Tryz.func9,by kernel_rfl⟩ rfl (jF _ W (hgl.ext H.below))) rfl rfl rfl H ?_
 try clear H a W
 rintro _ a W rfl H
 refine bC (aN rfl bZ) rfl rfl rfl rfl H ?_
 try clear H a W
 intro g4 a W H
 refine aO rfl rfl rfl (k:=0) rfl (aL _) (by simp only [aX,aU,aG,Scl.bE,cQ,cL,bH,bJ,aZ,aS]<;>rfl) (bU _) rfl rfl H ?_
 try clear H a W
 intro a W H
 refine aH ?_
 replace H:St 77 w a W [(10,pA g4),(9,pA g3),(8,.int .i64 (K:Int)),(7,pA g2),(6,.bool false),(3,pA g1),(1,.slice A k c)] [(g4,23,ks (pubN x)),(g3,40,Scl.ls (signN x l)),(g2,37,sg gS1 cS1 gK1 cK1),(gS1,29,curS1),(gK1,29,curK1),(g1,23,ks x)]:=H.pick [0,3,4,5,6,7,8] [0,1,2,3,4,5] rfl
 refine hK7 _ _ ?_
 clear hK7
 refine wp_seq_k (fun K8 hK8=>?_)
 replace H:St 77 w a W [(10,pA g4),(9,pA g3),(8,.int .i64 (K:Int)),(7,pA g2),(3,pA g1),(1,.slice A k c)] [(g4,23,ks (pubN x)),(g3,40,Scl.ls (signN x l)),(g2,37,sg gS1 cS1 gK1 cK1),(gS1,29,curS1),(gK1,29,curK1),(g1,23,ks x)]:=H.pick [0,1,2,3,5,6] [0,1,2,3,4,5] rfl
 refine drawnR SB SB (⟨40,fun u_ _=>u_=.agg (ks (pubN x)),[],none,false⟩::⟨41,fun u_ _=>u_=.agg (sg gS1 cS1 gK1 cK1),[],none,false⟩::⟨42,fun u_ _=>u_=.agg (ks x),[],none,false⟩::⟨43,fun u_ _=>u_=.agg (ks (pubN x)),[1,2],none,false⟩::⟨44,fun u_ _=>u_=.bool true,[0,3],none,false⟩::⟨45,fun u_ _=>u_=.bool true,[4],none,false⟩::⟨46,fun u_ _=>u_=.agg (Scl.ls (signN x l)),[5],none,false⟩::⟨47,fun u_ _=>u_=.agg (sg gS1 cS1 gK1 cK1),[5],none,false⟩::⟨48,fun u_ _=>u_=.agg (ks x),[5],none,false⟩::⟨49,fun u_ _=>u_=.slice A k c,[5],none,false⟩::⟨50,fun u_ _=>u_=.agg (Scl.ls (signN x l)),[7,8,9,5],none,false⟩::⟨51,fun u_ _=>u_=.bool true,[6,10,5],none,false⟩::⟨52,fun u_ _=>u_=.bool true,[5,11],none,false⟩::⟨53,fun u_ _=>u_=.bool true,[12],none,false⟩::⟨54,fun u_ _=>u_=.agg (ks (pubN x)),[13],none,false⟩::⟨55,fun u_ _=>u_=.agg (Scl.ls (signN x l)),[13],none,false⟩::⟨56,fun u_ _=>u_=.slice A k c,[13],none,false⟩::⟨57,fun u_ _=>u_=.int .i64 (K:Int),[13],none,false⟩::⟨58,fun u_ _=>u_=v1,[16,17,13],none,false⟩::⟨59,fun u_ _=>u_=.slice A k c,[13],none,false⟩::⟨60,fun u_ _=>u_=.int .i64 (K:Int),[13],none,false⟩::⟨61,fun u_ _=>u_=v2,[19,20,13],none,false⟩::⟨62,LF [(l.take K),(l.drop K)],[18,21,13],none,false⟩::⟨63,fun u_ _=>u_=.int .i64 (er true),[14,15,22,13],none,false⟩::⟨64,fun u_ _=>u_=.bool true,[23,13],none,false⟩::⟨65,fun u_ _=>u_=.bool true,[13,24],none,false⟩::⟨66,fun u_ _=>u_=.bool true,[25],none,false⟩::⟨67,fun u_ _=>u_=.agg (ks (pubN x)),[26],none,false⟩::⟨68,fun u_ _=>u_=.agg (Scl.ls (signN x l)),[26],none,false⟩::⟨69,fun u_ _=>u_=.slice A k c,[26],none,false⟩::⟨70,LF [l],[29,26],none,false⟩::⟨71,fun u_ _=>u_=.int .i64 (er true),[27,28,30,26],none,false⟩::⟨72,fun u_ _=>u_=.bool true,[31,26],none,false⟩::⟨73,fun u_ _=>u_=.bool true,[26,32],none,false⟩::⟨74,fun u_ _=>u_=.bool true,[33],none,false⟩::⟨75,fun u_ _=>u_=.bool true,[34],none,false⟩::⟨76,fun u_ _=>u_=.bool true,[34,35],none,false⟩::[]) (0::0::0::6::9::24::32::32::32::32::928::1120::2080::5120::8192::8192::8192::8192::204800::8192::8192::1581056::2367488::4251648::8396800::16785408::41943040::67108864::67108864::67108864::603979776::1543503872::2214592512::4362076160::10737418240::17179869184::51539607552::137438953471::[]) [36] dA dA (by kernel_rfl) (by kernel_rfl) (by kernel_rfl) H ⟨⟨fun a W  H=>by exact aR H (aA rfl) (aC rfl rfl (k:=0) rfl Tryz.underlying23 rfl (aL _)),aB,fun _=>aB⟩,⟨fun a W  H=>by exact aR H (aA rfl) (aC rfl rfl (k:=2) rfl Tryz.underlying37 rfl (eW _ _ _ _)),aB,fun _=>aB⟩,⟨fun a W  H=>by exact aR H (aA rfl) (aC rfl rfl (k:=5) rfl Tryz.underlying23 rfl (aL _)),aB,fun _=>aB⟩,⟨fun a W y1 hy1 y2 hy2 H=>by subst hy1;subst hy2;exact cT H (aA rfl) rfl ⟨_,Tryz.func10,by kernel_rfl⟩ rfl (rpublic7 W (rQ H (k:=3) (k2:=4) rfl rfl huS1 huK1)),aB,fun _=>aB⟩,⟨fun a W y0 hy0 y3 hy3 H=>by subst hy0;subst hy3;exact aR H (aA rfl) (aQ rfl rfl rfl (seq_key (gI x) (gI x) (decide_eq_true rfl) _ _)),aB,fun _=>aB⟩,⟨fun a W y4 hy4 H=>by subst hy4;exact aR H (aA rfl) (aK rfl rfl),aB,fun _=>aB⟩,⟨fun a W y5 hy5 H=>by subst hy5;exact aR H (aJ rfl rfl rfl rfl rfl) (aC rfl rfl (k:=1) rfl Tryz.underlying40 rfl (cG _)),aB,fun _=>aB⟩,⟨fun a W y5 hy5 H=>by subst hy5;exact aR H (aJ rfl rfl rfl rfl rfl) (aC rfl rfl (k:=2) rfl Tryz.underlying37 rfl (eW _ _ _ _)),aB,fun _=>aB⟩,⟨fun a W y5 hy5 H=>by subst hy5;exact aR H (aJ rfl rfl rfl rfl rfl) (aC rfl rfl (k:=5) rfl Tryz.underlying23 rfl (aL _)),aB,fun _=>aB⟩,⟨fun a W y5 hy5 H=>by subst hy5;exact aR H (aJ rfl rfl rfl rfl rfl) (aK rfl rfl),aB,fun _=>aB⟩,⟨fun a W y7 hy7 y8 hy8 y9 hy9 y5 hy5 H=>by subst hy7;subst hy8;subst hy9;subst hy5;exact cT H (aJ rfl rfl rfl rfl rfl) rfl ⟨_,Tryz.func11,by kernel_rfl⟩ rfl (rsign7 W (rQ H (k:=3) (k2:=4) rfl rfl huS1 huK1) (dH hm H) (by omega)),aB,fun _=>aB⟩,⟨fun a W y6 hy6 y10 hy10 y5 hy5 H=>by subst hy6;subst hy10;subst hy5;exact aR H (aJ rfl rfl rfl rfl rfl) (aQ rfl rfl rfl (seq_long (eC x l) (eC x l) (decide_eq_true rfl) _ _)),aB,fun _=>aB⟩,⟨fun a W y5 hy5 y11 hy11 H=>by subst hy5;subst hy11;exact aR H (aA rfl) (cH rfl rfl (fun _=>rfl) (fun hb=>by cases hb)),aB,fun _=>aB⟩,⟨fun a W y12 hy12 H=>by subst hy12;exact aR H (aA rfl) (aK rfl rfl),aB,fun _=>aB⟩,⟨fun a W y13 hy13 H=>by subst hy13;exact aR H (aJ rfl rfl rfl rfl rfl) (aC rfl rfl (k:=0) rfl Tryz.underlying23 rfl (aL _)),aB,fun _=>aB⟩,⟨fun a W y13 hy13 H=>by subst hy13;exact aR H (aJ rfl rfl rfl rfl rfl) (aC rfl rfl (k:=1) rfl Tryz.underlying40 rfl (cG _)),aB,fun _=>aB⟩,⟨fun a W y13 hy13 H=>by subst hy13;exact aR H (aJ rfl rfl rfl rfl rfl) (aK rfl rfl),aB,fun _=>aB⟩,⟨fun a W y13 hy13 H=>by subst hy13;exact aR H (aJ rfl rfl rfl rfl rfl) (aK rfl rfl),aB,fun _=>aB⟩,⟨fun a W y16 hy16 y17 hy17 y13 hy13 H=>by subst hy16;subst hy17;subst hy13;exact aR H (aJ rfl rfl rfl rfl rfl) (bL rfl rfl (vl:=none) (vh:=some (.int .i64 (K:Int))) rfl rfl hs1),aB,fun _=>aB⟩,⟨fun a W y13 hy13 H=>by subst hy13;exact aR H (aJ rfl rfl rfl rfl rfl) (aK rfl rfl),aB,fun _=>aB⟩,⟨fun a W y13 hy13 H=>by subst hy13;exact aR H (aJ rfl rfl rfl rfl rfl) (aK rfl rfl),aB,fun _=>aB⟩,⟨fun a W y19 hy19 y20 hy20 y13 hy13 H=>by subst hy19;subst hy20;subst hy13;exact aR H (aJ rfl rfl rfl rfl rfl) (bL rfl rfl (vl:=some (.int .i64 (K:Int))) (vh:=none) rfl rfl hs2),aB,fun _=>aB⟩,⟨fun a W y18 hy18 y21 hy21 y13 hy13 H=>by have e_:=hy18.symm;subst e_;have e_:=hy21.symm;subst e_;subst hy13;exact qL H (aJ rfl rfl rfl rfl rfl) rfl rfl rfl (dH hv1 H) (dH hv2 H),LF.sb,fun _=>LF.sb⟩,⟨fun a W y14 hy14 y15 hy15 v62 hv62 y13 hy13 H=>by subst hy14;subst hy15;subst hy13;exact cT H (aJ rfl rfl rfl rfl rfl) rfl ⟨_,Tryz.func12,by kernel_rfl⟩ rfl (eQ W hv62.rf (oR l K) (zD hl) (gI x) (eC x l) (iW x l) (hgl.ext H.below)),aB,fun _=>aB⟩,⟨fun a W y23 hy23 y13 hy13 H=>by subst hy23;subst hy13;exact aR H (aJ rfl rfl rfl rfl rfl) (aQ rfl rfl rfl (qV true _ _)),aB,fun _=>aB⟩,⟨fun a W y13 hy13 y24 hy24 H=>by subst hy13;subst hy24;exact aR H (aA rfl) (cH rfl rfl (fun _=>rfl) (fun hb=>by cases hb)),aB,fun _=>aB⟩,⟨fun a W y25 hy25 H=>by subst hy25;exact aR H (aA rfl) (aK rfl rfl),aB,fun _=>aB⟩,⟨fun a W y26 hy26 H=>by subst hy26;exact aR H (aJ rfl rfl rfl rfl rfl) (aC rfl rfl (k:=0) rfl Tryz.underlying23 rfl (aL _)),aB,fun _=>aB⟩,⟨fun a W y26 hy26 H=>by subst hy26;exact aR H (aJ rfl rfl rfl rfl rfl) (aC rfl rfl (k:=1) rfl Tryz.underlying40 rfl (cG _)),aB,fun _=>aB⟩,⟨fun a W y26 hy26 H=>by subst hy26;exact aR H (aJ rfl rfl rfl rfl rfl) (aK rfl rfl),aB,fun _=>aB⟩,⟨fun a W y29 hy29 y26 hy26 H=>by subst hy29;subst hy26;exact iK H (aJ rfl rfl rfl rfl rfl) rfl rfl (dH hm H),LF.sb,fun _=>LF.sb⟩,⟨fun a W y27 hy27 y28 hy28 v70 hv70 y26 hy26 H=>by subst hy27;subst hy28;subst hy26;exact cT H (aJ rfl rfl rfl rfl rfl) rfl ⟨_,Tryz.func12,by kernel_rfl⟩ rfl (eQ W hv70.rf (iB l) (jI hl) (gI x) (eC x l) (iW x l) (hgl.ext H.below)),aB,fun _=>aB⟩,⟨fun a W y31 hy31 y26 hy26 H=>by subst hy31;subst hy26;exact aR H (aJ rfl rfl rfl rfl rfl) (aQ rfl rfl rfl (qV true _ _)),aB,fun _=>aB⟩,⟨fun a W y26 hy26 y32 hy32 H=>by subst hy26;subst hy32;exact aR H (aA rfl) (cH rfl rfl (fun _=>rfl) (fun hb=>by cases hb)),aB,fun _=>aB⟩,⟨fun a W y33 hy33 H=>by subst hy33;exact aR H (aA rfl) (aK rfl rfl),aB,fun _=>aB⟩,⟨fun a W y34 hy34 H=>by subst hy34;exact cT H (aJ rfl rfl rfl rfl rfl) rfl ⟨_,Tryz.func6,by kernel_rfl⟩ rfl (known7 W (hgl.ext H.below)),aB,fun _=>aB⟩,⟨fun a W y34 hy34 y35 hy35 H=>by subst hy34;subst hy35;exact aR H (aA rfl) (cH rfl rfl (fun _=>rfl) (fun hb=>by cases hb)),aB,fun _=>aB⟩,trivial⟩ (by kernel_rfl) ?_
 try clear H a W
 intro a W
 rintro _ rfl
 intro H
 refine aY (F:=fun u_ _=>u_=.bool true) (aI H (aA rfl) (aM rfl rfl)) rfl rfl rfl H ?_
 try clear H a W
 rintro _ a W rfl H
 refine aH ?_
 replace H:St 77 w a W [(6,.bool true)] [(gS1,29,curS1),(gK1,29,curK1)]:=H.pick [0] [3,4] rfl
 refine hK8 _ _ ?_
 clear hK8
 refine wp_ret ?_
 repeat (first | (with_reducible refine bD ?_) | (with_reducible refine bI ?_))
 refine dX (p:=6) rfl rfl H (fun hb=>?_)
 exact ⟨rfl,hb⟩
theorem law_signs {x:Nat} {z:Int} {A:Option Addr} {k c:Nat} {l:List UInt8} (w:World) (hm:BF l (.slice A k c) w) (hgl:GL w):Calls zP 3 #[.agg (ks x),.slice A k c,.int .i64 z] w (fun rr w'=>rr=.returned (.bool true)∧Below w.heap.size w w'):=by
 by_cases h:k≤500
 ·
  exact signs_b w hm h hgl
 ·
  exact signs_a w hm (by omega) hgl
theorem checks_a {p n:Nat} {A:Option Addr} {k c:Nat} {l:List UInt8} (w:World) (hm:BF l (.slice A k c) w) (hp:K256 p) (hn:n<13407807929942597099574024998205846127479365820592393377723561443721764030073546976801874298166903427690031858186486050853753882811946569946433649006084096) (hlen:500<k) (hgl:GL w):Calls zP 4 #[.agg (ks p),.agg (Scl.ls n),.slice A k c] w (fun rr w'=>rr=.returned (.bool true)∧Below w.heap.size w w'):=by
 refine bN (vs:=[.agg (ks p),.agg (Scl.ls n),.slice A k c]) 32 Tryz.func4 rfl Tryz.ntmps4 rfl (fun a W H=>?_)
 refine wp_seq_k (fun K1 hK1=>?_)
 refine aE ?_
 refine bP rfl rfl (dG p) rfl rfl rfl rfl H ?_
 try clear H a W
 intro g1 a W H
 refine bP rfl rfl (jN n) rfl rfl rfl rfl H ?_
 try clear H a W
 intro g2 a W H
 refine aY (F:=fun u_ _=>u_=.bool false) (aI H (aA rfl) (aM rfl rfl)) rfl rfl rfl H ?_
 try clear H a W
 rintro _ a W rfl H
 refine aH ?_
 replace H:St 32 w a W [(6,.bool false),(4,pA g2),(3,pA g1),(2,.slice A k c)] [(g2,40,Scl.ls n),(g1,23,ks p)]:=H.pick [0,1,2,5] [0,1] rfl
 refine hK1 _ _ ?_
 clear hK1
 refine wp_seq_k (fun K2 hK2=>?_)
 refine wp_seq_k (fun K3 hK3=>?_)
 refine aE ?_
 refine aY (F:=fun u_ _=>u_=.slice A k c) (aI H (aA rfl) (aK rfl rfl)) rfl rfl rfl H ?_
 try clear H a W
 rintro _ a W rfl H
 refine aY (F:=fun u_ _=>u_=.int .i64 (k:Int)) (aI H (aA rfl) (eF Tryz.underlying24 rfl rfl)) rfl rfl rfl H ?_
 try clear H a W
 rintro _ a W rfl H
 refine aY (F:=fun u_ _=>u_=.bool true) (aI H (aA rfl) (aQ rfl rfl rfl (gt_yes hlen _ _))) rfl rfl rfl H ?_
 try clear H a W
 rintro _ a W rfl H
 refine aH ?_
 replace H:St 32 w a W [(10,.bool true),(6,.bool false),(4,pA g2),(3,pA g1),(2,.slice A k c)] [(g2,40,Scl.ls n),(g1,23,ks p)]:=H.pick [0,3,4,5,6] [0,1] rfl
 refine hK3 _ _ ?_
 clear hK3
 refine wp_cond_true (H.ev rfl) ?_
 refine wp_seq_k (fun K4 hK4=>?_)
 refine aE ?_
 refine aY (F:=fun u_ _=>u_=.bool true) (cE H (aA rfl) rfl ⟨_,Tryz.func6,by kernel_rfl⟩ rfl (known7 W (hgl.ext H.below))) rfl rfl rfl H ?_
 try clear H a W
 rintro _ a W rfl H
 replace H:St 32 w a W [(11,.bool true),(10,.bool true),(4,pA g2),(3,pA g1),(2,.slice A k c)] [(g2,40,Scl.ls n),(g1,23,ks p)]:=H.pick [0,1,3,4,5] [0,1] rfl
 refine aY (F:=fun u_ _=>u_=.bool true) (aI H (aA rfl) (aM rfl rfl)) rfl rfl rfl H ?_
 try clear H a W
 rintro _ a W rfl H
 refine aH ?_
 replace H:St 32 w a W [(6,.bool true),(4,pA g2),(3,pA g1),(2,.slice A k c)] [(g2,40,Scl.ls n),(g1,23,ks p)]:=H.pick [0,3,4,5] [0,1] rfl
 refine hK4 _ _ ?_
 clear hK4
 refine wp_ret ?_
 repeat (first | (with_reducible refine bD ?_) | (with_reducible refine bI ?_))
 refine dX (p:=6) rfl rfl H (fun hb=>?_)
 exact ⟨rfl,hb⟩
theorem checks_b {p n:Nat} {A:Option Addr} {k c:Nat} {l:List UInt8} (w:World) (hm:BF l (.slice A k c) w) (hp:K256 p) (hn:n<13407807929942597099574024998205846127479365820592393377723561443721764030073546976801874298166903427690031858186486050853753882811946569946433649006084096) (hlen:k≤500) (hc:checkN p n l=true) (hgl:GL w):Calls zP 4 #[.agg (ks p),.agg (Scl.ls n),.slice A k c] w (fun rr w'=>rr=.returned (.bool true)∧Below w.heap.size w w'):=by
 have hl:l.length≤1000:=by have h1:=hlen;obtain ⟨A',n',c',e',h2⟩:=hm;injection e' with e1 e2 e3;have h3:=h2.len;omega
 refine bN (vs:=[.agg (ks p),.agg (Scl.ls n),.slice A k c]) 32 Tryz.func4 rfl Tryz.ntmps4 rfl (fun a W H=>?_)
 refine wp_seq_k (fun K1 hK1=>?_)
 refine aE ?_
 refine bP rfl rfl (dG p) rfl rfl rfl rfl H ?_
 try clear H a W
 intro g1 a W H
 refine bP rfl rfl (jN n) rfl rfl rfl rfl H ?_
 try clear H a W
 intro g2 a W H
 refine aY (F:=fun u_ _=>u_=.bool false) (aI H (aA rfl) (aM rfl rfl)) rfl rfl rfl H ?_
 try clear H a W
 rintro _ a W rfl H
 refine aH ?_
 replace H:St 32 w a W [(6,.bool false),(4,pA g2),(3,pA g1),(2,.slice A k c)] [(g2,40,Scl.ls n),(g1,23,ks p)]:=H.pick [0,1,2,5] [0,1] rfl
 refine hK1 _ _ ?_
 clear hK1
 refine wp_seq_k (fun K2 hK2=>?_)
 refine wp_seq_k (fun K3 hK3=>?_)
 refine aE ?_
 refine aY (F:=fun u_ _=>u_=.slice A k c) (aI H (aA rfl) (aK rfl rfl)) rfl rfl rfl H ?_
 try clear H a W
 rintro _ a W rfl H
 refine aY (F:=fun u_ _=>u_=.int .i64 (k:Int)) (aI H (aA rfl) (eF Tryz.underlying24 rfl rfl)) rfl rfl rfl H ?_
 try clear H a W
 rintro _ a W rfl H
 refine aY (F:=fun u_ _=>u_=.bool false) (aI H (aA rfl) (aQ rfl rfl rfl (gt_no hlen _ _))) rfl rfl rfl H ?_
 try clear H a W
 rintro _ a W rfl H
 refine aH ?_
 replace H:St 32 w a W [(10,.bool false),(6,.bool false),(4,pA g2),(3,pA g1),(2,.slice A k c)] [(g2,40,Scl.ls n),(g1,23,ks p)]:=H.pick [0,3,4,5,6] [0,1] rfl
 refine hK3 _ _ ?_
 clear hK3
 refine wp_cond_false (H.ev rfl) ?_
 refine wp_skip ?_
 refine hK2 _ _ ?_
 clear hK2
 refine wp_seq_k (fun K4 hK4=>?_)
 refine aE ?_
 refine aY (F:=fun u_ _=>u_=.agg (ks p)) (aI H (aA rfl) (aC rfl rfl (k:=1) rfl Tryz.underlying23 rfl (aL _))) rfl rfl rfl H ?_
 try clear H a W
 rintro _ a W rfl H
 refine aY (F:=fun u_ _=>u_=.agg (Scl.ls n)) (aI H (aA rfl) (aC rfl rfl (k:=0) rfl Tryz.underlying40 rfl (cG _))) rfl rfl rfl H ?_
 try clear H a W
 rintro _ a W rfl H
 refine aY (F:=fun u_ _=>u_=.slice A k c) (aI H (aA rfl) (aK rfl rfl)) rfl rfl rfl H ?_
 try clear H a W
 rintro _ a W rfl H
 refine aY (F:=LF [l]) (iR H (aA rfl) rfl rfl (dH hm H)) rfl rfl rfl H ?_
 try clear H a W
 intro v15 a W hv15 H
 refine jR (F:=fun u_ _=>u_=.int .i64 (er true)) (cE H (aA rfl) rfl ⟨_,Tryz.func12,by kernel_rfl⟩ rfl (eQ W hv15.rf (iB l) (jI hl) hp hn hc (hgl.ext H.below))) rfl rfl rfl H ?_
 rintro _ a W rfl hb H
 replace hv15:=LF.grow _ _ _ hv15 hb
 refine jR (F:=fun u_ _=>u_=.int .i64 (er true)) (aI H (aA rfl) (aM rfl rfl)) rfl rfl rfl H ?_
 rintro _ a W rfl hb H
 replace hv15:=LF.grow _ _ _ hv15 hb
 refine aH ?_
 replace H:St 32 w a W [(7,.int .i64 (er true)),(6,.bool false),(4,pA g2),(3,pA g1),(2,.slice A k c)] [(g2,40,Scl.ls n),(g1,23,ks p)]:=H.pick [0,7,8,9,10] [0,1] rfl
 refine hK4 _ _ ?_
 clear hK4
 refine wp_seq_k (fun K5 hK5=>?_)
 refine wp_seq_k (fun K6 hK6=>?_)
 refine drawnR SB SB [⟨17,BegF w.heap.size [(g2,40,Scl.ls n),(g1,23,ks p)],[],none,false⟩,⟨18,fun u_ _=>u_=.agg (ks p),[],none,false⟩,⟨19,fun u_ _=>u_=.agg (Scl.ls n),[],none,false⟩,⟨20,fun u_ _=>u_=.slice A k c,[],none,false⟩,⟨21,fun u_ _=>u_=.bool true,[0,1,2,3],none,false⟩] [0,0,0,0,15] [4] dA dA (by kernel_rfl) (by kernel_rfl) (by kernel_rfl) H ⟨⟨fun a W  H=>by exact tQ H (aA rfl) rfl ⟨_,Tryz.func7,by kernel_rfl⟩ rfl ((rbegin7 W).mono fun r W' ⟨v,e,hb,hF⟩=>⟨v,e,hb,hF.lift H⟩),BegF.sb,fun _=>BegF.sb⟩,⟨fun a W  H=>by exact aR H (aA rfl) (aC rfl rfl (k:=1) rfl Tryz.underlying23 rfl (aL _)),aB,fun _=>aB⟩,⟨fun a W  H=>by exact aR H (aA rfl) (aC rfl rfl (k:=0) rfl Tryz.underlying40 rfl (cG _)),aB,fun _=>aB⟩,⟨fun a W  H=>by exact aR H (aA rfl) (aK rfl rfl),aB,fun _=>aB⟩,⟨fun a W v17 hv17 y1 hy1 y2 hy2 y3 hy3 H=>by subst hy1;subst hy2;subst hy3;exact cT H (aA rfl) rfl ⟨_,Tryz.func13,by kernel_rfl⟩ rfl (rcheck7 W hv17.sg (dH hm H) (by omega) hp hn hc),aB,fun _=>aB⟩,trivial⟩ (by kernel_rfl) ?_
 try clear H a W
 intro a W
 rintro _ rfl
 intro H
 refine aH ?_
 replace H:St 32 w a W [(21,.bool true),(7,.int .i64 (er true)),(6,.bool false)] []:=H.pick [0,1,2] [] rfl
 refine hK6 _ _ ?_
 clear hK6
 refine wp_cond_true (H.ev rfl) ?_
 refine wp_seq_k (fun K7 hK7=>?_)
 refine aE ?_
 refine aY (F:=fun u_ _=>u_=.int .i64 (er true)) (aI H (aA rfl) (aK rfl rfl)) rfl rfl rfl H ?_
 try clear H a W
 rintro _ a W rfl H
 refine aY (F:=fun u_ _=>u_=.bool true) (aI H (aA rfl) (aQ rfl rfl rfl (qV true _ _))) rfl rfl rfl H ?_
 try clear H a W
 rintro _ a W rfl H
 refine aY (F:=fun u_ _=>u_=.bool true) (aI H (aA rfl) (aK rfl rfl)) rfl rfl rfl H ?_
 try clear H a W
 rintro _ a W rfl H
 refine aY (F:=fun u_ _=>u_=.bool true) (cE H (aJ rfl rfl rfl rfl rfl) rfl ⟨_,Tryz.func6,by kernel_rfl⟩ rfl (known7 W (hgl.ext H.below))) rfl rfl rfl H ?_
 try clear H a W
 rintro _ a W rfl H
 refine aY (F:=fun u_ _=>u_=.bool true) (aI H (aA rfl) (cH rfl rfl (fun _=>rfl) (fun hb=>by cases hb))) rfl rfl rfl H ?_
 try clear H a W
 rintro _ a W rfl H
 replace H:St 32 w a W [(26,.bool true),(25,.bool true),(24,.bool true),(23,.bool true),(22,.int .i64 (er true)),(21,.bool true),(7,.int .i64 (er true))] []:=H.pick [0,1,2,3,4,5,6] [] rfl
 refine aY (F:=fun u_ _=>u_=.bool true) (aI H (aA rfl) (aM rfl rfl)) rfl rfl rfl H ?_
 try clear H a W
 rintro _ a W rfl H
 refine aH ?_
 replace H:St 32 w a W [(6,.bool true),(7,.int .i64 (er true))] []:=H.pick [0,7] [] rfl
 refine hK7 _ _ ?_
 clear hK7
 refine wp_ret ?_
 repeat (first | (with_reducible refine bD ?_) | (with_reducible refine bI ?_))
 refine dX (p:=6) rfl rfl H (fun hb=>?_)
 exact ⟨rfl,hb⟩
theorem checks_c {p n:Nat} {A:Option Addr} {k c:Nat} {l:List UInt8} (w:World) (hm:BF l (.slice A k c) w) (hp:K256 p) (hn:n<13407807929942597099574024998205846127479365820592393377723561443721764030073546976801874298166903427690031858186486050853753882811946569946433649006084096) (hlen:k≤500) (hc:checkN p n l=false) (hgl:GL w):Calls zP 4 #[.agg (ks p),.agg (Scl.ls n),.slice A k c] w (fun rr w'=>rr=.returned (.bool true)∧Below w.heap.size w w'):=by
 have hl:l.length≤1000:=by have h1:=hlen;obtain ⟨A',n',c',e',h2⟩:=hm;injection e' with e1 e2 e3;have h3:=h2.len;omega
 refine bN (vs:=[.agg (ks p),.agg (Scl.ls n),.slice A k c]) 32 Tryz.func4 rfl Tryz.ntmps4 rfl (fun a W H=>?_)
 refine wp_seq_k (fun K1 hK1=>?_)
 refine aE ?_
 refine bP rfl rfl (dG p) rfl rfl rfl rfl H ?_
 try clear H a W
 intro g1 a W H
 refine bP rfl rfl (jN n) rfl rfl rfl rfl H ?_
 try clear H a W
 intro g2 a W H
 refine aY (F:=fun u_ _=>u_=.bool false) (aI H (aA rfl) (aM rfl rfl)) rfl rfl rfl H ?_
 try clear H a W
 rintro _ a W rfl H
 refine aH ?_
 replace H:St 32 w a W [(6,.bool false),(4,pA g2),(3,pA g1),(2,.slice A k c)] [(g2,40,Scl.ls n),(g1,23,ks p)]:=H.pick [0,1,2,5] [0,1] rfl
 refine hK1 _ _ ?_
 clear hK1
 refine wp_seq_k (fun K2 hK2=>?_)
 refine wp_seq_k (fun K3 hK3=>?_)
 refine aE ?_
 refine aY (F:=fun u_ _=>u_=.slice A k c) (aI H (aA rfl) (aK rfl rfl)) rfl rfl rfl H ?_
 try clear H a W
 rintro _ a W rfl H
 refine aY (F:=fun u_ _=>u_=.int .i64 (k:Int)) (aI H (aA rfl) (eF Tryz.underlying24 rfl rfl)) rfl rfl rfl H ?_
 try clear H a W
 rintro _ a W rfl H
 refine aY (F:=fun u_ _=>u_=.bool false) (aI H (aA rfl) (aQ rfl rfl rfl (gt_no hlen _ _))) rfl rfl rfl H ?_
 try clear H a W
 rintro _ a W rfl H
 refine aH ?_
 replace H:St 32 w a W [(10,.bool false),(6,.bool false),(4,pA g2),(3,pA g1),(2,.slice A k c)] [(g2,40,Scl.ls n),(g1,23,ks p)]:=H.pick [0,3,4,5,6] [0,1] rfl
 refine hK3 _ _ ?_
 clear hK3
 refine wp_cond_false (H.ev rfl) ?_
 refine wp_skip ?_
 refine hK2 _ _ ?_
 clear hK2
 refine wp_seq_k (fun K4 hK4=>?_)
 refine aE ?_
 refine aY (F:=fun u_ _=>u_=.agg (ks p)) (aI H (aA rfl) (aC rfl rfl (k:=1) rfl Tryz.underlying23 rfl (aL _))) rfl rfl rfl H ?_
 try clear H a W
 rintro _ a W rfl H
 refine aY (F:=fun u_ _=>u_=.agg (Scl.ls n)) (aI H (aA rfl) (aC rfl rfl (k:=0) rfl Tryz.underlying40 rfl (cG _))) rfl rfl rfl H ?_
 try clear H a W
 rintro _ a W rfl H
 refine aY (F:=fun u_ _=>u_=.slice A k c) (aI H (aA rfl) (aK rfl rfl)) rfl rfl rfl H ?_
 try clear H a W
 rintro _ a W rfl H
 refine aY (F:=LF [l]) (iR H (aA rfl) rfl rfl (dH hm H)) rfl rfl rfl H ?_
 try clear H a W
 intro v15 a W hv15 H
 refine jR (F:=fun u_ _=>u_=.int .i64 (er false)) (cE H (aA rfl) rfl ⟨_,Tryz.func12,by kernel_rfl⟩ rfl (eQ W hv15.rf (iB l) (jI hl) hp hn hc (hgl.ext H.below))) rfl rfl rfl H ?_
 rintro _ a W rfl hb H
 replace hv15:=LF.grow _ _ _ hv15 hb
 refine jR (F:=fun u_ _=>u_=.int .i64 (er false)) (aI H (aA rfl) (aM rfl rfl)) rfl rfl rfl H ?_
 rintro _ a W rfl hb H
 replace hv15:=LF.grow _ _ _ hv15 hb
 refine aH ?_
 replace H:St 32 w a W [(7,.int .i64 (er false)),(6,.bool false),(4,pA g2),(3,pA g1),(2,.slice A k c)] [(g2,40,Scl.ls n),(g1,23,ks p)]:=H.pick [0,7,8,9,10] [0,1] rfl
 refine hK4 _ _ ?_
 clear hK4
 refine wp_seq_k (fun K5 hK5=>?_)
 refine wp_seq_k (fun K6 hK6=>?_)
 refine drawnR SB SB [⟨17,BegF w.heap.size [(g2,40,Scl.ls n),(g1,23,ks p)],[],none,false⟩,⟨18,fun u_ _=>u_=.agg (ks p),[],none,false⟩,⟨19,fun u_ _=>u_=.agg (Scl.ls n),[],none,false⟩,⟨20,fun u_ _=>u_=.slice A k c,[],none,false⟩,⟨21,fun u_ _=>u_=.bool false,[0,1,2,3],none,false⟩] [0,0,0,0,15] [4] dA dA (by kernel_rfl) (by kernel_rfl) (by kernel_rfl) H ⟨⟨fun a W  H=>by exact tQ H (aA rfl) rfl ⟨_,Tryz.func7,by kernel_rfl⟩ rfl ((rbegin7 W).mono fun r W' ⟨v,e,hb,hF⟩=>⟨v,e,hb,hF.lift H⟩),BegF.sb,fun _=>BegF.sb⟩,⟨fun a W  H=>by exact aR H (aA rfl) (aC rfl rfl (k:=1) rfl Tryz.underlying23 rfl (aL _)),aB,fun _=>aB⟩,⟨fun a W  H=>by exact aR H (aA rfl) (aC rfl rfl (k:=0) rfl Tryz.underlying40 rfl (cG _)),aB,fun _=>aB⟩,⟨fun a W  H=>by exact aR H (aA rfl) (aK rfl rfl),aB,fun _=>aB⟩,⟨fun a W v17 hv17 y1 hy1 y2 hy2 y3 hy3 H=>by subst hy1;subst hy2;subst hy3;exact cT H (aA rfl) rfl ⟨_,Tryz.func13,by kernel_rfl⟩ rfl (rcheck7 W hv17.sg (dH hm H) (by omega) hp hn hc),aB,fun _=>aB⟩,trivial⟩ (by kernel_rfl) ?_
 try clear H a W
 intro a W
 rintro _ rfl
 intro H
 refine aH ?_
 replace H:St 32 w a W [(21,.bool false),(7,.int .i64 (er false)),(6,.bool false)] []:=H.pick [0,1,2] [] rfl
 refine hK6 _ _ ?_
 clear hK6
 refine wp_cond_false (H.ev rfl) ?_
 refine wp_skip ?_
 refine hK5 _ _ ?_
 clear hK5
 refine wp_seq_k (fun K7 hK7=>?_)
 refine aE ?_
 refine aY (F:=fun u_ _=>u_=.int .i64 (er false)) (aI H (aA rfl) (aK rfl rfl)) rfl rfl rfl H ?_
 try clear H a W
 rintro _ a W rfl H
 refine aY (F:=fun u_ _=>u_=.bool true) (aI H (aA rfl) (aQ rfl rfl rfl (er_eq8 false _ _))) rfl rfl rfl H ?_
 try clear H a W
 rintro _ a W rfl H
 refine aY (F:=fun u_ _=>u_=.bool true) (aI H (aA rfl) (aK rfl rfl)) rfl rfl rfl H ?_
 try clear H a W
 rintro _ a W rfl H
 refine aY (F:=fun u_ _=>u_=.bool true) (cE H (aJ rfl rfl rfl rfl rfl) rfl ⟨_,Tryz.func6,by kernel_rfl⟩ rfl (known7 W (hgl.ext H.below))) rfl rfl rfl H ?_
 try clear H a W
 rintro _ a W rfl H
 refine aY (F:=fun u_ _=>u_=.bool true) (aI H (aA rfl) (cH rfl rfl (fun _=>rfl) (fun hb=>by cases hb))) rfl rfl rfl H ?_
 try clear H a W
 rintro _ a W rfl H
 replace H:St 32 w a W [(31,.bool true),(30,.bool true),(29,.bool true),(28,.bool true),(27,.int .i64 (er false)),(21,.bool false),(7,.int .i64 (er false))] []:=H.pick [0,1,2,3,4,5,6] [] rfl
 refine aY (F:=fun u_ _=>u_=.bool true) (aI H (aA rfl) (aM rfl rfl)) rfl rfl rfl H ?_
 try clear H a W
 rintro _ a W rfl H
 refine aH ?_
 replace H:St 32 w a W [(6,.bool true)] []:=H.pick [0] [] rfl
 refine hK7 _ _ ?_
 clear hK7
 refine wp_ret ?_
 repeat (first | (with_reducible refine bD ?_) | (with_reducible refine bI ?_))
 refine dX (p:=6) rfl rfl H (fun hb=>?_)
 exact ⟨rfl,hb⟩
theorem law_checks {p n:Nat} {A:Option Addr} {k c:Nat} {l:List UInt8} (w:World) (hm:BF l (.slice A k c) w) (hp:K256 p) (hn:n<13407807929942597099574024998205846127479365820592393377723561443721764030073546976801874298166903427690031858186486050853753882811946569946433649006084096) (hgl:GL w):Calls zP 4 #[.agg (ks p),.agg (Scl.ls n),.slice A k c] w (fun rr w'=>rr=.returned (.bool true)∧Below w.heap.size w w'):=by
 by_cases h:k≤500
 ·
  cases hc:checkN p n l with
  | true=>exact checks_b w hm hp hn h hc hgl
  | false=>exact checks_c w hm hp hn h hc hgl
 ·
  exact checks_a w hm hp hn (by omega) hgl
theorem parts_a {x y:Nat} {z:Int} {A:Option Addr} {k c:Nat} {l:List UInt8} (w:World) (hm:BF l (.slice A k c) w) (hlen:300<k) (hgl:GL w):Calls zP 5 #[.agg (ks x),.agg (ks y),.slice A k c,.int .i64 z] w (fun rr w'=>rr=.returned (.bool true)∧Below w.heap.size w w'):=by
 refine bN (vs:=[.agg (ks x),.agg (ks y),.slice A k c,.int .i64 z]) 106 Tryz.func5 rfl Tryz.ntmps5 rfl (fun a W H=>?_)
 refine wp_seq_k (fun K1 hK1=>?_)
 refine aE ?_
 refine bP rfl rfl (dG x) rfl rfl rfl rfl H ?_
 try clear H a W
 intro g1 a W H
 refine bP rfl rfl (dG y) rfl rfl rfl rfl H ?_
 try clear H a W
 intro g2 a W H
 refine aY (F:=fun u_ _=>u_=.bool false) (aI H (aA rfl) (aM rfl rfl)) rfl rfl rfl H ?_
 try clear H a W
 rintro _ a W rfl H
 refine aH ?_
 replace H:St 106 w a W [(8,.bool false),(5,pA g2),(4,pA g1),(2,.slice A k c),(3,.int .i64 z)] [(g2,23,ks y),(g1,23,ks x)]:=H.pick [0,1,2,5,6] [0,1] rfl
 refine hK1 _ _ ?_
 clear hK1
 refine wp_seq_k (fun K2 hK2=>?_)
 refine wp_seq_k (fun K3 hK3=>?_)
 refine aE ?_
 refine aY (F:=fun u_ _=>u_=.slice A k c) (aI H (aA rfl) (aK rfl rfl)) rfl rfl rfl H ?_
 try clear H a W
 rintro _ a W rfl H
 refine aY (F:=fun u_ _=>u_=.int .i64 (k:Int)) (aI H (aA rfl) (eF Tryz.underlying24 rfl rfl)) rfl rfl rfl H ?_
 try clear H a W
 rintro _ a W rfl H
 refine aY (F:=fun u_ _=>u_=.bool true) (aI H (aA rfl) (aQ rfl rfl rfl (gt_yes hlen _ _))) rfl rfl rfl H ?_
 try clear H a W
 rintro _ a W rfl H
 refine aH ?_
 replace H:St 106 w a W [(17,.bool true),(8,.bool false),(5,pA g2),(4,pA g1),(2,.slice A k c),(3,.int .i64 z)] [(g2,23,ks y),(g1,23,ks x)]:=H.pick [0,3,4,5,6,7] [0,1] rfl
 refine hK3 _ _ ?_
 clear hK3
 refine wp_cond_true (H.ev rfl) ?_
 refine wp_seq_k (fun K4 hK4=>?_)
 refine aE ?_
 refine aY (F:=fun u_ _=>u_=.bool true) (cE H (aA rfl) rfl ⟨_,Tryz.func6,by kernel_rfl⟩ rfl (known7 W (hgl.ext H.below))) rfl rfl rfl H ?_
 try clear H a W
 rintro _ a W rfl H
 replace H:St 106 w a W [(18,.bool true),(17,.bool true),(5,pA g2),(4,pA g1),(2,.slice A k c),(3,.int .i64 z)] [(g2,23,ks y),(g1,23,ks x)]:=H.pick [0,1,3,4,5,6] [0,1] rfl
 refine aY (F:=fun u_ _=>u_=.bool true) (aI H (aA rfl) (aM rfl rfl)) rfl rfl rfl H ?_
 try clear H a W
 rintro _ a W rfl H
 refine aH ?_
 replace H:St 106 w a W [(8,.bool true),(5,pA g2),(4,pA g1),(2,.slice A k c),(3,.int .i64 z)] [(g2,23,ks y),(g1,23,ks x)]:=H.pick [0,3,4,5,6] [0,1] rfl
 refine hK4 _ _ ?_
 clear hK4
 refine wp_ret ?_
 repeat (first | (with_reducible refine bD ?_) | (with_reducible refine bI ?_))
 refine dX (p:=8) rfl rfl H (fun hb=>?_)
 exact ⟨rfl,hb⟩
theorem parts_b {x y:Nat} {z:Int} {A:Option Addr} {k c:Nat} {l:List UInt8} (w:World) (hm:BF l (.slice A k c) w) (hlen:k≤300) (hgl:GL w):Calls zP 5 #[.agg (ks x),.agg (ks y),.slice A k c,.int .i64 z] w (fun rr w'=>rr=.returned (.bool true)∧Below w.heap.size w w'):=by
 have hl:l.length≤1000:=by have h1:=hlen;obtain ⟨A',n',c',e',h2⟩:=hm;injection e' with e1 e2 e3;have h3:=h2.len;omega
 obtain ⟨r,K,hr,hK,hKk,hr2,hr3⟩:=place z k (by omega)
 obtain ⟨v1,hv1,hs1⟩:=cut_lo hm hKk
 obtain ⟨v2,hv2,hs2⟩:=cut_hi hm hKk
 obtain ⟨b1,hb1⟩:∃ b,checkN (pubN y) (signN x l) l=b:=⟨_,rfl⟩
 obtain ⟨b2,hb2⟩:∃ b,checkN (pubN x) (signN y l) l=b:=⟨_,rfl⟩
 refine bN (vs:=[.agg (ks x),.agg (ks y),.slice A k c,.int .i64 z]) 106 Tryz.func5 rfl Tryz.ntmps5 rfl (fun a W H=>?_)
 refine wp_seq_k (fun K1 hK1=>?_)
 refine aE ?_
 refine bP rfl rfl (dG x) rfl rfl rfl rfl H ?_
 try clear H a W
 intro g1 a W H
 refine bP rfl rfl (dG y) rfl rfl rfl rfl H ?_
 try clear H a W
 intro g2 a W H
 refine aY (F:=fun u_ _=>u_=.bool false) (aI H (aA rfl) (aM rfl rfl)) rfl rfl rfl H ?_
 try clear H a W
 rintro _ a W rfl H
 refine aH ?_
 replace H:St 106 w a W [(8,.bool false),(5,pA g2),(4,pA g1),(2,.slice A k c),(3,.int .i64 z)] [(g2,23,ks y),(g1,23,ks x)]:=H.pick [0,1,2,5,6] [0,1] rfl
 refine hK1 _ _ ?_
 clear hK1
 refine wp_seq_k (fun K2 hK2=>?_)
 refine wp_seq_k (fun K3 hK3=>?_)
 refine aE ?_
 refine aY (F:=fun u_ _=>u_=.slice A k c) (aI H (aA rfl) (aK rfl rfl)) rfl rfl rfl H ?_
 try clear H a W
 rintro _ a W rfl H
 refine aY (F:=fun u_ _=>u_=.int .i64 (k:Int)) (aI H (aA rfl) (eF Tryz.underlying24 rfl rfl)) rfl rfl rfl H ?_
 try clear H a W
 rintro _ a W rfl H
 refine aY (F:=fun u_ _=>u_=.bool false) (aI H (aA rfl) (aQ rfl rfl rfl (gt_no hlen _ _))) rfl rfl rfl H ?_
 try clear H a W
 rintro _ a W rfl H
 refine aH ?_
 replace H:St 106 w a W [(17,.bool false),(8,.bool false),(5,pA g2),(4,pA g1),(2,.slice A k c),(3,.int .i64 z)] [(g2,23,ks y),(g1,23,ks x)]:=H.pick [0,3,4,5,6,7] [0,1] rfl
 refine hK3 _ _ ?_
 clear hK3
 refine wp_cond_false (H.ev rfl) ?_
 refine wp_skip ?_
 refine hK2 _ _ ?_
 clear hK2
 refine wp_seq_k (fun K4 hK4=>?_)
 refine aE ?_
 refine aY (F:=fun u_ _=>u_=.int .i64 z) (aI H (aA rfl) (aK rfl rfl)) rfl rfl rfl H ?_
 try clear H a W
 rintro _ a W rfl H
 refine aY (F:=fun u_ _=>u_=.slice A k c) (aI H (aA rfl) (aK rfl rfl)) rfl rfl rfl H ?_
 try clear H a W
 rintro _ a W rfl H
 refine aY (F:=fun u_ _=>u_=.int .i64 (k:Int)) (aI H (aA rfl) (eF Tryz.underlying24 rfl rfl)) rfl rfl rfl H ?_
 try clear H a W
 rintro _ a W rfl H
 refine aY (F:=fun u_ _=>u_=.int .i64 ((k+1:Nat):Int)) (aI H (aA rfl) (aQ rfl rfl rfl (gD (by omega) (by omega) (by omega) _ _))) rfl rfl rfl H ?_
 try clear H a W
 rintro _ a W rfl H
 refine aY (F:=fun u_ _=>u_=.int .i64 r) (aI H (aA rfl) (aQ rfl rfl rfl (nD (by omega) (by omega) hr _ _))) rfl rfl rfl H ?_
 try clear H a W
 rintro _ a W rfl H
 refine aY (F:=fun u_ _=>u_=.slice A k c) (aI H (aA rfl) (aK rfl rfl)) rfl rfl rfl H ?_
 try clear H a W
 rintro _ a W rfl H
 refine aY (F:=fun u_ _=>u_=.int .i64 (k:Int)) (aI H (aA rfl) (eF Tryz.underlying24 rfl rfl)) rfl rfl rfl H ?_
 try clear H a W
 rintro _ a W rfl H
 refine aY (F:=fun u_ _=>u_=.int .i64 (r+(k:Int))) (aI H (aA rfl) (aQ rfl rfl rfl (gD rfl hr2 (by omega) _ _))) rfl rfl rfl H ?_
 try clear H a W
 rintro _ a W rfl H
 refine aY (F:=fun u_ _=>u_=.int .i64 (r+(k:Int)+1)) (aI H (aA rfl) (aQ rfl rfl rfl (gD rfl (by omega) (by omega) _ _))) rfl rfl rfl H ?_
 try clear H a W
 rintro _ a W rfl H
 refine aY (F:=fun u_ _=>u_=.slice A k c) (aI H (aA rfl) (aK rfl rfl)) rfl rfl rfl H ?_
 try clear H a W
 rintro _ a W rfl H
 refine aY (F:=fun u_ _=>u_=.int .i64 (k:Int)) (aI H (aA rfl) (eF Tryz.underlying24 rfl rfl)) rfl rfl rfl H ?_
 try clear H a W
 rintro _ a W rfl H
 refine aY (F:=fun u_ _=>u_=.int .i64 ((k+1:Nat):Int)) (aI H (aA rfl) (aQ rfl rfl rfl (gD (by omega) (by omega) (by omega) _ _))) rfl rfl rfl H ?_
 try clear H a W
 rintro _ a W rfl H
 refine aY (F:=fun u_ _=>u_=.int .i64 (K:Int)) (aI H (aA rfl) (aQ rfl rfl rfl (nD (by omega) (by omega) hK _ _))) rfl rfl rfl H ?_
 try clear H a W
 rintro _ a W rfl H
 refine aY (F:=fun u_ _=>u_=.int .i64 (K:Int)) (aI H (aA rfl) (aM rfl rfl)) rfl rfl rfl H ?_
 try clear H a W
 rintro _ a W rfl H
 refine aH ?_
 replace H:St 106 w a W [(9,.int .i64 (K:Int)),(8,.bool false),(5,pA g2),(4,pA g1),(2,.slice A k c)] [(g2,23,ks y),(g1,23,ks x)]:=H.pick [0,15,16,17,18] [0,1] rfl
 refine hK4 _ _ ?_
 clear hK4
 refine wp_seq_k (fun K5 hK5=>?_)
 refine drawnN [13,14] SB SB [⟨32,fun u_ _=>u_=.agg (ks x),[],none,false⟩,⟨33,fun u_ _=>u_=.slice A k c,[],none,false⟩,⟨34,fun u_ _=>u_=.int .i64 (K:Int),[],none,false⟩,⟨35,fun u_ _=>u_=v1,[1,2],none,false⟩,⟨36,fun u_ _=>u_=.slice A k c,[],none,false⟩,⟨37,fun u_ _=>u_=.int .i64 (K:Int),[],none,false⟩,⟨38,fun u_ _=>u_=v2,[4,5],none,false⟩,⟨39,LF [(l.take K),[],(l.drop K)],[3,6],none,false⟩,⟨40,fun u_ _=>u_=.agg (Scl.ls (signN x l)),[0,7],none,false⟩,⟨41,fun u_ _=>u_=.agg (ks y),[],none,false⟩,⟨42,fun u_ _=>u_=.slice A k c,[],none,false⟩,⟨43,LF [l],[10],none,false⟩,⟨44,fun u_ _=>u_=.agg (Scl.ls (signN y l)),[9,11],none,false⟩,⟨10,NewF w.heap.size [(g2,23,ks y),(g1,23,ks x)] 40 (Scl.ls 0),[],none,false⟩,⟨11,NewF w.heap.size [(g2,23,ks y),(g1,23,ks x)] 40 (Scl.ls 0),[],none,false⟩] (0::0::0::6::0::0::48::72::129::0::0::1024::2816::0::0::29183::65535::[]) [8,12,13,14] dA dA (by kernel_rfl) (by kernel_rfl) (by kernel_rfl) H ⟨⟨fun a W  H=>by exact aR H (aA rfl) (aC rfl rfl (k:=1) rfl Tryz.underlying23 rfl (aL _)),aB,fun _=>aB⟩,⟨fun a W  H=>by exact aR H (aA rfl) (aK rfl rfl),aB,fun _=>aB⟩,⟨fun a W  H=>by exact aR H (aA rfl) (aK rfl rfl),aB,fun _=>aB⟩,⟨fun a W y1 hy1 y2 hy2 H=>by subst hy1;subst hy2;exact aR H (aA rfl) (bL rfl rfl (vl:=none) (vh:=some (.int .i64 (K:Int))) rfl rfl hs1),aB,fun _=>aB⟩,⟨fun a W  H=>by exact aR H (aA rfl) (aK rfl rfl),aB,fun _=>aB⟩,⟨fun a W  H=>by exact aR H (aA rfl) (aK rfl rfl),aB,fun _=>aB⟩,⟨fun a W y4 hy4 y5 hy5 H=>by subst hy4;subst hy5;exact aR H (aA rfl) (bL rfl rfl (vl:=some (.int .i64 (K:Int))) (vh:=none) rfl rfl hs2),aB,fun _=>aB⟩,⟨fun a W y3 hy3 y6 hy6 H=>by have e_:=hy3.symm;subst e_;have e_:=hy6.symm;subst e_;exact ob_rows3S H (aA rfl) rfl rfl rfl rfl (dH hv1 H) (BF.nil _) (dH hv2 H),LF.sb,fun _=>LF.sb⟩,⟨fun a W y0 hy0 v39 hv39 H=>by subst hy0;exact cT H (aA rfl) rfl ⟨_,Tryz.func8,by kernel_rfl⟩ rfl (mB W hv39.rf (sI l K) (fit_three hl) (hgl.ext H.below)),aB,fun _=>aB⟩,⟨fun a W  H=>by exact aR H (aA rfl) (aC rfl rfl (k:=0) rfl Tryz.underlying23 rfl (aL _)),aB,fun _=>aB⟩,⟨fun a W  H=>by exact aR H (aA rfl) (aK rfl rfl),aB,fun _=>aB⟩,⟨fun a W y10 hy10 H=>by subst hy10;exact iK H (aA rfl) rfl rfl (dH hm H),LF.sb,fun _=>LF.sb⟩,⟨fun a W y9 hy9 v43 hv43 H=>by subst hy9;exact cT H (aA rfl) rfl ⟨_,Tryz.func8,by kernel_rfl⟩ rfl (mB W hv43.rf (iB l) (jI hl) (hgl.ext H.below)),aB,fun _=>aB⟩,⟨fun a W  H=>by exact kU H (aN rfl eZ) rfl,NewF.sb,fun _=>NewF.sb⟩,⟨fun a W  H=>by exact kU H (aN rfl eZ) rfl,NewF.sb,fun _=>NewF.sb⟩,trivial⟩ (by kernel_rfl) ?_ ?_ ?_
 ·
  intro j it hj hjn
  simp only [List.mem_cons,List.not_mem_nil,or_false] at hjn
  rcases hjn with rfl | rfl
  ·
   injection hj with hj;subst hj;exact ⟨rfl,mZ⟩
  ·
   injection hj with hj;subst hj;exact ⟨rfl,mZ⟩
 ·
  intro j o it ho hj hjn a W H
  simp only [List.mem_cons,List.not_mem_nil,or_false] at hjn
  rcases hjn with rfl | rfl
  ·
   injection ho with ho;subst ho;injection hj with hj;subst hj;exact rV H (aN rfl eZ)
  ·
   injection ho with ho;subst ho;injection hj with hj;subst hj;exact rV H (aN rfl eZ)
 try clear H a W
 intro a W
 rintro _ rfl
 rintro _ rfl
 intro v10 hv10
 intro v11 hv11
 intro hD_
 intro H
 obtain ⟨g3,rfl,hbg3,hog3,hng3⟩:=hv10
 obtain ⟨g4,rfl,hbg4,hog4,hng4⟩:=hv11
 have hdg4g3:=hD_ 14 13 _ _ rfl rfl (by decide) (by decide) (by decide)
 dsimp only at hdg4g3
 rw [H.slot (k:=11) rfl,H.slot (k:=10) rfl] at hdg4g3
 replace H:=H.add hbg3 hog3 hng3
 replace H:=H.add hbg4 hog4 (pH (ptr_ne hdg4g3) hng4)
 clear hbg3 hog3 hng3
 clear hbg4 hog4 hng4
 refine aO rfl rfl rfl (k:=1) rfl (cG _) (by simp only [aX,aU,aG,Scl.bE,cQ,cL,bH,bJ,aZ,aS]<;>rfl) (fD _) rfl rfl H ?_
 try clear H a W
 intro a W H
 refine aO rfl rfl rfl (k:=0) rfl (cG _) (by simp only [aX,aU,aG,Scl.bE,cQ,cL,bH,bJ,aZ,aS]<;>rfl) (fD _) rfl rfl H ?_
 try clear H a W
 intro a W H
 refine aH ?_
 replace H:St 106 w a W [(11,pA g4),(10,pA g3),(9,.int .i64 (K:Int)),(8,.bool false),(5,pA g2),(4,pA g1),(2,.slice A k c)] [(g4,40,Scl.ls (signN y l)),(g3,40,Scl.ls (signN x l)),(g2,23,ks y),(g1,23,ks x)]:=H.pick [0,1,4,5,6,7,8] [0,1,2,3] rfl
 refine hK5 _ _ ?_
 clear hK5
 refine wp_seq_k (fun K6 hK6=>?_)
 refine drawnN [4,5] SB SB [⟨45,fun u_ _=>u_=.agg (ks x),[],none,false⟩,⟨46,fun u_ _=>u_=.agg (ks (pubN x)),[0],none,false⟩,⟨47,fun u_ _=>u_=.agg (ks y),[],none,false⟩,⟨48,fun u_ _=>u_=.agg (ks (pubN y)),[2],none,false⟩,⟨12,NewF w.heap.size [(g4,40,Scl.ls (signN y l)),(g3,40,Scl.ls (signN x l)),(g2,23,ks y),(g1,23,ks x)] 23 (ks 0),[],none,false⟩,⟨13,NewF w.heap.size [(g4,40,Scl.ls (signN y l)),(g3,40,Scl.ls (signN x l)),(g2,23,ks y),(g1,23,ks x)] 23 (ks 0),[],none,false⟩] [0,1,0,6,0,0,59,127] [1,3,4,5] dA dA (by kernel_rfl) (by kernel_rfl) (by kernel_rfl) H ⟨⟨fun a W  H=>by exact aR H (aA rfl) (aC rfl rfl (k:=3) rfl Tryz.underlying23 rfl (aL _)),aB,fun _=>aB⟩,⟨fun a W y0 hy0 H=>by subst hy0;exact cT H (aA rfl) rfl ⟨_,Tryz.func9,by kernel_rfl⟩ rfl (jF _ W (hgl.ext H.below)),aB,fun _=>aB⟩,⟨fun a W  H=>by exact aR H (aA rfl) (aC rfl rfl (k:=2) rfl Tryz.underlying23 rfl (aL _)),aB,fun _=>aB⟩,⟨fun a W y2 hy2 H=>by subst hy2;exact cT H (aA rfl) rfl ⟨_,Tryz.func9,by kernel_rfl⟩ rfl (jF _ W (hgl.ext H.below)),aB,fun _=>aB⟩,⟨fun a W  H=>by exact kU H (aN rfl bZ) rfl,NewF.sb,fun _=>NewF.sb⟩,⟨fun a W  H=>by exact kU H (aN rfl bZ) rfl,NewF.sb,fun _=>NewF.sb⟩,trivial⟩ (by kernel_rfl) ?_ ?_ ?_
 ·
  intro j it hj hjn
  simp only [List.mem_cons,List.not_mem_nil,or_false] at hjn
  rcases hjn with rfl | rfl
  ·
   injection hj with hj;subst hj;exact ⟨rfl,mZ⟩
  ·
   injection hj with hj;subst hj;exact ⟨rfl,mZ⟩
 ·
  intro j o it ho hj hjn a W H
  simp only [List.mem_cons,List.not_mem_nil,or_false] at hjn
  rcases hjn with rfl | rfl
  ·
   injection ho with ho;subst ho;injection hj with hj;subst hj;exact rV H (aN rfl bZ)
  ·
   injection ho with ho;subst ho;injection hj with hj;subst hj;exact rV H (aN rfl bZ)
 try clear H a W
 intro a W
 rintro _ rfl
 rintro _ rfl
 intro v12 hv12
 intro v13 hv13
 intro hD_
 intro H
 obtain ⟨g5,rfl,hbg5,hog5,hng5⟩:=hv12
 obtain ⟨g6,rfl,hbg6,hog6,hng6⟩:=hv13
 have hdg6g5:=hD_ 5 4 _ _ rfl rfl (by decide) (by decide) (by decide)
 dsimp only at hdg6g5
 rw [H.slot (k:=13) rfl,H.slot (k:=12) rfl] at hdg6g5
 replace H:=H.add hbg5 hog5 hng5
 replace H:=H.add hbg6 hog6 (pH (ptr_ne hdg6g5) hng6)
 clear hbg5 hog5 hng5
 clear hbg6 hog6 hng6
 refine aO rfl rfl rfl (k:=1) rfl (aL _) (by simp only [aX,aU,aG,Scl.bE,cQ,cL,bH,bJ,aZ,aS]<;>rfl) (bU _) rfl rfl H ?_
 try clear H a W
 intro a W H
 refine aO rfl rfl rfl (k:=0) rfl (aL _) (by simp only [aX,aU,aG,Scl.bE,cQ,cL,bH,bJ,aZ,aS]<;>rfl) (bU _) rfl rfl H ?_
 try clear H a W
 intro a W H
 refine aH ?_
 replace H:St 106 w a W [(13,pA g6),(12,pA g5),(11,pA g4),(10,pA g3),(9,.int .i64 (K:Int)),(8,.bool false),(4,pA g1),(2,.slice A k c)] [(g6,23,ks (pubN y)),(g5,23,ks (pubN x)),(g4,40,Scl.ls (signN y l)),(g3,40,Scl.ls (signN x l)),(g1,23,ks x)]:=H.pick [0,1,4,5,6,7,9,10] [0,1,2,3,5] rfl
 refine hK6 _ _ ?_
 clear hK6
 refine wp_seq_k (fun K7 hK7=>?_)
 refine wp_seq_k (fun K8 hK8=>?_)
 refine drawnR SB SB (⟨49,fun u_ _=>u_=.agg (Scl.ls (signN x l)),[],none,false⟩::⟨50,fun u_ _=>u_=.agg (ks x),[],none,false⟩::⟨51,fun u_ _=>u_=.slice A k c,[],none,false⟩::⟨52,LF [l],[2],none,false⟩::⟨53,fun u_ _=>u_=.agg (Scl.ls (signN x l)),[1,3],none,false⟩::⟨54,fun u_ _=>u_=.bool false,[0,4],none,false⟩::⟨55,fun u_ _=>u_=.bool false,[5],none,false⟩::⟨56,fun u_ _=>u_=.agg (ks (pubN x)),[6],none,false⟩::⟨57,fun u_ _=>u_=.agg (Scl.ls (signN x l)),[6],none,false⟩::⟨58,fun u_ _=>u_=.slice A k c,[6],none,false⟩::⟨59,fun u_ _=>u_=.int .i64 (K:Int),[6],none,false⟩::⟨60,fun u_ _=>u_=v1,[9,10,6],none,false⟩::⟨61,fun u_ _=>u_=.slice A k c,[6],none,false⟩::⟨62,fun u_ _=>u_=.int .i64 (K:Int),[6],none,false⟩::⟨63,fun u_ _=>u_=v2,[12,13,6],none,false⟩::⟨64,LF [(l.take K),(l.drop K)],[11,14,6],none,false⟩::⟨65,fun u_ _=>u_=.int .i64 (er true),[7,8,15,6],none,false⟩::⟨66,fun u_ _=>u_=.bool false,[16,6],none,false⟩::⟨67,fun u_ _=>u_=.bool false,[6,17],none,false⟩::⟨68,fun u_ _=>u_=.bool false,[18],none,false⟩::⟨69,fun u_ _=>u_=.agg (ks (pubN y)),[19],none,false⟩::⟨70,fun u_ _=>u_=.agg (Scl.ls (signN y l)),[19],none,false⟩::⟨71,fun u_ _=>u_=.slice A k c,[19],none,false⟩::⟨72,LF [l],[22,19],none,false⟩::⟨73,fun u_ _=>u_=.int .i64 (er true),[20,21,23,19],none,false⟩::⟨74,fun u_ _=>u_=.bool false,[24,19],none,false⟩::⟨75,fun u_ _=>u_=.bool false,[19,25],none,false⟩::[]) (0::0::0::4::10::17::48::64::64::64::64::1600::64::64::12352::18496::33216::65600::131136::327680::524288::524288::524288::4718592::12058624::17301504::34078720::[]) [26] dA dA (by kernel_rfl) (by kernel_rfl) (by kernel_rfl) H ⟨⟨fun a W  H=>by exact aR H (aA rfl) (aC rfl rfl (k:=3) rfl Tryz.underlying40 rfl (cG _)),aB,fun _=>aB⟩,⟨fun a W  H=>by exact aR H (aA rfl) (aC rfl rfl (k:=4) rfl Tryz.underlying23 rfl (aL _)),aB,fun _=>aB⟩,⟨fun a W  H=>by exact aR H (aA rfl) (aK rfl rfl),aB,fun _=>aB⟩,⟨fun a W y2 hy2 H=>by subst hy2;exact iK H (aA rfl) rfl rfl (dH hm H),LF.sb,fun _=>LF.sb⟩,⟨fun a W y1 hy1 v52 hv52 H=>by subst hy1;exact cT H (aA rfl) rfl ⟨_,Tryz.func8,by kernel_rfl⟩ rfl (mB W hv52.rf (iB l) (jI hl) (hgl.ext H.below)),aB,fun _=>aB⟩,⟨fun a W y0 hy0 y4 hy4 H=>by subst hy0;subst hy4;exact aR H (aA rfl) (aQ rfl rfl rfl (sne_long (b:=true) (eC _ l) (eC _ l) (decide_eq_true rfl) _ _)),aB,fun _=>aB⟩,⟨fun a W y5 hy5 H=>by subst hy5;exact aR H (aA rfl) (aK rfl rfl),aB,fun _=>aB⟩,⟨fun a W y6 hy6 H=>by subst hy6;exact aR H (aJ rfl rfl rfl rfl rfl) (aC rfl rfl (k:=1) rfl Tryz.underlying23 rfl (aL _)),aB,fun _=>aB⟩,⟨fun a W y6 hy6 H=>by subst hy6;exact aR H (aJ rfl rfl rfl rfl rfl) (aC rfl rfl (k:=3) rfl Tryz.underlying40 rfl (cG _)),aB,fun _=>aB⟩,⟨fun a W y6 hy6 H=>by subst hy6;exact aR H (aJ rfl rfl rfl rfl rfl) (aK rfl rfl),aB,fun _=>aB⟩,⟨fun a W y6 hy6 H=>by subst hy6;exact aR H (aJ rfl rfl rfl rfl rfl) (aK rfl rfl),aB,fun _=>aB⟩,⟨fun a W y9 hy9 y10 hy10 y6 hy6 H=>by subst hy9;subst hy10;subst hy6;exact aR H (aJ rfl rfl rfl rfl rfl) (bL rfl rfl (vl:=none) (vh:=some (.int .i64 (K:Int))) rfl rfl hs1),aB,fun _=>aB⟩,⟨fun a W y6 hy6 H=>by subst hy6;exact aR H (aJ rfl rfl rfl rfl rfl) (aK rfl rfl),aB,fun _=>aB⟩,⟨fun a W y6 hy6 H=>by subst hy6;exact aR H (aJ rfl rfl rfl rfl rfl) (aK rfl rfl),aB,fun _=>aB⟩,⟨fun a W y12 hy12 y13 hy13 y6 hy6 H=>by subst hy12;subst hy13;subst hy6;exact aR H (aJ rfl rfl rfl rfl rfl) (bL rfl rfl (vl:=some (.int .i64 (K:Int))) (vh:=none) rfl rfl hs2),aB,fun _=>aB⟩,⟨fun a W y11 hy11 y14 hy14 y6 hy6 H=>by have e_:=hy11.symm;subst e_;have e_:=hy14.symm;subst e_;subst hy6;exact qL H (aJ rfl rfl rfl rfl rfl) rfl rfl rfl (dH hv1 H) (dH hv2 H),LF.sb,fun _=>LF.sb⟩,⟨fun a W y7 hy7 y8 hy8 v64 hv64 y6 hy6 H=>by subst hy7;subst hy8;subst hy6;exact cT H (aJ rfl rfl rfl rfl rfl) rfl ⟨_,Tryz.func12,by kernel_rfl⟩ rfl (eQ W hv64.rf (oR l K) (zD hl) (gI _) (eC _ l) (iW x l) (hgl.ext H.below)),aB,fun _=>aB⟩,⟨fun a W y16 hy16 y6 hy6 H=>by subst hy16;subst hy6;exact aR H (aJ rfl rfl rfl rfl rfl) (aQ rfl rfl rfl (er_ne0 true _ _)),aB,fun _=>aB⟩,⟨fun a W y6 hy6 y17 hy17 H=>by subst hy6;subst hy17;exact aR H (aA rfl) (cH rfl rfl (fun hb=>by cases hb) (fun _=>rfl)),aB,fun _=>aB⟩,⟨fun a W y18 hy18 H=>by subst hy18;exact aR H (aA rfl) (aK rfl rfl),aB,fun _=>aB⟩,⟨fun a W y19 hy19 H=>by subst hy19;exact aR H (aJ rfl rfl rfl rfl rfl) (aC rfl rfl (k:=0) rfl Tryz.underlying23 rfl (aL _)),aB,fun _=>aB⟩,⟨fun a W y19 hy19 H=>by subst hy19;exact aR H (aJ rfl rfl rfl rfl rfl) (aC rfl rfl (k:=2) rfl Tryz.underlying40 rfl (cG _)),aB,fun _=>aB⟩,⟨fun a W y19 hy19 H=>by subst hy19;exact aR H (aJ rfl rfl rfl rfl rfl) (aK rfl rfl),aB,fun _=>aB⟩,⟨fun a W y22 hy22 y19 hy19 H=>by subst hy22;subst hy19;exact iK H (aJ rfl rfl rfl rfl rfl) rfl rfl (dH hm H),LF.sb,fun _=>LF.sb⟩,⟨fun a W y20 hy20 y21 hy21 v72 hv72 y19 hy19 H=>by subst hy20;subst hy21;subst hy19;exact cT H (aJ rfl rfl rfl rfl rfl) rfl ⟨_,Tryz.func12,by kernel_rfl⟩ rfl (eQ W hv72.rf (iB l) (jI hl) (gI _) (eC _ l) (iW y l) (hgl.ext H.below)),aB,fun _=>aB⟩,⟨fun a W y24 hy24 y19 hy19 H=>by subst hy24;subst hy19;exact aR H (aJ rfl rfl rfl rfl rfl) (aQ rfl rfl rfl (er_ne0 true _ _)),aB,fun _=>aB⟩,⟨fun a W y19 hy19 y25 hy25 H=>by subst hy19;subst hy25;exact aR H (aA rfl) (cH rfl rfl (fun hb=>by cases hb) (fun _=>rfl)),aB,fun _=>aB⟩,trivial⟩ (by kernel_rfl) ?_
 try clear H a W
 intro a W
 rintro _ rfl
 intro H
 refine aH ?_
 replace H:St 106 w a W [(75,.bool false),(13,pA g6),(12,pA g5),(11,pA g4),(10,pA g3),(8,.bool false),(2,.slice A k c)] [(g6,23,ks (pubN y)),(g5,23,ks (pubN x)),(g4,40,Scl.ls (signN y l)),(g3,40,Scl.ls (signN x l))]:=H.pick [0,1,2,3,4,6,8] [0,1,2,3] rfl
 refine hK8 _ _ ?_
 clear hK8
 refine wp_cond_false (H.ev rfl) ?_
 refine wp_skip ?_
 refine hK7 _ _ ?_
 clear hK7
 refine wp_seq_k (fun K9 hK9=>?_)
 refine aE ?_
 refine jR (F:=BegF w.heap.size [(g6,23,ks (pubN y)),(g5,23,ks (pubN x)),(g4,40,Scl.ls (signN y l)),(g3,40,Scl.ls (signN x l))]) (mX H (aA rfl) rfl ⟨_,Tryz.func7,by kernel_rfl⟩ rfl ((rbegin7 W).mono fun r W' ⟨v,e,hb,hF⟩=>⟨v,e,hb,hF.lift H⟩)) rfl rfl rfl H ?_
 try clear H a W
 intro v_ a W hv_ hb H
 clear hb
 obtain ⟨gS1,cS1,curS1,gK1,cK1,curK1,rfl,hbS,hbK,huS1,huK1,hoS,hoK,hne1,hnS,hnK⟩:=hv_
 replace H:=H.add hbK hoK hnK
 replace H:=H.add hbS hoS (pH hne1 hnS)
 clear hbK hoK hnK hbS hoS hnS
 refine bC (aN rfl al_sg) rfl rfl rfl rfl H ?_
 try clear H a W
 intro g7 a W H
 refine aO rfl rfl rfl (k:=0) rfl (eW _ _ _ _) (by simp only [aX,aU,aG,Scl.bE,cQ,cL,bH,bJ,aZ,aS]<;>rfl) (sg_one _ _ _ _) rfl rfl H ?_
 try clear H a W
 intro a W H
 refine aH ?_
 replace H:St 106 w a W [(14,pA g7),(13,pA g6),(12,pA g5),(11,pA g4),(10,pA g3),(8,.bool false),(2,.slice A k c)] [(g7,37,sg gS1 cS1 gK1 cK1),(gS1,29,curS1),(gK1,29,curK1),(g6,23,ks (pubN y)),(g5,23,ks (pubN x)),(g4,40,Scl.ls (signN y l)),(g3,40,Scl.ls (signN x l))]:=H.pick [0,3,4,5,6,7,8] [0,1,2,3,4,5,6] rfl
 refine hK9 _ _ ?_
 clear hK9
 refine wp_seq_k (fun K10 hK10=>?_)
 replace H:St 106 w a W [(14,pA g7),(13,pA g6),(12,pA g5),(11,pA g4),(10,pA g3),(2,.slice A k c)] [(g7,37,sg gS1 cS1 gK1 cK1),(gS1,29,curS1),(gK1,29,curK1),(g6,23,ks (pubN y)),(g5,23,ks (pubN x)),(g4,40,Scl.ls (signN y l)),(g3,40,Scl.ls (signN x l))]:=H.pick [0,1,2,3,4,6] [0,1,2,3,4,5,6] rfl
 refine drawnR SB SB (⟨77,fun u_ _=>u_=.agg (ks (pubN y)),[],none,false⟩::⟨78,fun u_ _=>u_=.agg (Scl.ls (signN x l)),[],none,false⟩::⟨79,fun u_ _=>u_=.slice A k c,[],none,false⟩::⟨80,LF [l],[2],none,false⟩::⟨81,fun u_ _=>u_=.int .i64 (er b1),[0,1,3],none,false⟩::⟨82,fun u_ _=>u_=.bool b1,[4],none,false⟩::⟨83,fun u_ _=>u_=.agg (sg gS1 cS1 gK1 cK1),[],none,false⟩::⟨84,fun u_ _=>u_=.agg (ks (pubN y)),[],none,false⟩::⟨85,fun u_ _=>u_=.agg (Scl.ls (signN x l)),[],none,false⟩::⟨86,fun u_ _=>u_=.slice A k c,[],none,false⟩::⟨87,fun u_ _=>u_=.bool b1,[6,7,8,9],none,false⟩::⟨88,fun u_ _=>u_=.bool true,[5,10],none,false⟩::⟨89,fun u_ _=>u_=.bool true,[11],none,false⟩::⟨90,fun u_ _=>u_=.agg (ks (pubN x)),[12],none,false⟩::⟨91,fun u_ _=>u_=.agg (Scl.ls (signN y l)),[12],none,false⟩::⟨92,fun u_ _=>u_=.slice A k c,[12],none,false⟩::⟨93,LF [l],[15,12],none,false⟩::⟨94,fun u_ _=>u_=.int .i64 (er b2),[13,14,16,12],none,false⟩::⟨95,fun u_ _=>u_=.bool b2,[17,12],none,false⟩::⟨96,fun u_ _=>u_=.agg (sg gS1 cS1 gK1 cK1),[12],none,false⟩::⟨97,fun u_ _=>u_=.agg (ks (pubN x)),[12],none,false⟩::⟨98,fun u_ _=>u_=.agg (Scl.ls (signN y l)),[12],none,false⟩::⟨99,fun u_ _=>u_=.slice A k c,[12],none,false⟩::⟨100,fun u_ _=>u_=.bool b2,[19,20,21,22,12],none,false⟩::⟨101,fun u_ _=>u_=.bool true,[18,23,12],none,false⟩::⟨102,fun u_ _=>u_=.bool true,[12,24],none,false⟩::⟨103,fun u_ _=>u_=.bool true,[25],none,false⟩::⟨104,fun u_ _=>u_=.bool true,[26],none,false⟩::⟨105,fun u_ _=>u_=.bool true,[26,27],none,false⟩::[]) (0::0::0::4::11::16::0::0::0::0::976::1056::3072::4096::4096::4096::36864::94208::135168::4096::4096::4096::4096::7999488::8654848::16781312::41943040::67108864::201326592::536870911::[]) [28] dA dA (by kernel_rfl) (by kernel_rfl) (by kernel_rfl) H ⟨⟨fun a W  H=>by exact aR H (aA rfl) (aC rfl rfl (k:=3) rfl Tryz.underlying23 rfl (aL _)),aB,fun _=>aB⟩,⟨fun a W  H=>by exact aR H (aA rfl) (aC rfl rfl (k:=6) rfl Tryz.underlying40 rfl (cG _)),aB,fun _=>aB⟩,⟨fun a W  H=>by exact aR H (aA rfl) (aK rfl rfl),aB,fun _=>aB⟩,⟨fun a W y2 hy2 H=>by subst hy2;exact iK H (aA rfl) rfl rfl (dH hm H),LF.sb,fun _=>LF.sb⟩,⟨fun a W y0 hy0 y1 hy1 v80 hv80 H=>by subst hy0;subst hy1;exact cT H (aA rfl) rfl ⟨_,Tryz.func12,by kernel_rfl⟩ rfl (eQ W hv80.rf (iB l) (jI hl) (gI _) (eC _ l) hb1 (hgl.ext H.below)),aB,fun _=>aB⟩,⟨fun a W y4 hy4 H=>by subst hy4;exact aR H (aA rfl) (aQ rfl rfl rfl (qV b1 _ _)),aB,fun _=>aB⟩,⟨fun a W  H=>by exact aR H (aA rfl) (aC rfl rfl (k:=0) rfl Tryz.underlying37 rfl (eW _ _ _ _)),aB,fun _=>aB⟩,⟨fun a W  H=>by exact aR H (aA rfl) (aC rfl rfl (k:=3) rfl Tryz.underlying23 rfl (aL _)),aB,fun _=>aB⟩,⟨fun a W  H=>by exact aR H (aA rfl) (aC rfl rfl (k:=6) rfl Tryz.underlying40 rfl (cG _)),aB,fun _=>aB⟩,⟨fun a W  H=>by exact aR H (aA rfl) (aK rfl rfl),aB,fun _=>aB⟩,⟨fun a W y6 hy6 y7 hy7 y8 hy8 y9 hy9 H=>by subst hy6;subst hy7;subst hy8;subst hy9;exact cT H (aA rfl) rfl ⟨_,Tryz.func13,by kernel_rfl⟩ rfl (rcheck7 W (rQ H (k:=1) (k2:=2) rfl rfl huS1 huK1).sg (dH hm H) (by omega) (gI _) (eC _ l) hb1),aB,fun _=>aB⟩,⟨fun a W y5 hy5 y10 hy10 H=>by subst hy5;subst hy10;exact aR H (aA rfl) (aQ rfl rfl rfl (seq_bool b1 _ _)),aB,fun _=>aB⟩,⟨fun a W y11 hy11 H=>by subst hy11;exact aR H (aA rfl) (aK rfl rfl),aB,fun _=>aB⟩,⟨fun a W y12 hy12 H=>by subst hy12;exact aR H (aJ rfl rfl rfl rfl rfl) (aC rfl rfl (k:=4) rfl Tryz.underlying23 rfl (aL _)),aB,fun _=>aB⟩,⟨fun a W y12 hy12 H=>by subst hy12;exact aR H (aJ rfl rfl rfl rfl rfl) (aC rfl rfl (k:=5) rfl Tryz.underlying40 rfl (cG _)),aB,fun _=>aB⟩,⟨fun a W y12 hy12 H=>by subst hy12;exact aR H (aJ rfl rfl rfl rfl rfl) (aK rfl rfl),aB,fun _=>aB⟩,⟨fun a W y15 hy15 y12 hy12 H=>by subst hy15;subst hy12;exact iK H (aJ rfl rfl rfl rfl rfl) rfl rfl (dH hm H),LF.sb,fun _=>LF.sb⟩,⟨fun a W y13 hy13 y14 hy14 v93 hv93 y12 hy12 H=>by subst hy13;subst hy14;subst hy12;exact cT H (aJ rfl rfl rfl rfl rfl) rfl ⟨_,Tryz.func12,by kernel_rfl⟩ rfl (eQ W hv93.rf (iB l) (jI hl) (gI _) (eC _ l) hb2 (hgl.ext H.below)),aB,fun _=>aB⟩,⟨fun a W y17 hy17 y12 hy12 H=>by subst hy17;subst hy12;exact aR H (aJ rfl rfl rfl rfl rfl) (aQ rfl rfl rfl (qV b2 _ _)),aB,fun _=>aB⟩,⟨fun a W y12 hy12 H=>by subst hy12;exact aR H (aJ rfl rfl rfl rfl rfl) (aC rfl rfl (k:=0) rfl Tryz.underlying37 rfl (eW _ _ _ _)),aB,fun _=>aB⟩,⟨fun a W y12 hy12 H=>by subst hy12;exact aR H (aJ rfl rfl rfl rfl rfl) (aC rfl rfl (k:=4) rfl Tryz.underlying23 rfl (aL _)),aB,fun _=>aB⟩,⟨fun a W y12 hy12 H=>by subst hy12;exact aR H (aJ rfl rfl rfl rfl rfl) (aC rfl rfl (k:=5) rfl Tryz.underlying40 rfl (cG _)),aB,fun _=>aB⟩,⟨fun a W y12 hy12 H=>by subst hy12;exact aR H (aJ rfl rfl rfl rfl rfl) (aK rfl rfl),aB,fun _=>aB⟩,⟨fun a W y19 hy19 y20 hy20 y21 hy21 y22 hy22 y12 hy12 H=>by subst hy19;subst hy20;subst hy21;subst hy22;subst hy12;exact cT H (aJ rfl rfl rfl rfl rfl) rfl ⟨_,Tryz.func13,by kernel_rfl⟩ rfl (rcheck7 W (rQ H (k:=1) (k2:=2) rfl rfl huS1 huK1).sg (dH hm H) (by omega) (gI _) (eC _ l) hb2),aB,fun _=>aB⟩,⟨fun a W y18 hy18 y23 hy23 y12 hy12 H=>by subst hy18;subst hy23;subst hy12;exact aR H (aJ rfl rfl rfl rfl rfl) (aQ rfl rfl rfl (seq_bool b2 _ _)),aB,fun _=>aB⟩,⟨fun a W y12 hy12 y24 hy24 H=>by subst hy12;subst hy24;exact aR H (aA rfl) (cH rfl rfl (fun _=>rfl) (fun hb=>by cases hb)),aB,fun _=>aB⟩,⟨fun a W y25 hy25 H=>by subst hy25;exact aR H (aA rfl) (aK rfl rfl),aB,fun _=>aB⟩,⟨fun a W y26 hy26 H=>by subst hy26;exact cT H (aJ rfl rfl rfl rfl rfl) rfl ⟨_,Tryz.func6,by kernel_rfl⟩ rfl (known7 W (hgl.ext H.below)),aB,fun _=>aB⟩,⟨fun a W y26 hy26 y27 hy27 H=>by subst hy26;subst hy27;exact aR H (aA rfl) (cH rfl rfl (fun _=>rfl) (fun hb=>by cases hb)),aB,fun _=>aB⟩,trivial⟩ (by kernel_rfl) ?_
 try clear H a W
 intro a W
 rintro _ rfl
 intro H
 refine aY (F:=fun u_ _=>u_=.bool true) (aI H (aA rfl) (aM rfl rfl)) rfl rfl rfl H ?_
 try clear H a W
 rintro _ a W rfl H
 refine aH ?_
 replace H:St 106 w a W [(8,.bool true)] [(gS1,29,curS1),(gK1,29,curK1)]:=H.pick [0] [1,2] rfl
 refine hK10 _ _ ?_
 clear hK10
 refine wp_ret ?_
 repeat (first | (with_reducible refine bD ?_) | (with_reducible refine bI ?_))
 refine dX (p:=8) rfl rfl H (fun hb=>?_)
 exact ⟨rfl,hb⟩
theorem law_parts {x y:Nat} {z:Int} {A:Option Addr} {k c:Nat} {l:List UInt8} (w:World) (hm:BF l (.slice A k c) w) (hgl:GL w):Calls zP 5 #[.agg (ks x),.agg (ks y),.slice A k c,.int .i64 z] w (fun rr w'=>rr=.returned (.bool true)∧Below w.heap.size w w'):=by
 by_cases h:k≤300
 ·
  exact parts_b w hm h hgl
 ·
  exact parts_a w hm (by omega) hgl
end
end Go.Proofs.YtpagiffbjofihaaGreatDoor
