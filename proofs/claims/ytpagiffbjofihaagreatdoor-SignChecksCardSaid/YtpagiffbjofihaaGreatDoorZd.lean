/- Words, contracts and walks (Pw, Po, Gc, Cm, Gp, Gk, Hu, Hn, Hm, Hi, Hr), laid together. No condition. -/
import Derived.Test.YtpagiffbjofihaaGreatDoorZc
import Derived.Test.YtpagiffbjofihaaGreatDoorRows
import Derived.ProofKit
import Derived.LaidMore
import Derived.OpenShut
import Derived.Stop.Joined
import Derived.ChangeOld
import Derived.Below
import Derived.Deep.SlicePairs
import Derived.ChangeArms
import Derived.Deep.RegionLaw
import Derived.Maps.AppendAt
import Derived.Laws.OwnMore
namespace Go.Proofs.YtpagiffbjofihaaGreatDoor
set_option linter.unusedVariables false
set_option linter.unusedSimpArgs false
set_option maxHeartbeats 16000000
open Go
open _root_.Go.Proofs.Tryz renaming prog → zP
open List renaming getElem_toArray → lA,getElem_cons_succ → lB,getElem_cons_zero → lC,setIfInBounds_toArray → lD,set_cons_zero → lE,set_cons_succ → lF
section
set_option maxRecDepth 99999
open Go Go.RowKit
theorem td_ofK:TD=ofK 37095705934669439343138083508754565189542113879843219016388785533085940283555:=by decide +kernel
theorem bx_ofK:BX=ofK 15112221349535400772501151409588531511454012693041857206046113283949847762202:=by decide +kernel
theorem by_ofK:BY=ofK 46316835694926478169428394003475163141307993866256225615783033603165251855960:=by decide +kernel
theorem bd_keyD (W:World):(Instr.build 23 [(0,.int .u8 163),(1,.int .u8 120),(2,.int .u8 89),(3,.int .u8 19),(4,.int .u8 202),(5,.int .u8 77),(6,.int .u8 235),(7,.int .u8 117),(8,.int .u8 171),(9,.int .u8 216),(10,.int .u8 65),(11,.int .u8 65),(12,.int .u8 77),(13,.int .u8 10),(14,.int .u8 112),(15,.int .u8 0),(16,.int .u8 152),(17,.int .u8 232),(18,.int .u8 121),(19,.int .u8 119),(20,.int .u8 121),(21,.int .u8 64),(22,.int .u8 199),(23,.int .u8 140),(24,.int .u8 115),(25,.int .u8 254),(26,.int .u8 111),(27,.int .u8 43),(28,.int .u8 238),(29,.int .u8 108),(30,.int .u8 3),(31,.int .u8 82)].toArray).run zP W=.ok (.agg (ks 37095705934669439343138083508754565189542113879843219016388785533085940283555)) W:=by kernel_rfl
theorem bd_keyX (W:World):(Instr.build 23 [(0,.int .u8 26),(1,.int .u8 213),(2,.int .u8 37),(3,.int .u8 143),(4,.int .u8 96),(5,.int .u8 45),(6,.int .u8 86),(7,.int .u8 201),(8,.int .u8 178),(9,.int .u8 167),(10,.int .u8 37),(11,.int .u8 149),(12,.int .u8 96),(13,.int .u8 199),(14,.int .u8 44),(15,.int .u8 105),(16,.int .u8 92),(17,.int .u8 220),(18,.int .u8 214),(19,.int .u8 253),(20,.int .u8 49),(21,.int .u8 226),(22,.int .u8 164),(23,.int .u8 192),(24,.int .u8 254),(25,.int .u8 83),(26,.int .u8 110),(27,.int .u8 205),(28,.int .u8 211),(29,.int .u8 54),(30,.int .u8 105),(31,.int .u8 33)].toArray).run zP W=.ok (.agg (ks 15112221349535400772501151409588531511454012693041857206046113283949847762202)) W:=by kernel_rfl
theorem bd_keyY (W:World):(Instr.build 23 [(0,.int .u8 88),(1,.int .u8 102),(2,.int .u8 102),(3,.int .u8 102),(4,.int .u8 102),(5,.int .u8 102),(6,.int .u8 102),(7,.int .u8 102),(8,.int .u8 102),(9,.int .u8 102),(10,.int .u8 102),(11,.int .u8 102),(12,.int .u8 102),(13,.int .u8 102),(14,.int .u8 102),(15,.int .u8 102),(16,.int .u8 102),(17,.int .u8 102),(18,.int .u8 102),(19,.int .u8 102),(20,.int .u8 102),(21,.int .u8 102),(22,.int .u8 102),(23,.int .u8 102),(24,.int .u8 102),(25,.int .u8 102),(26,.int .u8 102),(27,.int .u8 102),(28,.int .u8 102),(29,.int .u8 102),(30,.int .u8 102),(31,.int .u8 102)].toArray).run zP W=.ok (.agg (ks 46316835694926478169428394003475163141307993866256225615783033603165251855960)) W:=by kernel_rfl
attribute [local irreducible] ev sv ks ptSet ptAdd ptMul rootC EE II TD BX BY
theorem jG {x y:Fin PP} {r:L4 PP} (h:r=ptE x y) (w:World) (hpg:PG w):Calls zP 66 #[.agg (ev x),.agg (ev y)] w (fun rr w'=>rr=.returned (.agg (sv r))∧Below w.heap.size w w'):=by
 obtain ⟨z1,hz1⟩:∃ z:Fin PP,z=sm 1:=⟨_,rfl⟩
 obtain ⟨z2,hz2⟩:∃ z:Fin PP,z=x*y:=⟨_,rfl⟩
 refine bN (vs:=[.agg (ev x),.agg (ev y)]) 12 Tryz.func66 rfl Tryz.ntmps66 rfl (fun a W H=>?_)
 refine wp_seq_k (fun K1 hK1=>?_)
 refine aE ?_
 refine bP rfl rfl (jO x) rfl rfl rfl rfl H ?_
 clear H a W
 intro g1 a W H
 refine bP rfl rfl (jO y) rfl rfl rfl rfl H ?_
 clear H a W
 intro g2 a W H
 refine bC (aN rfl lU) rfl rfl rfl rfl H ?_
 clear H a W
 intro g3 a W H
 refine aH ?_
 replace H:St 12 w a W [(4,pA g3),(3,pA g2),(2,pA g1)] [(g3,58,#[.int .u64 0,.int .u64 0,.int .u64 0,.int .u64 0,.int .u64 0,.int .u64 0,.int .u64 0,.int .u64 0,.int .u64 0,.int .u64 0,.int .u64 0,.int .u64 0,.int .u64 0,.int .u64 0,.int .u64 0,.int .u64 0]),(g2,56,ev y),(g1,56,ev x)]:=H.pick [0,1,2] [0,1,2] rfl
 refine hK1 _ _ ?_
 clear hK1
 refine wp_seq_k (fun K2 hK2=>?_)
 refine drawnS [.val 5 (.agg (ev x)) [] [2],.val 6 (.agg (ev y)) [] [1],.val 7 (.agg (ev z1)) [] [],.val 8 (.agg (ev x)) [] [2],.val 9 (.agg (ev y)) [] [1],.val 10 (.agg (ev z2)) [3,4] [],.val 11 (.agg (sv ⟨x,y,z1,z2⟩)) [0,1,2,5] [],.sto 0 g3 58 (#[.int .u64 0,.int .u64 0,.int .u64 0,.int .u64 0,.int .u64 0,.int .u64 0,.int .u64 0,.int .u64 0,.int .u64 0,.int .u64 0,.int .u64 0,.int .u64 0,.int .u64 0,.int .u64 0,.int .u64 0,.int .u64 0]) (sv ⟨x,y,z1,z2⟩) [6]] [0,0,0,0,0,28,39,127] (by kernel_rfl) (by kernel_rfl) (by kernel_rfl) H ⟨⟨aC rfl rfl (k:=0) rfl Tryz.underlying56 rfl (aV _),aA rfl⟩,⟨aC rfl rfl (k:=0) rfl Tryz.underlying56 rfl (aV _),aA rfl⟩,⟨aF rfl ⟨_,Tryz.func107,by kernel_rfl⟩ rfl (fun W hb=>smallP 1 hz1 (by omega) W),aA rfl⟩,⟨aC rfl rfl (k:=0) rfl Tryz.underlying56 rfl (aV _),aA rfl⟩,⟨aC rfl rfl (k:=0) rfl Tryz.underlying56 rfl (aV _),aA rfl⟩,⟨aF rfl ⟨_,Tryz.func72,by kernel_rfl⟩ rfl (fun W hb=>mulP hz2 W (hpg.ext hb)),aA rfl⟩,⟨cD rfl rfl (bd_pt x y z1 z2),aA rfl⟩,⟨rfl,rfl,bQ rfl rfl rfl (bX _) (by simp only [aX,aU,aG,bY]<;>rfl) (dY _)⟩,trivial⟩ ?_
 clear H a W
 intro G4 a W H
 replace H:St 12 w a W [(4,pA g3)] [(g3,58,sv ⟨x,y,z1,z2⟩)]:=H.pick [7] [0] rfl
 refine hK2 _ _ ?_
 clear hK2
 refine wp_ret ?_
 repeat (first | (with_reducible refine bD ?_) | (with_reducible refine bI ?_))
 refine cI (p:=4) rfl rfl (k:=0) rfl Tryz.underlying58 rfl (bX _) H (fun hb=>?_)
 exact ⟨by rw [h];subst hz1 hz2;rfl,hb⟩
theorem oB {x:Fin PP} {b:Bool} (h:decide (x=0)=b) (w:World) (hpg:PG w):Calls zP 65 #[.agg (ev x)] w (fun rr w'=>rr=.returned (.bool b)∧Below w.heap.size w w'):=by
 refine bN (vs:=[.agg (ev x)]) 6 Tryz.func65 rfl Tryz.ntmps65 rfl (fun a W H=>?_)
 refine wp_seq_k (fun K1 hK1=>?_)
 refine aE ?_
 refine bP rfl rfl (jO x) rfl rfl rfl rfl H ?_
 clear H a W
 intro g1 a W H
 refine aD (aM rfl rfl) rfl rfl rfl rfl H ?_
 clear H a W
 intro a W H
 refine aH ?_
 replace H:St 6 w a W [(2,.bool false),(1,pA g1)] [(g1,56,ev x)]:=H.pick [0,1] [0] rfl
 refine hK1 _ _ ?_
 clear hK1
 refine wp_seq_k (fun K2 hK2=>?_)
 refine aE ?_
 refine aD (aC rfl rfl (k:=0) rfl Tryz.underlying56 rfl (aV _)) rfl rfl rfl rfl H ?_
 clear H a W
 intro a W H
 refine aD (cD (ps:=[]) rfl rfl uZ) rfl rfl rfl rfl H ?_
 clear H a W
 intro a W H
 refine aD (aF rfl ⟨_,Tryz.func110,by kernel_rfl⟩ rfl (fun W hb=>equalB h W)) rfl rfl rfl rfl H ?_
 clear H a W
 intro a W H
 replace H:St 6 w a W [(5,.bool b),(4,.agg (ev 0)),(3,.agg (ev x)),(1,pA g1)] [(g1,56,ev x)]:=H.pick [0,1,2,4] [0] rfl
 refine aD (aM rfl rfl) rfl rfl rfl rfl H ?_
 clear H a W
 intro a W H
 refine aH ?_
 replace H:St 6 w a W [(2,.bool b)] []:=H.pick [0] [] rfl
 refine hK2 _ _ ?_
 clear hK2
 refine wp_ret ?_
 repeat (first | (with_reducible refine bD ?_) | (with_reducible refine bI ?_))
 refine dX (p:=2) rfl rfl H (fun hb=>?_)
 exact ⟨rfl,hb⟩
theorem yA {s r:L4 PP} (hr:r=ptSet s) (h:s.c=0) (w:World) (hpg:PG w):Calls zP 70 #[.agg (sv s)] w (fun rr w'=>rr=.returned (.agg (sv r))∧Below w.heap.size w w'):=by
 obtain ⟨z1,hz1⟩:∃ z:Fin PP,z=sm 0:=⟨_,rfl⟩
 obtain ⟨z2,hz2⟩:∃ z:Fin PP,z=sm 1:=⟨_,rfl⟩
 obtain ⟨z3,hz3⟩:∃ z:L4 PP,z=ptE z1 z2:=⟨_,rfl⟩
 refine bN (vs:=[.agg (sv s)]) 10 Tryz.func70 rfl Tryz.ntmps70 rfl (fun a W H=>?_)
 refine wp_seq_k (fun K1 hK1=>?_)
 refine aE ?_
 refine bP rfl rfl (pW s) rfl rfl rfl rfl H ?_
 clear H a W
 intro g1 a W H
 refine bC (aN rfl lU) rfl rfl rfl rfl H ?_
 clear H a W
 intro g2 a W H
 refine aH ?_
 replace H:St 10 w a W [(2,pA g2),(1,pA g1)] [(g2,58,#[.int .u64 0,.int .u64 0,.int .u64 0,.int .u64 0,.int .u64 0,.int .u64 0,.int .u64 0,.int .u64 0,.int .u64 0,.int .u64 0,.int .u64 0,.int .u64 0,.int .u64 0,.int .u64 0,.int .u64 0,.int .u64 0]),(g1,58,sv s)]:=H.pick [0,1] [0,1] rfl
 refine hK1 _ _ ?_
 clear hK1
 refine wp_seq_k (fun K2 hK2=>?_)
 refine wp_seq_k (fun K3 hK3=>?_)
 refine aE ?_
 refine aD (aP rfl rfl (fU _ · |>.2.2.1)) rfl rfl rfl rfl H ?_
 clear H a W
 intro a W H
 refine aD (aT (v:=.agg (ev s.c)) rfl rfl (k:=1) rfl (fT (k:=2) (by omega))) rfl rfl rfl rfl H ?_
 clear H a W
 intro a W H
 refine aD (aF rfl ⟨_,Tryz.func65,by kernel_rfl⟩ rfl (fun W hb=>oB (decide_eq_true h) W (hpg.ext hb))) rfl rfl rfl rfl H ?_
 clear H a W
 intro a W H
 refine aH ?_
 replace H:St 10 w a W [(5,.bool true),(2,pA g2),(1,pA g1)] [(g2,58,#[.int .u64 0,.int .u64 0,.int .u64 0,.int .u64 0,.int .u64 0,.int .u64 0,.int .u64 0,.int .u64 0,.int .u64 0,.int .u64 0,.int .u64 0,.int .u64 0,.int .u64 0,.int .u64 0,.int .u64 0,.int .u64 0]),(g1,58,sv s)]:=H.pick [0,3,4] [0,1] rfl
 refine hK3 _ _ ?_
 clear hK3
 refine wp_cond_true (H.ev rfl) ?_
 refine wp_seq_k (fun K4 hK4=>?_)
 refine aE ?_
 refine aD (aF rfl ⟨_,Tryz.func107,by kernel_rfl⟩ rfl (fun W hb=>smallP 0 hz1 (by omega) W)) rfl rfl rfl rfl H ?_
 clear H a W
 intro a W H
 refine aD (aF rfl ⟨_,Tryz.func107,by kernel_rfl⟩ rfl (fun W hb=>smallP 1 hz2 (by omega) W)) rfl rfl rfl rfl H ?_
 clear H a W
 intro a W H
 refine aD (aF rfl ⟨_,Tryz.func66,by kernel_rfl⟩ rfl (fun W hb=>jG hz3 W (hpg.ext hb))) rfl rfl rfl rfl H ?_
 clear H a W
 intro a W H
 refine aO rfl rfl rfl (k:=0) rfl (bX _) (by simp only [aX,aU,aG,bY]<;>rfl) (dY _) rfl rfl H ?_
 clear H a W
 intro a W H
 refine aH ?_
 replace H:St 10 w a W [(2,pA g2),(1,pA g1)] [(g2,58,sv z3),(g1,58,sv s)]:=H.pick [4,5] [0,1] rfl
 refine hK4 _ _ ?_
 clear hK4
 refine wp_ret ?_
 repeat (first | (with_reducible refine bD ?_) | (with_reducible refine bI ?_))
 refine cI (p:=2) rfl rfl (k:=0) rfl Tryz.underlying58 rfl (bX _) H (fun hb=>?_)
 exact ⟨by rw [hr,tG h];subst hz1 hz2 hz3;rfl,hb⟩
theorem settled_one {s r:L4 PP} (hr:r=ptSet s) (h:¬ s.c=0) (w:World) (hpg:PG w):Calls zP 70 #[.agg (sv s)] w (fun rr w'=>rr=.returned (.agg (sv r))∧Below w.heap.size w w'):=by
 refine bN (vs:=[.agg (sv s)]) 10 Tryz.func70 rfl Tryz.ntmps70 rfl (fun a W H=>?_)
 refine wp_seq_k (fun K1 hK1=>?_)
 refine aE ?_
 refine bP rfl rfl (pW s) rfl rfl rfl rfl H ?_
 clear H a W
 intro g1 a W H
 refine bC (aN rfl lU) rfl rfl rfl rfl H ?_
 clear H a W
 intro g2 a W H
 refine aH ?_
 replace H:St 10 w a W [(2,pA g2),(1,pA g1)] [(g2,58,#[.int .u64 0,.int .u64 0,.int .u64 0,.int .u64 0,.int .u64 0,.int .u64 0,.int .u64 0,.int .u64 0,.int .u64 0,.int .u64 0,.int .u64 0,.int .u64 0,.int .u64 0,.int .u64 0,.int .u64 0,.int .u64 0]),(g1,58,sv s)]:=H.pick [0,1] [0,1] rfl
 refine hK1 _ _ ?_
 clear hK1
 refine wp_seq_k (fun K2 hK2=>?_)
 refine wp_seq_k (fun K3 hK3=>?_)
 refine aE ?_
 refine aD (aP rfl rfl (fU _ · |>.2.2.1)) rfl rfl rfl rfl H ?_
 clear H a W
 intro a W H
 refine aD (aT (v:=.agg (ev s.c)) rfl rfl (k:=1) rfl (fT (k:=2) (by omega))) rfl rfl rfl rfl H ?_
 clear H a W
 intro a W H
 refine aD (aF rfl ⟨_,Tryz.func65,by kernel_rfl⟩ rfl (fun W hb=>oB (decide_eq_false h) W (hpg.ext hb))) rfl rfl rfl rfl H ?_
 clear H a W
 intro a W H
 refine aH ?_
 replace H:St 10 w a W [(5,.bool false),(2,pA g2),(1,pA g1)] [(g2,58,#[.int .u64 0,.int .u64 0,.int .u64 0,.int .u64 0,.int .u64 0,.int .u64 0,.int .u64 0,.int .u64 0,.int .u64 0,.int .u64 0,.int .u64 0,.int .u64 0,.int .u64 0,.int .u64 0,.int .u64 0,.int .u64 0]),(g1,58,sv s)]:=H.pick [0,3,4] [0,1] rfl
 refine hK3 _ _ ?_
 clear hK3
 refine wp_cond_false (H.ev rfl) ?_
 refine wp_skip ?_
 refine hK2 _ _ ?_
 clear hK2
 refine wp_seq_k (fun K4 hK4=>?_)
 refine aE ?_
 refine aD (aC rfl rfl (k:=1) rfl Tryz.underlying58 rfl (bX _)) rfl rfl rfl rfl H ?_
 clear H a W
 intro a W H
 refine aO rfl rfl rfl (k:=0) rfl (bX _) (by simp only [aX,aU,aG,bY]<;>rfl) (dY _) rfl rfl H ?_
 clear H a W
 intro a W H
 refine aH ?_
 replace H:St 10 w a W [(2,pA g2)] [(g2,58,sv s)]:=H.pick [2] [0] rfl
 refine hK4 _ _ ?_
 clear hK4
 refine wp_ret ?_
 repeat (first | (with_reducible refine bD ?_) | (with_reducible refine bI ?_))
 refine cI (p:=2) rfl rfl (k:=0) rfl Tryz.underlying58 rfl (bX _) H (fun hb=>?_)
 exact ⟨by rw [hr,oW h],hb⟩
theorem mC {s r:L4 PP} (hr:r=ptSet s) (w:World) (hpg:PG w):Calls zP 70 #[.agg (sv s)] w (fun rr w'=>rr=.returned (.agg (sv r))∧Below w.heap.size w w'):=by
 by_cases h:s.c=0
 ·
  exact yA hr h w hpg
 ·
  exact settled_one hr h w hpg
theorem vQ {x z:Fin PP} (h:z=x+x) (w:World) (hpg:PG w):Calls zP 74 #[.agg (ev x)] w (fun rr w'=>rr=.returned (.agg (ev z))∧Below w.heap.size w w'):=by
 obtain ⟨z1,hz1⟩:∃ z:Fin PP,z=x+x:=⟨_,rfl⟩
 refine bN (vs:=[.agg (ev x)]) 6 Tryz.func74 rfl Tryz.ntmps74 rfl (fun a W H=>?_)
 refine wp_seq_k (fun K1 hK1=>?_)
 refine aE ?_
 refine bP rfl rfl (jO x) rfl rfl rfl rfl H ?_
 clear H a W
 intro g1 a W H
 refine bC (aN rfl cR) rfl rfl rfl rfl H ?_
 clear H a W
 intro g2 a W H
 refine aH ?_
 replace H:St 6 w a W [(2,pA g2),(1,pA g1)] [(g2,56,#[.int .u64 0,.int .u64 0,.int .u64 0,.int .u64 0]),(g1,56,ev x)]:=H.pick [0,1] [0,1] rfl
 refine hK1 _ _ ?_
 clear hK1
 refine wp_seq_k (fun K2 hK2=>?_)
 refine aE ?_
 refine aD (aC rfl rfl (k:=1) rfl Tryz.underlying56 rfl (aV _)) rfl rfl rfl rfl H ?_
 clear H a W
 intro a W H
 refine aD (aC rfl rfl (k:=1) rfl Tryz.underlying56 rfl (aV _)) rfl rfl rfl rfl H ?_
 clear H a W
 intro a W H
 refine aD (aF rfl ⟨_,Tryz.func73,by kernel_rfl⟩ rfl (fun W hb=>addP hz1 W (hpg.ext hb))) rfl rfl rfl rfl H ?_
 clear H a W
 intro a W H
 refine aO rfl rfl rfl (k:=0) rfl (aV _) (by simp only [aX,aU,aG,bY]<;>rfl) (cP _) rfl rfl H ?_
 clear H a W
 intro a W H
 refine aH ?_
 replace H:St 6 w a W [(2,pA g2)] [(g2,56,ev z1)]:=H.pick [3] [0] rfl
 refine hK2 _ _ ?_
 clear hK2
 refine wp_ret ?_
 repeat (first | (with_reducible refine bD ?_) | (with_reducible refine bI ?_))
 refine cI (p:=2) rfl rfl (k:=0) rfl Tryz.underlying56 rfl (aV _) H (fun hb=>?_)
 exact ⟨by rw [h];subst hz1;rfl,hb⟩
theorem neg_pt {s r:L4 PP} (h:r=ptNeg s) (w:World) (hpg:PG w):Calls zP 32 #[.agg (sv s)] w (fun rr w'=>rr=.returned (.agg (sv r))∧Below w.heap.size w w'):=by
 obtain ⟨z1,hz1⟩:∃ z:Fin PP,z=-s.a:=⟨_,rfl⟩
 obtain ⟨z2,hz2⟩:∃ z:Fin PP,z=-s.d:=⟨_,rfl⟩
 refine bN (vs:=[.agg (sv s)]) 14 Tryz.func32 rfl Tryz.ntmps32 rfl (fun a W H=>?_)
 refine wp_seq_k (fun K1 hK1=>?_)
 refine aE ?_
 refine bP rfl rfl (pW s) rfl rfl rfl rfl H ?_
 clear H a W
 intro g1 a W H
 refine bC (aN rfl lU) rfl rfl rfl rfl H ?_
 clear H a W
 intro g2 a W H
 refine aH ?_
 replace H:St 14 w a W [(2,pA g2),(1,pA g1)] [(g2,58,#[.int .u64 0,.int .u64 0,.int .u64 0,.int .u64 0,.int .u64 0,.int .u64 0,.int .u64 0,.int .u64 0,.int .u64 0,.int .u64 0,.int .u64 0,.int .u64 0,.int .u64 0,.int .u64 0,.int .u64 0,.int .u64 0]),(g1,58,sv s)]:=H.pick [0,1] [0,1] rfl
 refine hK1 _ _ ?_
 clear hK1
 refine wp_seq_k (fun K2 hK2=>?_)
 refine drawnS [.val 3 (.pointer (some ⟨g1,4*0,none⟩)) [] [],.val 4 (.agg (ev s.a)) [0] [1],.val 5 (.agg (ev z1)) [1] [],.val 6 (.pointer (some ⟨g1,4*1,none⟩)) [] [],.val 7 (.agg (ev s.b)) [3] [1],.val 8 (.pointer (some ⟨g1,4*2,none⟩)) [] [],.val 9 (.agg (ev s.c)) [5] [1],.val 10 (.pointer (some ⟨g1,4*3,none⟩)) [] [],.val 11 (.agg (ev s.d)) [7] [1],.val 12 (.agg (ev z2)) [8] [],.val 13 (.agg (sv ⟨z1,s.b,s.c,z2⟩)) [2,4,6,9] [],.sto 0 g2 58 (#[.int .u64 0,.int .u64 0,.int .u64 0,.int .u64 0,.int .u64 0,.int .u64 0,.int .u64 0,.int .u64 0,.int .u64 0,.int .u64 0,.int .u64 0,.int .u64 0,.int .u64 0,.int .u64 0,.int .u64 0,.int .u64 0]) (sv ⟨z1,s.b,s.c,z2⟩) [10]] [0,1,2,0,8,0,32,0,128,260,596,2047] (by kernel_rfl) (by kernel_rfl) (by kernel_rfl) H ⟨⟨aP rfl rfl (fU _ · |>.1),aA rfl⟩,⟨aT (v:=.agg (ev s.a)) rfl rfl (k:=0) rfl (fT (k:=0) (by omega)),aA rfl⟩,⟨aF rfl ⟨_,Tryz.func68,by kernel_rfl⟩ rfl (fun W hb=>negP hz1 W (hpg.ext hb)),aA rfl⟩,⟨aP rfl rfl (fU _ · |>.2.1),aA rfl⟩,⟨aT (v:=.agg (ev s.b)) rfl rfl (k:=0) rfl (fT (k:=1) (by omega)),aA rfl⟩,⟨aP rfl rfl (fU _ · |>.2.2.1),aA rfl⟩,⟨aT (v:=.agg (ev s.c)) rfl rfl (k:=0) rfl (fT (k:=2) (by omega)),aA rfl⟩,⟨aP rfl rfl (fU _ · |>.2.2.2),aA rfl⟩,⟨aT (v:=.agg (ev s.d)) rfl rfl (k:=0) rfl (fT (k:=3) (by omega)),aA rfl⟩,⟨aF rfl ⟨_,Tryz.func68,by kernel_rfl⟩ rfl (fun W hb=>negP hz2 W (hpg.ext hb)),aA rfl⟩,⟨cD rfl rfl (bd_pt z1 s.b s.c z2),aA rfl⟩,⟨rfl,rfl,bQ rfl rfl rfl (bX _) (by simp only [aX,aU,aG,bY]<;>rfl) (dY _)⟩,trivial⟩ ?_
 clear H a W
 intro G3 a W H
 replace H:St 14 w a W [(2,pA g2)] [(g2,58,sv ⟨z1,s.b,s.c,z2⟩)]:=H.pick [11] [0] rfl
 refine hK2 _ _ ?_
 clear hK2
 refine wp_ret ?_
 repeat (first | (with_reducible refine bD ?_) | (with_reducible refine bI ?_))
 refine cI (p:=2) rfl rfl (k:=0) rfl Tryz.underlying58 rfl (bX _) H (fun hb=>?_)
 exact ⟨by rw [h];subst hz1 hz2;rfl,hb⟩
theorem rF {P:Pt} {s:L4 PP} (h:RepS P s) (w:World) (hpg:PG w):Calls zP 47 #[.agg (sv s)] w (fun rr w'=>rr=.returned (.tuple #[.agg (ev P.x),.agg (ev P.y)])∧Below w.heap.size w w'):=by
 obtain ⟨z1,hz1⟩:∃ z:L4 PP,z=ptSet s:=⟨_,rfl⟩
 obtain ⟨z2,hz2⟩:∃ z:Fin PP,z=z1.c^(PP-2):=⟨_,rfl⟩
 obtain ⟨z3,hz3⟩:∃ z:Fin PP,z=z1.a*z2:=⟨_,rfl⟩
 obtain ⟨z4,hz4⟩:∃ z:Fin PP,z=z1.b*z2:=⟨_,rfl⟩
 refine bN (vs:=[.agg (sv s)]) 18 Tryz.func47 rfl Tryz.ntmps47 rfl (fun a W H=>?_)
 refine wp_seq_k (fun K1 hK1=>?_)
 refine aE ?_
 refine bP rfl rfl (pW s) rfl rfl rfl rfl H ?_
 clear H a W
 intro g1 a W H
 refine bC (aN rfl cR) rfl rfl rfl rfl H ?_
 clear H a W
 intro g2 a W H
 refine bC (aN rfl cR) rfl rfl rfl rfl H ?_
 clear H a W
 intro g3 a W H
 refine aH ?_
 replace H:St 18 w a W [(3,pA g3),(2,pA g2),(1,pA g1)] [(g3,56,#[.int .u64 0,.int .u64 0,.int .u64 0,.int .u64 0]),(g2,56,#[.int .u64 0,.int .u64 0,.int .u64 0,.int .u64 0]),(g1,58,sv s)]:=H.pick [0,1,2] [0,1,2] rfl
 refine hK1 _ _ ?_
 clear hK1
 refine wp_seq_k (fun K2 hK2=>?_)
 refine aE ?_
 refine aD (aC rfl rfl (k:=2) rfl Tryz.underlying58 rfl (bX _)) rfl rfl rfl rfl H ?_
 clear H a W
 intro a W H
 refine aD (aF rfl ⟨_,Tryz.func70,by kernel_rfl⟩ rfl (fun W hb=>mC hz1 W (hpg.ext hb))) rfl rfl rfl rfl H ?_
 clear H a W
 intro a W H
 refine aO rfl rfl rfl (k:=2) rfl (bX _) (by simp only [aX,aU,aG,bY]<;>rfl) (dY _) rfl rfl H ?_
 clear H a W
 intro a W H
 refine aH ?_
 replace H:St 18 w a W [(3,pA g3),(2,pA g2),(1,pA g1)] [(g3,56,#[.int .u64 0,.int .u64 0,.int .u64 0,.int .u64 0]),(g2,56,#[.int .u64 0,.int .u64 0,.int .u64 0,.int .u64 0]),(g1,58,sv z1)]:=H.pick [2,3,4] [0,1,2] rfl
 refine hK2 _ _ ?_
 clear hK2
 refine wp_seq_k (fun K3 hK3=>?_)
 refine aE ?_
 refine aD (aP rfl rfl (fU _ · |>.2.2.1)) rfl rfl rfl rfl H ?_
 clear H a W
 intro a W H
 refine aD (aT (v:=.agg (ev z1.c)) rfl rfl (k:=2) rfl (fT (k:=2) (by omega))) rfl rfl rfl rfl H ?_
 clear H a W
 intro a W H
 refine aD (aF rfl ⟨_,Tryz.func95,by kernel_rfl⟩ rfl (fun W hb=>invR hz2 W (hpg.ext hb))) rfl rfl rfl rfl H ?_
 clear H a W
 intro a W H
 refine bC (aN rfl cR) rfl rfl rfl rfl H ?_
 clear H a W
 intro g4 a W H
 refine aO rfl rfl rfl (k:=0) rfl (aV _) (by simp only [aX,aU,aG,bY]<;>rfl) (cP _) rfl rfl H ?_
 clear H a W
 intro a W H
 refine aH ?_
 replace H:St 18 w a W [(4,pA g4),(3,pA g3),(2,pA g2),(1,pA g1)] [(g4,56,ev z2),(g3,56,#[.int .u64 0,.int .u64 0,.int .u64 0,.int .u64 0]),(g2,56,#[.int .u64 0,.int .u64 0,.int .u64 0,.int .u64 0]),(g1,58,sv z1)]:=H.pick [0,4,5,6] [0,1,2,3] rfl
 refine hK3 _ _ ?_
 clear hK3
 refine wp_seq_k (fun K4 hK4=>?_)
 refine drawnS [.val 10 (.pointer (some ⟨g1,4*0,none⟩)) [] [],.val 11 (.agg (ev z1.a)) [0] [3],.val 12 (.agg (ev z2)) [] [0],.val 13 (.agg (ev z3)) [1,2] [],.val 14 (.pointer (some ⟨g1,4*1,none⟩)) [] [],.val 15 (.agg (ev z1.b)) [4] [3],.val 16 (.agg (ev z2)) [] [0],.val 17 (.agg (ev z4)) [5,6] [],.sto 2 g2 56 (#[.int .u64 0,.int .u64 0,.int .u64 0,.int .u64 0]) (ev z3) [3],.sto 1 g3 56 (#[.int .u64 0,.int .u64 0,.int .u64 0,.int .u64 0]) (ev z4) [7]] [0,1,0,6,0,16,0,104,143,511] (by kernel_rfl) (by kernel_rfl) (by kernel_rfl) H ⟨⟨aP rfl rfl (fU _ · |>.1),aA rfl⟩,⟨aT (v:=.agg (ev z1.a)) rfl rfl (k:=0) rfl (fT (k:=0) (by omega)),aA rfl⟩,⟨aC rfl rfl (k:=0) rfl Tryz.underlying56 rfl (aV _),aA rfl⟩,⟨aF rfl ⟨_,Tryz.func72,by kernel_rfl⟩ rfl (fun W hb=>mulP hz3 W (hpg.ext hb)),aA rfl⟩,⟨aP rfl rfl (fU _ · |>.2.1),aA rfl⟩,⟨aT (v:=.agg (ev z1.b)) rfl rfl (k:=0) rfl (fT (k:=1) (by omega)),aA rfl⟩,⟨aC rfl rfl (k:=0) rfl Tryz.underlying56 rfl (aV _),aA rfl⟩,⟨aF rfl ⟨_,Tryz.func72,by kernel_rfl⟩ rfl (fun W hb=>mulP hz4 W (hpg.ext hb)),aA rfl⟩,⟨rfl,rfl,bQ rfl rfl rfl (aV _) (by simp only [aX,aU,aG,bY]<;>rfl) (cP _)⟩,⟨rfl,rfl,bQ rfl rfl rfl (aV _) (by simp only [aX,aU,aG,bY]<;>rfl) (cP _)⟩,trivial⟩ ?_
 clear H a W
 intro G5 a W H
 replace H:St 18 w a W [(3,pA g3),(2,pA g2)] [(g3,56,ev z4),(g2,56,ev z3)]:=H.pick [9,10] [1,2] rfl
 refine hK4 _ _ ?_
 clear hK4
 refine wp_ret ?_
 repeat (first | (with_reducible refine bD ?_) | (with_reducible refine bI ?_))
 refine nG (p:=2) (q:=3) rfl rfl (k:=1) rfl Tryz.underlying56 rfl (aV _) rfl (k2:=0) rfl Tryz.underlying56 rfl (aV _) H (fun hb=>?_)
 refine ⟨?_,hb⟩
 obtain ⟨e1,e2⟩:=h.flat
 rw [←hz1,←hz2] at e1 e2
 rw [hz3,hz4,e1,e2]
theorem bytes_odd {P:Pt} {s:L4 PP} (h:RepS P s) {m:Nat} (hm:m=pbn P) (ho:P.x.val%2=1) (w:World) (hpg:PG w):Calls zP 18 #[.agg (sv s)] w (fun rr w'=>rr=.returned (.agg (ks m))∧Below w.heap.size w w'):=by
 obtain ⟨x,hx⟩:∃ x:Nat,P.y.val/256^31%256=x:=⟨_,rfl⟩
 have hx1:x<128:=by have:=iZ P.y;omega
 obtain ⟨y,hy⟩:∃ y,x+128=y:=⟨_,rfl⟩
 have hy1:y<256:=by omega
 have hput:putd 256 P.y.val 31 y=m:=by
  have:=eU 256 P.y.val 31 y
  have hb:=iZ P.y
  rw [hm]
  unfold pbn
  rw [ho]
  rw [hx] at this
  omega
 refine bN (vs:=[.agg (sv s)]) 20 Tryz.func18 rfl Tryz.ntmps18 rfl (fun a W H=>?_)
 refine wp_seq_k (fun K1 hK1=>?_)
 refine aE ?_
 refine bP rfl rfl (pW s) rfl rfl rfl rfl H ?_
 clear H a W
 intro g1 a W H
 refine bC (aN rfl qY) rfl rfl rfl rfl H ?_
 clear H a W
 intro g2 a W H
 refine aH ?_
 replace H:St 20 w a W [(2,pA g2),(1,pA g1)] [(g2,23,#[.int .u8 0,.int .u8 0,.int .u8 0,.int .u8 0,.int .u8 0,.int .u8 0,.int .u8 0,.int .u8 0,.int .u8 0,.int .u8 0,.int .u8 0,.int .u8 0,.int .u8 0,.int .u8 0,.int .u8 0,.int .u8 0,.int .u8 0,.int .u8 0,.int .u8 0,.int .u8 0,.int .u8 0,.int .u8 0,.int .u8 0,.int .u8 0,.int .u8 0,.int .u8 0,.int .u8 0,.int .u8 0,.int .u8 0,.int .u8 0,.int .u8 0,.int .u8 0]),(g1,58,sv s)]:=H.pick [0,1] [0,1] rfl
 refine hK1 _ _ ?_
 clear hK1
 refine wp_seq_k (fun K2 hK2=>?_)
 refine aE ?_
 refine aD (aC rfl rfl (k:=1) rfl Tryz.underlying58 rfl (bX _)) rfl rfl rfl rfl H ?_
 clear H a W
 intro a W H
 refine aD (aF rfl ⟨_,Tryz.func47,by kernel_rfl⟩ rfl (fun W hb=>rF h W (hpg.ext hb))) rfl rfl rfl rfl H ?_
 clear H a W
 intro a W H
 refine aD (aK rfl rfl) rfl rfl rfl rfl H ?_
 clear H a W
 intro a W H
 refine aD (bF rfl rfl (fun _=>rfl)) rfl rfl rfl rfl H ?_
 clear H a W
 intro a W H
 refine aD (bF rfl rfl (fun _=>rfl)) rfl rfl rfl rfl H ?_
 clear H a W
 intro a W H
 refine bC (aN rfl cR) rfl rfl rfl rfl H ?_
 clear H a W
 intro g3 a W H
 refine bC (aN rfl cR) rfl rfl rfl rfl H ?_
 clear H a W
 intro g4 a W H
 refine aO rfl rfl rfl (k:=1) rfl (aV _) (by simp only [aX,aU,aG,bY]<;>rfl) (cP _) rfl rfl H ?_
 clear H a W
 intro a W H
 refine aO rfl rfl rfl (k:=0) rfl (aV _) (by simp only [aX,aU,aG,bY]<;>rfl) (cP _) rfl rfl H ?_
 clear H a W
 intro a W H
 refine aH ?_
 replace H:St 20 w a W [(4,pA g4),(3,pA g3),(2,pA g2)] [(g4,56,ev P.y),(g3,56,ev P.x),(g2,23,#[.int .u8 0,.int .u8 0,.int .u8 0,.int .u8 0,.int .u8 0,.int .u8 0,.int .u8 0,.int .u8 0,.int .u8 0,.int .u8 0,.int .u8 0,.int .u8 0,.int .u8 0,.int .u8 0,.int .u8 0,.int .u8 0,.int .u8 0,.int .u8 0,.int .u8 0,.int .u8 0,.int .u8 0,.int .u8 0,.int .u8 0,.int .u8 0,.int .u8 0,.int .u8 0,.int .u8 0,.int .u8 0,.int .u8 0,.int .u8 0,.int .u8 0,.int .u8 0])]:=H.pick [0,1,7] [0,1,2] rfl
 refine hK2 _ _ ?_
 clear hK2
 refine wp_seq_k (fun K3 hK3=>?_)
 refine aE ?_
 refine aD (aC rfl rfl (k:=0) rfl Tryz.underlying56 rfl (aV _)) rfl rfl rfl rfl H ?_
 clear H a W
 intro a W H
 refine aD (aF rfl ⟨_,Tryz.func48,by kernel_rfl⟩ rfl (fun W hb=>bytesF P.y W)) rfl rfl rfl rfl H ?_
 clear H a W
 intro a W H
 refine bC (aN rfl qY) rfl rfl rfl rfl H ?_
 clear H a W
 intro g5 a W H
 refine aO rfl rfl rfl (k:=0) rfl (aL _) (by simp only [aX,aU,aG,bY]<;>rfl) (bU _) rfl rfl H ?_
 clear H a W
 intro a W H
 refine aH ?_
 replace H:St 20 w a W [(5,pA g5),(3,pA g3),(2,pA g2)] [(g5,23,ks (P.y.val)),(g3,56,ev P.x),(g2,23,#[.int .u8 0,.int .u8 0,.int .u8 0,.int .u8 0,.int .u8 0,.int .u8 0,.int .u8 0,.int .u8 0,.int .u8 0,.int .u8 0,.int .u8 0,.int .u8 0,.int .u8 0,.int .u8 0,.int .u8 0,.int .u8 0,.int .u8 0,.int .u8 0,.int .u8 0,.int .u8 0,.int .u8 0,.int .u8 0,.int .u8 0,.int .u8 0,.int .u8 0,.int .u8 0,.int .u8 0,.int .u8 0,.int .u8 0,.int .u8 0,.int .u8 0,.int .u8 0])]:=H.pick [0,4,5] [0,2,3] rfl
 refine hK3 _ _ ?_
 clear hK3
 refine wp_seq_k (fun K4 hK4=>?_)
 refine wp_seq_k (fun K5 hK5=>?_)
 refine aE ?_
 refine aD (aC rfl rfl (k:=1) rfl Tryz.underlying56 rfl (aV _)) rfl rfl rfl rfl H ?_
 clear H a W
 intro a W H
 refine aD (aF rfl ⟨_,Tryz.func49,by kernel_rfl⟩ rfl (fun W hb=>odd_yes ho W)) rfl rfl rfl rfl H ?_
 clear H a W
 intro a W H
 refine aH ?_
 replace H:St 20 w a W [(14,.bool true),(5,pA g5),(2,pA g2)] [(g5,23,ks (P.y.val)),(g2,23,#[.int .u8 0,.int .u8 0,.int .u8 0,.int .u8 0,.int .u8 0,.int .u8 0,.int .u8 0,.int .u8 0,.int .u8 0,.int .u8 0,.int .u8 0,.int .u8 0,.int .u8 0,.int .u8 0,.int .u8 0,.int .u8 0,.int .u8 0,.int .u8 0,.int .u8 0,.int .u8 0,.int .u8 0,.int .u8 0,.int .u8 0,.int .u8 0,.int .u8 0,.int .u8 0,.int .u8 0,.int .u8 0,.int .u8 0,.int .u8 0,.int .u8 0,.int .u8 0])]:=H.pick [0,2,4] [0,2] rfl
 refine hK5 _ _ ?_
 clear hK5
 refine wp_cond_true (H.ev rfl) ?_
 refine aE ?_
 refine aD (bV rfl rfl rfl (mI _)) rfl rfl rfl rfl H ?_
 clear H a W
 intro a W H
 refine aD (aT (v:=.int .u8 ((x:Nat):Int)) rfl rfl (k:=0) rfl (uA hx)) rfl rfl rfl rfl H ?_
 clear H a W
 intro a W H
 refine aD (aQ rfl rfl rfl (b_or128 hx1 hy _ _)) rfl rfl rfl rfl H ?_
 clear H a W
 intro a W H
 refine aD (bV rfl rfl rfl (mI _)) rfl rfl rfl rfl H ?_
 clear H a W
 intro a W H
 refine fY rfl rfl rfl (k:=0) rfl st_key31 (sv_key31 hy1 hput) rfl rfl H ?_
 clear H a W
 intro a W H
 refine aH ?_
 replace H:St 20 w a W [(5,pA g5),(2,pA g2)] [(g5,23,ks m),(g2,23,#[.int .u8 0,.int .u8 0,.int .u8 0,.int .u8 0,.int .u8 0,.int .u8 0,.int .u8 0,.int .u8 0,.int .u8 0,.int .u8 0,.int .u8 0,.int .u8 0,.int .u8 0,.int .u8 0,.int .u8 0,.int .u8 0,.int .u8 0,.int .u8 0,.int .u8 0,.int .u8 0,.int .u8 0,.int .u8 0,.int .u8 0,.int .u8 0,.int .u8 0,.int .u8 0,.int .u8 0,.int .u8 0,.int .u8 0,.int .u8 0,.int .u8 0,.int .u8 0])]:=H.pick [5,6] [0,1] rfl
 refine hK4 _ _ ?_
 clear hK4
 refine wp_seq_k (fun K6 hK6=>?_)
 refine aE ?_
 refine aD (aC rfl rfl (k:=0) rfl Tryz.underlying23 rfl (aL _)) rfl rfl rfl rfl H ?_
 clear H a W
 intro a W H
 refine aO rfl rfl rfl (k:=1) rfl (aL _) (by simp only [aX,aU,aG,bY]<;>rfl) (bU _) rfl rfl H ?_
 clear H a W
 intro a W H
 refine aH ?_
 replace H:St 20 w a W [(2,pA g2)] [(g2,23,ks m)]:=H.pick [2] [1] rfl
 refine hK6 _ _ ?_
 clear hK6
 refine wp_ret ?_
 repeat (first | (with_reducible refine bD ?_) | (with_reducible refine bI ?_))
 refine cI (p:=2) rfl rfl (k:=0) rfl Tryz.underlying23 rfl (aL _) H (fun hb=>?_)
 exact ⟨rfl,hb⟩
theorem bytes_even {P:Pt} {s:L4 PP} (h:RepS P s) {m:Nat} (hm:m=pbn P) (ho:¬ P.x.val%2=1) (w:World) (hpg:PG w):Calls zP 18 #[.agg (sv s)] w (fun rr w'=>rr=.returned (.agg (ks m))∧Below w.heap.size w w'):=by
 refine bN (vs:=[.agg (sv s)]) 20 Tryz.func18 rfl Tryz.ntmps18 rfl (fun a W H=>?_)
 refine wp_seq_k (fun K1 hK1=>?_)
 refine aE ?_
 refine bP rfl rfl (pW s) rfl rfl rfl rfl H ?_
 clear H a W
 intro g1 a W H
 refine bC (aN rfl qY) rfl rfl rfl rfl H ?_
 clear H a W
 intro g2 a W H
 refine aH ?_
 replace H:St 20 w a W [(2,pA g2),(1,pA g1)] [(g2,23,#[.int .u8 0,.int .u8 0,.int .u8 0,.int .u8 0,.int .u8 0,.int .u8 0,.int .u8 0,.int .u8 0,.int .u8 0,.int .u8 0,.int .u8 0,.int .u8 0,.int .u8 0,.int .u8 0,.int .u8 0,.int .u8 0,.int .u8 0,.int .u8 0,.int .u8 0,.int .u8 0,.int .u8 0,.int .u8 0,.int .u8 0,.int .u8 0,.int .u8 0,.int .u8 0,.int .u8 0,.int .u8 0,.int .u8 0,.int .u8 0,.int .u8 0,.int .u8 0]),(g1,58,sv s)]:=H.pick [0,1] [0,1] rfl
 refine hK1 _ _ ?_
 clear hK1
 refine wp_seq_k (fun K2 hK2=>?_)
 refine aE ?_
 refine aD (aC rfl rfl (k:=1) rfl Tryz.underlying58 rfl (bX _)) rfl rfl rfl rfl H ?_
 clear H a W
 intro a W H
 refine aD (aF rfl ⟨_,Tryz.func47,by kernel_rfl⟩ rfl (fun W hb=>rF h W (hpg.ext hb))) rfl rfl rfl rfl H ?_
 clear H a W
 intro a W H
 refine aD (aK rfl rfl) rfl rfl rfl rfl H ?_
 clear H a W
 intro a W H
 refine aD (bF rfl rfl (fun _=>rfl)) rfl rfl rfl rfl H ?_
 clear H a W
 intro a W H
 refine aD (bF rfl rfl (fun _=>rfl)) rfl rfl rfl rfl H ?_
 clear H a W
 intro a W H
 refine bC (aN rfl cR) rfl rfl rfl rfl H ?_
 clear H a W
 intro g3 a W H
 refine bC (aN rfl cR) rfl rfl rfl rfl H ?_
 clear H a W
 intro g4 a W H
 refine aO rfl rfl rfl (k:=1) rfl (aV _) (by simp only [aX,aU,aG,bY]<;>rfl) (cP _) rfl rfl H ?_
 clear H a W
 intro a W H
 refine aO rfl rfl rfl (k:=0) rfl (aV _) (by simp only [aX,aU,aG,bY]<;>rfl) (cP _) rfl rfl H ?_
 clear H a W
 intro a W H
 refine aH ?_
 replace H:St 20 w a W [(4,pA g4),(3,pA g3),(2,pA g2)] [(g4,56,ev P.y),(g3,56,ev P.x),(g2,23,#[.int .u8 0,.int .u8 0,.int .u8 0,.int .u8 0,.int .u8 0,.int .u8 0,.int .u8 0,.int .u8 0,.int .u8 0,.int .u8 0,.int .u8 0,.int .u8 0,.int .u8 0,.int .u8 0,.int .u8 0,.int .u8 0,.int .u8 0,.int .u8 0,.int .u8 0,.int .u8 0,.int .u8 0,.int .u8 0,.int .u8 0,.int .u8 0,.int .u8 0,.int .u8 0,.int .u8 0,.int .u8 0,.int .u8 0,.int .u8 0,.int .u8 0,.int .u8 0])]:=H.pick [0,1,7] [0,1,2] rfl
 refine hK2 _ _ ?_
 clear hK2
 refine wp_seq_k (fun K3 hK3=>?_)
 refine aE ?_
 refine aD (aC rfl rfl (k:=0) rfl Tryz.underlying56 rfl (aV _)) rfl rfl rfl rfl H ?_
 clear H a W
 intro a W H
 refine aD (aF rfl ⟨_,Tryz.func48,by kernel_rfl⟩ rfl (fun W hb=>bytesF P.y W)) rfl rfl rfl rfl H ?_
 clear H a W
 intro a W H
 refine bC (aN rfl qY) rfl rfl rfl rfl H ?_
 clear H a W
 intro g5 a W H
 refine aO rfl rfl rfl (k:=0) rfl (aL _) (by simp only [aX,aU,aG,bY]<;>rfl) (bU _) rfl rfl H ?_
 clear H a W
 intro a W H
 refine aH ?_
 replace H:St 20 w a W [(5,pA g5),(3,pA g3),(2,pA g2)] [(g5,23,ks (P.y.val)),(g3,56,ev P.x),(g2,23,#[.int .u8 0,.int .u8 0,.int .u8 0,.int .u8 0,.int .u8 0,.int .u8 0,.int .u8 0,.int .u8 0,.int .u8 0,.int .u8 0,.int .u8 0,.int .u8 0,.int .u8 0,.int .u8 0,.int .u8 0,.int .u8 0,.int .u8 0,.int .u8 0,.int .u8 0,.int .u8 0,.int .u8 0,.int .u8 0,.int .u8 0,.int .u8 0,.int .u8 0,.int .u8 0,.int .u8 0,.int .u8 0,.int .u8 0,.int .u8 0,.int .u8 0,.int .u8 0])]:=H.pick [0,4,5] [0,2,3] rfl
 refine hK3 _ _ ?_
 clear hK3
 refine wp_seq_k (fun K4 hK4=>?_)
 refine wp_seq_k (fun K5 hK5=>?_)
 refine aE ?_
 refine aD (aC rfl rfl (k:=1) rfl Tryz.underlying56 rfl (aV _)) rfl rfl rfl rfl H ?_
 clear H a W
 intro a W H
 refine aD (aF rfl ⟨_,Tryz.func49,by kernel_rfl⟩ rfl (fun W hb=>odd_no ho W)) rfl rfl rfl rfl H ?_
 clear H a W
 intro a W H
 refine aH ?_
 replace H:St 20 w a W [(14,.bool false),(5,pA g5),(2,pA g2)] [(g5,23,ks (P.y.val)),(g2,23,#[.int .u8 0,.int .u8 0,.int .u8 0,.int .u8 0,.int .u8 0,.int .u8 0,.int .u8 0,.int .u8 0,.int .u8 0,.int .u8 0,.int .u8 0,.int .u8 0,.int .u8 0,.int .u8 0,.int .u8 0,.int .u8 0,.int .u8 0,.int .u8 0,.int .u8 0,.int .u8 0,.int .u8 0,.int .u8 0,.int .u8 0,.int .u8 0,.int .u8 0,.int .u8 0,.int .u8 0,.int .u8 0,.int .u8 0,.int .u8 0,.int .u8 0,.int .u8 0])]:=H.pick [0,2,4] [0,2] rfl
 refine hK5 _ _ ?_
 clear hK5
 refine wp_cond_false (H.ev rfl) ?_
 refine wp_skip ?_
 refine hK4 _ _ ?_
 clear hK4
 refine wp_seq_k (fun K6 hK6=>?_)
 refine aE ?_
 refine aD (aC rfl rfl (k:=0) rfl Tryz.underlying23 rfl (aL _)) rfl rfl rfl rfl H ?_
 clear H a W
 intro a W H
 refine aO rfl rfl rfl (k:=1) rfl (aL _) (by simp only [aX,aU,aG,bY]<;>rfl) (bU _) rfl rfl H ?_
 clear H a W
 intro a W H
 refine aH ?_
 replace H:St 20 w a W [(2,pA g2)] [(g2,23,ks (P.y.val))]:=H.pick [3] [1] rfl
 refine hK6 _ _ ?_
 clear hK6
 refine wp_ret ?_
 repeat (first | (with_reducible refine bD ?_) | (with_reducible refine bI ?_))
 refine cI (p:=2) rfl rfl (k:=0) rfl Tryz.underlying23 rfl (aL _) H (fun hb=>?_)
 refine ⟨?_,hb⟩
 have e:m=P.y.val:=by
  rw [hm]
  unfold pbn
  have:P.x.val%2=0:=by omega
  rw [this]
  omega
 rw [e]
theorem pU {P:Pt} {s:L4 PP} (h:RepS P s) {m:Nat} (hm:m=pbn P) (w:World) (hpg:PG w):Calls zP 18 #[.agg (sv s)] w (fun rr w'=>rr=.returned (.agg (ks m))∧Below w.heap.size w w'):=by
 by_cases ho:P.x.val%2=1
 ·
  exact bytes_odd h hm ho w hpg
 ·
  exact bytes_even h hm ho w hpg
theorem evenX_any {y d r:Fin PP} {b:Bool} (h:(r,b)=rootC EE II (y*y-1) (1+d*(y*y))) (w:World) (hpg:PG w):Calls zP 63 #[.agg (ev y),.agg (ev d)] w (fun rr w'=>rr=.returned (.tuple #[.agg (ev r),.bool b])∧Below w.heap.size w w'):=by
 obtain ⟨z1,hz1⟩:∃ z:Fin PP,z=sm 1:=⟨_,rfl⟩
 obtain ⟨z2,hz2⟩:∃ z:Fin PP,z=y*y:=⟨_,rfl⟩
 obtain ⟨z3,hz3⟩:∃ z:Fin PP,z=z2-z1:=⟨_,rfl⟩
 obtain ⟨z4,hz4⟩:∃ z:Fin PP,z=d*z2:=⟨_,rfl⟩
 obtain ⟨z5,hz5⟩:∃ z:Fin PP,z=z1+z4:=⟨_,rfl⟩
 refine bN (vs:=[.agg (ev y),.agg (ev d)]) 22 Tryz.func63 rfl Tryz.ntmps63 rfl (fun a W H=>?_)
 refine wp_seq_k (fun K1 hK1=>?_)
 refine aE ?_
 refine bP rfl rfl (jO y) rfl rfl rfl rfl H ?_
 clear H a W
 intro g1 a W H
 refine bP rfl rfl (jO d) rfl rfl rfl rfl H ?_
 clear H a W
 intro g2 a W H
 refine bC (aN rfl cR) rfl rfl rfl rfl H ?_
 clear H a W
 intro g3 a W H
 refine aD (aM rfl rfl) rfl rfl rfl rfl H ?_
 clear H a W
 intro a W H
 refine aH ?_
 replace H:St 22 w a W [(5,.bool false),(4,pA g3),(3,pA g2),(2,pA g1)] [(g3,56,#[.int .u64 0,.int .u64 0,.int .u64 0,.int .u64 0]),(g2,56,ev d),(g1,56,ev y)]:=H.pick [0,1,2,3] [0,1,2] rfl
 refine hK1 _ _ ?_
 clear hK1
 refine wp_seq_k (fun K2 hK2=>?_)
 refine drawnS [.val 8 (.agg (ev z1)) [] [],.val 9 (.agg (ev y)) [] [2],.val 10 (.agg (ev z2)) [1] [],.new 6 56 (#[.int .u64 0,.int .u64 0,.int .u64 0,.int .u64 0]),.new 7 56 (#[.int .u64 0,.int .u64 0,.int .u64 0,.int .u64 0]),.ston 3 6 56 (#[.int .u64 0,.int .u64 0,.int .u64 0,.int .u64 0]) (ev z1) [0],.ston 4 7 56 (#[.int .u64 0,.int .u64 0,.int .u64 0,.int .u64 0]) (ev z2) [2]] [0,0,3,0,0,29,63] (by kernel_rfl) (by kernel_rfl) (by kernel_rfl) H ⟨⟨aF rfl ⟨_,Tryz.func107,by kernel_rfl⟩ rfl (fun W hb=>smallP 1 hz1 (by omega) W),aA rfl⟩,⟨aC rfl rfl (k:=0) rfl Tryz.underlying56 rfl (aV _),aA rfl⟩,⟨aF rfl ⟨_,Tryz.func108,by kernel_rfl⟩ rfl (fun W hb=>squareP hz2 W (hpg.ext hb)),aA rfl⟩,⟨aN rfl cR,rfl⟩,⟨aN rfl cR,rfl⟩,⟨rfl,rfl,fun g=>bQ rfl rfl rfl (aV _) (by simp only [aX,aU,aG,bY]<;>rfl) (cP _)⟩,⟨rfl,rfl,fun g=>bQ rfl rfl rfl (aV _) (by simp only [aX,aU,aG,bY]<;>rfl) (cP _)⟩,trivial⟩ ?_
 clear H a W
 intro G4 a W H
 replace H:St 22 w a W [(6,pA (G4 3)),(7,pA (G4 4)),(5,.bool false),(4,pA g3),(3,pA g2)] [((G4 3),56,ev z1),((G4 4),56,ev z2),(g3,56,#[.int .u64 0,.int .u64 0,.int .u64 0,.int .u64 0]),(g2,56,ev d)]:=H.pick [3,4,5,6,7] [0,1,2,3] rfl
 refine hK2 _ _ ?_
 clear hK2
 refine wp_seq_k (fun K3 hK3=>?_)
 replace H:St 22 w a W [(6,pA (G4 3)),(7,pA (G4 4)),(4,pA g3),(3,pA g2)] [((G4 3),56,ev z1),((G4 4),56,ev z2),(g3,56,#[.int .u64 0,.int .u64 0,.int .u64 0,.int .u64 0]),(g2,56,ev d)]:=H.pick [0,1,3,4] [0,1,2,3] rfl
 refine drawnS [.val 11 (.agg (ev z2)) [] [1],.val 12 (.agg (ev z1)) [] [0],.val 13 (.agg (ev z3)) [0,1] [],.val 14 (.agg (ev z1)) [] [0],.val 15 (.agg (ev d)) [] [3],.val 16 (.agg (ev z2)) [] [1],.val 17 (.agg (ev z4)) [4,5] [],.val 18 (.agg (ev z5)) [3,6] [],.val 19 (.tuple #[.agg (ev r),.bool b]) [2,7] [],.val 20 (.agg (ev r)) [8] [],.val 21 (.bool b) [8] [],.sto 2 g3 56 (#[.int .u64 0,.int .u64 0,.int .u64 0,.int .u64 0]) (ev r) [9],.val 5 (.bool b) [10] []] [0,0,3,0,0,0,52,72,132,256,256,2047,4095] (by kernel_rfl) (by kernel_rfl) (by kernel_rfl) H ⟨⟨aC rfl rfl (k:=0) rfl Tryz.underlying56 rfl (aV _),aA rfl⟩,⟨aC rfl rfl (k:=0) rfl Tryz.underlying56 rfl (aV _),aA rfl⟩,⟨aF rfl ⟨_,Tryz.func71,by kernel_rfl⟩ rfl (fun W hb=>subP hz3 W (hpg.ext hb)),aA rfl⟩,⟨aC rfl rfl (k:=0) rfl Tryz.underlying56 rfl (aV _),aA rfl⟩,⟨aC rfl rfl (k:=0) rfl Tryz.underlying56 rfl (aV _),aA rfl⟩,⟨aC rfl rfl (k:=0) rfl Tryz.underlying56 rfl (aV _),aA rfl⟩,⟨aF rfl ⟨_,Tryz.func72,by kernel_rfl⟩ rfl (fun W hb=>mulP hz4 W (hpg.ext hb)),aA rfl⟩,⟨aF rfl ⟨_,Tryz.func73,by kernel_rfl⟩ rfl (fun W hb=>addP hz5 W (hpg.ext hb)),aA rfl⟩,⟨aF rfl ⟨_,Tryz.func109,by kernel_rfl⟩ rfl (fun W hb=>rootB (by rw [h,hz3,hz5,hz4,hz2,hz1,kM]) W (hpg.ext hb)),aA rfl⟩,⟨bF rfl rfl (fun _=>rfl),aA rfl⟩,⟨bF rfl rfl (fun _=>rfl),aA rfl⟩,⟨rfl,rfl,bQ rfl rfl rfl (aV _) (by simp only [aX,aU,aG,bY]<;>rfl) (cP _)⟩,⟨aM rfl rfl,aA rfl⟩,trivial⟩ ?_
 clear H a W
 intro G5 a W H
 replace H:St 22 w a W [(5,.bool b),(4,pA g3)] [(g3,56,ev r)]:=H.pick [11,14] [2] rfl
 refine hK3 _ _ ?_
 clear hK3
 refine wp_ret ?_
 repeat (first | (with_reducible refine bD ?_) | (with_reducible refine bI ?_))
 refine bW (p:=4) (q:=5) rfl rfl rfl (k:=0) rfl Tryz.underlying56 rfl (aV _) H (fun hb=>?_)
 exact ⟨rfl,hb⟩
theorem oP  (w:World) (hpg:PG w):Calls zP 64 #[] w (fun rr w'=>rr=.returned (.agg (ev TD))∧Below w.heap.size w w'):=by
 refine bN (vs:=[]) 3 Tryz.func64 rfl Tryz.ntmps64 rfl (fun a W H=>?_)
 refine wp_seq_k (fun K1 hK1=>?_)
 refine aE ?_
 refine bC (aN rfl cR) rfl rfl rfl rfl H ?_
 clear H a W
 intro g1 a W H
 refine aH ?_
 refine hK1 _ _ ?_
 clear hK1
 refine wp_seq_k (fun K2 hK2=>?_)
 refine aE ?_
 refine aD (cD rfl rfl (bd_keyD)) rfl rfl rfl rfl H ?_
 clear H a W
 intro a W H
 refine aD (aF rfl ⟨_,Tryz.func62,by kernel_rfl⟩ rfl (fun W hb=>ofR td_ofK W (hpg.ext hb) (by decide))) rfl rfl rfl rfl H ?_
 clear H a W
 intro a W H
 refine aO rfl rfl rfl (k:=0) rfl (aV _) (by simp only [aX,aU,aG,bY]<;>rfl) (cP _) rfl rfl H ?_
 clear H a W
 intro a W H
 refine aH ?_
 replace H:St 3 w a W [(0,pA g1)] [(g1,56,ev TD)]:=H.pick [2] [0] rfl
 refine hK2 _ _ ?_
 clear hK2
 refine wp_ret ?_
 repeat (first | (with_reducible refine bD ?_) | (with_reducible refine bI ?_))
 refine cI (p:=0) rfl rfl (k:=0) rfl Tryz.underlying56 rfl (aV _) H (fun hb=>?_)
 exact ⟨rfl,hb⟩
theorem rK  (w:World) (hpg:PG w):Calls zP 46 #[] w (fun rr w'=>rr=.returned (.agg (sv BE))∧Below w.heap.size w w'):=by
 refine bN (vs:=[]) 10 Tryz.func46 rfl Tryz.ntmps46 rfl (fun a W H=>?_)
 refine wp_seq_k (fun K1 hK1=>?_)
 refine aE ?_
 refine bC (aN rfl lU) rfl rfl rfl rfl H ?_
 clear H a W
 intro g1 a W H
 refine aH ?_
 refine hK1 _ _ ?_
 clear hK1
 refine wp_seq_k (fun K2 hK2=>?_)
 refine aE ?_
 refine aD (cD rfl rfl (bd_keyX)) rfl rfl rfl rfl H ?_
 clear H a W
 intro a W H
 refine bC (aN rfl qY) rfl rfl rfl rfl H ?_
 clear H a W
 intro g2 a W H
 refine aO rfl rfl rfl (k:=0) rfl (aL _) (by simp only [aX,aU,aG,bY]<;>rfl) (bU _) rfl rfl H ?_
 clear H a W
 intro a W H
 refine aH ?_
 replace H:St 10 w a W [(1,pA g2),(0,pA g1)] [(g2,23,ks 15112221349535400772501151409588531511454012693041857206046113283949847762202),(g1,58,#[.int .u64 0,.int .u64 0,.int .u64 0,.int .u64 0,.int .u64 0,.int .u64 0,.int .u64 0,.int .u64 0,.int .u64 0,.int .u64 0,.int .u64 0,.int .u64 0,.int .u64 0,.int .u64 0,.int .u64 0,.int .u64 0])]:=H.pick [0,2] [0,1] rfl
 refine hK2 _ _ ?_
 clear hK2
 refine wp_seq_k (fun K3 hK3=>?_)
 refine aE ?_
 refine aD (cD rfl rfl (bd_keyY)) rfl rfl rfl rfl H ?_
 clear H a W
 intro a W H
 refine bC (aN rfl qY) rfl rfl rfl rfl H ?_
 clear H a W
 intro g3 a W H
 refine aO rfl rfl rfl (k:=0) rfl (aL _) (by simp only [aX,aU,aG,bY]<;>rfl) (bU _) rfl rfl H ?_
 clear H a W
 intro a W H
 refine aH ?_
 replace H:St 10 w a W [(2,pA g3),(1,pA g2),(0,pA g1)] [(g3,23,ks 46316835694926478169428394003475163141307993866256225615783033603165251855960),(g2,23,ks 15112221349535400772501151409588531511454012693041857206046113283949847762202),(g1,58,#[.int .u64 0,.int .u64 0,.int .u64 0,.int .u64 0,.int .u64 0,.int .u64 0,.int .u64 0,.int .u64 0,.int .u64 0,.int .u64 0,.int .u64 0,.int .u64 0,.int .u64 0,.int .u64 0,.int .u64 0,.int .u64 0])]:=H.pick [0,2,3] [0,1,2] rfl
 refine hK3 _ _ ?_
 clear hK3
 refine wp_seq_k (fun K4 hK4=>?_)
 refine drawnS [.val 5 (.agg (ks 15112221349535400772501151409588531511454012693041857206046113283949847762202)) [] [1],.val 6 (.agg (ev BX)) [0] [],.val 7 (.agg (ks 46316835694926478169428394003475163141307993866256225615783033603165251855960)) [] [0],.val 8 (.agg (ev BY)) [2] [],.val 9 (.agg (sv BE)) [1,3] [],.sto 2 g1 58 (#[.int .u64 0,.int .u64 0,.int .u64 0,.int .u64 0,.int .u64 0,.int .u64 0,.int .u64 0,.int .u64 0,.int .u64 0,.int .u64 0,.int .u64 0,.int .u64 0,.int .u64 0,.int .u64 0,.int .u64 0,.int .u64 0]) (sv BE) [4]] [0,1,0,6,10,31] (by kernel_rfl) (by kernel_rfl) (by kernel_rfl) H ⟨⟨aC rfl rfl (k:=0) rfl Tryz.underlying23 rfl (aL _),aA rfl⟩,⟨aF rfl ⟨_,Tryz.func62,by kernel_rfl⟩ rfl (fun W hb=>ofR bx_ofK W (hpg.ext hb) (by decide)),aA rfl⟩,⟨aC rfl rfl (k:=0) rfl Tryz.underlying23 rfl (aL _),aA rfl⟩,⟨aF rfl ⟨_,Tryz.func62,by kernel_rfl⟩ rfl (fun W hb=>ofR by_ofK W (hpg.ext hb) (by decide)),aA rfl⟩,⟨aF rfl ⟨_,Tryz.func66,by kernel_rfl⟩ rfl (fun W hb=>jG (show BE=ptE BX BY from rfl) W (hpg.ext hb)),aA rfl⟩,⟨rfl,rfl,bQ rfl rfl rfl (bX _) (by simp only [aX,aU,aG,bY]<;>rfl) (dY _)⟩,trivial⟩ ?_
 clear H a W
 intro G4 a W H
 replace H:St 10 w a W [(0,pA g1)] [(g1,58,sv BE)]:=H.pick [7] [2] rfl
 refine hK4 _ _ ?_
 clear hK4
 refine wp_ret ?_
 repeat (first | (with_reducible refine bD ?_) | (with_reducible refine bI ?_))
 refine cI (p:=0) rfl rfl (k:=0) rfl Tryz.underlying58 rfl (bX _) H (fun hb=>?_)
 exact ⟨rfl,hb⟩
theorem zR {s t r:L4 PP} (h:r=ptAdd s t) (w:World) (hpg:PG w):Calls zP 31 #[.agg (sv s),.agg (sv t)] w (fun rr w'=>rr=.returned (.agg (sv r))∧Below w.heap.size w w'):=by
 obtain ⟨z1,hz1⟩:∃ z:L4 PP,z=ptSet s:=⟨_,rfl⟩
 obtain ⟨z2,hz2⟩:∃ z:L4 PP,z=ptSet t:=⟨_,rfl⟩
 obtain ⟨z3,hz3⟩:∃ z:Fin PP,z=z1.b-z1.a:=⟨_,rfl⟩
 obtain ⟨z4,hz4⟩:∃ z:Fin PP,z=z2.b-z2.a:=⟨_,rfl⟩
 obtain ⟨z5,hz5⟩:∃ z:Fin PP,z=z3*z4:=⟨_,rfl⟩
 obtain ⟨z6,hz6⟩:∃ z:Fin PP,z=z1.b+z1.a:=⟨_,rfl⟩
 obtain ⟨z7,hz7⟩:∃ z:Fin PP,z=z2.b+z2.a:=⟨_,rfl⟩
 obtain ⟨z8,hz8⟩:∃ z:Fin PP,z=z6*z7:=⟨_,rfl⟩
 obtain ⟨z9,hz9⟩:∃ z:Fin PP,z=z1.c*z2.c:=⟨_,rfl⟩
 obtain ⟨z10,hz10⟩:∃ z:Fin PP,z=z1.d*z2.d:=⟨_,rfl⟩
 obtain ⟨z11,hz11⟩:∃ z:Fin PP,z=z10*TD:=⟨_,rfl⟩
 obtain ⟨z12,hz12⟩:∃ z:Fin PP,z=z8-z5:=⟨_,rfl⟩
 obtain ⟨z13,hz13⟩:∃ z:Fin PP,z=z8+z5:=⟨_,rfl⟩
 obtain ⟨z14,hz14⟩:∃ z:Fin PP,z=z9+z11:=⟨_,rfl⟩
 obtain ⟨z15,hz15⟩:∃ z:Fin PP,z=z14+z14:=⟨_,rfl⟩
 obtain ⟨z16,hz16⟩:∃ z:Fin PP,z=z9-z11:=⟨_,rfl⟩
 obtain ⟨z17,hz17⟩:∃ z:Fin PP,z=z16+z16:=⟨_,rfl⟩
 obtain ⟨z18,hz18⟩:∃ z:Fin PP,z=z12*z17:=⟨_,rfl⟩
 obtain ⟨z19,hz19⟩:∃ z:Fin PP,z=z13*z15:=⟨_,rfl⟩
 obtain ⟨z20,hz20⟩:∃ z:Fin PP,z=z15*z17:=⟨_,rfl⟩
 obtain ⟨z21,hz21⟩:∃ z:Fin PP,z=z12*z13:=⟨_,rfl⟩
 refine bN (vs:=[.agg (sv s),.agg (sv t)]) 78 Tryz.func31 rfl Tryz.ntmps31 rfl (fun a W H=>?_)
 refine wp_seq_k (fun K1 hK1=>?_)
 refine aE ?_
 refine bP rfl rfl (pW s) rfl rfl rfl rfl H ?_
 clear H a W
 intro g1 a W H
 refine bP rfl rfl (pW t) rfl rfl rfl rfl H ?_
 clear H a W
 intro g2 a W H
 refine bC (aN rfl lU) rfl rfl rfl rfl H ?_
 clear H a W
 intro g3 a W H
 refine aH ?_
 replace H:St 78 w a W [(4,pA g3),(3,pA g2),(2,pA g1)] [(g3,58,#[.int .u64 0,.int .u64 0,.int .u64 0,.int .u64 0,.int .u64 0,.int .u64 0,.int .u64 0,.int .u64 0,.int .u64 0,.int .u64 0,.int .u64 0,.int .u64 0,.int .u64 0,.int .u64 0,.int .u64 0,.int .u64 0]),(g2,58,sv t),(g1,58,sv s)]:=H.pick [0,1,2] [0,1,2] rfl
 refine hK1 _ _ ?_
 clear hK1
 refine wp_seq_k (fun K2 hK2=>?_)
 refine drawnS [.val 13 (.agg (sv s)) [] [2],.val 14 (.agg (sv z1)) [0] [],.val 15 (.agg (sv t)) [] [1],.val 16 (.agg (sv z2)) [2] [],.sto 2 g1 58 (sv s) (sv z1) [1],.sto 1 g2 58 (sv t) (sv z2) [3]] [0,1,0,6,11,31] (by kernel_rfl) (by kernel_rfl) (by kernel_rfl) H ⟨⟨aC rfl rfl (k:=0) rfl Tryz.underlying58 rfl (bX _),aA rfl⟩,⟨aF rfl ⟨_,Tryz.func70,by kernel_rfl⟩ rfl (fun W hb=>mC hz1 W (hpg.ext hb)),aA rfl⟩,⟨aC rfl rfl (k:=0) rfl Tryz.underlying58 rfl (bX _),aA rfl⟩,⟨aF rfl ⟨_,Tryz.func70,by kernel_rfl⟩ rfl (fun W hb=>mC hz2 W (hpg.ext hb)),aA rfl⟩,⟨rfl,rfl,bQ rfl rfl rfl (bX _) (by simp only [aX,aU,aG,bY]<;>rfl) (dY _)⟩,⟨rfl,rfl,bQ rfl rfl rfl (bX _) (by simp only [aX,aU,aG,bY]<;>rfl) (dY _)⟩,trivial⟩ ?_
 clear H a W
 intro G4 a W H
 replace H:St 78 w a W [(4,pA g3),(3,pA g2),(2,pA g1)] [(g3,58,#[.int .u64 0,.int .u64 0,.int .u64 0,.int .u64 0,.int .u64 0,.int .u64 0,.int .u64 0,.int .u64 0,.int .u64 0,.int .u64 0,.int .u64 0,.int .u64 0,.int .u64 0,.int .u64 0,.int .u64 0,.int .u64 0]),(g2,58,sv z2),(g1,58,sv z1)]:=H.pick [4,5,6] [0,1,2] rfl
 refine hK2 _ _ ?_
 clear hK2
 refine wp_seq_k (fun K3 hK3=>?_)
 refine drawnS [.val 17 (.pointer (some ⟨g1,4*1,none⟩)) [] [],.val 18 (.agg (ev z1.b)) [0] [2],.val 19 (.pointer (some ⟨g1,4*0,none⟩)) [] [],.val 20 (.agg (ev z1.a)) [2] [2],.val 21 (.agg (ev z3)) [1,3] [],.val 22 (.pointer (some ⟨g2,4*1,none⟩)) [] [],.val 23 (.agg (ev z2.b)) [5] [1],.val 24 (.pointer (some ⟨g2,4*0,none⟩)) [] [],.val 25 (.agg (ev z2.a)) [7] [1],.val 26 (.agg (ev z4)) [6,8] [],.val 27 (.agg (ev z5)) [4,9] [],.new 5 56 (#[.int .u64 0,.int .u64 0,.int .u64 0,.int .u64 0]),.ston 11 5 56 (#[.int .u64 0,.int .u64 0,.int .u64 0,.int .u64 0]) (ev z5) [10]] [0,1,0,4,10,0,32,0,128,336,528,0,4095] (by kernel_rfl) (by kernel_rfl) (by kernel_rfl) H ⟨⟨aP rfl rfl (fU _ · |>.2.1),aA rfl⟩,⟨aT (v:=.agg (ev z1.b)) rfl rfl (k:=0) rfl (fT (k:=1) (by omega)),aA rfl⟩,⟨aP rfl rfl (fU _ · |>.1),aA rfl⟩,⟨aT (v:=.agg (ev z1.a)) rfl rfl (k:=0) rfl (fT (k:=0) (by omega)),aA rfl⟩,⟨aF rfl ⟨_,Tryz.func71,by kernel_rfl⟩ rfl (fun W hb=>subP hz3 W (hpg.ext hb)),aA rfl⟩,⟨aP rfl rfl (fU _ · |>.2.1),aA rfl⟩,⟨aT (v:=.agg (ev z2.b)) rfl rfl (k:=0) rfl (fT (k:=1) (by omega)),aA rfl⟩,⟨aP rfl rfl (fU _ · |>.1),aA rfl⟩,⟨aT (v:=.agg (ev z2.a)) rfl rfl (k:=0) rfl (fT (k:=0) (by omega)),aA rfl⟩,⟨aF rfl ⟨_,Tryz.func71,by kernel_rfl⟩ rfl (fun W hb=>subP hz4 W (hpg.ext hb)),aA rfl⟩,⟨aF rfl ⟨_,Tryz.func72,by kernel_rfl⟩ rfl (fun W hb=>mulP hz5 W (hpg.ext hb)),aA rfl⟩,⟨aN rfl cR,rfl⟩,⟨rfl,rfl,fun g=>bQ rfl rfl rfl (aV _) (by simp only [aX,aU,aG,bY]<;>rfl) (cP _)⟩,trivial⟩ ?_
 clear H a W
 intro G5 a W H
 replace H:St 78 w a W [(5,pA (G5 11)),(4,pA g3),(3,pA g2),(2,pA g1)] [((G5 11),56,ev z5),(g3,58,#[.int .u64 0,.int .u64 0,.int .u64 0,.int .u64 0,.int .u64 0,.int .u64 0,.int .u64 0,.int .u64 0,.int .u64 0,.int .u64 0,.int .u64 0,.int .u64 0,.int .u64 0,.int .u64 0,.int .u64 0,.int .u64 0]),(g2,58,sv z2),(g1,58,sv z1)]:=H.pick [11,12,13,14] [0,1,2,3] rfl
 refine hK3 _ _ ?_
 clear hK3
 refine wp_seq_k (fun K4 hK4=>?_)
 refine drawnS [.val 28 (.pointer (some ⟨g1,4*1,none⟩)) [] [],.val 29 (.agg (ev z1.b)) [0] [3],.val 30 (.pointer (some ⟨g1,4*0,none⟩)) [] [],.val 31 (.agg (ev z1.a)) [2] [3],.val 32 (.agg (ev z6)) [1,3] [],.val 33 (.pointer (some ⟨g2,4*1,none⟩)) [] [],.val 34 (.agg (ev z2.b)) [5] [2],.val 35 (.pointer (some ⟨g2,4*0,none⟩)) [] [],.val 36 (.agg (ev z2.a)) [7] [2],.val 37 (.agg (ev z7)) [6,8] [],.val 38 (.agg (ev z8)) [4,9] [],.new 6 56 (#[.int .u64 0,.int .u64 0,.int .u64 0,.int .u64 0]),.ston 11 6 56 (#[.int .u64 0,.int .u64 0,.int .u64 0,.int .u64 0]) (ev z8) [10]] [0,1,0,4,10,0,32,0,128,336,528,0,4095] (by kernel_rfl) (by kernel_rfl) (by kernel_rfl) H ⟨⟨aP rfl rfl (fU _ · |>.2.1),aA rfl⟩,⟨aT (v:=.agg (ev z1.b)) rfl rfl (k:=0) rfl (fT (k:=1) (by omega)),aA rfl⟩,⟨aP rfl rfl (fU _ · |>.1),aA rfl⟩,⟨aT (v:=.agg (ev z1.a)) rfl rfl (k:=0) rfl (fT (k:=0) (by omega)),aA rfl⟩,⟨aF rfl ⟨_,Tryz.func73,by kernel_rfl⟩ rfl (fun W hb=>addP hz6 W (hpg.ext hb)),aA rfl⟩,⟨aP rfl rfl (fU _ · |>.2.1),aA rfl⟩,⟨aT (v:=.agg (ev z2.b)) rfl rfl (k:=0) rfl (fT (k:=1) (by omega)),aA rfl⟩,⟨aP rfl rfl (fU _ · |>.1),aA rfl⟩,⟨aT (v:=.agg (ev z2.a)) rfl rfl (k:=0) rfl (fT (k:=0) (by omega)),aA rfl⟩,⟨aF rfl ⟨_,Tryz.func73,by kernel_rfl⟩ rfl (fun W hb=>addP hz7 W (hpg.ext hb)),aA rfl⟩,⟨aF rfl ⟨_,Tryz.func72,by kernel_rfl⟩ rfl (fun W hb=>mulP hz8 W (hpg.ext hb)),aA rfl⟩,⟨aN rfl cR,rfl⟩,⟨rfl,rfl,fun g=>bQ rfl rfl rfl (aV _) (by simp only [aX,aU,aG,bY]<;>rfl) (cP _)⟩,trivial⟩ ?_
 clear H a W
 intro G6 a W H
 replace H:St 78 w a W [(6,pA (G6 11)),(5,pA (G5 11)),(4,pA g3),(3,pA g2),(2,pA g1)] [((G6 11),56,ev z8),((G5 11),56,ev z5),(g3,58,#[.int .u64 0,.int .u64 0,.int .u64 0,.int .u64 0,.int .u64 0,.int .u64 0,.int .u64 0,.int .u64 0,.int .u64 0,.int .u64 0,.int .u64 0,.int .u64 0,.int .u64 0,.int .u64 0,.int .u64 0,.int .u64 0]),(g2,58,sv z2),(g1,58,sv z1)]:=H.pick [11,12,13,14,15] [0,1,2,3,4] rfl
 refine hK4 _ _ ?_
 clear hK4
 refine wp_seq_k (fun K5 hK5=>?_)
 refine aE ?_
 refine aD (aP rfl rfl (fU _ · |>.2.2.1)) rfl rfl rfl rfl H ?_
 clear H a W
 intro a W H
 refine aD (aT (v:=.agg (ev z1.c)) rfl rfl (k:=4) rfl (fT (k:=2) (by omega))) rfl rfl rfl rfl H ?_
 clear H a W
 intro a W H
 refine aD (aP rfl rfl (fU _ · |>.2.2.1)) rfl rfl rfl rfl H ?_
 clear H a W
 intro a W H
 refine aD (aT (v:=.agg (ev z2.c)) rfl rfl (k:=3) rfl (fT (k:=2) (by omega))) rfl rfl rfl rfl H ?_
 clear H a W
 intro a W H
 refine aD (aF rfl ⟨_,Tryz.func72,by kernel_rfl⟩ rfl (fun W hb=>mulP hz9 W (hpg.ext hb))) rfl rfl rfl rfl H ?_
 clear H a W
 intro a W H
 refine bC (aN rfl cR) rfl rfl rfl rfl H ?_
 clear H a W
 intro g7 a W H
 refine aO rfl rfl rfl (k:=0) rfl (aV _) (by simp only [aX,aU,aG,bY]<;>rfl) (cP _) rfl rfl H ?_
 clear H a W
 intro a W H
 refine aH ?_
 replace H:St 78 w a W [(7,pA g7),(6,pA (G6 11)),(5,pA (G5 11)),(4,pA g3),(3,pA g2),(2,pA g1)] [(g7,56,ev z9),((G6 11),56,ev z8),((G5 11),56,ev z5),(g3,58,#[.int .u64 0,.int .u64 0,.int .u64 0,.int .u64 0,.int .u64 0,.int .u64 0,.int .u64 0,.int .u64 0,.int .u64 0,.int .u64 0,.int .u64 0,.int .u64 0,.int .u64 0,.int .u64 0,.int .u64 0,.int .u64 0]),(g2,58,sv z2),(g1,58,sv z1)]:=H.pick [0,6,7,8,9,10] [0,1,2,3,4,5] rfl
 refine hK5 _ _ ?_
 clear hK5
 refine wp_seq_k (fun K6 hK6=>?_)
 refine aE ?_
 refine aD (aP rfl rfl (fU _ · |>.2.2.2)) rfl rfl rfl rfl H ?_
 clear H a W
 intro a W H
 refine aD (aT (v:=.agg (ev z1.d)) rfl rfl (k:=5) rfl (fT (k:=3) (by omega))) rfl rfl rfl rfl H ?_
 clear H a W
 intro a W H
 refine aD (aP rfl rfl (fU _ · |>.2.2.2)) rfl rfl rfl rfl H ?_
 clear H a W
 intro a W H
 refine aD (aT (v:=.agg (ev z2.d)) rfl rfl (k:=4) rfl (fT (k:=3) (by omega))) rfl rfl rfl rfl H ?_
 clear H a W
 intro a W H
 refine aD (aF rfl ⟨_,Tryz.func72,by kernel_rfl⟩ rfl (fun W hb=>mulP hz10 W (hpg.ext hb))) rfl rfl rfl rfl H ?_
 clear H a W
 intro a W H
 refine aD (aF rfl ⟨_,Tryz.func64,by kernel_rfl⟩ rfl (fun W hb=>oP W (hpg.ext hb))) rfl rfl rfl rfl H ?_
 clear H a W
 intro a W H
 refine aD (aF rfl ⟨_,Tryz.func72,by kernel_rfl⟩ rfl (fun W hb=>mulP hz11 W (hpg.ext hb))) rfl rfl rfl rfl H ?_
 clear H a W
 intro a W H
 refine bC (aN rfl cR) rfl rfl rfl rfl H ?_
 clear H a W
 intro g8 a W H
 refine aO rfl rfl rfl (k:=0) rfl (aV _) (by simp only [aX,aU,aG,bY]<;>rfl) (cP _) rfl rfl H ?_
 clear H a W
 intro a W H
 refine aH ?_
 replace H:St 78 w a W [(8,pA g8),(7,pA g7),(6,pA (G6 11)),(5,pA (G5 11)),(4,pA g3)] [(g8,56,ev z11),(g7,56,ev z9),((G6 11),56,ev z8),((G5 11),56,ev z5),(g3,58,#[.int .u64 0,.int .u64 0,.int .u64 0,.int .u64 0,.int .u64 0,.int .u64 0,.int .u64 0,.int .u64 0,.int .u64 0,.int .u64 0,.int .u64 0,.int .u64 0,.int .u64 0,.int .u64 0,.int .u64 0,.int .u64 0])]:=H.pick [0,8,9,10,11] [0,1,2,3,4] rfl
 refine hK6 _ _ ?_
 clear hK6
 refine wp_seq_k (fun K7 hK7=>?_)
 refine drawnS [.val 51 (.agg (ev z8)) [] [2],.val 52 (.agg (ev z5)) [] [3],.val 53 (.agg (ev z12)) [0,1] [],.val 54 (.agg (ev z8)) [] [2],.val 55 (.agg (ev z5)) [] [3],.val 56 (.agg (ev z13)) [3,4] [],.new 9 56 (#[.int .u64 0,.int .u64 0,.int .u64 0,.int .u64 0]),.new 10 56 (#[.int .u64 0,.int .u64 0,.int .u64 0,.int .u64 0]),.ston 6 9 56 (#[.int .u64 0,.int .u64 0,.int .u64 0,.int .u64 0]) (ev z12) [2],.ston 7 10 56 (#[.int .u64 0,.int .u64 0,.int .u64 0,.int .u64 0]) (ev z13) [5]] [0,0,3,0,0,28,0,0,231,511] (by kernel_rfl) (by kernel_rfl) (by kernel_rfl) H ⟨⟨aC rfl rfl (k:=0) rfl Tryz.underlying56 rfl (aV _),aA rfl⟩,⟨aC rfl rfl (k:=0) rfl Tryz.underlying56 rfl (aV _),aA rfl⟩,⟨aF rfl ⟨_,Tryz.func71,by kernel_rfl⟩ rfl (fun W hb=>subP hz12 W (hpg.ext hb)),aA rfl⟩,⟨aC rfl rfl (k:=0) rfl Tryz.underlying56 rfl (aV _),aA rfl⟩,⟨aC rfl rfl (k:=0) rfl Tryz.underlying56 rfl (aV _),aA rfl⟩,⟨aF rfl ⟨_,Tryz.func73,by kernel_rfl⟩ rfl (fun W hb=>addP hz13 W (hpg.ext hb)),aA rfl⟩,⟨aN rfl cR,rfl⟩,⟨aN rfl cR,rfl⟩,⟨rfl,rfl,fun g=>bQ rfl rfl rfl (aV _) (by simp only [aX,aU,aG,bY]<;>rfl) (cP _)⟩,⟨rfl,rfl,fun g=>bQ rfl rfl rfl (aV _) (by simp only [aX,aU,aG,bY]<;>rfl) (cP _)⟩,trivial⟩ ?_
 clear H a W
 intro G9 a W H
 replace H:St 78 w a W [(9,pA (G9 6)),(10,pA (G9 7)),(8,pA g8),(7,pA g7),(4,pA g3)] [((G9 6),56,ev z12),((G9 7),56,ev z13),(g8,56,ev z11),(g7,56,ev z9),(g3,58,#[.int .u64 0,.int .u64 0,.int .u64 0,.int .u64 0,.int .u64 0,.int .u64 0,.int .u64 0,.int .u64 0,.int .u64 0,.int .u64 0,.int .u64 0,.int .u64 0,.int .u64 0,.int .u64 0,.int .u64 0,.int .u64 0])]:=H.pick [6,7,8,9,12] [0,1,2,3,6] rfl
 refine hK7 _ _ ?_
 clear hK7
 refine wp_seq_k (fun K8 hK8=>?_)
 refine drawnS [.val 57 (.agg (ev z9)) [] [3],.val 58 (.agg (ev z11)) [] [2],.val 59 (.agg (ev z14)) [0,1] [],.val 60 (.agg (ev z15)) [2] [],.val 61 (.agg (ev z9)) [] [3],.val 62 (.agg (ev z11)) [] [2],.val 63 (.agg (ev z16)) [4,5] [],.val 64 (.agg (ev z17)) [6] [],.new 11 56 (#[.int .u64 0,.int .u64 0,.int .u64 0,.int .u64 0]),.new 12 56 (#[.int .u64 0,.int .u64 0,.int .u64 0,.int .u64 0]),.ston 8 11 56 (#[.int .u64 0,.int .u64 0,.int .u64 0,.int .u64 0]) (ev z15) [3],.ston 9 12 56 (#[.int .u64 0,.int .u64 0,.int .u64 0,.int .u64 0]) (ev z17) [7]] [0,0,3,4,0,0,56,64,0,0,911,2047] (by kernel_rfl) (by kernel_rfl) (by kernel_rfl) H ⟨⟨aC rfl rfl (k:=0) rfl Tryz.underlying56 rfl (aV _),aA rfl⟩,⟨aC rfl rfl (k:=0) rfl Tryz.underlying56 rfl (aV _),aA rfl⟩,⟨aF rfl ⟨_,Tryz.func73,by kernel_rfl⟩ rfl (fun W hb=>addP hz14 W (hpg.ext hb)),aA rfl⟩,⟨aF rfl ⟨_,Tryz.func74,by kernel_rfl⟩ rfl (fun W hb=>vQ hz15 W (hpg.ext hb)),aA rfl⟩,⟨aC rfl rfl (k:=0) rfl Tryz.underlying56 rfl (aV _),aA rfl⟩,⟨aC rfl rfl (k:=0) rfl Tryz.underlying56 rfl (aV _),aA rfl⟩,⟨aF rfl ⟨_,Tryz.func71,by kernel_rfl⟩ rfl (fun W hb=>subP hz16 W (hpg.ext hb)),aA rfl⟩,⟨aF rfl ⟨_,Tryz.func74,by kernel_rfl⟩ rfl (fun W hb=>vQ hz17 W (hpg.ext hb)),aA rfl⟩,⟨aN rfl cR,rfl⟩,⟨aN rfl cR,rfl⟩,⟨rfl,rfl,fun g=>bQ rfl rfl rfl (aV _) (by simp only [aX,aU,aG,bY]<;>rfl) (cP _)⟩,⟨rfl,rfl,fun g=>bQ rfl rfl rfl (aV _) (by simp only [aX,aU,aG,bY]<;>rfl) (cP _)⟩,trivial⟩ ?_
 clear H a W
 intro G10 a W H
 replace H:St 78 w a W [(11,pA (G10 8)),(12,pA (G10 9)),(9,pA (G9 6)),(10,pA (G9 7)),(4,pA g3)] [((G10 8),56,ev z15),((G10 9),56,ev z17),((G9 6),56,ev z12),((G9 7),56,ev z13),(g3,58,#[.int .u64 0,.int .u64 0,.int .u64 0,.int .u64 0,.int .u64 0,.int .u64 0,.int .u64 0,.int .u64 0,.int .u64 0,.int .u64 0,.int .u64 0,.int .u64 0,.int .u64 0,.int .u64 0,.int .u64 0,.int .u64 0])]:=H.pick [8,9,10,11,14] [0,1,2,3,6] rfl
 refine hK8 _ _ ?_
 clear hK8
 refine wp_seq_k (fun K9 hK9=>?_)
 refine drawnS [.val 65 (.agg (ev z12)) [] [2],.val 66 (.agg (ev z17)) [] [1],.val 67 (.agg (ev z18)) [0,1] [],.val 68 (.agg (ev z13)) [] [3],.val 69 (.agg (ev z15)) [] [0],.val 70 (.agg (ev z19)) [3,4] [],.val 71 (.agg (ev z15)) [] [0],.val 72 (.agg (ev z17)) [] [1],.val 73 (.agg (ev z20)) [6,7] [],.val 74 (.agg (ev z12)) [] [2],.val 75 (.agg (ev z13)) [] [3],.val 76 (.agg (ev z21)) [9,10] [],.val 77 (.agg (sv ⟨z18,z19,z20,z21⟩)) [2,5,8,11] [],.sto 4 g3 58 (#[.int .u64 0,.int .u64 0,.int .u64 0,.int .u64 0,.int .u64 0,.int .u64 0,.int .u64 0,.int .u64 0,.int .u64 0,.int .u64 0,.int .u64 0,.int .u64 0,.int .u64 0,.int .u64 0,.int .u64 0,.int .u64 0]) (sv ⟨z18,z19,z20,z21⟩) [12]] [0,0,3,0,0,28,0,0,224,0,0,1792,2340,8191] (by kernel_rfl) (by kernel_rfl) (by kernel_rfl) H ⟨⟨aC rfl rfl (k:=0) rfl Tryz.underlying56 rfl (aV _),aA rfl⟩,⟨aC rfl rfl (k:=0) rfl Tryz.underlying56 rfl (aV _),aA rfl⟩,⟨aF rfl ⟨_,Tryz.func72,by kernel_rfl⟩ rfl (fun W hb=>mulP hz18 W (hpg.ext hb)),aA rfl⟩,⟨aC rfl rfl (k:=0) rfl Tryz.underlying56 rfl (aV _),aA rfl⟩,⟨aC rfl rfl (k:=0) rfl Tryz.underlying56 rfl (aV _),aA rfl⟩,⟨aF rfl ⟨_,Tryz.func72,by kernel_rfl⟩ rfl (fun W hb=>mulP hz19 W (hpg.ext hb)),aA rfl⟩,⟨aC rfl rfl (k:=0) rfl Tryz.underlying56 rfl (aV _),aA rfl⟩,⟨aC rfl rfl (k:=0) rfl Tryz.underlying56 rfl (aV _),aA rfl⟩,⟨aF rfl ⟨_,Tryz.func72,by kernel_rfl⟩ rfl (fun W hb=>mulP hz20 W (hpg.ext hb)),aA rfl⟩,⟨aC rfl rfl (k:=0) rfl Tryz.underlying56 rfl (aV _),aA rfl⟩,⟨aC rfl rfl (k:=0) rfl Tryz.underlying56 rfl (aV _),aA rfl⟩,⟨aF rfl ⟨_,Tryz.func72,by kernel_rfl⟩ rfl (fun W hb=>mulP hz21 W (hpg.ext hb)),aA rfl⟩,⟨cD rfl rfl (bd_pt z18 z19 z20 z21),aA rfl⟩,⟨rfl,rfl,bQ rfl rfl rfl (bX _) (by simp only [aX,aU,aG,bY]<;>rfl) (dY _)⟩,trivial⟩ ?_
 clear H a W
 intro G11 a W H
 replace H:St 78 w a W [(4,pA g3)] [(g3,58,sv ⟨z18,z19,z20,z21⟩)]:=H.pick [17] [4] rfl
 refine hK9 _ _ ?_
 clear hK9
 refine wp_ret ?_
 repeat (first | (with_reducible refine bD ?_) | (with_reducible refine bI ?_))
 refine cI (p:=4) rfl rfl (k:=0) rfl Tryz.underlying58 rfl (bX _) H (fun hb=>?_)
 refine ⟨?_,hb⟩
 rw [h]
 unfold ptAdd ptAdd0 paU paV paL paH
 subst hz1 hz2 hz3 hz4 hz5 hz6 hz7 hz8 hz9 hz10 hz11 hz12 hz13 hz14 hz15 hz16 hz17 hz18 hz19 hz20 hz21
 rfl
theorem pbit_any (e i:Nat) (w:World) (hi:i<256) :
  Calls zP 75 #[.agg (ks e),.int .i64 (i:Int)] w fun r w'=>r=.returned (.bool (bitB e i))∧Below w.heap.size w w':=by
 have hc:(w.alloc (.cells (ks e) 23)).cell? ⟨w.heap.size,i/8,none⟩=some (.int .u8 ((e/256^(i/8)%256:Nat):Int)):=by
  rw [(Blk.new w 23 (ks e)).cell,dR _ (by omega)]
 have hx:e/256^(i/8)%256<256:=Nat.mod_lt _ (by omega)
 have hb:=uX e i
 have ha:=and_one8 (e/256^(i/8)%256/2^(i%8)) (Nat.lt_of_le_of_lt (Nat.div_le_self _ _) hx)
 rw [hb,Int.natCast_ediv,Int.natCast_pow] at ha
 have HA:=Lib.hid ha
 clear hb ha
 generalize e/256^(i/8)%256=x at *
 have b1:(0:Int)≤(i:Int)/8:=by omega
 have b2:(i:Int)/8<32:=by omega
 have b3:((i:Int)%8)<65:=by omega
 go_enter Tryz.func75,Tryz.ntmps75
 go_wp2
 go_ret
 refine ⟨?_,(Below.refl _ _).alloc (Nat.le_refl _) _⟩
 show Ending.returned (.bool (bits .and .u8 ((x:Int)/2^(i%8)) 1 == 1))=_
 have:=HA.out
 rw [show ((2:Nat):Int)=2 from rfl] at this
 rw [this]
 rfl
theorem pbitB {n i:Nat} {b:Bool} (h:lbit n i=b) (w:World) (hi:i<256):Calls zP 75 #[.agg (ks n),.int .i64 (i:Int)] w fun r w'=>r=.returned (.bool b)∧Below w.heap.size w w':=by
 subst h
 exact pbit_any n i w hi
section
attribute [local semireducible] ev sv ptMul
theorem pt_zeros (n:Nat) (s:L4 PP):#[.int .u64 0,.int .u64 0,.int .u64 0,.int .u64 0,.int .u64 0,.int .u64 0,.int .u64 0,.int .u64 0,.int .u64 0,.int .u64 0,.int .u64 0,.int .u64 0,.int .u64 0,.int .u64 0,.int .u64 0,.int .u64 0]=sv (ptMul s n 0):=by kernel_rfl
theorem ptMul_yes {n k:Nat} {s:L4 PP} (h:lbit n (255-k)=true):ptMul s n (k+1)=ptAdd (ptAdd (ptMul s n k) (ptMul s n k)) s:=by
 show (if lbit n (255-k)=true then _ else _)=_
 rw [if_pos h]
theorem ptMul_no {n k:Nat} {s:L4 PP} (h:lbit n (255-k)=false):ptMul s n (k+1)=ptAdd (ptMul s n k) (ptMul s n k):=by
 show (if lbit n (255-k)=true then _ else _)=_
 rw [if_neg (by rw [h];decide)]
end
theorem mul_pt {s r:L4 PP} {n:Nat} (h:r=ptMul s n 256) (w:World) (hpg:PG w):Calls zP 33 #[.agg (sv s),.agg (ks n)] w (fun rr w'=>rr=.returned (.agg (sv r))∧Below w.heap.size w w'):=by
 refine bN (vs:=[.agg (sv s),.agg (ks n)]) 22 Tryz.func33 rfl Tryz.ntmps33 rfl (fun a W H=>?_)
 refine wp_seq_k (fun K1 hK1=>?_)
 refine aE ?_
 refine bP rfl rfl (pW s) rfl rfl rfl rfl H ?_
 clear H a W
 intro g1 a W H
 refine bP rfl rfl (dG n) rfl rfl rfl rfl H ?_
 clear H a W
 intro g2 a W H
 refine bC (aN rfl lU) rfl rfl rfl rfl H ?_
 clear H a W
 intro g3 a W H
 refine aH ?_
 replace H:St 22 w a W [(4,pA g3),(3,pA g2),(2,pA g1)] [(g3,58,#[.int .u64 0,.int .u64 0,.int .u64 0,.int .u64 0,.int .u64 0,.int .u64 0,.int .u64 0,.int .u64 0,.int .u64 0,.int .u64 0,.int .u64 0,.int .u64 0,.int .u64 0,.int .u64 0,.int .u64 0,.int .u64 0]),(g2,23,ks n),(g1,58,sv s)]:=H.pick [0,1,2] [0,1,2] rfl
 refine hK1 _ _ ?_
 clear hK1
 refine wp_seq_k (fun K2 hK2=>?_)
 refine aE ?_
 refine bC (aN rfl lU) rfl rfl rfl rfl H ?_
 clear H a W
 intro g4 a W H
 refine aH ?_
 refine hK2 _ _ ?_
 clear hK2
 refine wp_seq_k (fun K3 hK3=>?_)
 refine wp_seq_k (fun K4 hK4=>?_)
 refine aE ?_
 refine aD (aK rfl rfl) rfl rfl rfl rfl H ?_
 clear H a W
 intro a W H
 refine aH ?_
 refine hK4 _ _ ?_
 clear hK4
 refine wp_block ?_
 replace H:St 22 w a W [(7,.int .i64 ((0:Nat):Int)),(5,pA g4),(4,pA g3),(3,pA g2),(2,pA g1)] [(g4,58,#[.int .u64 0,.int .u64 0,.int .u64 0,.int .u64 0,.int .u64 0,.int .u64 0,.int .u64 0,.int .u64 0,.int .u64 0,.int .u64 0,.int .u64 0,.int .u64 0,.int .u64 0,.int .u64 0,.int .u64 0,.int .u64 0]),(g3,58,#[.int .u64 0,.int .u64 0,.int .u64 0,.int .u64 0,.int .u64 0,.int .u64 0,.int .u64 0,.int .u64 0,.int .u64 0,.int .u64 0,.int .u64 0,.int .u64 0,.int .u64 0,.int .u64 0,.int .u64 0,.int .u64 0]),(g2,23,ks n),(g1,58,sv s)]:=H.pick [0,1,2,3,4] [0,1,2,3] rfl
 rw [pt_zeros n s] at H
 refine vP 256 (fun k a W=>St 22 w a W [(7,.int .i64 ((k:Nat):Int)),(5,.pointer (some ⟨g4,0,none⟩)),(4,.pointer (some ⟨g3,0,none⟩)),(3,.pointer (some ⟨g2,0,none⟩)),(2,.pointer (some ⟨g1,0,none⟩))] [(g4,58,sv (ptMul s n (k))),(g3,58,sv (ptMul s n 0)),(g2,23,ks n),(g1,58,sv s)]) (k0:=0) H (by omega) ?_
 clear H a W
 intro k a W hk H
 by_cases hk2:k<256
 ·
  rcases Bool.eq_false_or_eq_true (lbit n (255-k)) with hbit | hbit
  ·
   have hn:ptMul s n (k+1)=ptAdd (ptAdd (ptMul s n k) (ptMul s n k)) s:=ptMul_yes hbit
   refine wp_seq_k (fun K5 hK5=>?_)
   refine aE ?_
   refine aD (aQ rfl rfl rfl (wW (m:=256) hk2 _ _)) rfl rfl rfl rfl H ?_
   clear H a W
   intro a W H
   refine aH ?_
   refine hK5 _ _ ?_
   clear hK5
   refine wp_seq_k (fun K6 hK6=>?_)
   refine wp_cond_true (H.ev rfl) ?_
   refine wp_skip ?_
   refine hK6 _ _ ?_
   clear hK6
   refine wp_seq_k (fun K7 hK7=>?_)
   refine wp_block ?_
   refine wp_seq_k (fun K8 hK8=>?_)
   refine aE ?_
   refine aD (aK rfl rfl) rfl rfl rfl rfl H ?_
   clear H a W
   intro a W H
   refine aD (aM rfl rfl) rfl rfl rfl rfl H ?_
   clear H a W
   intro a W H
   refine aH ?_
   refine hK8 _ _ ?_
   clear hK8
   refine wp_seq_k (fun K9 hK9=>?_)
   refine aE ?_
   refine aD (aC rfl rfl (k:=0) rfl Tryz.underlying58 rfl (bX _)) rfl rfl rfl rfl H ?_
   clear H a W
   intro a W H
   refine aD (aC rfl rfl (k:=0) rfl Tryz.underlying58 rfl (bX _)) rfl rfl rfl rfl H ?_
   clear H a W
   intro a W H
   refine aD (aF rfl ⟨_,Tryz.func31,by kernel_rfl⟩ rfl (fun W hb=>zR rfl W (hpg.ext hb))) rfl rfl rfl rfl H ?_
   clear H a W
   intro a W H
   refine aO rfl rfl rfl (k:=0) rfl (bX _) (by simp only [aX,aU,aG,bY]<;>rfl) (dY _) rfl rfl H ?_
   clear H a W
   intro a W H
   refine aH ?_
   refine hK9 _ _ ?_
   clear hK9
   refine wp_seq_k (fun K10 hK10=>?_)
   refine aE ?_
   refine aD (aC rfl rfl (k:=2) rfl Tryz.underlying23 rfl (aL _)) rfl rfl rfl rfl H ?_
   clear H a W
   intro a W H
   refine aD (aK rfl rfl) rfl rfl rfl rfl H ?_
   clear H a W
   intro a W H
   refine aD (aQ rfl rfl rfl (i_from (m:=255) (by omega) (by omega) _ _)) rfl rfl rfl rfl H ?_
   clear H a W
   intro a W H
   refine aD (aF rfl ⟨_,Tryz.func75,by kernel_rfl⟩ rfl (fun W hb=>pbitB hbit W (by omega))) rfl rfl rfl rfl H ?_
   clear H a W
   intro a W H
   refine aH ?_
   refine hK10 _ _ ?_
   clear hK10
   refine wp_cond_true (H.ev rfl) ?_
   refine aE ?_
   refine aD (aC rfl rfl (k:=0) rfl Tryz.underlying58 rfl (bX _)) rfl rfl rfl rfl H ?_
   clear H a W
   intro a W H
   refine aD (aC rfl rfl (k:=3) rfl Tryz.underlying58 rfl (bX _)) rfl rfl rfl rfl H ?_
   clear H a W
   intro a W H
   refine aD (aF rfl ⟨_,Tryz.func31,by kernel_rfl⟩ rfl (fun W hb=>zR rfl W (hpg.ext hb))) rfl rfl rfl rfl H ?_
   clear H a W
   intro a W H
   refine aO rfl rfl rfl (k:=0) rfl (bX _) (by simp only [aX,aU,aG,bY]<;>rfl) (dY _) rfl rfl H ?_
   clear H a W
   intro a W H
   refine aH ?_
   refine lQ ?_
   refine hK7 _ _ ?_
   clear hK7
   refine aE ?_
   refine aD (aQ rfl rfl rfl (i_inc (by omega) _ _)) rfl rfl rfl rfl H ?_
   clear H a W
   intro a W H
   replace H:St 22 w a W [(20,.int .i64 ((k+1:Nat):Int)),(19,.agg (sv (ptAdd ((ptAdd ((ptMul s n (k))) ((ptMul s n (k))))) s))),(18,.agg (sv s)),(17,.agg (sv (ptAdd ((ptMul s n (k))) ((ptMul s n (k)))))),(16,.bool true),(15,.int .i64 ((255-k:Nat):Int)),(14,.int .i64 ((k:Nat):Int)),(13,.agg (ks n)),(12,.agg (sv (ptAdd ((ptMul s n (k))) ((ptMul s n (k)))))),(11,.agg (sv (ptMul s n (k)))),(10,.agg (sv (ptMul s n (k)))),(6,.int .i64 ((k:Nat):Int)),(9,.int .i64 ((k:Nat):Int)),(8,.bool true),(5,pA g4),(4,pA g3),(3,pA g2),(2,pA g1)] [(g4,58,sv (ptAdd ((ptAdd ((ptMul s n (k))) ((ptMul s n (k))))) s)),(g3,58,sv (ptMul s n 0)),(g2,23,ks n),(g1,58,sv s)]:=H.pick [0,1,2,3,4,5,6,7,8,9,10,11,12,13,15,16,17,18] [0,1,2,3] rfl
   refine aD (aK rfl rfl) rfl rfl rfl rfl H ?_
   clear H a W
   intro a W H
   refine aH ?_
   refine ⟨k+1,by omega,by omega,?_⟩
   show St 22 w a W [(7,.int .i64 ((k+1:Nat):Int)),(5,.pointer (some ⟨g4,0,none⟩)),(4,.pointer (some ⟨g3,0,none⟩)),(3,.pointer (some ⟨g2,0,none⟩)),(2,.pointer (some ⟨g1,0,none⟩))] [(g4,58,sv (ptMul s n (k+1))),(g3,58,sv (ptMul s n 0)),(g2,23,ks n),(g1,58,sv s)]
   rw [hn]
   exact H.pick [0,15,16,17,18] [0,1,2,3] rfl
  ·
   have hn:ptMul s n (k+1)=ptAdd (ptMul s n k) (ptMul s n k):=ptMul_no hbit
   refine wp_seq_k (fun K11 hK11=>?_)
   refine aE ?_
   refine aD (aQ rfl rfl rfl (wW (m:=256) hk2 _ _)) rfl rfl rfl rfl H ?_
   clear H a W
   intro a W H
   refine aH ?_
   refine hK11 _ _ ?_
   clear hK11
   refine wp_seq_k (fun K12 hK12=>?_)
   refine wp_cond_true (H.ev rfl) ?_
   refine wp_skip ?_
   refine hK12 _ _ ?_
   clear hK12
   refine wp_seq_k (fun K13 hK13=>?_)
   refine wp_block ?_
   refine wp_seq_k (fun K14 hK14=>?_)
   refine aE ?_
   refine aD (aK rfl rfl) rfl rfl rfl rfl H ?_
   clear H a W
   intro a W H
   refine aD (aM rfl rfl) rfl rfl rfl rfl H ?_
   clear H a W
   intro a W H
   refine aH ?_
   refine hK14 _ _ ?_
   clear hK14
   refine wp_seq_k (fun K15 hK15=>?_)
   refine aE ?_
   refine aD (aC rfl rfl (k:=0) rfl Tryz.underlying58 rfl (bX _)) rfl rfl rfl rfl H ?_
   clear H a W
   intro a W H
   refine aD (aC rfl rfl (k:=0) rfl Tryz.underlying58 rfl (bX _)) rfl rfl rfl rfl H ?_
   clear H a W
   intro a W H
   refine aD (aF rfl ⟨_,Tryz.func31,by kernel_rfl⟩ rfl (fun W hb=>zR rfl W (hpg.ext hb))) rfl rfl rfl rfl H ?_
   clear H a W
   intro a W H
   refine aO rfl rfl rfl (k:=0) rfl (bX _) (by simp only [aX,aU,aG,bY]<;>rfl) (dY _) rfl rfl H ?_
   clear H a W
   intro a W H
   refine aH ?_
   refine hK15 _ _ ?_
   clear hK15
   refine wp_seq_k (fun K16 hK16=>?_)
   refine aE ?_
   refine aD (aC rfl rfl (k:=2) rfl Tryz.underlying23 rfl (aL _)) rfl rfl rfl rfl H ?_
   clear H a W
   intro a W H
   refine aD (aK rfl rfl) rfl rfl rfl rfl H ?_
   clear H a W
   intro a W H
   refine aD (aQ rfl rfl rfl (i_from (m:=255) (by omega) (by omega) _ _)) rfl rfl rfl rfl H ?_
   clear H a W
   intro a W H
   refine aD (aF rfl ⟨_,Tryz.func75,by kernel_rfl⟩ rfl (fun W hb=>pbitB hbit W (by omega))) rfl rfl rfl rfl H ?_
   clear H a W
   intro a W H
   refine aH ?_
   refine hK16 _ _ ?_
   clear hK16
   refine wp_cond_false (H.ev rfl) ?_
   refine wp_skip ?_
   refine lQ ?_
   refine hK13 _ _ ?_
   clear hK13
   refine aE ?_
   refine aD (aQ rfl rfl rfl (i_inc (by omega) _ _)) rfl rfl rfl rfl H ?_
   clear H a W
   intro a W H
   replace H:St 22 w a W [(20,.int .i64 ((k+1:Nat):Int)),(16,.bool false),(15,.int .i64 ((255-k:Nat):Int)),(14,.int .i64 ((k:Nat):Int)),(13,.agg (ks n)),(12,.agg (sv (ptAdd ((ptMul s n (k))) ((ptMul s n (k)))))),(11,.agg (sv (ptMul s n (k)))),(10,.agg (sv (ptMul s n (k)))),(6,.int .i64 ((k:Nat):Int)),(9,.int .i64 ((k:Nat):Int)),(8,.bool true),(5,pA g4),(4,pA g3),(3,pA g2),(2,pA g1)] [(g4,58,sv (ptAdd ((ptMul s n (k))) ((ptMul s n (k))))),(g3,58,sv (ptMul s n 0)),(g2,23,ks n),(g1,58,sv s)]:=H.pick [0,1,2,3,4,5,6,7,8,9,10,12,13,14,15] [0,1,2,3] rfl
   refine aD (aK rfl rfl) rfl rfl rfl rfl H ?_
   clear H a W
   intro a W H
   refine aH ?_
   refine ⟨k+1,by omega,by omega,?_⟩
   show St 22 w a W [(7,.int .i64 ((k+1:Nat):Int)),(5,.pointer (some ⟨g4,0,none⟩)),(4,.pointer (some ⟨g3,0,none⟩)),(3,.pointer (some ⟨g2,0,none⟩)),(2,.pointer (some ⟨g1,0,none⟩))] [(g4,58,sv (ptMul s n (k+1))),(g3,58,sv (ptMul s n 0)),(g2,23,ks n),(g1,58,sv s)]
   rw [hn]
   exact H.pick [0,12,13,14,15] [0,1,2,3] rfl
 ·
  obtain rfl:k=256:=by omega
  refine wp_seq_k (fun K17 hK17=>?_)
  refine aE ?_
  refine aD (aQ rfl rfl rfl (i_lss_no (m:=256) (by omega) _ _)) rfl rfl rfl rfl H ?_
  clear H a W
  intro a W H
  refine aH ?_
  refine hK17 _ _ ?_
  clear hK17
  refine wp_seq_k (fun K18 hK18=>?_)
  refine wp_cond_false (H.ev rfl) ?_
  refine wp_exit ?_
  repeat (with_reducible refine vR ?_)
  refine blk_exit ?_
  refine hK3 _ _ ?_
  clear hK3
  refine wp_seq_k (fun K19 hK19=>?_)
  refine aE ?_
  refine aD (aC rfl rfl (k:=0) rfl Tryz.underlying58 rfl (bX _)) rfl rfl rfl rfl H ?_
  clear H a W
  intro a W H
  refine aO rfl rfl rfl (k:=1) rfl (bX _) (by simp only [aX,aU,aG,bY]<;>rfl) (dY _) rfl rfl H ?_
  clear H a W
  intro a W H
  refine aH ?_
  replace H:St 22 w a W [(4,pA g3)] [(g3,58,sv (ptMul s n (256)))]:=H.pick [4] [1] rfl
  refine hK19 _ _ ?_
  clear hK19
  refine wp_ret ?_
  repeat (first | (with_reducible refine bD ?_) | (with_reducible refine bI ?_))
  refine cI (p:=4) rfl rfl (k:=0) rfl Tryz.underlying58 rfl (bX _) H (fun hb=>?_)
  exact ⟨by rw [h],hb⟩
theorem base_pt {r:L4 PP} {n:Nat} (h:r=ptMul BE n 256) (w:World) (hpg:PG w):Calls zP 17 #[.agg (ks n)] w (fun rr w'=>rr=.returned (.agg (sv r))∧Below w.heap.size w w'):=by
 refine bN (vs:=[.agg (ks n)]) 6 Tryz.func17 rfl Tryz.ntmps17 rfl (fun a W H=>?_)
 refine wp_seq_k (fun K1 hK1=>?_)
 refine aE ?_
 refine bP rfl rfl (dG n) rfl rfl rfl rfl H ?_
 clear H a W
 intro g1 a W H
 refine bC (aN rfl lU) rfl rfl rfl rfl H ?_
 clear H a W
 intro g2 a W H
 refine aH ?_
 replace H:St 6 w a W [(2,pA g2),(1,pA g1)] [(g2,58,#[.int .u64 0,.int .u64 0,.int .u64 0,.int .u64 0,.int .u64 0,.int .u64 0,.int .u64 0,.int .u64 0,.int .u64 0,.int .u64 0,.int .u64 0,.int .u64 0,.int .u64 0,.int .u64 0,.int .u64 0,.int .u64 0]),(g1,23,ks n)]:=H.pick [0,1] [0,1] rfl
 refine hK1 _ _ ?_
 clear hK1
 refine wp_seq_k (fun K2 hK2=>?_)
 refine drawnS [.val 3 (.agg (sv BE)) [] [],.val 4 (.agg (ks n)) [] [1],.val 5 (.agg (sv r)) [0,1] [],.sto 0 g2 58 (#[.int .u64 0,.int .u64 0,.int .u64 0,.int .u64 0,.int .u64 0,.int .u64 0,.int .u64 0,.int .u64 0,.int .u64 0,.int .u64 0,.int .u64 0,.int .u64 0,.int .u64 0,.int .u64 0,.int .u64 0,.int .u64 0]) (sv r) [2]] [0,0,3,7] (by kernel_rfl) (by kernel_rfl) (by kernel_rfl) H ⟨⟨aF rfl ⟨_,Tryz.func46,by kernel_rfl⟩ rfl (fun W hb=>rK W (hpg.ext hb)),aA rfl⟩,⟨aC rfl rfl (k:=0) rfl Tryz.underlying23 rfl (aL _),aA rfl⟩,⟨aF rfl ⟨_,Tryz.func33,by kernel_rfl⟩ rfl (fun W hb=>mul_pt h W (hpg.ext hb)),aA rfl⟩,⟨rfl,rfl,bQ rfl rfl rfl (bX _) (by simp only [aX,aU,aG,bY]<;>rfl) (dY _)⟩,trivial⟩ ?_
 clear H a W
 intro G3 a W H
 replace H:St 6 w a W [(2,pA g2)] [(g2,58,sv r)]:=H.pick [3] [0] rfl
 refine hK2 _ _ ?_
 clear hK2
 refine wp_ret ?_
 repeat (first | (with_reducible refine bD ?_) | (with_reducible refine bI ?_))
 refine cI (p:=2) rfl rfl (k:=0) rfl Tryz.underlying58 rfl (bX _) H (fun hb=>?_)
 exact ⟨rfl,hb⟩
end
section
set_option maxRecDepth 99999
open Go Go.RowKit
attribute [local irreducible] ev sv ks ptSet ptAdd ptMul rootC EE II TD BX BY
theorem ofK_mod (n:Nat):ofK (n%57896044618658097711785492504343953926634992332820282019728792003956564819968)=ofK n:=by
 unfold ofK
 rw [Nat.mod_mod]
theorem canonB {n:Nat} {b:Bool} (h:decide (n<PP)=b) (w:World) (hpg:PG w) (hn:K256 n):Calls zP 61 #[.agg (ks n)] w (BPost b w):=by
 subst h
 exact vN n w hpg hn
theorem pM {n:Nat} {bc bo od bz:Bool} (h1:decide (n%57896044618658097711785492504343953926634992332820282019728792003956564819968<PP)=bc) (h2:(ofX n).2=bo) (h3:decide (57896044618658097711785492504343953926634992332820282019728792003956564819968≤n)=od) (h4:decide ((ofX n).1=0)=bz):isPt n=(bc&&(bo&&!(od&&bz))):=by
 unfold isPt
 rw [h1,h2,h3,h4]
theorem selB {x y:Fin PP} {b:Bool} {r:Fin PP} (h:r=bif b then y else x) (w:World):Calls zP 67 #[.agg (ev x),.agg (ev y),.bool b] w (EPost r w):=by
 subst h
 cases b
 ·
  exact selF_no _ _ w
 ·
  exact selF_yes _ _ w
theorem ofpt_any {n:Nat} {z:L4 PP} {b:Bool} (hn:K256 n) (hb0:isPt n=b) (hz0:z=bif b then ptE (ptX n) (ofK n) else PZ) (w:World) (hpg:PG w):Calls zP 29 #[.agg (ks n)] w (fun rr w'=>rr=.returned (.tuple #[.agg (sv z),.bool b])∧Below w.heap.size w w'):=by
 obtain ⟨x,hx⟩:∃ x:Nat,n/256^31%256=x:=⟨_,rfl⟩
 have hx1:x<256:=by omega
 obtain ⟨y,hy⟩:∃ y:Nat,(if 128≤x then 128 else 0)=y:=⟨_,rfl⟩
 obtain ⟨v,hv⟩:∃ v:Nat,x%128=v:=⟨_,rfl⟩
 have hv1:v<256:=by omega
 obtain ⟨m,hm⟩:∃ m:Nat,n%57896044618658097711785492504343953926634992332820282019728792003956564819968=m:=⟨_,rfl⟩
 have hput:putd 256 n 31 v=m:=by rw [←hv,←hx,yJ hn,hm]
 have hm1:K256 m:=by omega
 have hof:ofK m=ofK n:=by rw [←hm];exact ofK_mod n
 have hmx:(57896044618658097711785492504343953926634992332820282019728792003956564819968≤n)↔128≤x:=by omega
 obtain ⟨yy,hyy⟩:∃ z,z=ofK m:=⟨_,rfl⟩
 obtain ⟨bc,hc⟩:∃ b,decide (m<PP)=b:=⟨_,rfl⟩
 have hcc:decide (n%57896044618658097711785492504343953926634992332820282019728792003956564819968<PP)=bc:=by rw [hm];exact hc
 obtain ⟨bo,hbo⟩:∃ b,(ofX n).2=b:=⟨_,rfl⟩
 obtain ⟨r,hr'⟩:∃ r,r=(ofX n).1:=⟨_,rfl⟩
 have hr:(r,bo)=rootC EE II (yy*yy-1) (1+TD*(yy*yy)):=ofX_root hbo hr' (by rw [hyy,hof])
 obtain ⟨od,hod⟩:∃ b,decide (y≠0)=b:=⟨_,rfl⟩
 have hd:decide (57896044618658097711785492504343953926634992332820282019728792003956564819968≤n)=od:=by rw [←hod,decide_eq_decide,hmx,←hy];split<;>omega
 obtain ⟨bz,hz⟩:∃ b,decide (r=0)=b:=⟨_,rfl⟩
 have hz':decide ((ofX n).1=0)=bz:=by rw [←hr'];exact hz
 obtain ⟨z1,hz1⟩:∃ z:Fin PP,z=-r:=⟨_,rfl⟩
 obtain ⟨xstrue,hxstrue⟩:∃ z,z=bif true then z1 else r:=⟨_,rfl⟩
 obtain ⟨qxstrue,hqxstrue⟩:∃ z,z=ptE xstrue yy:=⟨_,rfl⟩
 obtain ⟨z2,hz2⟩:∃ z:Fin PP,z=-r:=⟨_,rfl⟩
 obtain ⟨xsfalse,hxsfalse⟩:∃ z,z=bif false then z2 else r:=⟨_,rfl⟩
 obtain ⟨qxsfalse,hqxsfalse⟩:∃ z,z=ptE xsfalse yy:=⟨_,rfl⟩
 refine bN (vs:=[.agg (ks n)]) 45 Tryz.func29 rfl Tryz.ntmps29 rfl (fun a W H=>?_)
 refine wp_seq_k (fun K1 hK1=>?_)
 refine aE ?_
 refine bP rfl rfl (dG n) rfl rfl rfl rfl H ?_
 clear H a W
 intro g1 a W H
 refine bC (aN rfl lU) rfl rfl rfl rfl H ?_
 clear H a W
 intro g2 a W H
 refine aD (aM rfl rfl) rfl rfl rfl rfl H ?_
 clear H a W
 intro a W H
 refine aH ?_
 replace H:St 45 w a W [(3,.bool false),(2,pA g2),(1,pA g1)] [(g2,58,#[.int .u64 0,.int .u64 0,.int .u64 0,.int .u64 0,.int .u64 0,.int .u64 0,.int .u64 0,.int .u64 0,.int .u64 0,.int .u64 0,.int .u64 0,.int .u64 0,.int .u64 0,.int .u64 0,.int .u64 0,.int .u64 0]),(g1,23,ks n)]:=H.pick [0,1,2] [0,1] rfl
 refine hK1 _ _ ?_
 clear hK1
 refine wp_seq_k (fun K2 hK2=>?_)
 refine aE ?_
 refine aD (bV rfl rfl rfl (mI _)) rfl rfl rfl rfl H ?_
 clear H a W
 intro a W H
 refine aD (aT (v:=.int .u8 ((x:Nat):Int)) rfl rfl (k:=1) rfl (uA hx)) rfl rfl rfl rfl H ?_
 clear H a W
 intro a W H
 refine aD (aQ rfl rfl rfl (b_and128 hx1 hy _ _)) rfl rfl rfl rfl H ?_
 clear H a W
 intro a W H
 refine aD (aQ rfl rfl rfl (b_neq0 hod _ _)) rfl rfl rfl rfl H ?_
 clear H a W
 intro a W H
 refine aD (aM rfl rfl) rfl rfl rfl rfl H ?_
 clear H a W
 intro a W H
 refine aH ?_
 replace H:St 45 w a W [(4,.bool od),(3,.bool false),(2,pA g2),(1,pA g1)] [(g2,58,#[.int .u64 0,.int .u64 0,.int .u64 0,.int .u64 0,.int .u64 0,.int .u64 0,.int .u64 0,.int .u64 0,.int .u64 0,.int .u64 0,.int .u64 0,.int .u64 0,.int .u64 0,.int .u64 0,.int .u64 0,.int .u64 0]),(g1,23,ks n)]:=H.pick [0,5,6,7] [0,1] rfl
 refine hK2 _ _ ?_
 clear hK2
 refine wp_seq_k (fun K3 hK3=>?_)
 refine aE ?_
 refine aD (bV rfl rfl rfl (mI _)) rfl rfl rfl rfl H ?_
 clear H a W
 intro a W H
 refine aD (aT (v:=.int .u8 ((x:Nat):Int)) rfl rfl (k:=1) rfl (uA hx)) rfl rfl rfl rfl H ?_
 clear H a W
 intro a W H
 refine aD (aQ rfl rfl rfl (b_andNot128 hx1 hv _ _)) rfl rfl rfl rfl H ?_
 clear H a W
 intro a W H
 refine aD (bV rfl rfl rfl (mI _)) rfl rfl rfl rfl H ?_
 clear H a W
 intro a W H
 refine fY rfl rfl rfl (k:=1) rfl st_key31 (sv_key31 hv1 hput) rfl rfl H ?_
 clear H a W
 intro a W H
 refine aH ?_
 replace H:St 45 w a W [(4,.bool od),(3,.bool false),(2,pA g2),(1,pA g1)] [(g2,58,#[.int .u64 0,.int .u64 0,.int .u64 0,.int .u64 0,.int .u64 0,.int .u64 0,.int .u64 0,.int .u64 0,.int .u64 0,.int .u64 0,.int .u64 0,.int .u64 0,.int .u64 0,.int .u64 0,.int .u64 0,.int .u64 0]),(g1,23,ks m)]:=H.pick [4,5,6,7] [0,1] rfl
 refine hK3 _ _ ?_
 clear hK3
 refine wp_seq_k (fun K4 hK4=>?_)
 refine wp_seq_k (fun K5 hK5=>?_)
 refine aE ?_
 refine aD (aC rfl rfl (k:=1) rfl Tryz.underlying23 rfl (aL _)) rfl rfl rfl rfl H ?_
 clear H a W
 intro a W H
 refine aD (aF rfl ⟨_,Tryz.func61,by kernel_rfl⟩ rfl (fun W hb=>canonB hc W (hpg.ext hb) hm1)) rfl rfl rfl rfl H ?_
 clear H a W
 intro a W H
 refine aD (cX rfl rfl (fun _=>rfl)) rfl rfl rfl rfl H ?_
 clear H a W
 intro a W H
 refine aH ?_
 replace H:St 45 w a W [(18,.bool (!bc)),(4,.bool od),(3,.bool false),(2,pA g2),(1,pA g1)] [(g2,58,#[.int .u64 0,.int .u64 0,.int .u64 0,.int .u64 0,.int .u64 0,.int .u64 0,.int .u64 0,.int .u64 0,.int .u64 0,.int .u64 0,.int .u64 0,.int .u64 0,.int .u64 0,.int .u64 0,.int .u64 0,.int .u64 0]),(g1,23,ks m)]:=H.pick [0,3,4,5,6] [0,1] rfl
 refine hK5 _ _ ?_
 clear hK5
 cases bc with
 | true =>
  refine wp_cond_false (H.ev rfl) ?_
  refine wp_skip ?_
  refine hK4 _ _ ?_
  clear hK4
  refine wp_seq_k (fun K6 hK6=>?_)
  refine aE ?_
  refine aD (aC rfl rfl (k:=1) rfl Tryz.underlying23 rfl (aL _)) rfl rfl rfl rfl H ?_
  clear H a W
  intro a W H
  refine aD (aF rfl ⟨_,Tryz.func62,by kernel_rfl⟩ rfl (fun W hb=>ofR hyy W (hpg.ext hb) hm1)) rfl rfl rfl rfl H ?_
  clear H a W
  intro a W H
  refine bC (aN rfl cR) rfl rfl rfl rfl H ?_
  clear H a W
  intro g3 a W H
  refine aO rfl rfl rfl (k:=0) rfl (aV _) (by simp only [aX,aU,aG,bY]<;>rfl) (cP _) rfl rfl H ?_
  clear H a W
  intro a W H
  refine aH ?_
  replace H:St 45 w a W [(5,pA g3),(4,.bool od),(3,.bool false),(2,pA g2)] [(g3,56,ev yy),(g2,58,#[.int .u64 0,.int .u64 0,.int .u64 0,.int .u64 0,.int .u64 0,.int .u64 0,.int .u64 0,.int .u64 0,.int .u64 0,.int .u64 0,.int .u64 0,.int .u64 0,.int .u64 0,.int .u64 0,.int .u64 0,.int .u64 0])]:=H.pick [0,4,5,6] [0,1] rfl
  refine hK6 _ _ ?_
  clear hK6
  refine wp_seq_k (fun K7 hK7=>?_)
  refine drawnS [.val 23 (.agg (ev yy)) [] [0],.val 24 (.agg (ev TD)) [] [],.val 25 (.tuple #[.agg (ev r),.bool bo]) [0,1] [],.val 22 (.tuple #[.agg (ev r),.bool bo]) [2] [],.val 26 (.agg (ev r)) [3] [],.val 27 (.bool bo) [3] [],.new 6 56 (#[.int .u64 0,.int .u64 0,.int .u64 0,.int .u64 0]),.ston 6 6 56 (#[.int .u64 0,.int .u64 0,.int .u64 0,.int .u64 0]) (ev r) [4],.val 7 (.bool bo) [5] []] [0,0,3,4,8,8,0,95,255] (by kernel_rfl) (by kernel_rfl) (by kernel_rfl) H ⟨⟨aC rfl rfl (k:=0) rfl Tryz.underlying56 rfl (aV _),aA rfl⟩,⟨aF rfl ⟨_,Tryz.func64,by kernel_rfl⟩ rfl (fun W hb=>oP W (hpg.ext hb)),aA rfl⟩,⟨aF rfl ⟨_,Tryz.func63,by kernel_rfl⟩ rfl (fun W hb=>evenX_any hr W (hpg.ext hb)),aA rfl⟩,⟨aK rfl rfl,aA rfl⟩,⟨bF rfl rfl (fun _=>rfl),aA rfl⟩,⟨bF rfl rfl (fun _=>rfl),aA rfl⟩,⟨aN rfl cR,rfl⟩,⟨rfl,rfl,fun g=>bQ rfl rfl rfl (aV _) (by simp only [aX,aU,aG,bY]<;>rfl) (cP _)⟩,⟨aM rfl rfl,aA rfl⟩,trivial⟩ ?_
  clear H a W
  intro G4 a W H
  replace H:St 45 w a W [(6,pA (G4 6)),(7,.bool bo),(5,pA g3),(4,.bool od),(3,.bool false),(2,pA g2)] [((G4 6),56,ev r),(g3,56,ev yy),(g2,58,#[.int .u64 0,.int .u64 0,.int .u64 0,.int .u64 0,.int .u64 0,.int .u64 0,.int .u64 0,.int .u64 0,.int .u64 0,.int .u64 0,.int .u64 0,.int .u64 0,.int .u64 0,.int .u64 0,.int .u64 0,.int .u64 0])]:=H.pick [6,7,8,9,10,11] [0,1,2] rfl
  cases bo with
  | true =>
   cases od with
   | true =>
    refine hK7 _ _ ?_
    clear hK7
    refine wp_seq_k (fun K8 hK8=>?_)
    refine wp_seq_k (fun K9 hK9=>?_)
    refine aE ?_
    refine aD (aK rfl rfl) rfl rfl rfl rfl H ?_
    clear H a W
    intro a W H
    refine aD (cX rfl rfl (fun _=>rfl)) rfl rfl rfl rfl H ?_
    clear H a W
    intro a W H
    refine aD (aK rfl rfl) rfl rfl rfl rfl H ?_
    clear H a W
    intro a W H
    refine cV (aK rfl rfl) (aJ rfl rfl rfl rfl rfl) rfl rfl rfl H ?_
    clear H a W
    intro a W H
    refine cV (aK rfl rfl) (aJ rfl rfl rfl rfl rfl) rfl rfl rfl H ?_
    clear H a W
    intro a W H
    refine cV (aC rfl rfl (k:=0) rfl Tryz.underlying56 rfl (aV _)) (aJ rfl rfl rfl rfl rfl) rfl rfl rfl H ?_
    clear H a W
    intro a W H
    refine cV (aF rfl ⟨_,Tryz.func65,by kernel_rfl⟩ rfl (fun W hb=>oB hz W (hpg.ext hb))) (aJ rfl rfl rfl rfl rfl) rfl rfl rfl H ?_
    clear H a W
    intro a W H
    refine cV (cH rfl rfl (fun _=>rfl) (fun hb=>by cases hb)) (aJ rfl rfl rfl rfl rfl) rfl rfl rfl H ?_
    clear H a W
    intro a W H
    refine aD (cH rfl rfl (fun hb=>by cases hb) (fun _=>rfl)) rfl rfl rfl rfl H ?_
    clear H a W
    intro a W H
    refine aH ?_
    replace H:St 45 w a W [(36,.bool bz),(6,pA (G4 6)),(5,pA g3),(4,.bool true),(3,.bool false),(2,pA g2)] [((G4 6),56,ev r),(g3,56,ev yy),(g2,58,#[.int .u64 0,.int .u64 0,.int .u64 0,.int .u64 0,.int .u64 0,.int .u64 0,.int .u64 0,.int .u64 0,.int .u64 0,.int .u64 0,.int .u64 0,.int .u64 0,.int .u64 0,.int .u64 0,.int .u64 0,.int .u64 0])]:=H.pick [0,9,11,12,13,14] [0,1,2] rfl
    refine hK9 _ _ ?_
    clear hK9
    cases bz with
    | true =>
     refine wp_cond_true (H.ev rfl) ?_
     refine wp_seq_k (fun K10 hK10=>?_)
     refine aE ?_
     refine aD (cD (ps:=[]) rfl rfl bd_pt0) rfl rfl rfl rfl H ?_
     clear H a W
     intro a W H
     refine aO rfl rfl rfl (k:=2) rfl (bX _) (by simp only [aX,aU,aG,bY]<;>rfl) (dY _) rfl rfl H ?_
     clear H a W
     intro a W H
     replace H:St 45 w a W [(37,.agg (sv PZ)),(36,.bool true),(6,pA (G4 6)),(5,pA g3),(4,.bool true),(2,pA g2)] [((G4 6),56,ev r),(g3,56,ev yy),(g2,58,sv PZ)]:=H.pick [0,1,2,3,4,6] [0,1,2] rfl
     refine aD (aM rfl rfl) rfl rfl rfl rfl H ?_
     clear H a W
     intro a W H
     refine aH ?_
     replace H:St 45 w a W [(3,.bool false),(6,pA (G4 6)),(5,pA g3),(4,.bool true),(2,pA g2)] [((G4 6),56,ev r),(g3,56,ev yy),(g2,58,sv PZ)]:=H.pick [0,3,4,5,6] [0,1,2] rfl
     refine hK10 _ _ ?_
     clear hK10
     refine wp_ret ?_
     repeat (first | (with_reducible refine bD ?_) | (with_reducible refine bI ?_))
     refine bW (p:=2) (q:=3) rfl rfl rfl (k:=2) rfl Tryz.underlying58 rfl (bX _) H (fun hb=>?_)
     have e:b=false:=by rw [←hb0,pM (hcc) hbo hd hz'];rfl
     subst e
     rw [Bool.cond_false] at hz0
     exact ⟨by rw [hz0],hb⟩
    | false =>
     refine wp_cond_false (H.ev rfl) ?_
     refine wp_skip ?_
     refine hK8 _ _ ?_
     clear hK8
     refine wp_seq_k (fun K11 hK11=>?_)
     replace H:St 45 w a W [(36,.bool false),(6,pA (G4 6)),(5,pA g3),(4,.bool true),(2,pA g2)] [((G4 6),56,ev r),(g3,56,ev yy),(g2,58,#[.int .u64 0,.int .u64 0,.int .u64 0,.int .u64 0,.int .u64 0,.int .u64 0,.int .u64 0,.int .u64 0,.int .u64 0,.int .u64 0,.int .u64 0,.int .u64 0,.int .u64 0,.int .u64 0,.int .u64 0,.int .u64 0])]:=H.pick [0,1,2,3,5] [0,1,2] rfl
     refine drawnS [.val 38 (.agg (ev r)) [] [0],.val 39 (.agg (ev r)) [] [0],.val 40 (.agg (ev z1)) [1] [],.val 41 (.bool true) [] [],.val 42 (.agg (ev xstrue)) [0,2,3] [],.val 43 (.agg (ev yy)) [] [1],.val 44 (.agg (sv qxstrue)) [4,5] [],.sto 2 g2 58 (#[.int .u64 0,.int .u64 0,.int .u64 0,.int .u64 0,.int .u64 0,.int .u64 0,.int .u64 0,.int .u64 0,.int .u64 0,.int .u64 0,.int .u64 0,.int .u64 0,.int .u64 0,.int .u64 0,.int .u64 0,.int .u64 0]) (sv qxstrue) [6],.val 3 (.bool true) [] []] [0,0,2,0,13,0,48,127,255] (by kernel_rfl) (by kernel_rfl) (by kernel_rfl) H ⟨⟨aC rfl rfl (k:=0) rfl Tryz.underlying56 rfl (aV _),aA rfl⟩,⟨aC rfl rfl (k:=0) rfl Tryz.underlying56 rfl (aV _),aA rfl⟩,⟨aF rfl ⟨_,Tryz.func68,by kernel_rfl⟩ rfl (fun W hb=>negP hz1 W (hpg.ext hb)),aA rfl⟩,⟨aK rfl rfl,aA rfl⟩,⟨aF rfl ⟨_,Tryz.func67,by kernel_rfl⟩ rfl (fun W hb=>selB hxstrue W),aA rfl⟩,⟨aC rfl rfl (k:=0) rfl Tryz.underlying56 rfl (aV _),aA rfl⟩,⟨aF rfl ⟨_,Tryz.func66,by kernel_rfl⟩ rfl (fun W hb=>jG hqxstrue W (hpg.ext hb)),aA rfl⟩,⟨rfl,rfl,bQ rfl rfl rfl (bX _) (by simp only [aX,aU,aG,bY]<;>rfl) (dY _)⟩,⟨aM rfl rfl,aA rfl⟩,trivial⟩ ?_
     clear H a W
     intro G5 a W H
     replace H:St 45 w a W [(3,.bool true),(2,pA g2)] [(g2,58,sv qxstrue)]:=H.pick [7,12] [2] rfl
     refine hK11 _ _ ?_
     clear hK11
     refine wp_ret ?_
     repeat (first | (with_reducible refine bD ?_) | (with_reducible refine bI ?_))
     refine bW (p:=2) (q:=3) rfl rfl rfl (k:=0) rfl Tryz.underlying58 rfl (bX _) H (fun hb=>?_)
     have e:b=true:=by rw [←hb0,pM (hcc) hbo hd hz'];rfl
     subst e
     rw [Bool.cond_true] at hz0
     have hxr:ptX n=xstrue:=by unfold ptX;rw [if_pos (of_decide_eq_true hd),hxstrue,Bool.cond_true,hz1,hr']
     exact ⟨by rw [hz0,hqxstrue,←hxr,hyy,hof],hb⟩
   | false =>
    refine hK7 _ _ ?_
    clear hK7
    refine wp_seq_k (fun K12 hK12=>?_)
    refine wp_seq_k (fun K13 hK13=>?_)
    refine aE ?_
    refine aD (aK rfl rfl) rfl rfl rfl rfl H ?_
    clear H a W
    intro a W H
    refine aD (cX rfl rfl (fun _=>rfl)) rfl rfl rfl rfl H ?_
    clear H a W
    intro a W H
    refine aD (aK rfl rfl) rfl rfl rfl rfl H ?_
    clear H a W
    intro a W H
    refine cV (aK rfl rfl) (aJ rfl rfl rfl rfl rfl) rfl rfl rfl H ?_
    clear H a W
    intro a W H
    refine cV (aK rfl rfl) (aJ rfl rfl rfl rfl rfl) rfl rfl rfl H ?_
    clear H a W
    intro a W H
    refine dE (aJ rfl rfl rfl rfl rfl) rfl rfl rfl H ?_
    clear H a W
    intro a W H
    refine dE (aJ rfl rfl rfl rfl rfl) rfl rfl rfl H ?_
    clear H a W
    intro a W H
    refine cV (cH rfl rfl (fun hb=>by cases hb) (fun _=>rfl)) (aJ rfl rfl rfl rfl rfl) rfl rfl rfl H ?_
    clear H a W
    intro a W H
    refine aD (cH rfl rfl (fun hb=>by cases hb) (fun _=>rfl)) rfl rfl rfl rfl H ?_
    clear H a W
    intro a W H
    refine aH ?_
    replace H:St 45 w a W [(36,.bool false),(6,pA (G4 6)),(5,pA g3),(4,.bool false),(3,.bool false),(2,pA g2)] [((G4 6),56,ev r),(g3,56,ev yy),(g2,58,#[.int .u64 0,.int .u64 0,.int .u64 0,.int .u64 0,.int .u64 0,.int .u64 0,.int .u64 0,.int .u64 0,.int .u64 0,.int .u64 0,.int .u64 0,.int .u64 0,.int .u64 0,.int .u64 0,.int .u64 0,.int .u64 0])]:=H.pick [0,9,11,12,13,14] [0,1,2] rfl
    refine hK13 _ _ ?_
    clear hK13
    refine wp_cond_false (H.ev rfl) ?_
    refine wp_skip ?_
    refine hK12 _ _ ?_
    clear hK12
    refine wp_seq_k (fun K14 hK14=>?_)
    replace H:St 45 w a W [(36,.bool false),(6,pA (G4 6)),(5,pA g3),(4,.bool false),(2,pA g2)] [((G4 6),56,ev r),(g3,56,ev yy),(g2,58,#[.int .u64 0,.int .u64 0,.int .u64 0,.int .u64 0,.int .u64 0,.int .u64 0,.int .u64 0,.int .u64 0,.int .u64 0,.int .u64 0,.int .u64 0,.int .u64 0,.int .u64 0,.int .u64 0,.int .u64 0,.int .u64 0])]:=H.pick [0,1,2,3,5] [0,1,2] rfl
    refine drawnS [.val 38 (.agg (ev r)) [] [0],.val 39 (.agg (ev r)) [] [0],.val 40 (.agg (ev z2)) [1] [],.val 41 (.bool false) [] [],.val 42 (.agg (ev xsfalse)) [0,2,3] [],.val 43 (.agg (ev yy)) [] [1],.val 44 (.agg (sv qxsfalse)) [4,5] [],.sto 2 g2 58 (#[.int .u64 0,.int .u64 0,.int .u64 0,.int .u64 0,.int .u64 0,.int .u64 0,.int .u64 0,.int .u64 0,.int .u64 0,.int .u64 0,.int .u64 0,.int .u64 0,.int .u64 0,.int .u64 0,.int .u64 0,.int .u64 0]) (sv qxsfalse) [6],.val 3 (.bool true) [] []] [0,0,2,0,13,0,48,127,255] (by kernel_rfl) (by kernel_rfl) (by kernel_rfl) H ⟨⟨aC rfl rfl (k:=0) rfl Tryz.underlying56 rfl (aV _),aA rfl⟩,⟨aC rfl rfl (k:=0) rfl Tryz.underlying56 rfl (aV _),aA rfl⟩,⟨aF rfl ⟨_,Tryz.func68,by kernel_rfl⟩ rfl (fun W hb=>negP hz2 W (hpg.ext hb)),aA rfl⟩,⟨aK rfl rfl,aA rfl⟩,⟨aF rfl ⟨_,Tryz.func67,by kernel_rfl⟩ rfl (fun W hb=>selB hxsfalse W),aA rfl⟩,⟨aC rfl rfl (k:=0) rfl Tryz.underlying56 rfl (aV _),aA rfl⟩,⟨aF rfl ⟨_,Tryz.func66,by kernel_rfl⟩ rfl (fun W hb=>jG hqxsfalse W (hpg.ext hb)),aA rfl⟩,⟨rfl,rfl,bQ rfl rfl rfl (bX _) (by simp only [aX,aU,aG,bY]<;>rfl) (dY _)⟩,⟨aM rfl rfl,aA rfl⟩,trivial⟩ ?_
    clear H a W
    intro G6 a W H
    replace H:St 45 w a W [(3,.bool true),(2,pA g2)] [(g2,58,sv qxsfalse)]:=H.pick [7,12] [2] rfl
    refine hK14 _ _ ?_
    clear hK14
    refine wp_ret ?_
    repeat (first | (with_reducible refine bD ?_) | (with_reducible refine bI ?_))
    refine bW (p:=2) (q:=3) rfl rfl rfl (k:=0) rfl Tryz.underlying58 rfl (bX _) H (fun hb=>?_)
    have e:b=true:=by rw [←hb0,pM (hcc) hbo hd hz'];rfl
    subst e
    rw [Bool.cond_true] at hz0
    have hxr:ptX n=xsfalse:=by unfold ptX;rw [if_neg (of_decide_eq_false hd),hxsfalse,Bool.cond_false,hr']
    exact ⟨by rw [hz0,hqxsfalse,←hxr,hyy,hof],hb⟩
  | false =>
   refine hK7 _ _ ?_
   clear hK7
   refine wp_seq_k (fun K15 hK15=>?_)
   refine wp_seq_k (fun K16 hK16=>?_)
   refine aE ?_
   refine aD (aK rfl rfl) rfl rfl rfl rfl H ?_
   clear H a W
   intro a W H
   refine aD (cX rfl rfl (fun _=>rfl)) rfl rfl rfl rfl H ?_
   clear H a W
   intro a W H
   refine aD (aK rfl rfl) rfl rfl rfl rfl H ?_
   clear H a W
   intro a W H
   refine dE (aJ rfl rfl rfl rfl rfl) rfl rfl rfl H ?_
   clear H a W
   intro a W H
   refine dE (aJ rfl rfl rfl rfl rfl) rfl rfl rfl H ?_
   clear H a W
   intro a W H
   refine dE (iO rfl rfl rfl rfl) rfl rfl rfl H ?_
   clear H a W
   intro a W H
   refine dE (iO rfl rfl rfl rfl) rfl rfl rfl H ?_
   clear H a W
   intro a W H
   refine dE (aJ rfl rfl rfl rfl rfl) rfl rfl rfl H ?_
   clear H a W
   intro a W H
   refine aD (cH rfl rfl (fun _=>rfl) (fun hb=>by cases hb)) rfl rfl rfl rfl H ?_
   clear H a W
   intro a W H
   refine aH ?_
   replace H:St 45 w a W [(36,.bool true),(6,pA (G4 6)),(5,pA g3),(4,.bool od),(3,.bool false),(2,pA g2)] [((G4 6),56,ev r),(g3,56,ev yy),(g2,58,#[.int .u64 0,.int .u64 0,.int .u64 0,.int .u64 0,.int .u64 0,.int .u64 0,.int .u64 0,.int .u64 0,.int .u64 0,.int .u64 0,.int .u64 0,.int .u64 0,.int .u64 0,.int .u64 0,.int .u64 0,.int .u64 0])]:=H.pick [0,9,11,12,13,14] [0,1,2] rfl
   refine hK16 _ _ ?_
   clear hK16
   refine wp_cond_true (H.ev rfl) ?_
   refine wp_seq_k (fun K17 hK17=>?_)
   refine aE ?_
   refine aD (cD (ps:=[]) rfl rfl bd_pt0) rfl rfl rfl rfl H ?_
   clear H a W
   intro a W H
   refine aO rfl rfl rfl (k:=2) rfl (bX _) (by simp only [aX,aU,aG,bY]<;>rfl) (dY _) rfl rfl H ?_
   clear H a W
   intro a W H
   replace H:St 45 w a W [(37,.agg (sv PZ)),(36,.bool true),(6,pA (G4 6)),(5,pA g3),(4,.bool od),(2,pA g2)] [((G4 6),56,ev r),(g3,56,ev yy),(g2,58,sv PZ)]:=H.pick [0,1,2,3,4,6] [0,1,2] rfl
   refine aD (aM rfl rfl) rfl rfl rfl rfl H ?_
   clear H a W
   intro a W H
   refine aH ?_
   replace H:St 45 w a W [(3,.bool false),(6,pA (G4 6)),(5,pA g3),(4,.bool od),(2,pA g2)] [((G4 6),56,ev r),(g3,56,ev yy),(g2,58,sv PZ)]:=H.pick [0,3,4,5,6] [0,1,2] rfl
   refine hK17 _ _ ?_
   clear hK17
   refine wp_ret ?_
   repeat (first | (with_reducible refine bD ?_) | (with_reducible refine bI ?_))
   refine bW (p:=2) (q:=3) rfl rfl rfl (k:=2) rfl Tryz.underlying58 rfl (bX _) H (fun hb=>?_)
   have e:b=false:=by rw [←hb0,pM (hcc) hbo hd hz'];rfl
   subst e
   rw [Bool.cond_false] at hz0
   exact ⟨by rw [hz0],hb⟩
 | false =>
  refine wp_cond_true (H.ev rfl) ?_
  refine wp_seq_k (fun K18 hK18=>?_)
  refine aE ?_
  refine aD (cD (ps:=[]) rfl rfl bd_pt0) rfl rfl rfl rfl H ?_
  clear H a W
  intro a W H
  refine aO rfl rfl rfl (k:=0) rfl (bX _) (by simp only [aX,aU,aG,bY]<;>rfl) (dY _) rfl rfl H ?_
  clear H a W
  intro a W H
  replace H:St 45 w a W [(19,.agg (sv PZ)),(18,.bool (!false)),(4,.bool od),(2,pA g2),(1,pA g1)] [(g2,58,sv PZ),(g1,23,ks m)]:=H.pick [0,1,2,4,5] [0,1] rfl
  refine aD (aM rfl rfl) rfl rfl rfl rfl H ?_
  clear H a W
  intro a W H
  refine aH ?_
  replace H:St 45 w a W [(3,.bool false),(4,.bool od),(2,pA g2),(1,pA g1)] [(g2,58,sv PZ),(g1,23,ks m)]:=H.pick [0,3,4,5] [0,1] rfl
  refine hK18 _ _ ?_
  clear hK18
  refine wp_ret ?_
  repeat (first | (with_reducible refine bD ?_) | (with_reducible refine bI ?_))
  refine bW (p:=2) (q:=3) rfl rfl rfl (k:=0) rfl Tryz.underlying58 rfl (bX _) H (fun hb=>?_)
  have e:b=false:=by rw [←hb0,pM (hcc) hbo hd hz'];rfl
  subst e
  rw [Bool.cond_false] at hz0
  exact ⟨by rw [hz0],hb⟩
theorem of_yes {n:Nat} (hn:K256 n) (h:isPt n=true) (w:World) (hpg:PG w):Calls zP 29 #[.agg (ks n)] w (fun rr w'=>rr=.returned (.tuple #[.agg (sv (ptE (ptX n) (ofK n))),.bool true])∧Below w.heap.size w w'):=ofpt_any hn h rfl w hpg
theorem of_no {n:Nat} (hn:K256 n) (h:isPt n=false) (w:World) (hpg:PG w):Calls zP 29 #[.agg (ks n)] w (fun rr w'=>rr=.returned (.tuple #[.agg (sv PZ),.bool false])∧Below w.heap.size w w'):=ofpt_any hn h rfl w hpg
end
section
set_option maxRecDepth 99999
open Go Go.RowKit
structure GL (w:World):Prop where
 pg:PG w
 og:Scl.OG w
 pm:Sha.PM w
theorem GL.ext {w w':World} (h:GL w) (hb:Below w.heap.size w w'):GL w':=⟨h.pg.ext hb,h.og.ext hb,h.pm.ext hb⟩
structure Fit (M:List (List UInt8)):Prop where
 len:M.flatten.length<100000
 num:M.length<1000
theorem sumF {v:Value} {M:List (List UInt8)} {l:List UInt8} {w:World} (hg:GL w) (hv:RF M v w) (hl:M.flatten=l) (h1:l.length<1000000) (h2:M.length<100000):Calls zP 44 #[v] w (fun r W'=>r=.returned (.agg (Scl.ls (hN l)))∧Below w.heap.size w W'):=by
 obtain ⟨A,n,c,rfl,hr⟩:=hv
 have hn:=hr.len
 refine (Sha.sum_any A n c w.heap.size M w hg.pm hr (Nat.le_refl _) (by rw [hl];omega) (by omega)).mono ?_
 rintro r W' ⟨rfl,hb⟩
 rw [hl,hN_row]
 exact ⟨rfl,hb⟩
theorem reduceF {n m:Nat} (hm:m=n%LL') {w:World} (hg:GL w) (hn:n<13407807929942597099574024998205846127479365820592393377723561443721764030073546976801874298166903427690031858186486050853753882811946569946433649006084096):Calls zP 50 #[.agg (Scl.ls n)] w (fun r W'=>r=.returned (.agg (ks m))∧Below w.heap.size w W'):=by
 subst hm
 rw [tX] at hn
 exact Scl.reduce_any n w hg.og hn
theorem clampF {n m:Nat} (hm:m=clampK n) (w:World):Calls zP 45 #[.agg (ks n)] w (fun r W'=>r=.returned (.agg (ks m))∧Below w.heap.size w W'):=by
 subst hm
 exact Scl.clamp_any n w
theorem mulAddF {a b c m:Nat} (hm:m=(a*b+c)%LL') {w:World} (hg:GL w) (ha:K256 a) (hb:K256 b) (hc:K256 c):Calls zP 22 #[.agg (ks a),.agg (ks b),.agg (ks c)] w (fun r W'=>r=.returned (.agg (ks m))∧Below w.heap.size w W'):=by
 subst hm
 exact Scl.mulAdd_key a b c w hg.og ha hb hc
theorem mayF {a:Nat} {b:Bool} (h:decide (a<LL')=b) {w:World} (hg:GL w) (ha:K256 a):Calls zP 30 #[.agg (ks a)] w (fun r W'=>r=.returned (.bool b)∧Below w.heap.size w W'):=by
 subst h
 exact Scl.may_key a w hg.og ha
theorem baseF {n:Nat} {r:L4 PP} (h:r=ptMul BE n 256) {w:World} (hg:GL w):Calls zP 17 #[.agg (ks n)] w (fun rr w'=>rr=.returned (.agg (sv r))∧Below w.heap.size w w'):=base_pt h w hg.pg
theorem rN (s:Nat) (l:List UInt8):sigR s l<115792089237316195423570985008687907853269984665640564039457584007913129639936:=Nat.lt_trans (num_lt _) LL'_lt
theorem rO (r a:Nat) (l:List UInt8):sigH r a l<115792089237316195423570985008687907853269984665640564039457584007913129639936:=Nat.lt_trans (num_lt _) LL'_lt
theorem bZ (W:World):(Instr.alloc 23 true (.tuple #[])).run zP W=.ok (.pointer (some ⟨W.heap.size,0,none⟩)) (W.alloc (.cells (ks 0) 23)):=by kernel_rfl
theorem eZ (W:World):(Instr.alloc 40 true (.tuple #[])).run zP W=.ok (.pointer (some ⟨W.heap.size,0,none⟩)) (W.alloc (.cells (Scl.ls 0) 40)):=by kernel_rfl
theorem jN (n:Nat) (W:World):(Instr.box 40 (.agg (Scl.ls n))).run zP W=.ok (.pointer (some ⟨W.heap.size,0,none⟩)) (W.alloc (.cells (Scl.ls n) 40)):=by kernel_rfl
theorem cG (n:Nat):(zP.info? 40).map (·.size)=some (Scl.ls n).size:=by rw [Scl.bE];kernel_rfl
theorem bE (n:Nat):(Scl.ls n).size=64:=Scl.bE n
theorem fB:(zP.info? 5).map (·.size)=some 1:=by kernel_rfl
theorem eB (g:Nat) (W:World):(Instr.sliceAt 23 (.pointer (some ⟨g,0,none⟩)) none none none).run zP W=.ok (.slice (some ⟨g,0,none⟩) 32 32) W:=by kernel_rfl
theorem sl_long (g:Nat) (W:World):(Instr.sliceAt 40 (.pointer (some ⟨g,0,none⟩)) none none none).run zP W=.ok (.slice (some ⟨g,0,none⟩) 64 64) W:=by kernel_rfl
theorem sl_lo (g:Nat) (W:World):(Instr.sliceAt 40 (.pointer (some ⟨g,0,none⟩)) none (some (.int .i64 32)) none).run zP W=.ok (.slice (some ⟨g,0,none⟩) 32 64) W:=by kernel_rfl
theorem vW (g:Nat) (W:World):(Instr.sliceAt 40 (.pointer (some ⟨g,0,none⟩)) (some (.int .i64 32)) none none).run zP W=.ok (.slice (some ⟨g,32,none⟩) 32 32) W:=by kernel_rfl
theorem join1 {a:Nat} (ha:K256 a):spliceA (Scl.ls 0) 0 (((ks a).toList.drop 0).take 32)=Scl.ls a:=by
 rw [xZ 0 a ha,Nat.zero_div,Nat.mul_zero,Nat.add_zero]
theorem join2 {a b:Nat} (ha:K256 a):spliceA (Scl.ls a) 32 (((ks b).toList.drop 0).take 32)=Scl.ls (a+115792089237316195423570985008687907853269984665640564039457584007913129639936*b):=by
 rw [vF a b,Nat.mod_eq_of_lt ha]
theorem seq_key {m n:Nat} {b:Bool} (hm:K256 m) (hn:K256 n) (h:decide (m=n)=b) (p q:Operand) (W:World):(do eqGuard .eql 23 p q (.agg (ks m)) (.agg (ks n));binOp .eql 23 (.agg (ks m)) (.agg (ks n)):Sem Value).run zP W=.ok (.bool b) W:=by
 have hq:=keys_eq hm hn h W
 go_simp
theorem sne_key {m n:Nat} {b:Bool} (hm:K256 m) (hn:K256 n) (h:decide (m=n)=b) (p q:Operand) (W:World):(do eqGuard .neq 23 p q (.agg (ks m)) (.agg (ks n));binOp .neq 23 (.agg (ks m)) (.agg (ks n)):Sem Value).run zP W=.ok (.bool (!b)) W:=by
 have hq:=keys_eq hm hn h W
 go_simp
theorem lb_inj {m n:Nat} (hm:m<13407807929942597099574024998205846127479365820592393377723561443721764030073546976801874298166903427690031858186486050853753882811946569946433649006084096) (hn:n<13407807929942597099574024998205846127479365820592393377723561443721764030073546976801874298166903427690031858186486050853753882811946569946433649006084096) (h:Scl.lb m=Scl.lb n):m=n:=by
 have h1:=kb_inj (lo_lt m) (lo_lt n) (by rw [kb_lo,kb_lo,h])
 have h2:=kb_inj (uE hm) (uE hn) (by rw [wU,wU,h])
 rw [vT m,vT n,h1,h2]
theorem longs_eq {m n:Nat} {b:Bool} (hm:m<13407807929942597099574024998205846127479365820592393377723561443721764030073546976801874298166903427690031858186486050853753882811946569946433649006084096) (hn:n<13407807929942597099574024998205846127479365820592393377723561443721764030073546976801874298166903427690031858186486050853753882811946569946433649006084096) (h:decide (m=n)=b) (W:World):(Op.equalIn 10000 40 (.agg (Scl.ls m)) (.agg (Scl.ls n))).run zP W=.ok b W:=by
 have h2:=eD (P:=zP) W 9998 40 5 64 .u8 Tryz.underlying40 Tryz.underlying5 size_u8' (Scl.lb m) (Scl.lb n) (Scl.kW m) (Scl.kW n)
 have e:(Scl.lb m == Scl.lb n)=b:=by
  rw [←h,Bool.eq_iff_iff]
  simp only [beq_iff_eq,decide_eq_true_eq]
  exact ⟨fun h=>lb_inj hm hn h,fun h=>by rw [h]⟩
 rw [e] at h2
 exact h2
theorem seq_long {m n:Nat} {b:Bool} (hm:m<13407807929942597099574024998205846127479365820592393377723561443721764030073546976801874298166903427690031858186486050853753882811946569946433649006084096) (hn:n<13407807929942597099574024998205846127479365820592393377723561443721764030073546976801874298166903427690031858186486050853753882811946569946433649006084096) (h:decide (m=n)=b) (p q:Operand) (W:World):(do eqGuard .eql 40 p q (.agg (Scl.ls m)) (.agg (Scl.ls n));binOp .eql 40 (.agg (Scl.ls m)) (.agg (Scl.ls n)):Sem Value).run zP W=.ok (.bool b) W:=by
 have hq:=longs_eq hm hn h W
 go_simp
theorem sne_long {m n:Nat} {b:Bool} (hm:m<13407807929942597099574024998205846127479365820592393377723561443721764030073546976801874298166903427690031858186486050853753882811946569946433649006084096) (hn:n<13407807929942597099574024998205846127479365820592393377723561443721764030073546976801874298166903427690031858186486050853753882811946569946433649006084096) (h:decide (m=n)=b) (p q:Operand) (W:World):(do eqGuard .neq 40 p q (.agg (Scl.ls m)) (.agg (Scl.ls n));binOp .neq 40 (.agg (Scl.ls m)) (.agg (Scl.ls n)):Sem Value).run zP W=.ok (.bool (!b)) W:=by
 have hq:=longs_eq hm hn h W
 go_simp
def er (b:Bool):Int:=bif b then 0 else 8
theorem er_f:er false=8:=rfl
theorem er_t:er true=0:=rfl
theorem qV (b:Bool) (p q:Operand) (W:World):(do eqGuard .eql 44 p q (.int .i64 (er b)) (.int .i64 0);binOp .eql 44 (.int .i64 (er b)) (.int .i64 0):Sem Value).run zP W=.ok (.bool b) W:=by
 cases b<;>kernel_rfl
theorem er_ne0 (b:Bool) (p q:Operand) (W:World):(do eqGuard .neq 44 p q (.int .i64 (er b)) (.int .i64 0);binOp .neq 44 (.int .i64 (er b)) (.int .i64 0):Sem Value).run zP W=.ok (.bool (!b)) W:=by
 cases b<;>kernel_rfl
theorem er_eq8 (b:Bool) (p q:Operand) (W:World):(do eqGuard .eql 44 p q (.int .i64 (er b)) (.int .i64 8);binOp .eql 44 (.int .i64 (er b)) (.int .i64 8):Sem Value).run zP W=.ok (.bool (!b)) W:=by
 cases b<;>kernel_rfl
theorem seq_bool (b:Bool) (p q:Operand) (W:World):(do eqGuard .eql 4 p q (.bool b) (.bool b);binOp .eql 4 (.bool b) (.bool b):Sem Value).run zP W=.ok (.bool true) W:=by
 cases b<;>go_simp
theorem gt_no {k c:Nat} (h:k≤c) (p q:Operand) (W:World):(do eqGuard .gtr 3 p q (.int .i64 (k:Int)) (.int .i64 (c:Int));binOp .gtr 3 (.int .i64 (k:Int)) (.int .i64 (c:Int)):Sem Value).run zP W=.ok (.bool false) W:=by
 have e:decide ((k:Int)>(c:Int))=false:=decide_eq_false (by omega)
 go_simp
theorem gt_yes {k c:Nat} (h:c<k) (p q:Operand) (W:World):(do eqGuard .gtr 3 p q (.int .i64 (k:Int)) (.int .i64 (c:Int));binOp .gtr 3 (.int .i64 (k:Int)) (.int .i64 (c:Int)):Sem Value).run zP W=.ok (.bool true) W:=by
 have e:decide ((k:Int)>(c:Int))=true:=decide_eq_true (by omega)
 go_simp
theorem bd_key5 (W:World):(Instr.build 23 [(0,.int .u8 5)].toArray).run zP W=.ok (.agg (ks 5)) W:=by kernel_rfl
end
section
set_option maxRecDepth 99999
open Go.ChangeShapes Go.WideShapes Go.ChangeAt Go.RowKit Go.Deep
theorem own:ownKnob zP.godebug=none:=by kernel_rfl
theorem laidOut:laidOutB zP=true:=by kernel_rfl
def numL:List Nat→Nat
 | []=>0
 | b::r=>b+256*numL r
theorem tS:∀ (l:List Nat),(∀ b∈l,b<256)→∀ i,i<l.length→some (numL l/256^i%256)=l[i]?
 | [],_,i,h=>absurd h (by simp)
 | b::r,hl,0,_=>by
  have hb:=hl b (by simp)
  simp [numL]
  omega
 | b::r,hl,i+1,h=>by
  have hb:=hl b (by simp)
  have ih:=tS r (fun c hc=>hl c (by simp [hc])) i (by simpa using h)
  have e:(b+256*numL r)/256^(i+1)=numL r/256^i:=by
   rw [Nat.pow_succ',←Nat.div_div_eq_div_mul]
   congr 1
   omega
  show some ((b+256*numL r)/256^(i+1)%256)=(b::r)[i+1]?
  rw [e,ih]
  simp
theorem yS:∀ (l:List Nat),(∀ b∈l,b<256)→numL l<256^l.length
 | [],_=>by simp [numL]
 | b::r,hl=>by
  have hb:=hl b (by simp)
  have ih:=yS r (fun c hc=>hl c (by simp [hc]))
  rw [List.length_cons,Nat.pow_succ]
  unfold numL
  omega
theorem kb_numL {l:List Nat} (h:l.length=32) (hl:∀ b∈l,b<256):kb (numL l)=l:=by
 apply List.ext_getElem?
 intro i
 by_cases hi:i<32
 ·
  rw [fQ _ hi,tS l hl i (by omega)]
 ·
  rw [List.getElem?_eq_none (by rw [dP];omega),List.getElem?_eq_none (by omega)]
section
variable {H:Type} {enc:TypeId × Value→H}
theorem cells_key:zP.cellsOf 23=32:=by kernel_rfl
theorem cells_u8:zP.cellsOf 5=1:=by kernel_rfl
def natOf:Value→Nat
 | .int _ n=>n.toNat
 | _=>0
theorem key_open {W:World} {base:Nat} {v:Value} {d:DataW H} {p:List MemPlace} (hv:Value.okWide zP W .any base 23 v) (h:DataW.Trod enc zP W 0 (fun _=>true) true 23 v d p) :
  ∃ n,v=.agg (ks n)∧K256 n:=by
 obtain ⟨cs,rfl,hsz,_⟩:∃ cs,v=.agg cs∧cs.size=zP.cellsOf 23∧Row.okWide zP W .any base 23 cs:=by
  simpa [Value.okWide,Tryz.underlying23] using hv
 rw [cells_key] at hsz
 obtain ⟨fuel,hf⟩:=h
 obtain ⟨xs,m,rfl,hx,hlen,hn,hel⟩:=DataW.trod_array Tryz.underlying23 hf
 obtain ⟨l⟩:=cs
 have hl32:l.length=32:=by simpa using hsz
 have hcell:∀ i,i<32→∃ b:Nat,l[i]?=some (.int .u8 (b:Int))∧b<256:=by
  intro i hi
  have h1:=hel i hi
  rw [cells_u8,Nat.mul_one] at h1
  have hxi:xs[i]?=some xs[i]:=List.getElem?_eq_getElem (by omega)
  rw [hxi] at h1
  obtain ⟨k,e1,e2,e3⟩:=DataW.trod_int Tryz.underlying5 h1
  have hli:l[i]?=some l[i]:=List.getElem?_eq_getElem (by omega)
  have hd:(l.drop i).take 1=[l[i]]:=by
   rw [List.drop_eq_getElem_cons (by omega)]
   rfl
  have hv:l[i]=.int .u8 k:=by
   have:(l.drop i).take 1=[.int .u8 k]:=e1
   rw [hd] at this
   simpa using this
  have hk:0≤k∧k<256:=by
   have:=e3
   simp [Lit.wf,IntKind.min,IntKind.max,IntKind.signed,IntKind.bits] at this
   omega
  obtain ⟨b,rfl⟩:=Int.eq_ofNat_of_zero_le hk.1
  exact ⟨b,by rw [hli,hv],by omega⟩
 have hmap:l=(l.map natOf).map (nc .u8):=by
  apply List.ext_getElem?
  intro i
  by_cases hi:i<32
  ·
   obtain ⟨b,hb,_⟩:=hcell i hi
   rw [List.getElem?_map,List.getElem?_map,hb]
   rfl
  ·
   rw [List.getElem?_eq_none (by omega),List.getElem?_eq_none (by simp;omega)]
 have hlt:∀ b∈l.map natOf,b<256:=by
  intro b hb
  obtain ⟨x,hx,rfl⟩:=List.mem_map.1 hb
  obtain ⟨i,hi,rfl⟩:=List.getElem_of_mem hx
  obtain ⟨c,hc,hc2⟩:=hcell i (by omega)
  rw [List.getElem?_eq_getElem hi] at hc
  injection hc with hc
  rw [hc]
  exact hc2
 refine ⟨numL (l.map natOf),?_,?_⟩
 ·
  rw [ks,kb_numL (by simp [hl32]) hlt,ncs,←hmap]
 ·
  have:=yS (l.map natOf) hlt
  rw [List.length_map,hl32] at this
  exact this
end
theorem lb_numL {l:List Nat} (h:l.length=64) (hl:∀ b∈l,b<256):Scl.lb (numL l)=l:=by
 apply List.ext_getElem?
 intro i
 by_cases hi:i<64
 ·
  rw [Scl.qQ _ hi,tS l hl i (by omega)]
 ·
  rw [List.getElem?_eq_none (by rw [Scl.kW];omega),List.getElem?_eq_none (by omega)]
section
variable {H:Type} {enc:TypeId × Value→H}
theorem cells_long:zP.cellsOf 40=64:=by kernel_rfl
theorem long_open {W:World} {base:Nat} {v:Value} {d:DataW H} {p:List MemPlace} (hv:Value.okWide zP W .any base 40 v) (h:DataW.Trod enc zP W 0 (fun _=>true) true 40 v d p) :
  ∃ n,v=.agg (Scl.ls n)∧n<13407807929942597099574024998205846127479365820592393377723561443721764030073546976801874298166903427690031858186486050853753882811946569946433649006084096:=by
 obtain ⟨cs,rfl,hsz,_⟩:∃ cs,v=.agg cs∧cs.size=zP.cellsOf 40∧Row.okWide zP W .any base 40 cs:=by
  simpa [Value.okWide,Tryz.underlying40] using hv
 rw [cells_long] at hsz
 obtain ⟨fuel,hf⟩:=h
 obtain ⟨xs,m,rfl,hx,hlen,hn,hel⟩:=DataW.trod_array Tryz.underlying40 hf
 obtain ⟨l⟩:=cs
 have hl64:l.length=64:=by simpa using hsz
 have hcell:∀ i,i<64→∃ b:Nat,l[i]?=some (.int .u8 (b:Int))∧b<256:=by
  intro i hi
  have h1:=hel i hi
  rw [cells_u8,Nat.mul_one] at h1
  have hxi:xs[i]?=some xs[i]:=List.getElem?_eq_getElem (by omega)
  rw [hxi] at h1
  obtain ⟨k,e1,e2,e3⟩:=DataW.trod_int Tryz.underlying5 h1
  have hli:l[i]?=some l[i]:=List.getElem?_eq_getElem (by omega)
  have hd:(l.drop i).take 1=[l[i]]:=by
   rw [List.drop_eq_getElem_cons (by omega)]
   rfl
  have hv:l[i]=.int .u8 k:=by
   have:(l.drop i).take 1=[.int .u8 k]:=e1
   rw [hd] at this
   simpa using this
  have hk:0≤k∧k<256:=by
   have:=e3
   simp [Lit.wf,IntKind.min,IntKind.max,IntKind.signed,IntKind.bits] at this
   omega
  obtain ⟨b,rfl⟩:=Int.eq_ofNat_of_zero_le hk.1
  exact ⟨b,by rw [hli,hv],by omega⟩
 have hmap:l=(l.map natOf).map (nc .u8):=by
  apply List.ext_getElem?
  intro i
  by_cases hi:i<64
  ·
   obtain ⟨b,hb,_⟩:=hcell i hi
   rw [List.getElem?_map,List.getElem?_map,hb]
   rfl
  ·
   rw [List.getElem?_eq_none (by omega),List.getElem?_eq_none (by simp;omega)]
 have hlt:∀ b∈l.map natOf,b<256:=by
  intro b hb
  obtain ⟨x,hx,rfl⟩:=List.mem_map.1 hb
  obtain ⟨i,hi,rfl⟩:=List.getElem_of_mem hx
  obtain ⟨c,hc,hc2⟩:=hcell i (by omega)
  rw [List.getElem?_eq_getElem hi] at hc
  injection hc with hc
  rw [hc]
  exact hc2
 refine ⟨numL (l.map natOf),?_,?_⟩
 ·
  rw [Scl.ls,lb_numL (by simp [hl64]) hlt,ncs,←hmap]
 ·
  have:=yS (l.map natOf) hlt
  rw [List.length_map,hl64] at this
  exact this
end
theorem u8_ofI {n:Int} (h:(Lit.int .u8 n).wf=true):((UInt8.ofNat n.toNat).toNat:Int)=n:=by
 have:=bounds_u8 h
 have h2:n.toNat<256:=by omega
 rw [UInt8.toNat_ofNat',Nat.mod_eq_of_lt (by simpa using h2)]
 omega
section
variable {H:Type} {enc:TypeId × Value→H} {W:World} {held:Bool}
theorem bs_read {a:Option Addr} {len cap:Nat} {d:DataW H} {p:List MemPlace} (h:DataW.Trod enc zP W 0 (fun _=>true) held 24 (.slice a len cap) d p):∃ l,BS W W.heap.size a len cap l∧len≤maxLen:=by
 obtain ⟨fuel,hf⟩:=h
 rcases open_ints Tryz.underlying24 Tryz.underlying5 (by kernel_rfl) hf with ⟨hcs,_⟩ | ⟨x,l,c,zs,hcs,_,h1,h2,h3,_,h4,h5⟩
 ·
  simp [Value.cells] at hcs
  obtain ⟨rfl,rfl,rfl⟩:=hcs
  exact ⟨[],BS.nil _ _,Nat.zero_le _⟩
 ·
  simp [Value.cells] at hcs
  obtain ⟨rfl,rfl,rfl⟩:=hcs
  have h3:zs.length=cap:=by simpa using h3
  refine ⟨(zs.take len).map fun n=>UInt8.ofNat n.toNat,⟨by simp;omega,h1,by intro e;(cases e),fun hp=>?_⟩,by omega⟩
  obtain ⟨b,o,spot⟩:=x
  have hc0:=h4 0 (by omega)
  have hs:spot=none:=by simpa [Addr.add] using World.cell?_spot hc0
  subst hs
  refine ⟨b,o,rfl,?_,fun j y hy=>?_⟩
  ·
   simpa [Addr.add] using World.block_lt_of_cell? W _ hc0
  ·
   rw [List.getElem?_map,List.getElem?_take] at hy
   split at hy
   ·
    rename_i hj
    have hj':j<zs.length:=by omega
    rw [List.getElem?_eq_getElem hj'] at hy
    simp only [Option.map_some,Option.some.injEq] at hy
    subst hy
    have:=h4 j hj'
    rw [Addr.add_lit] at this
    rw [this,u8_ofI (h5 _ (List.getElem_mem hj'))]
    simp [List.getD,List.getElem?_eq_getElem hj']
   ·
    simp at hy
end
def laidP:List (String × DataW Unit):=[("escutcheon/field.p",Rows.laid_escutcheon_field_p),("escutcheon/scalar.order",Rows.laid_escutcheon_scalar_order),("escutcheon/sha.primes",Rows.laid_escutcheon_sha_primes)]
theorem door_met (os:Os) (args:Array Value):laidMetH zP laidP ((World.doorLaid zP 400 os).forCall (fun _ _=>0) ⟨#[],args,[]⟩).memory :=
 laidMetH_of_parts3 (fuel:=8) (laidMet_of_run' 8 (by kernel_rfl) (by kernel_rfl)) (by kernel_rfl) (by kernel_rfl)
theorem cells_u64:zP.cellsOf 29=1:=by kernel_rfl
def litsOf (L:List Nat):List (DataW Unit):=L.map fun x=>.lit (.int .u64 ((x:Nat):Int))
theorem pZ {W:World} {nm:String} {g:Nat} {t:TypeId} {k fuel:Nat} {cs:Array Value} {L:List Nat} {p:List MemPlace} (hg:zP.globalNamed nm=some g) (hv:W.var? zP nm=some cs) (hu:zP.underlying t=some (.array k 29)) (hc:zP.cellsOf t=k)
  (hd:DataW.trod (fun _=>()) zP W 0 (fun _=>true) false fuel t cs.toList=some (.agg (litsOf L),p)) (hk:k=L.length):∀ i x:Nat,L[i]?=some x→W.cell? ⟨g,i,none⟩=some (.int .u64 (x:Int)):=by
 obtain ⟨xs,m1,rfl,hx1,hlen,hn3,hel⟩:=DataW.trod_array hu hd
 simp only [Prod.mk.injEq,DataW.agg.injEq] at hx1
 intro i x hx
 have hi:i<k:=by rw [hk];exact (List.getElem?_eq_some_iff.1 hx).1
 have h1:=hel i hi
 rw [cells_u64,Nat.mul_one] at h1
 have hxi:xs[i]?=some xs[i]:=List.getElem?_eq_getElem (by omega)
 rw [hxi] at h1
 obtain ⟨z,e1,e2,e3⟩:=DataW.trod_int Tryz.underlying29 h1
 have hl:i<cs.toList.length:=by rw [hlen,hc];omega
 have hd:(cs.toList.drop i).take 1=[cs.toList[i]]:=by
  rw [List.drop_eq_getElem_cons hl]
  rfl
 have h2:cs.toList[i]?=some (.int .u64 z):=by
  have:(cs.toList.drop i).take 1=[.int .u64 z]:=e1
  rw [hd] at this
  rw [List.getElem?_eq_getElem hl]
  simpa using this
 have h3:(xs.map (·.1))[i]?=some (.lit (.int .u64 z)):=by
  rw [List.getElem?_map,hxi]
  simp [e2]
 rw [←hx1.1,litsOf,List.getElem?_map,hx] at h3
 injection h3 with h3
 injection h3 with h3
 injection h3 with h3 h4
 have:=World.var?_cell hg hv i
 rw [this,h4,←h2]
 simp
theorem gP:zP.globalNamed "escutcheon/field.p"=some 1:=by kernel_rfl
theorem gO:zP.globalNamed "escutcheon/scalar.order"=some 0:=by kernel_rfl
theorem gM:zP.globalNamed "escutcheon/sha.primes"=some 2:=by kernel_rfl
theorem tP:(zP.globals[1]?).map (·.type)=some 54:=by kernel_rfl
theorem tO:(zP.globals[0]?).map (·.type)=some 54:=by kernel_rfl
theorem tM:(zP.globals[2]?).map (·.type)=some 126:=by kernel_rfl
theorem cells_w4:zP.cellsOf 54=4:=by kernel_rfl
theorem cells_k80:zP.cellsOf 126=80:=by kernel_rfl
theorem lP:Rows.laid_escutcheon_field_p=.agg (litsOf [18446744073709551597,18446744073709551615,18446744073709551615,9223372036854775807]):=by kernel_rfl
theorem lO:Rows.laid_escutcheon_scalar_order=.agg (litsOf [6346243789798364141,1503914060200516822,0,1152921504606846976]):=by kernel_rfl
theorem lM:Rows.laid_escutcheon_sha_primes=.agg (litsOf Sha.PR):=by kernel_rfl
theorem pg_of_laid {W:World} (h:laidMetH zP laidP W):GL W:=by
 rw [MakeChecks.laidMetH_plain _ _ _ (by kernel_rfl)] at h
 obtain ⟨ps,⟨g0,t0,cs0,f0,p0,q0,hg0,ht0,hv0,hd0,⟨g1,t1,cs1,f1,p1,q1,hg1,ht1,hv1,hd1,⟨g2,t2,cs2,f2,p2,q2,hg2,ht2,hv2,hd2,_,_⟩,_⟩,_⟩,_,_⟩:=h
 obtain rfl:=Option.some.inj (gP.symm.trans hg0)
 obtain rfl:=Option.some.inj (gO.symm.trans hg1)
 obtain rfl:=Option.some.inj (gM.symm.trans hg2)
 obtain rfl:=Option.some.inj (tP.symm.trans ht0)
 obtain rfl:=Option.some.inj (tO.symm.trans ht1)
 obtain rfl:=Option.some.inj (tM.symm.trans ht2)
 rw [lP] at hd0
 rw [lO] at hd1
 rw [lM] at hd2
 have c0:=pZ gP hv0 Tryz.underlying54 cells_w4 hd0 rfl
 have c1:=pZ gO hv1 Tryz.underlying54 cells_w4 hd1 rfl
 have c2:=pZ gM hv2 Tryz.underlying126 cells_k80 hd2 Sha.PR_len.symm
 refine ⟨⟨block_lt_of_cell (c0 0 _ rfl),c0 0 _ rfl,c0 1 _ rfl,c0 2 _ rfl,c0 3 _ rfl⟩,⟨block_lt_of_cell (c1 0 _ rfl),c1 0 _ rfl,c1 1 _ rfl,c1 2 _ rfl,c1 3 _ rfl⟩,⟨block_lt_of_cell (c2 0 _ rfl),fun i hi=>c2 i _ ?_⟩⟩
 simp [List.getD,List.getElem?_eq_getElem (show i<Sha.PR.length by rw [Sha.PR_len];exact hi)]
theorem bf_of_bs {A:Option Addr} {n c:Nat} {l:List UInt8} {w:World} (h:BS w w.heap.size A n c l):BF l (.slice A n c) w:=⟨A,n,c,rfl,h⟩
end
section
set_option maxRecDepth 99999
open Go Go.RowKit
theorem num_def (l:List UInt8):num l=hN l%LL':=rfl
theorem wA (x:Nat):seedA x=clampK (hN (kby x)%115792089237316195423570985008687907853269984665640564039457584007913129639936):=rfl
theorem vZ (x:Nat):seedP x=hN (kby x)/115792089237316195423570985008687907853269984665640564039457584007913129639936:=rfl
theorem sigS_def (x:Nat) (l:List UInt8):sigS x l=(sigH (sigP x l) (pubN x) l*seedA x+sigR x l)%LL':=rfl
theorem vX (x:Nat) (l:List UInt8):signN x l=sigP x l+115792089237316195423570985008687907853269984665640564039457584007913129639936*sigS x l:=rfl
theorem tF (x:Nat):pubN x=pbn (BP.mul (seedA x)):=rfl
theorem sigP_def (x:Nat) (l:List UInt8):sigP x l=pbn (BP.mul (sigR x l)):=rfl
theorem sigR_def (x:Nat) (l:List UInt8):sigR x l=num (kby (seedP x)++l):=rfl
theorem sN (x y:Nat) (l:List UInt8):sigH x y l=num (kby x++(kby y++l)):=rfl
attribute [local irreducible] ev sv ks Scl.ls ptSet ptAdd ptMul ptNeg ptE rootC EE II TD BX BY BE kby num seedA seedP pubN sigR sigP sigH sigS signN checkN clampK pbn BP er
theorem oD (n:Nat) (w:World) (hgl:GL w):Calls zP 28 #[.agg (Scl.ls n)] w (fun rr w'=>rr=.returned (.tuple #[.agg (ks (n%115792089237316195423570985008687907853269984665640564039457584007913129639936)),.agg (ks (n/115792089237316195423570985008687907853269984665640564039457584007913129639936))])∧Below w.heap.size w w'):=by
 refine bN (vs:=[.agg (Scl.ls n)]) 12 Tryz.func28 rfl Tryz.ntmps28 rfl (fun a W H=>?_)
 refine wp_seq_k (fun K1 hK1=>?_)
 refine aE ?_
 refine bP rfl rfl (jN n) rfl rfl rfl rfl H ?_
 try clear H a W
 intro g1 a W H
 refine bC (aN rfl bZ) rfl rfl rfl rfl H ?_
 try clear H a W
 intro g2 a W H
 refine bC (aN rfl bZ) rfl rfl rfl rfl H ?_
 try clear H a W
 intro g3 a W H
 refine aH ?_
 replace H:St 12 w a W [(3,pA g3),(2,pA g2),(1,pA g1)] [(g3,23,ks 0),(g2,23,ks 0),(g1,40,Scl.ls n)]:=H.pick [0,1,2] [0,1,2] rfl
 refine hK1 _ _ ?_
 clear hK1
 refine wp_seq_k (fun K2 hK2=>?_)
 refine drawnR (Grow w.heap.size [(g3,23,ks 0),(g2,23,ks 0),(g1,40,Scl.ls n)]) (Grow w.heap.size [(g3,23,ks 0),(g2,23,ks 0),(g1,40,Scl.ls n)]) [⟨4,fun u_ _=>u_=.slice (some ⟨g2,0,none⟩) 32 32,[],none,false⟩,⟨5,fun u_ _=>u_=.slice (some ⟨g1,0,none⟩) 32 64,[],none,false⟩] [0,0,3] [0,1] fL fL (by kernel_rfl) (by kernel_rfl) (by kernel_rfl) H ⟨⟨fun a W  H=>by exact aI H (aA rfl) (bL rfl rfl (vl:=none) (vh:=none) rfl rfl (eB g2)),aB,fun _=>aB⟩,⟨fun a W  H=>by exact aI H (aA rfl) (bL rfl rfl (vl:=none) (vh:=some (.int .i64 32)) rfl rfl (sl_lo g1)),aB,fun _=>aB⟩,trivial⟩ (by kernel_rfl) ?_
 try clear H a W
 intro a W
 rintro _ rfl
 rintro _ rfl
 intro H
 refine gJ rfl Tryz.underlying24 fB rfl rfl (k:=1) rfl (k2:=2) rfl (m:=32) rfl (by simp only [aG,Scl.bE]<;>omega) (by simp only [aG,Scl.bE]<;>omega) (fD _) (mQ _ _) rfl rfl rfl rfl H ?_
 try clear H a W
 intro a W H
 refine aH ?_
 replace H:St 12 w a W [(3,pA g3),(2,pA g2),(1,pA g1)] [(g3,23,ks 0),(g2,23,ks (n%115792089237316195423570985008687907853269984665640564039457584007913129639936)),(g1,40,Scl.ls n)]:=H.pick [3,4,5] [0,1,2] rfl
 refine hK2 _ _ ?_
 clear hK2
 refine wp_seq_k (fun K3 hK3=>?_)
 refine drawnR (Grow w.heap.size [(g3,23,ks 0),(g2,23,ks (n%115792089237316195423570985008687907853269984665640564039457584007913129639936)),(g1,40,Scl.ls n)]) (Grow w.heap.size [(g3,23,ks 0),(g2,23,ks (n%115792089237316195423570985008687907853269984665640564039457584007913129639936)),(g1,40,Scl.ls n)]) [⟨7,fun u_ _=>u_=.slice (some ⟨g3,0,none⟩) 32 32,[],none,false⟩,⟨8,fun u_ _=>u_=.slice (some ⟨g1,32,none⟩) 32 32,[],none,false⟩] [0,0,3] [0,1] fL fL (by kernel_rfl) (by kernel_rfl) (by kernel_rfl) H ⟨⟨fun a W  H=>by exact aI H (aA rfl) (bL rfl rfl (vl:=none) (vh:=none) rfl rfl (eB g3)),aB,fun _=>aB⟩,⟨fun a W  H=>by exact aI H (aA rfl) (bL rfl rfl (vl:=some (.int .i64 32)) (vh:=none) rfl rfl (vW g1)),aB,fun _=>aB⟩,trivial⟩ (by kernel_rfl) ?_
 try clear H a W
 intro a W
 rintro _ rfl
 rintro _ rfl
 intro H
 refine gJ rfl Tryz.underlying24 fB rfl rfl (k:=0) rfl (k2:=2) rfl (m:=32) rfl (by simp only [aG,Scl.bE]<;>omega) (by simp only [aG,Scl.bE]<;>omega) (fD _) (qG _ _) rfl rfl rfl rfl H ?_
 try clear H a W
 intro a W H
 refine aH ?_
 replace H:St 12 w a W [(3,pA g3),(2,pA g2)] [(g3,23,ks (n/115792089237316195423570985008687907853269984665640564039457584007913129639936)),(g2,23,ks (n%115792089237316195423570985008687907853269984665640564039457584007913129639936))]:=H.pick [3,4] [0,1] rfl
 refine hK3 _ _ ?_
 clear hK3
 refine wp_seq_k (fun K4 hK4=>?_)
 refine aE ?_
 refine aY (F:=fun u_ _=>u_=.agg (ks (n%115792089237316195423570985008687907853269984665640564039457584007913129639936))) (aI H (aA rfl) (aC rfl rfl (k:=1) rfl Tryz.underlying23 rfl (aL _))) rfl rfl rfl H ?_
 try clear H a W
 rintro _ a W rfl H
 refine aY (F:=fun u_ _=>u_=.agg (ks (n/115792089237316195423570985008687907853269984665640564039457584007913129639936))) (aI H (aA rfl) (aC rfl rfl (k:=0) rfl Tryz.underlying23 rfl (aL _))) rfl rfl rfl H ?_
 try clear H a W
 rintro _ a W rfl H
 refine aO rfl rfl rfl (k:=1) rfl (aL _) (by simp only [aX,aU,aG,Scl.bE]<;>rfl) (bU _) rfl rfl H ?_
 try clear H a W
 intro a W H
 refine aO rfl rfl rfl (k:=0) rfl (aL _) (by simp only [aX,aU,aG,Scl.bE]<;>rfl) (bU _) rfl rfl H ?_
 try clear H a W
 intro a W H
 refine aH ?_
 replace H:St 12 w a W [(3,pA g3),(2,pA g2)] [(g3,23,ks (n/115792089237316195423570985008687907853269984665640564039457584007913129639936)),(g2,23,ks (n%115792089237316195423570985008687907853269984665640564039457584007913129639936))]:=H.pick [2,3] [0,1] rfl
 refine hK4 _ _ ?_
 clear hK4
 refine wp_ret ?_
 repeat (first | (with_reducible refine bD ?_) | (with_reducible refine bI ?_))
 refine nG (p:=2) (q:=3) rfl rfl (k:=1) rfl Tryz.underlying23 rfl (aL _) rfl (k2:=0) rfl Tryz.underlying23 rfl (aL _) H (fun hb=>?_)
 exact ⟨rfl,hb⟩
theorem joined_any {x y:Nat} (hx:K256 x) (w:World) (hgl:GL w):Calls zP 21 #[.agg (ks x),.agg (ks y)] w (fun rr w'=>rr=.returned (.agg (Scl.ls (x+115792089237316195423570985008687907853269984665640564039457584007913129639936*y)))∧Below w.heap.size w w'):=by
 refine bN (vs:=[.agg (ks x),.agg (ks y)]) 13 Tryz.func21 rfl Tryz.ntmps21 rfl (fun a W H=>?_)
 refine wp_seq_k (fun K1 hK1=>?_)
 refine aE ?_
 refine bP rfl rfl (dG x) rfl rfl rfl rfl H ?_
 try clear H a W
 intro g1 a W H
 refine bP rfl rfl (dG y) rfl rfl rfl rfl H ?_
 try clear H a W
 intro g2 a W H
 refine bC (aN rfl eZ) rfl rfl rfl rfl H ?_
 try clear H a W
 intro g3 a W H
 refine aH ?_
 replace H:St 13 w a W [(4,pA g3),(3,pA g2),(2,pA g1)] [(g3,40,Scl.ls 0),(g2,23,ks y),(g1,23,ks x)]:=H.pick [0,1,2] [0,1,2] rfl
 refine hK1 _ _ ?_
 clear hK1
 refine wp_seq_k (fun K2 hK2=>?_)
 refine aE ?_
 refine bC (aN rfl eZ) rfl rfl rfl rfl H ?_
 try clear H a W
 intro g4 a W H
 refine aH ?_
 refine hK2 _ _ ?_
 clear hK2
 refine wp_seq_k (fun K3 hK3=>?_)
 refine drawnR (Grow w.heap.size [(g4,40,Scl.ls 0),(g3,40,Scl.ls 0),(g2,23,ks y),(g1,23,ks x)]) (Grow w.heap.size [(g4,40,Scl.ls 0),(g3,40,Scl.ls 0),(g2,23,ks y),(g1,23,ks x)]) [⟨6,fun u_ _=>u_=.slice (some ⟨g4,0,none⟩) 32 64,[],none,false⟩,⟨7,fun u_ _=>u_=.slice (some ⟨g1,0,none⟩) 32 32,[],none,false⟩] [0,0,3] [0,1] fL fL (by kernel_rfl) (by kernel_rfl) (by kernel_rfl) H ⟨⟨fun a W  H=>by exact aI H (aA rfl) (bL rfl rfl (vl:=none) (vh:=some (.int .i64 32)) rfl rfl (sl_lo g4)),aB,fun _=>aB⟩,⟨fun a W  H=>by exact aI H (aA rfl) (bL rfl rfl (vl:=none) (vh:=none) rfl rfl (eB g1)),aB,fun _=>aB⟩,trivial⟩ (by kernel_rfl) ?_
 try clear H a W
 intro a W
 rintro _ rfl
 rintro _ rfl
 intro H
 refine gJ rfl Tryz.underlying24 fB rfl rfl (k:=0) rfl (k2:=3) rfl (m:=32) rfl (by simp only [aG,Scl.bE]<;>omega) (by simp only [aG,Scl.bE]<;>omega) (bU _) (join1 hx) rfl rfl rfl rfl H ?_
 try clear H a W
 intro a W H
 refine aH ?_
 replace H:St 13 w a W [(5,pA g4),(4,pA g3),(3,pA g2)] [(g4,40,Scl.ls x),(g3,40,Scl.ls 0),(g2,23,ks y)]:=H.pick [3,4,5] [0,1,2] rfl
 refine hK3 _ _ ?_
 clear hK3
 refine wp_seq_k (fun K4 hK4=>?_)
 refine drawnR (Grow w.heap.size [(g4,40,Scl.ls x),(g3,40,Scl.ls 0),(g2,23,ks y)]) (Grow w.heap.size [(g4,40,Scl.ls x),(g3,40,Scl.ls 0),(g2,23,ks y)]) [⟨9,fun u_ _=>u_=.slice (some ⟨g4,32,none⟩) 32 32,[],none,false⟩,⟨10,fun u_ _=>u_=.slice (some ⟨g2,0,none⟩) 32 32,[],none,false⟩] [0,0,3] [0,1] fL fL (by kernel_rfl) (by kernel_rfl) (by kernel_rfl) H ⟨⟨fun a W  H=>by exact aI H (aA rfl) (bL rfl rfl (vl:=some (.int .i64 32)) (vh:=none) rfl rfl (vW g4)),aB,fun _=>aB⟩,⟨fun a W  H=>by exact aI H (aA rfl) (bL rfl rfl (vl:=none) (vh:=none) rfl rfl (eB g2)),aB,fun _=>aB⟩,trivial⟩ (by kernel_rfl) ?_
 try clear H a W
 intro a W
 rintro _ rfl
 rintro _ rfl
 intro H
 refine gJ rfl Tryz.underlying24 fB rfl rfl (k:=0) rfl (k2:=2) rfl (m:=32) rfl (by simp only [aG,Scl.bE]<;>omega) (by simp only [aG,Scl.bE]<;>omega) (bU _) (join2 hx) rfl rfl rfl rfl H ?_
 try clear H a W
 intro a W H
 refine aH ?_
 replace H:St 13 w a W [(5,pA g4),(4,pA g3)] [(g4,40,Scl.ls (x+115792089237316195423570985008687907853269984665640564039457584007913129639936*y)),(g3,40,Scl.ls 0)]:=H.pick [3,4] [0,1] rfl
 refine hK4 _ _ ?_
 clear hK4
 refine wp_seq_k (fun K5 hK5=>?_)
 refine aE ?_
 refine aY (F:=fun u_ _=>u_=.agg (Scl.ls (x+115792089237316195423570985008687907853269984665640564039457584007913129639936*y))) (aI H (aA rfl) (aC rfl rfl (k:=0) rfl Tryz.underlying40 rfl (cG _))) rfl rfl rfl H ?_
 try clear H a W
 rintro _ a W rfl H
 refine aO rfl rfl rfl (k:=1) rfl (cG _) (by simp only [aX,aU,aG,Scl.bE]<;>rfl) (fD _) rfl rfl H ?_
 try clear H a W
 intro a W H
 refine aH ?_
 replace H:St 13 w a W [(4,pA g3)] [(g3,40,Scl.ls (x+115792089237316195423570985008687907853269984665640564039457584007913129639936*y))]:=H.pick [2] [1] rfl
 refine hK5 _ _ ?_
 clear hK5
 refine wp_ret ?_
 repeat (first | (with_reducible refine bD ?_) | (with_reducible refine bI ?_))
 refine cI (p:=4) rfl rfl (k:=0) rfl Tryz.underlying40 rfl (cG _) H (fun hb=>?_)
 exact ⟨rfl,hb⟩
theorem halves_z {n x y:Nat} (hx:x=n%115792089237316195423570985008687907853269984665640564039457584007913129639936) (hy:y=n/115792089237316195423570985008687907853269984665640564039457584007913129639936) (w:World) (hgl:GL w):Calls zP 28 #[.agg (Scl.ls n)] w (fun rr w'=>rr=.returned (.tuple #[.agg (ks x),.agg (ks y)])∧Below w.heap.size w w'):=by
 subst hx hy;exact oD n w hgl
theorem joined_z {x y n:Nat} (hn:n=x+115792089237316195423570985008687907853269984665640564039457584007913129639936*y) (hx:K256 x) (w:World) (hgl:GL w):Calls zP 21 #[.agg (ks x),.agg (ks y)] w (fun rr w'=>rr=.returned (.agg (Scl.ls n))∧Below w.heap.size w w'):=by
 subst hn;exact joined_any hx w hgl
theorem number_any {v:Value} {M:List (List UInt8)} {l:List UInt8} (w:World) (hv:RF M v w) (hl:M.flatten=l) (h1:l.length<1000000) (h2:M.length<100000) (hgl:GL w):Calls zP 19 #[v] w (fun rr w'=>rr=.returned (.agg (ks (num l)))∧Below w.heap.size w w'):=by
 refine bN (vs:=[v]) 6 Tryz.func19 rfl Tryz.ntmps19 rfl (fun a W H=>?_)
 refine wp_seq_k (fun K1 hK1=>?_)
 refine aE ?_
 refine bC (aN rfl bZ) rfl rfl rfl rfl H ?_
 try clear H a W
 intro g1 a W H
 refine aH ?_
 refine hK1 _ _ ?_
 clear hK1
 refine wp_seq_k (fun K2 hK2=>?_)
 refine aE ?_
 refine aY (F:=fun u_ _=>u_=v) (aI H (aA rfl) (aK rfl rfl)) rfl rfl rfl H ?_
 try clear H a W
 intro y_ a W hy_ H
 replace hy_:=hy_.symm
 subst hy_
 refine aY (F:=fun u_ _=>u_=.agg (Scl.ls (hN l))) (cE H (aA rfl) rfl ⟨_,Tryz.func44,by kernel_rfl⟩ rfl (sumF (hgl.ext H.below) (tB hv H) hl h1 h2)) rfl rfl rfl H ?_
 try clear H a W
 rintro _ a W rfl H
 refine aY (F:=fun u_ _=>u_=.agg (ks (num l))) (cE H (aA rfl) rfl ⟨_,Tryz.func50,by kernel_rfl⟩ rfl (reduceF (num_def l) (hgl.ext H.below) (hN_lt l))) rfl rfl rfl H ?_
 try clear H a W
 rintro _ a W rfl H
 refine aO rfl rfl rfl (k:=0) rfl (aL _) (by simp only [aX,aU,aG,Scl.bE]<;>rfl) (bU _) rfl rfl H ?_
 try clear H a W
 intro a W H
 refine aH ?_
 replace H:St 6 w a W [(2,pA g1)] [(g1,23,ks (num l))]:=H.pick [3] [0] rfl
 refine hK2 _ _ ?_
 clear hK2
 refine wp_ret ?_
 repeat (first | (with_reducible refine bD ?_) | (with_reducible refine bI ?_))
 refine cI (p:=2) rfl rfl (k:=0) rfl Tryz.underlying23 rfl (aL _) H (fun hb=>?_)
 exact ⟨rfl,hb⟩
theorem number_z {v:Value} {M:List (List UInt8)} {l:List UInt8} {m:Nat} (hm:m=num l) (w:World) (hv:RF M v w) (hl:M.flatten=l) (h1:l.length<1000000) (h2:M.length<100000) (hgl:GL w):Calls zP 19 #[v] w (fun rr w'=>rr=.returned (.agg (ks m))∧Below w.heap.size w w'):=by
 subst hm;exact number_any w hv hl h1 h2 hgl
theorem rB (x:Nat) (w:World) (hgl:GL w):Calls zP 16 #[.agg (ks x)] w (fun rr w'=>rr=.returned (.tuple #[.agg (ks (seedA x)),.agg (ks (seedP x))])∧Below w.heap.size w w'):=by
 refine bN (vs:=[.agg (ks x)]) 16 Tryz.func16 rfl Tryz.ntmps16 rfl (fun a W H=>?_)
 refine wp_seq_k (fun K1 hK1=>?_)
 refine aE ?_
 refine bP rfl rfl (dG x) rfl rfl rfl rfl H ?_
 try clear H a W
 intro g1 a W H
 refine bC (aN rfl bZ) rfl rfl rfl rfl H ?_
 try clear H a W
 intro g2 a W H
 refine bC (aN rfl bZ) rfl rfl rfl rfl H ?_
 try clear H a W
 intro g3 a W H
 refine aH ?_
 replace H:St 16 w a W [(3,pA g3),(2,pA g2),(1,pA g1)] [(g3,23,ks 0),(g2,23,ks 0),(g1,23,ks x)]:=H.pick [0,1,2] [0,1,2] rfl
 refine hK1 _ _ ?_
 clear hK1
 refine wp_seq_k (fun K2 hK2=>?_)
 refine aE ?_
 refine aY (F:=fun u_ _=>u_=.slice (some ⟨g1,0,none⟩) 32 32) (aI H (aA rfl) (bL rfl rfl (vl:=none) (vh:=none) rfl rfl (eB g1))) rfl rfl rfl H ?_
 try clear H a W
 rintro _ a W rfl H
 refine aY (F:=LF [(kby x)]) (iR H (aA rfl) rfl rfl (lR (H.blk (k:=2) rfl))) rfl rfl rfl H ?_
 try clear H a W
 intro v8 a W hv8 H
 refine jR (F:=fun u_ _=>u_=.agg (Scl.ls (hN (kby x)))) (cE H (aA rfl) rfl ⟨_,Tryz.func44,by kernel_rfl⟩ rfl (sumF (hgl.ext H.below) hv8.rf (by simp) (by rw [fK];omega) (by simp) )) rfl rfl rfl H ?_
 rintro _ a W rfl hb H
 replace hv8:=LF.grow _ _ _ hv8 hb
 refine jR (F:=fun u_ _=>u_=.tuple #[.agg (ks ((hN (kby x))%115792089237316195423570985008687907853269984665640564039457584007913129639936)),.agg (ks (seedP x))]) (cE H (aA rfl) rfl ⟨_,Tryz.func28,by kernel_rfl⟩ rfl (halves_z rfl (vZ x) W (hgl.ext H.below))) rfl rfl rfl H ?_
 rintro _ a W rfl hb H
 replace hv8:=LF.grow _ _ _ hv8 hb
 refine jR (F:=fun u_ _=>u_=.tuple #[.agg (ks ((hN (kby x))%115792089237316195423570985008687907853269984665640564039457584007913129639936)),.agg (ks (seedP x))]) (aI H (aA rfl) (aK rfl rfl)) rfl rfl rfl H ?_
 rintro _ a W rfl hb H
 replace hv8:=LF.grow _ _ _ hv8 hb
 refine jR (F:=fun u_ _=>u_=.agg (ks ((hN (kby x))%115792089237316195423570985008687907853269984665640564039457584007913129639936))) (aI H (aA rfl) (bF rfl rfl (fun _=>rfl))) rfl rfl rfl H ?_
 rintro _ a W rfl hb H
 replace hv8:=LF.grow _ _ _ hv8 hb
 refine jR (F:=fun u_ _=>u_=.agg (ks (seedP x))) (aI H (aA rfl) (bF rfl rfl (fun _=>rfl))) rfl rfl rfl H ?_
 rintro _ a W rfl hb H
 replace hv8:=LF.grow _ _ _ hv8 hb
 replace H:St 16 w a W [(12,.agg (ks (seedP x))),(11,.agg (ks ((hN (kby x))%115792089237316195423570985008687907853269984665640564039457584007913129639936))),(6,.tuple #[.agg (ks ((hN (kby x))%115792089237316195423570985008687907853269984665640564039457584007913129639936)),.agg (ks (seedP x))]),(10,.tuple #[.agg (ks ((hN (kby x))%115792089237316195423570985008687907853269984665640564039457584007913129639936)),.agg (ks (seedP x))]),(9,.agg (Scl.ls (hN (kby x)))),(7,.slice (some ⟨g1,0,none⟩) 32 32),(3,pA g3),(2,pA g2),(1,pA g1)] [(g3,23,ks 0),(g2,23,ks 0),(g1,23,ks x)]:=H.pick [0,1,2,3,4,6,7,8,9] [0,1,2] rfl
 refine bC (aN rfl bZ) rfl rfl rfl rfl H ?_
 try clear H a W
 intro g4 a W H
 refine bC (aN rfl bZ) rfl rfl rfl rfl H ?_
 try clear H a W
 intro g5 a W H
 refine aO rfl rfl rfl (k:=1) rfl (aL _) (by simp only [aX,aU,aG,Scl.bE]<;>rfl) (bU _) rfl rfl H ?_
 try clear H a W
 intro a W H
 refine aO rfl rfl rfl (k:=0) rfl (aL _) (by simp only [aX,aU,aG,Scl.bE]<;>rfl) (bU _) rfl rfl H ?_
 try clear H a W
 intro a W H
 refine aH ?_
 replace H:St 16 w a W [(5,pA g5),(4,pA g4),(3,pA g3),(2,pA g2)] [(g5,23,ks (seedP x)),(g4,23,ks ((hN (kby x))%115792089237316195423570985008687907853269984665640564039457584007913129639936)),(g3,23,ks 0),(g2,23,ks 0)]:=H.pick [0,1,8,9] [0,1,2,3] rfl
 refine hK2 _ _ ?_
 clear hK2
 refine wp_seq_k (fun K3 hK3=>?_)
 refine drawnS [.val 13 (.agg (ks ((hN (kby x))%115792089237316195423570985008687907853269984665640564039457584007913129639936))) [] [1],.val 14 (.agg (ks (seedA x))) [0] [],.val 15 (.agg (ks (seedP x))) [] [0],.sto 3 g2 23 (ks 0) (ks (seedA x)) [1],.sto 2 g3 23 (ks 0) (ks (seedP x)) [2]] [0,1,0,3,15] (by kernel_rfl) (by kernel_rfl) (by kernel_rfl) H ⟨⟨aC rfl rfl (k:=0) rfl Tryz.underlying23 rfl (aL _),aA rfl⟩,⟨aF rfl ⟨_,Tryz.func45,by kernel_rfl⟩ rfl (fun W hb=>clampF (wA x) W),aA rfl⟩,⟨aC rfl rfl (k:=0) rfl Tryz.underlying23 rfl (aL _),aA rfl⟩,⟨rfl,rfl,bQ rfl rfl rfl (aL _) (by simp only [aX,aU,aG,Scl.bE]<;>rfl) (bU _)⟩,⟨rfl,rfl,bQ rfl rfl rfl (aL _) (by simp only [aX,aU,aG,Scl.bE]<;>rfl) (bU _)⟩,trivial⟩ ?_
 try clear H a W
 intro G6 a W H
 replace H:St 16 w a W [(3,pA g3),(2,pA g2)] [(g3,23,ks (seedP x)),(g2,23,ks (seedA x))]:=H.pick [5,6] [2,3] rfl
 refine hK3 _ _ ?_
 clear hK3
 refine wp_ret ?_
 repeat (first | (with_reducible refine bD ?_) | (with_reducible refine bI ?_))
 refine nG (p:=2) (q:=3) rfl rfl (k:=1) rfl Tryz.underlying23 rfl (aL _) rfl (k2:=0) rfl Tryz.underlying23 rfl (aL _) H (fun hb=>?_)
 exact ⟨rfl,hb⟩
theorem xJ {v:Value} {x y:Nat} {M:List (List UInt8)} {l:List UInt8} (w:World) (hv:RF M v w) (hl:M.flatten=l) (hfit:Fit M) (hgl:GL w):Calls zP 20 #[.agg (ks x),.agg (ks y),v] w (fun rr w'=>rr=.returned (.agg (ks (sigH x y l)))∧Below w.heap.size w w'):=by
 refine bN (vs:=[.agg (ks x),.agg (ks y),v]) 13 Tryz.func20 rfl Tryz.ntmps20 rfl (fun a W H=>?_)
 refine wp_seq_k (fun K1 hK1=>?_)
 refine aE ?_
 refine bP rfl rfl (dG x) rfl rfl rfl rfl H ?_
 try clear H a W
 intro g1 a W H
 refine bP rfl rfl (dG y) rfl rfl rfl rfl H ?_
 try clear H a W
 intro g2 a W H
 refine bC (aN rfl bZ) rfl rfl rfl rfl H ?_
 try clear H a W
 intro g3 a W H
 refine aH ?_
 replace H:St 13 w a W [(6,pA g3),(4,pA g2),(3,pA g1),(2,v)] [(g3,23,ks 0),(g2,23,ks y),(g1,23,ks x)]:=H.pick [0,1,2,5] [0,1,2] rfl
 refine hK1 _ _ ?_
 clear hK1
 refine wp_seq_k (fun K2 hK2=>?_)
 refine drawnR (Grow w.heap.size [(g3,23,ks 0),(g2,23,ks y),(g1,23,ks x)]) (Grow w.heap.size [(g3,23,ks 0),(g2,23,ks y),(g1,23,ks x)]) [⟨7,fun u_ _=>u_=.slice (some ⟨g1,0,none⟩) 32 32,[],none,false⟩,⟨8,fun u_ _=>u_=.slice (some ⟨g2,0,none⟩) 32 32,[],none,false⟩,⟨9,LF [(kby x),(kby y)],[0,1],none,false⟩,⟨10,fun u_ _=>u_=v,[],none,false⟩,⟨11,RF ([(kby x),(kby y)]++M),[2,3],none,false⟩,⟨12,fun u_ _=>u_=.agg (ks (sigH x y l)),[4],none,false⟩] [0,0,3,0,12,16,63] [5] fL fL (by kernel_rfl) (by kernel_rfl) (by kernel_rfl) H ⟨⟨fun a W  H=>by exact aI H (aA rfl) (bL rfl rfl (vl:=none) (vh:=none) rfl rfl (eB g1)),aB,fun _=>aB⟩,⟨fun a W  H=>by exact aI H (aA rfl) (bL rfl rfl (vl:=none) (vh:=none) rfl rfl (eB g2)),aB,fun _=>aB⟩,⟨fun a W y0 hy0 y1 hy1 H=>by subst hy0;subst hy1;exact ob_rows2 H (aA rfl) rfl rfl rfl (lR (H.blk (k:=2) rfl)) (lR (H.blk (k:=1) rfl)),LF.grow,fun _=>LF.grow⟩,⟨fun a W  H=>by exact aI H (aA rfl) (aK rfl rfl),aB,fun _=>aB⟩,⟨fun a W v9 hv9 y3 hy3 H=>by have e_:=hy3.symm;subst e_;exact wM H (aA rfl) rfl rfl rfl hv9 (tB hv H) (by simp only [List.length_cons,List.length_nil];have:=hfit.num;omega),RF.grow,fun _=>RF.grow⟩,⟨fun a W v11 hv11 H=>by exact cE H (aA rfl) rfl ⟨_,Tryz.func19,by kernel_rfl⟩ rfl (number_z (sN x y l)  (M:=([(kby x),(kby y)]++M)) W hv11 (l:=kby x++(kby y++l)) (by rw [←hl];simp) (by have:=hfit.len;rw [hl] at this;simp only [List.length_append,fK];omega) (by have:=hfit.num;simp only [List.length_append,List.length_cons,List.length_nil];omega) (hgl.ext H.below)),aB,fun _=>aB⟩,trivial⟩ (by kernel_rfl) ?_
 try clear H a W
 intro a W
 rintro _ rfl
 intro H
 refine aO rfl rfl rfl (k:=0) rfl (aL _) (by simp only [aX,aU,aG,Scl.bE]<;>rfl) (bU _) rfl rfl H ?_
 try clear H a W
 intro a W H
 refine aH ?_
 replace H:St 13 w a W [(6,pA g3)] [(g3,23,ks (sigH x y l))]:=H.pick [1] [0] rfl
 refine hK2 _ _ ?_
 clear hK2
 refine wp_ret ?_
 repeat (first | (with_reducible refine bD ?_) | (with_reducible refine bI ?_))
 refine cI (p:=6) rfl rfl (k:=0) rfl Tryz.underlying23 rfl (aL _) H (fun hb=>?_)
 exact ⟨rfl,hb⟩
theorem jF (x:Nat) (w:World) (hgl:GL w):Calls zP 9 #[.agg (ks x)] w (fun rr w'=>rr=.returned (.agg (ks (pubN x)))∧Below w.heap.size w w'):=by
 obtain ⟨z1,hz1⟩:∃ z:L4 PP,z=ptMul BE (seedA x) 256:=⟨_,rfl⟩
 refine bN (vs:=[.agg (ks x)]) 13 Tryz.func9 rfl Tryz.ntmps9 rfl (fun a W H=>?_)
 refine wp_seq_k (fun K1 hK1=>?_)
 refine aE ?_
 refine bP rfl rfl (dG x) rfl rfl rfl rfl H ?_
 try clear H a W
 intro g1 a W H
 refine bC (aN rfl bZ) rfl rfl rfl rfl H ?_
 try clear H a W
 intro g2 a W H
 refine aH ?_
 replace H:St 13 w a W [(2,pA g2),(1,pA g1)] [(g2,23,ks 0),(g1,23,ks x)]:=H.pick [0,1] [0,1] rfl
 refine hK1 _ _ ?_
 clear hK1
 refine wp_seq_k (fun K2 hK2=>?_)
 refine aE ?_
 refine aY (F:=fun u_ _=>u_=.agg (ks x)) (aI H (aA rfl) (aC rfl rfl (k:=1) rfl Tryz.underlying23 rfl (aL _))) rfl rfl rfl H ?_
 try clear H a W
 rintro _ a W rfl H
 refine aY (F:=fun u_ _=>u_=.tuple #[.agg (ks (seedA x)),.agg (ks (seedP x))]) (cE H (aA rfl) rfl ⟨_,Tryz.func16,by kernel_rfl⟩ rfl (rB _ W (hgl.ext H.below))) rfl rfl rfl H ?_
 try clear H a W
 rintro _ a W rfl H
 refine aY (F:=fun u_ _=>u_=.tuple #[.agg (ks (seedA x)),.agg (ks (seedP x))]) (aI H (aA rfl) (aK rfl rfl)) rfl rfl rfl H ?_
 try clear H a W
 rintro _ a W rfl H
 refine aY (F:=fun u_ _=>u_=.agg (ks (seedA x))) (aI H (aA rfl) (bF rfl rfl (fun _=>rfl))) rfl rfl rfl H ?_
 try clear H a W
 rintro _ a W rfl H
 refine aY (F:=fun u_ _=>u_=.agg (ks (seedP x))) (aI H (aA rfl) (bF rfl rfl (fun _=>rfl))) rfl rfl rfl H ?_
 try clear H a W
 rintro _ a W rfl H
 refine bC (aN rfl bZ) rfl rfl rfl rfl H ?_
 try clear H a W
 intro g3 a W H
 refine bC (aN rfl bZ) rfl rfl rfl rfl H ?_
 try clear H a W
 intro g4 a W H
 refine aO rfl rfl rfl (k:=1) rfl (aL _) (by simp only [aX,aU,aG,Scl.bE]<;>rfl) (bU _) rfl rfl H ?_
 try clear H a W
 intro a W H
 refine aO rfl rfl rfl (k:=0) rfl (aL _) (by simp only [aX,aU,aG,Scl.bE]<;>rfl) (bU _) rfl rfl H ?_
 try clear H a W
 intro a W H
 refine aH ?_
 replace H:St 13 w a W [(3,pA g3),(2,pA g2)] [(g3,23,ks (seedA x)),(g2,23,ks 0)]:=H.pick [1,7] [1,2] rfl
 refine hK2 _ _ ?_
 clear hK2
 refine wp_seq_k (fun K3 hK3=>?_)
 refine aE ?_
 refine aY (F:=fun u_ _=>u_=.agg (ks (seedA x))) (aI H (aA rfl) (aC rfl rfl (k:=0) rfl Tryz.underlying23 rfl (aL _))) rfl rfl rfl H ?_
 try clear H a W
 rintro _ a W rfl H
 refine aY (F:=fun u_ _=>u_=.agg (sv z1)) (cE H (aA rfl) rfl ⟨_,Tryz.func17,by kernel_rfl⟩ rfl (baseF hz1 (hgl.ext H.below))) rfl rfl rfl H ?_
 try clear H a W
 rintro _ a W rfl H
 refine aY (F:=fun u_ _=>u_=.agg (ks (pubN x))) (cE H (aA rfl) rfl ⟨_,Tryz.func18,by kernel_rfl⟩ rfl (pU (P:=BP.mul (seedA x)) (s:=z1) (m:=(pubN x)) (by rw [hz1];exact vE.mul (mD _)) (tF _) W (hgl.ext H.below).pg)) rfl rfl rfl H ?_
 try clear H a W
 rintro _ a W rfl H
 refine aO rfl rfl rfl (k:=1) rfl (aL _) (by simp only [aX,aU,aG,Scl.bE]<;>rfl) (bU _) rfl rfl H ?_
 try clear H a W
 intro a W H
 refine aH ?_
 replace H:St 13 w a W [(2,pA g2)] [(g2,23,ks (pubN x))]:=H.pick [4] [1] rfl
 refine hK3 _ _ ?_
 clear hK3
 refine wp_ret ?_
 repeat (first | (with_reducible refine bD ?_) | (with_reducible refine bI ?_))
 refine cI (p:=2) rfl rfl (k:=0) rfl Tryz.underlying23 rfl (aL _) H (fun hb=>?_)
 exact ⟨rfl,hb⟩
theorem mB {v:Value} {x:Nat} {M:List (List UInt8)} {l:List UInt8} (w:World) (hv:RF M v w) (hl:M.flatten=l) (hfit:Fit M) (hgl:GL w):Calls zP 8 #[.agg (ks x),v] w (fun rr w'=>rr=.returned (.agg (Scl.ls (signN x l)))∧Below w.heap.size w w'):=by
 obtain ⟨z1,hz1⟩:∃ z:L4 PP,z=ptMul BE (seedA x) 256:=⟨_,rfl⟩
 obtain ⟨z2,hz2⟩:∃ z:L4 PP,z=ptMul BE (sigR x l) 256:=⟨_,rfl⟩
 refine bN (vs:=[.agg (ks x),v]) 37 Tryz.func8 rfl Tryz.ntmps8 rfl (fun a W H=>?_)
 refine wp_seq_k (fun K1 hK1=>?_)
 refine aE ?_
 refine bP rfl rfl (dG x) rfl rfl rfl rfl H ?_
 try clear H a W
 intro g1 a W H
 refine bC (aN rfl eZ) rfl rfl rfl rfl H ?_
 try clear H a W
 intro g2 a W H
 refine aH ?_
 replace H:St 37 w a W [(4,pA g2),(2,pA g1),(1,v)] [(g2,40,Scl.ls 0),(g1,23,ks x)]:=H.pick [0,1,3] [0,1] rfl
 refine hK1 _ _ ?_
 clear hK1
 refine wp_seq_k (fun K2 hK2=>?_)
 refine aE ?_
 refine aY (F:=fun u_ _=>u_=.agg (ks x)) (aI H (aA rfl) (aC rfl rfl (k:=1) rfl Tryz.underlying23 rfl (aL _))) rfl rfl rfl H ?_
 try clear H a W
 rintro _ a W rfl H
 refine aY (F:=fun u_ _=>u_=.tuple #[.agg (ks (seedA x)),.agg (ks (seedP x))]) (cE H (aA rfl) rfl ⟨_,Tryz.func16,by kernel_rfl⟩ rfl (rB _ W (hgl.ext H.below))) rfl rfl rfl H ?_
 try clear H a W
 rintro _ a W rfl H
 refine aY (F:=fun u_ _=>u_=.tuple #[.agg (ks (seedA x)),.agg (ks (seedP x))]) (aI H (aA rfl) (aK rfl rfl)) rfl rfl rfl H ?_
 try clear H a W
 rintro _ a W rfl H
 refine aY (F:=fun u_ _=>u_=.agg (ks (seedA x))) (aI H (aA rfl) (bF rfl rfl (fun _=>rfl))) rfl rfl rfl H ?_
 try clear H a W
 rintro _ a W rfl H
 refine aY (F:=fun u_ _=>u_=.agg (ks (seedP x))) (aI H (aA rfl) (bF rfl rfl (fun _=>rfl))) rfl rfl rfl H ?_
 try clear H a W
 rintro _ a W rfl H
 refine bC (aN rfl bZ) rfl rfl rfl rfl H ?_
 try clear H a W
 intro g3 a W H
 refine bC (aN rfl bZ) rfl rfl rfl rfl H ?_
 try clear H a W
 intro g4 a W H
 refine aO rfl rfl rfl (k:=1) rfl (aL _) (by simp only [aX,aU,aG,Scl.bE]<;>rfl) (bU _) rfl rfl H ?_
 try clear H a W
 intro a W H
 refine aO rfl rfl rfl (k:=0) rfl (aL _) (by simp only [aX,aU,aG,Scl.bE]<;>rfl) (bU _) rfl rfl H ?_
 try clear H a W
 intro a W H
 refine aH ?_
 replace H:St 37 w a W [(6,pA g4),(5,pA g3),(4,pA g2),(1,v)] [(g4,23,ks (seedP x)),(g3,23,ks (seedA x)),(g2,40,Scl.ls 0)]:=H.pick [0,1,7,9] [0,1,2] rfl
 refine hK2 _ _ ?_
 clear hK2
 refine wp_seq_k (fun K3 hK3=>?_)
 refine aE ?_
 refine aY (F:=fun u_ _=>u_=.agg (ks (seedA x))) (aI H (aA rfl) (aC rfl rfl (k:=1) rfl Tryz.underlying23 rfl (aL _))) rfl rfl rfl H ?_
 try clear H a W
 rintro _ a W rfl H
 refine aY (F:=fun u_ _=>u_=.agg (sv z1)) (cE H (aA rfl) rfl ⟨_,Tryz.func17,by kernel_rfl⟩ rfl (baseF hz1 (hgl.ext H.below))) rfl rfl rfl H ?_
 try clear H a W
 rintro _ a W rfl H
 refine aY (F:=fun u_ _=>u_=.agg (ks (pubN x))) (cE H (aA rfl) rfl ⟨_,Tryz.func18,by kernel_rfl⟩ rfl (pU (P:=BP.mul (seedA x)) (s:=z1) (m:=(pubN x)) (by rw [hz1];exact vE.mul (mD _)) (tF _) W (hgl.ext H.below).pg)) rfl rfl rfl H ?_
 try clear H a W
 rintro _ a W rfl H
 refine bC (aN rfl bZ) rfl rfl rfl rfl H ?_
 try clear H a W
 intro g5 a W H
 refine aO rfl rfl rfl (k:=0) rfl (aL _) (by simp only [aX,aU,aG,Scl.bE]<;>rfl) (bU _) rfl rfl H ?_
 try clear H a W
 intro a W H
 refine aH ?_
 replace H:St 37 w a W [(7,pA g5),(6,pA g4),(5,pA g3),(4,pA g2),(1,v)] [(g5,23,ks (pubN x)),(g4,23,ks (seedP x)),(g3,23,ks (seedA x)),(g2,40,Scl.ls 0)]:=H.pick [0,4,5,6,7] [0,1,2,3] rfl
 refine hK3 _ _ ?_
 clear hK3
 refine wp_seq_k (fun K4 hK4=>?_)
 refine aE ?_
 refine aY (F:=fun u_ _=>u_=.slice (some ⟨g4,0,none⟩) 32 32) (aI H (aA rfl) (bL rfl rfl (vl:=none) (vh:=none) rfl rfl (eB g4))) rfl rfl rfl H ?_
 try clear H a W
 rintro _ a W rfl H
 refine aY (F:=LF [(kby ((seedP x)))]) (iR H (aA rfl) rfl rfl (lR (H.blk (k:=1) rfl))) rfl rfl rfl H ?_
 try clear H a W
 intro v20 a W hv20 H
 refine jR (F:=fun u_ _=>u_=v) (aI H (aA rfl) (aK rfl rfl)) rfl rfl rfl H ?_
 intro y_ a W hy_ hb H
 replace hy_:=hy_.symm
 subst hy_
 replace hv20:=LF.grow _ _ _ hv20 hb
 refine jR (F:=RF ([(kby ((seedP x)))]++M)) (wM H (aA rfl) rfl rfl rfl hv20 (tB hv H) (by simp only [List.length_cons,List.length_nil];have:=hfit.num;omega)) rfl rfl rfl H ?_
 intro v22 a W hv22 hb H
 replace hv20:=LF.grow _ _ _ hv20 hb
 refine jR (F:=fun u_ _=>u_=.agg (ks (sigR x l))) (cE H (aA rfl) rfl ⟨_,Tryz.func19,by kernel_rfl⟩ rfl (number_z (sigR_def x l)  (M:=([(kby ((seedP x)))]++M)) W hv22 (l:=kby (seedP x)++l) (by rw [←hl];simp) (by have:=hfit.len;rw [hl] at this;simp only [List.length_append,fK];omega) (by have:=hfit.num;simp only [List.length_append,List.length_cons,List.length_nil];omega) (hgl.ext H.below))) rfl rfl rfl H ?_
 rintro _ a W rfl hb H
 replace hv22:=RF.grow _ _ _ hv22 hb
 replace hv20:=LF.grow _ _ _ hv20 hb
 replace H:St 37 w a W [(23,.agg (ks (sigR x l))),(21,v),(19,.slice (some ⟨g4,0,none⟩) 32 32),(7,pA g5),(6,pA g4),(5,pA g3),(4,pA g2),(1,v)] [(g5,23,ks (pubN x)),(g4,23,ks (seedP x)),(g3,23,ks (seedA x)),(g2,40,Scl.ls 0)]:=H.pick [0,2,4,5,6,7,8,9] [0,1,2,3] rfl
 refine bC (aN rfl bZ) rfl rfl rfl rfl H ?_
 try clear H a W
 intro g6 a W H
 refine aO rfl rfl rfl (k:=0) rfl (aL _) (by simp only [aX,aU,aG,Scl.bE]<;>rfl) (bU _) rfl rfl H ?_
 try clear H a W
 intro a W H
 refine aH ?_
 replace H:St 37 w a W [(8,pA g6),(7,pA g5),(5,pA g3),(4,pA g2),(1,v)] [(g6,23,ks (sigR x l)),(g5,23,ks (pubN x)),(g3,23,ks (seedA x)),(g2,40,Scl.ls 0)]:=H.pick [0,4,6,7,8] [0,1,3,4] rfl
 refine hK4 _ _ ?_
 clear hK4
 refine wp_seq_k (fun K5 hK5=>?_)
 refine aE ?_
 refine aY (F:=fun u_ _=>u_=.agg (ks (sigR x l))) (aI H (aA rfl) (aC rfl rfl (k:=0) rfl Tryz.underlying23 rfl (aL _))) rfl rfl rfl H ?_
 try clear H a W
 rintro _ a W rfl H
 refine aY (F:=fun u_ _=>u_=.agg (sv z2)) (cE H (aA rfl) rfl ⟨_,Tryz.func17,by kernel_rfl⟩ rfl (baseF hz2 (hgl.ext H.below))) rfl rfl rfl H ?_
 try clear H a W
 rintro _ a W rfl H
 refine aY (F:=fun u_ _=>u_=.agg (ks (sigP x l))) (cE H (aA rfl) rfl ⟨_,Tryz.func18,by kernel_rfl⟩ rfl (pU (P:=BP.mul (sigR x l)) (s:=z2) (m:=(sigP x l)) (by rw [hz2];exact vE.mul (rN _ _)) (sigP_def _ _) W (hgl.ext H.below).pg)) rfl rfl rfl H ?_
 try clear H a W
 rintro _ a W rfl H
 refine bC (aN rfl bZ) rfl rfl rfl rfl H ?_
 try clear H a W
 intro g7 a W H
 refine aO rfl rfl rfl (k:=0) rfl (aL _) (by simp only [aX,aU,aG,Scl.bE]<;>rfl) (bU _) rfl rfl H ?_
 try clear H a W
 intro a W H
 refine aH ?_
 replace H:St 37 w a W [(9,pA g7),(8,pA g6),(7,pA g5),(5,pA g3),(4,pA g2),(1,v)] [(g7,23,ks (sigP x l)),(g6,23,ks (sigR x l)),(g5,23,ks (pubN x)),(g3,23,ks (seedA x)),(g2,40,Scl.ls 0)]:=H.pick [0,4,5,6,7,8] [0,1,2,3,4] rfl
 refine hK5 _ _ ?_
 clear hK5
 refine wp_seq_k (fun K6 hK6=>?_)
 refine aE ?_
 refine aY (F:=fun u_ _=>u_=.agg (ks (sigP x l))) (aI H (aA rfl) (aC rfl rfl (k:=0) rfl Tryz.underlying23 rfl (aL _))) rfl rfl rfl H ?_
 try clear H a W
 rintro _ a W rfl H
 refine aY (F:=fun u_ _=>u_=.agg (ks (pubN x))) (aI H (aA rfl) (aC rfl rfl (k:=2) rfl Tryz.underlying23 rfl (aL _))) rfl rfl rfl H ?_
 try clear H a W
 rintro _ a W rfl H
 refine aY (F:=fun u_ _=>u_=v) (aI H (aA rfl) (aK rfl rfl)) rfl rfl rfl H ?_
 try clear H a W
 intro y_ a W hy_ H
 replace hy_:=hy_.symm
 subst hy_
 refine aY (F:=fun u_ _=>u_=.agg (ks (sigH (sigP x l) (pubN x) l))) (cE H (aA rfl) rfl ⟨_,Tryz.func20,by kernel_rfl⟩ rfl (xJ W (tB hv H) hl hfit (hgl.ext H.below))) rfl rfl rfl H ?_
 try clear H a W
 rintro _ a W rfl H
 refine bC (aN rfl bZ) rfl rfl rfl rfl H ?_
 try clear H a W
 intro g8 a W H
 refine aO rfl rfl rfl (k:=0) rfl (aL _) (by simp only [aX,aU,aG,Scl.bE]<;>rfl) (bU _) rfl rfl H ?_
 try clear H a W
 intro a W H
 refine aH ?_
 replace H:St 37 w a W [(10,pA g8),(9,pA g7),(8,pA g6),(5,pA g3),(4,pA g2)] [(g8,23,ks (sigH (sigP x l) (pubN x) l)),(g7,23,ks (sigP x l)),(g6,23,ks (sigR x l)),(g3,23,ks (seedA x)),(g2,40,Scl.ls 0)]:=H.pick [0,5,6,8,9] [0,1,2,4,5] rfl
 refine hK6 _ _ ?_
 clear hK6
 refine wp_seq_k (fun K7 hK7=>?_)
 refine drawnS [.val 31 (.agg (ks (sigP x l))) [] [1],.val 32 (.agg (ks (sigH (sigP x l) (pubN x) l))) [] [0],.val 33 (.agg (ks (seedA x))) [] [3],.val 34 (.agg (ks (sigR x l))) [] [2],.val 35 (.agg (ks (sigS x l))) [1,2,3] [],.val 36 (.agg (Scl.ls (signN x l))) [0,4] [],.sto 4 g2 40 (Scl.ls 0) (Scl.ls (signN x l)) [5]] [0,0,0,0,14,17,63] (by kernel_rfl) (by kernel_rfl) (by kernel_rfl) H ⟨⟨aC rfl rfl (k:=0) rfl Tryz.underlying23 rfl (aL _),aA rfl⟩,⟨aC rfl rfl (k:=0) rfl Tryz.underlying23 rfl (aL _),aA rfl⟩,⟨aC rfl rfl (k:=0) rfl Tryz.underlying23 rfl (aL _),aA rfl⟩,⟨aC rfl rfl (k:=0) rfl Tryz.underlying23 rfl (aL _),aA rfl⟩,⟨aF rfl ⟨_,Tryz.func22,by kernel_rfl⟩ rfl (fun W hb=>mulAddF (sigS_def x l) (hgl.ext hb) (rO _ _ _) (mD x) (rN _ _)),aA rfl⟩,⟨aF rfl ⟨_,Tryz.func21,by kernel_rfl⟩ rfl (fun W hb=>joined_z (vX x l) (jC x l) W (hgl.ext hb)),aA rfl⟩,⟨rfl,rfl,bQ rfl rfl rfl (cG _) (by simp only [aX,aU,aG,Scl.bE]<;>rfl) (fD _)⟩,trivial⟩ ?_
 try clear H a W
 intro G9 a W H
 replace H:St 37 w a W [(4,pA g2)] [(g2,40,Scl.ls (signN x l))]:=H.pick [10] [4] rfl
 refine hK7 _ _ ?_
 clear hK7
 refine wp_ret ?_
 repeat (first | (with_reducible refine bD ?_) | (with_reducible refine bI ?_))
 refine cI (p:=4) rfl rfl (k:=0) rfl Tryz.underlying40 rfl (cG _) H (fun hb=>?_)
 exact ⟨rfl,hb⟩
theorem of_yes_z {n:Nat} {z:L4 PP} (hn:K256 n) (h:isPt n=true) (hz:z=ptE (ptX n) (ofK n)) (w:World) (hpg:PG w):Calls zP 29 #[.agg (ks n)] w (fun rr w'=>rr=.returned (.tuple #[.agg (sv z),.bool true])∧Below w.heap.size w w'):=by
 subst hz;exact of_yes hn h w hpg
theorem check_a {v:Value} {p n:Nat} {M:List (List UInt8)} {l:List UInt8} (w:World) (hv:RF M v w) (hl:M.flatten=l) (hfit:Fit M) (hp:K256 p) (hn:n<13407807929942597099574024998205846127479365820592393377723561443721764030073546976801874298166903427690031858186486050853753882811946569946433649006084096) (hisp:isPt p=false) (hgl:GL w):Calls zP 12 #[.agg (ks p),.agg (Scl.ls n),v] w (fun rr w'=>rr=.returned (.int .i64 8)∧Below w.heap.size w w'):=by
 refine bN (vs:=[.agg (ks p),.agg (Scl.ls n),v]) 43 Tryz.func12 rfl Tryz.ntmps12 rfl (fun a W H=>?_)
 refine wp_seq_k (fun K1 hK1=>?_)
 refine aE ?_
 refine bP rfl rfl (dG p) rfl rfl rfl rfl H ?_
 try clear H a W
 intro g1 a W H
 refine bP rfl rfl (jN n) rfl rfl rfl rfl H ?_
 try clear H a W
 intro g2 a W H
 refine aY (F:=fun u_ _=>u_=.int .i64 0) (aI H (aA rfl) (aM rfl rfl)) rfl rfl rfl H ?_
 try clear H a W
 rintro _ a W rfl H
 refine aH ?_
 replace H:St 43 w a W [(6,.int .i64 0),(4,pA g2),(3,pA g1),(2,v)] [(g2,40,Scl.ls n),(g1,23,ks p)]:=H.pick [0,1,2,5] [0,1] rfl
 refine hK1 _ _ ?_
 clear hK1
 refine wp_seq_k (fun K2 hK2=>?_)
 refine aE ?_
 refine aY (F:=fun u_ _=>u_=.agg (Scl.ls n)) (aI H (aA rfl) (aC rfl rfl (k:=0) rfl Tryz.underlying40 rfl (cG _))) rfl rfl rfl H ?_
 try clear H a W
 rintro _ a W rfl H
 refine aY (F:=fun u_ _=>u_=.tuple #[.agg (ks (n%115792089237316195423570985008687907853269984665640564039457584007913129639936)),.agg (ks (n/115792089237316195423570985008687907853269984665640564039457584007913129639936))]) (cE H (aA rfl) rfl ⟨_,Tryz.func28,by kernel_rfl⟩ rfl (oD _ W (hgl.ext H.below))) rfl rfl rfl H ?_
 try clear H a W
 rintro _ a W rfl H
 refine aY (F:=fun u_ _=>u_=.tuple #[.agg (ks (n%115792089237316195423570985008687907853269984665640564039457584007913129639936)),.agg (ks (n/115792089237316195423570985008687907853269984665640564039457584007913129639936))]) (aI H (aA rfl) (aK rfl rfl)) rfl rfl rfl H ?_
 try clear H a W
 rintro _ a W rfl H
 refine aY (F:=fun u_ _=>u_=.agg (ks (n%115792089237316195423570985008687907853269984665640564039457584007913129639936))) (aI H (aA rfl) (bF rfl rfl (fun _=>rfl))) rfl rfl rfl H ?_
 try clear H a W
 rintro _ a W rfl H
 refine aY (F:=fun u_ _=>u_=.agg (ks (n/115792089237316195423570985008687907853269984665640564039457584007913129639936))) (aI H (aA rfl) (bF rfl rfl (fun _=>rfl))) rfl rfl rfl H ?_
 try clear H a W
 rintro _ a W rfl H
 refine bC (aN rfl bZ) rfl rfl rfl rfl H ?_
 try clear H a W
 intro g3 a W H
 refine bC (aN rfl bZ) rfl rfl rfl rfl H ?_
 try clear H a W
 intro g4 a W H
 refine aO rfl rfl rfl (k:=1) rfl (aL _) (by simp only [aX,aU,aG,Scl.bE]<;>rfl) (bU _) rfl rfl H ?_
 try clear H a W
 intro a W H
 refine aO rfl rfl rfl (k:=0) rfl (aL _) (by simp only [aX,aU,aG,Scl.bE]<;>rfl) (bU _) rfl rfl H ?_
 try clear H a W
 intro a W H
 refine aH ?_
 replace H:St 43 w a W [(8,pA g4),(7,pA g3),(6,.int .i64 0),(3,pA g1),(2,v)] [(g4,23,ks (n/115792089237316195423570985008687907853269984665640564039457584007913129639936)),(g3,23,ks (n%115792089237316195423570985008687907853269984665640564039457584007913129639936)),(g1,23,ks p)]:=H.pick [0,1,7,9,10] [0,1,3] rfl
 refine hK2 _ _ ?_
 clear hK2
 refine wp_seq_k (fun K3 hK3=>?_)
 refine aE ?_
 refine aY (F:=fun u_ _=>u_=.agg (ks p)) (aI H (aA rfl) (aC rfl rfl (k:=2) rfl Tryz.underlying23 rfl (aL _))) rfl rfl rfl H ?_
 try clear H a W
 rintro _ a W rfl H
 refine aY (F:=fun u_ _=>u_=.tuple #[.agg (sv PZ),.bool false]) (cE H (aA rfl) rfl ⟨_,Tryz.func29,by kernel_rfl⟩ rfl (of_no hp hisp W (hgl.ext H.below).pg)) rfl rfl rfl H ?_
 try clear H a W
 rintro _ a W rfl H
 refine aY (F:=fun u_ _=>u_=.tuple #[.agg (sv PZ),.bool false]) (aI H (aA rfl) (aK rfl rfl)) rfl rfl rfl H ?_
 try clear H a W
 rintro _ a W rfl H
 refine aY (F:=fun u_ _=>u_=.agg (sv PZ)) (aI H (aA rfl) (bF rfl rfl (fun _=>rfl))) rfl rfl rfl H ?_
 try clear H a W
 rintro _ a W rfl H
 refine aY (F:=fun u_ _=>u_=.bool false) (aI H (aA rfl) (bF rfl rfl (fun _=>rfl))) rfl rfl rfl H ?_
 try clear H a W
 rintro _ a W rfl H
 refine bC (aN rfl lU) rfl rfl rfl rfl H ?_
 try clear H a W
 intro g5 a W H
 refine aO rfl rfl rfl (k:=0) rfl (bX _) (by simp only [aX,aU,aG,Scl.bE]<;>rfl) (dY _) rfl rfl H ?_
 try clear H a W
 intro a W H
 refine aY (F:=fun u_ _=>u_=.bool false) (aI H (aA rfl) (aM rfl rfl)) rfl rfl rfl H ?_
 try clear H a W
 rintro _ a W rfl H
 refine aH ?_
 replace H:St 43 w a W [(10,.bool false),(9,pA g5),(8,pA g4),(7,pA g3),(6,.int .i64 0),(3,pA g1),(2,v)] [(g5,58,sv PZ),(g4,23,ks (n/115792089237316195423570985008687907853269984665640564039457584007913129639936)),(g3,23,ks (n%115792089237316195423570985008687907853269984665640564039457584007913129639936)),(g1,23,ks p)]:=H.pick [0,1,7,8,9,10,11] [0,1,2,3] rfl
 refine hK3 _ _ ?_
 clear hK3
 refine wp_seq_k (fun K4 hK4=>?_)
 refine wp_seq_k (fun K5 hK5=>?_)
 refine aE ?_
 refine aY (F:=fun u_ _=>u_=.bool false) (aI H (aA rfl) (aK rfl rfl)) rfl rfl rfl H ?_
 try clear H a W
 rintro _ a W rfl H
 refine aY (F:=fun u_ _=>u_=.bool true) (aI H (aA rfl) (cX rfl rfl (fun _=>rfl))) rfl rfl rfl H ?_
 try clear H a W
 rintro _ a W rfl H
 refine aY (F:=fun u_ _=>u_=.bool true) (aI H (aA rfl) (aK rfl rfl)) rfl rfl rfl H ?_
 try clear H a W
 rintro _ a W rfl H
 refine dE (aJ rfl rfl rfl rfl rfl) rfl rfl rfl H ?_
 try clear H a W
 intro a W H
 refine dE (aJ rfl rfl rfl rfl rfl) rfl rfl rfl H ?_
 try clear H a W
 intro a W H
 refine dE (aJ rfl rfl rfl rfl rfl) rfl rfl rfl H ?_
 try clear H a W
 intro a W H
 refine aY (F:=fun u_ _=>u_=.bool true) (aI H (aA rfl) (cH rfl rfl (fun _=>rfl) (fun hb=>by cases hb))) rfl rfl rfl H ?_
 try clear H a W
 rintro _ a W rfl H
 refine aH ?_
 replace H:St 43 w a W [(28,.bool true),(9,pA g5),(8,pA g4),(7,pA g3),(6,.int .i64 0),(3,pA g1),(2,v)] [(g5,58,sv PZ),(g4,23,ks (n/115792089237316195423570985008687907853269984665640564039457584007913129639936)),(g3,23,ks (n%115792089237316195423570985008687907853269984665640564039457584007913129639936)),(g1,23,ks p)]:=H.pick [0,8,9,10,11,12,13] [0,1,2,3] rfl
 refine hK5 _ _ ?_
 clear hK5
 refine wp_cond_true (H.ev rfl) ?_
 refine wp_seq_k (fun K6 hK6=>?_)
 refine aE ?_
 replace H:St 43 w a W [(28,.bool true),(9,pA g5),(8,pA g4),(7,pA g3),(3,pA g1),(2,v)] [(g5,58,sv PZ),(g4,23,ks (n/115792089237316195423570985008687907853269984665640564039457584007913129639936)),(g3,23,ks (n%115792089237316195423570985008687907853269984665640564039457584007913129639936)),(g1,23,ks p)]:=H.pick [0,1,2,3,5,6] [0,1,2,3] rfl
 refine aY (F:=fun u_ _=>u_=.int .i64 8) (aI H (aA rfl) (aM rfl rfl)) rfl rfl rfl H ?_
 try clear H a W
 rintro _ a W rfl H
 refine aH ?_
 replace H:St 43 w a W [(6,.int .i64 8),(9,pA g5),(8,pA g4),(7,pA g3),(3,pA g1),(2,v)] [(g5,58,sv PZ),(g4,23,ks (n/115792089237316195423570985008687907853269984665640564039457584007913129639936)),(g3,23,ks (n%115792089237316195423570985008687907853269984665640564039457584007913129639936)),(g1,23,ks p)]:=H.pick [0,2,3,4,5,6] [0,1,2,3] rfl
 refine hK6 _ _ ?_
 clear hK6
 refine wp_ret ?_
 repeat (first | (with_reducible refine bD ?_) | (with_reducible refine bI ?_))
 refine dX (p:=6) rfl rfl H (fun hb=>?_)
 exact ⟨rfl,hb⟩
theorem check_b {v:Value} {p n:Nat} {M:List (List UInt8)} {l:List UInt8} (w:World) (hv:RF M v w) (hl:M.flatten=l) (hfit:Fit M) (hp:K256 p) (hn:n<13407807929942597099574024998205846127479365820592393377723561443721764030073546976801874298166903427690031858186486050853753882811946569946433649006084096) (hisp:isPt p=true) {bm be:Bool} (hbm:decide (n/115792089237316195423570985008687907853269984665640564039457584007913129639936<LL')=bm) (hbe:decide (pbn (chkP p hisp (n/115792089237316195423570985008687907853269984665640564039457584007913129639936) (sigH (n%115792089237316195423570985008687907853269984665640564039457584007913129639936) p l))=n%115792089237316195423570985008687907853269984665640564039457584007913129639936)=be) (hgl:GL w):Calls zP 12 #[.agg (ks p),.agg (Scl.ls n),v] w (fun rr w'=>rr=.returned (.int .i64 (er (bm&&be)))∧Below w.heap.size w w'):=by
 obtain ⟨zo,hzo⟩:∃ z,z=ptE (ptX p) (ofK p):=⟨_,rfl⟩
 obtain ⟨mm,hmm⟩:∃ m,m=pbn (chkP p hisp (n/115792089237316195423570985008687907853269984665640564039457584007913129639936) (sigH (n%115792089237316195423570985008687907853269984665640564039457584007913129639936) p l)):=⟨_,rfl⟩
 rw [←hmm] at hbe
 have hmml:K256 mm:=by rw [hmm];exact yO _
 obtain ⟨z1,hz1⟩:∃ z:L4 PP,z=ptMul BE (n/115792089237316195423570985008687907853269984665640564039457584007913129639936) 256:=⟨_,rfl⟩
 obtain ⟨z2,hz2⟩:∃ z:L4 PP,z=ptNeg zo:=⟨_,rfl⟩
 obtain ⟨z3,hz3⟩:∃ z:L4 PP,z=ptMul z2 (sigH (n%115792089237316195423570985008687907853269984665640564039457584007913129639936) p l) 256:=⟨_,rfl⟩
 obtain ⟨z4,hz4⟩:∃ z:L4 PP,z=ptAdd z1 z3:=⟨_,rfl⟩
 have hrep:RepS (chkP p hisp (n/115792089237316195423570985008687907853269984665640564039457584007913129639936) (sigH (n%115792089237316195423570985008687907853269984665640564039457584007913129639936) p l)) z4:=by rw [hz4,hz3,hz2,hz1,hzo];exact (vE.mul (uE hn)).add (((RepS.of (ptOf p hisp)).neg).mul (rO _ _ _))
 refine bN (vs:=[.agg (ks p),.agg (Scl.ls n),v]) 43 Tryz.func12 rfl Tryz.ntmps12 rfl (fun a W H=>?_)
 refine wp_seq_k (fun K1 hK1=>?_)
 refine aE ?_
 refine bP rfl rfl (dG p) rfl rfl rfl rfl H ?_
 try clear H a W
 intro g1 a W H
 refine bP rfl rfl (jN n) rfl rfl rfl rfl H ?_
 try clear H a W
 intro g2 a W H
 refine aY (F:=fun u_ _=>u_=.int .i64 0) (aI H (aA rfl) (aM rfl rfl)) rfl rfl rfl H ?_
 try clear H a W
 rintro _ a W rfl H
 refine aH ?_
 replace H:St 43 w a W [(6,.int .i64 0),(4,pA g2),(3,pA g1),(2,v)] [(g2,40,Scl.ls n),(g1,23,ks p)]:=H.pick [0,1,2,5] [0,1] rfl
 refine hK1 _ _ ?_
 clear hK1
 refine wp_seq_k (fun K2 hK2=>?_)
 refine aE ?_
 refine aY (F:=fun u_ _=>u_=.agg (Scl.ls n)) (aI H (aA rfl) (aC rfl rfl (k:=0) rfl Tryz.underlying40 rfl (cG _))) rfl rfl rfl H ?_
 try clear H a W
 rintro _ a W rfl H
 refine aY (F:=fun u_ _=>u_=.tuple #[.agg (ks (n%115792089237316195423570985008687907853269984665640564039457584007913129639936)),.agg (ks (n/115792089237316195423570985008687907853269984665640564039457584007913129639936))]) (cE H (aA rfl) rfl ⟨_,Tryz.func28,by kernel_rfl⟩ rfl (oD _ W (hgl.ext H.below))) rfl rfl rfl H ?_
 try clear H a W
 rintro _ a W rfl H
 refine aY (F:=fun u_ _=>u_=.tuple #[.agg (ks (n%115792089237316195423570985008687907853269984665640564039457584007913129639936)),.agg (ks (n/115792089237316195423570985008687907853269984665640564039457584007913129639936))]) (aI H (aA rfl) (aK rfl rfl)) rfl rfl rfl H ?_
 try clear H a W
 rintro _ a W rfl H
 refine aY (F:=fun u_ _=>u_=.agg (ks (n%115792089237316195423570985008687907853269984665640564039457584007913129639936))) (aI H (aA rfl) (bF rfl rfl (fun _=>rfl))) rfl rfl rfl H ?_
 try clear H a W
 rintro _ a W rfl H
 refine aY (F:=fun u_ _=>u_=.agg (ks (n/115792089237316195423570985008687907853269984665640564039457584007913129639936))) (aI H (aA rfl) (bF rfl rfl (fun _=>rfl))) rfl rfl rfl H ?_
 try clear H a W
 rintro _ a W rfl H
 refine bC (aN rfl bZ) rfl rfl rfl rfl H ?_
 try clear H a W
 intro g3 a W H
 refine bC (aN rfl bZ) rfl rfl rfl rfl H ?_
 try clear H a W
 intro g4 a W H
 refine aO rfl rfl rfl (k:=1) rfl (aL _) (by simp only [aX,aU,aG,Scl.bE]<;>rfl) (bU _) rfl rfl H ?_
 try clear H a W
 intro a W H
 refine aO rfl rfl rfl (k:=0) rfl (aL _) (by simp only [aX,aU,aG,Scl.bE]<;>rfl) (bU _) rfl rfl H ?_
 try clear H a W
 intro a W H
 refine aH ?_
 replace H:St 43 w a W [(8,pA g4),(7,pA g3),(6,.int .i64 0),(3,pA g1),(2,v)] [(g4,23,ks (n/115792089237316195423570985008687907853269984665640564039457584007913129639936)),(g3,23,ks (n%115792089237316195423570985008687907853269984665640564039457584007913129639936)),(g1,23,ks p)]:=H.pick [0,1,7,9,10] [0,1,3] rfl
 refine hK2 _ _ ?_
 clear hK2
 refine wp_seq_k (fun K3 hK3=>?_)
 refine aE ?_
 refine aY (F:=fun u_ _=>u_=.agg (ks p)) (aI H (aA rfl) (aC rfl rfl (k:=2) rfl Tryz.underlying23 rfl (aL _))) rfl rfl rfl H ?_
 try clear H a W
 rintro _ a W rfl H
 refine aY (F:=fun u_ _=>u_=.tuple #[.agg (sv zo),.bool true]) (cE H (aA rfl) rfl ⟨_,Tryz.func29,by kernel_rfl⟩ rfl (of_yes_z hp hisp hzo W (hgl.ext H.below).pg)) rfl rfl rfl H ?_
 try clear H a W
 rintro _ a W rfl H
 refine aY (F:=fun u_ _=>u_=.tuple #[.agg (sv zo),.bool true]) (aI H (aA rfl) (aK rfl rfl)) rfl rfl rfl H ?_
 try clear H a W
 rintro _ a W rfl H
 refine aY (F:=fun u_ _=>u_=.agg (sv zo)) (aI H (aA rfl) (bF rfl rfl (fun _=>rfl))) rfl rfl rfl H ?_
 try clear H a W
 rintro _ a W rfl H
 refine aY (F:=fun u_ _=>u_=.bool true) (aI H (aA rfl) (bF rfl rfl (fun _=>rfl))) rfl rfl rfl H ?_
 try clear H a W
 rintro _ a W rfl H
 refine bC (aN rfl lU) rfl rfl rfl rfl H ?_
 try clear H a W
 intro g5 a W H
 refine aO rfl rfl rfl (k:=0) rfl (bX _) (by simp only [aX,aU,aG,Scl.bE]<;>rfl) (dY _) rfl rfl H ?_
 try clear H a W
 intro a W H
 refine aY (F:=fun u_ _=>u_=.bool true) (aI H (aA rfl) (aM rfl rfl)) rfl rfl rfl H ?_
 try clear H a W
 rintro _ a W rfl H
 refine aH ?_
 replace H:St 43 w a W [(10,.bool true),(9,pA g5),(8,pA g4),(7,pA g3),(6,.int .i64 0),(3,pA g1),(2,v)] [(g5,58,sv zo),(g4,23,ks (n/115792089237316195423570985008687907853269984665640564039457584007913129639936)),(g3,23,ks (n%115792089237316195423570985008687907853269984665640564039457584007913129639936)),(g1,23,ks p)]:=H.pick [0,1,7,8,9,10,11] [0,1,2,3] rfl
 refine hK3 _ _ ?_
 clear hK3
 refine wp_seq_k (fun K4 hK4=>?_)
 refine wp_seq_k (fun K5 hK5=>?_)
 refine aE ?_
 refine aY (F:=fun u_ _=>u_=.bool true) (aI H (aA rfl) (aK rfl rfl)) rfl rfl rfl H ?_
 try clear H a W
 rintro _ a W rfl H
 refine aY (F:=fun u_ _=>u_=.bool false) (aI H (aA rfl) (cX rfl rfl (fun _=>rfl))) rfl rfl rfl H ?_
 try clear H a W
 rintro _ a W rfl H
 refine aY (F:=fun u_ _=>u_=.bool false) (aI H (aA rfl) (aK rfl rfl)) rfl rfl rfl H ?_
 try clear H a W
 rintro _ a W rfl H
 refine aY (F:=fun u_ _=>u_=.agg (ks (n/115792089237316195423570985008687907853269984665640564039457584007913129639936))) (aI H (aJ rfl rfl rfl rfl rfl) (aC rfl rfl (k:=1) rfl Tryz.underlying23 rfl (aL _))) rfl rfl rfl H ?_
 try clear H a W
 rintro _ a W rfl H
 refine aY (F:=fun u_ _=>u_=.bool bm) (cE H (aJ rfl rfl rfl rfl rfl) rfl ⟨_,Tryz.func30,by kernel_rfl⟩ rfl (mayF hbm (hgl.ext H.below) (uE hn))) rfl rfl rfl H ?_
 try clear H a W
 rintro _ a W rfl H
 refine aY (F:=fun u_ _=>u_=.bool (!bm)) (aI H (aJ rfl rfl rfl rfl rfl) (cX rfl rfl (fun _=>rfl))) rfl rfl rfl H ?_
 try clear H a W
 rintro _ a W rfl H
 refine aY (F:=fun u_ _=>u_=.bool (!bm)) (aI H (aA rfl) (cH rfl rfl (fun hb=>by cases hb) (fun _=>rfl))) rfl rfl rfl H ?_
 try clear H a W
 rintro _ a W rfl H
 refine aH ?_
 replace H:St 43 w a W [(28,.bool (!bm)),(9,pA g5),(8,pA g4),(7,pA g3),(6,.int .i64 0),(3,pA g1),(2,v)] [(g5,58,sv zo),(g4,23,ks (n/115792089237316195423570985008687907853269984665640564039457584007913129639936)),(g3,23,ks (n%115792089237316195423570985008687907853269984665640564039457584007913129639936)),(g1,23,ks p)]:=H.pick [0,8,9,10,11,12,13] [0,1,2,3] rfl
 refine hK5 _ _ ?_
 clear hK5
 cases bm with
 | true =>
  refine wp_cond_false (H.ev rfl) ?_
  refine wp_skip ?_
  refine hK4 _ _ ?_
  clear hK4
  refine wp_seq_k (fun K6 hK6=>?_)
  refine aE ?_
  refine aY (F:=fun u_ _=>u_=.agg (ks (n%115792089237316195423570985008687907853269984665640564039457584007913129639936))) (aI H (aA rfl) (aC rfl rfl (k:=2) rfl Tryz.underlying23 rfl (aL _))) rfl rfl rfl H ?_
  try clear H a W
  rintro _ a W rfl H
  refine aY (F:=fun u_ _=>u_=.agg (ks p)) (aI H (aA rfl) (aC rfl rfl (k:=3) rfl Tryz.underlying23 rfl (aL _))) rfl rfl rfl H ?_
  try clear H a W
  rintro _ a W rfl H
  refine aY (F:=fun u_ _=>u_=v) (aI H (aA rfl) (aK rfl rfl)) rfl rfl rfl H ?_
  try clear H a W
  intro y_ a W hy_ H
  replace hy_:=hy_.symm
  subst hy_
  refine aY (F:=fun u_ _=>u_=.agg (ks (sigH (n%115792089237316195423570985008687907853269984665640564039457584007913129639936) p l))) (cE H (aA rfl) rfl ⟨_,Tryz.func20,by kernel_rfl⟩ rfl (xJ W (tB hv H) hl hfit (hgl.ext H.below))) rfl rfl rfl H ?_
  try clear H a W
  rintro _ a W rfl H
  refine bC (aN rfl bZ) rfl rfl rfl rfl H ?_
  try clear H a W
  intro g6 a W H
  refine aO rfl rfl rfl (k:=0) rfl (aL _) (by simp only [aX,aU,aG,Scl.bE]<;>rfl) (bU _) rfl rfl H ?_
  try clear H a W
  intro a W H
  refine aH ?_
  replace H:St 43 w a W [(11,pA g6),(9,pA g5),(8,pA g4),(7,pA g3),(6,.int .i64 0)] [(g6,23,ks (sigH (n%115792089237316195423570985008687907853269984665640564039457584007913129639936) p l)),(g5,58,sv zo),(g4,23,ks (n/115792089237316195423570985008687907853269984665640564039457584007913129639936)),(g3,23,ks (n%115792089237316195423570985008687907853269984665640564039457584007913129639936))]:=H.pick [0,6,7,8,9] [0,1,2,3] rfl
  refine hK6 _ _ ?_
  clear hK6
  refine wp_seq_k (fun K7 hK7=>?_)
  refine wp_seq_k (fun K8 hK8=>?_)
  refine drawnS [.val 33 (.agg (ks (n/115792089237316195423570985008687907853269984665640564039457584007913129639936))) [] [2],.val 34 (.agg (sv z1)) [0] [],.val 35 (.agg (sv zo)) [] [1],.val 36 (.agg (sv z2)) [2] [],.val 37 (.agg (ks (sigH (n%115792089237316195423570985008687907853269984665640564039457584007913129639936) p l))) [] [0],.val 38 (.agg (sv z3)) [3,4] [],.val 39 (.agg (sv z4)) [1,5] [],.val 40 (.agg (ks mm)) [6] [],.val 41 (.agg (ks (n%115792089237316195423570985008687907853269984665640564039457584007913129639936))) [] [3],.val 42 (.bool (!be)) [7,8] []] [0,1,0,6,0,24,34,64,0,384] (by kernel_rfl) (by kernel_rfl) (by kernel_rfl) H ⟨⟨aC rfl rfl (k:=0) rfl Tryz.underlying23 rfl (aL _),aA rfl⟩,⟨aF rfl ⟨_,Tryz.func17,by kernel_rfl⟩ rfl (fun W hb=>baseF hz1 (hgl.ext hb)),aA rfl⟩,⟨aC rfl rfl (k:=0) rfl Tryz.underlying58 rfl (bX _),aA rfl⟩,⟨aF rfl ⟨_,Tryz.func32,by kernel_rfl⟩ rfl (fun W hb=>neg_pt hz2 W (hgl.ext hb).pg),aA rfl⟩,⟨aC rfl rfl (k:=0) rfl Tryz.underlying23 rfl (aL _),aA rfl⟩,⟨aF rfl ⟨_,Tryz.func33,by kernel_rfl⟩ rfl (fun W hb=>mul_pt hz3 W (hgl.ext hb).pg),aA rfl⟩,⟨aF rfl ⟨_,Tryz.func31,by kernel_rfl⟩ rfl (fun W hb=>zR hz4 W (hgl.ext hb).pg),aA rfl⟩,⟨aF rfl ⟨_,Tryz.func18,by kernel_rfl⟩ rfl (fun W hb=>pU (P:=chkP p hisp (n/115792089237316195423570985008687907853269984665640564039457584007913129639936) (sigH (n%115792089237316195423570985008687907853269984665640564039457584007913129639936) p l)) hrep hmm W (hgl.ext hb).pg),aA rfl⟩,⟨aC rfl rfl (k:=0) rfl Tryz.underlying23 rfl (aL _),aA rfl⟩,⟨aQ rfl rfl rfl (sne_key hmml (lo_lt n) hbe _ _),aA rfl⟩,trivial⟩ ?_
  try clear H a W
  intro G7 a W H
  replace H:St 43 w a W [(42,.bool (!be)),(6,.int .i64 0)] []:=H.pick [9,14] [] rfl
  refine hK8 _ _ ?_
  clear hK8
  cases be with
  | true =>
   refine wp_cond_false (H.ev rfl) ?_
   refine wp_skip ?_
   refine hK7 _ _ ?_
   clear hK7
   refine wp_seq_k (fun K9 hK9=>?_)
   refine aE ?_
   replace H:St 43 w a W [(42,.bool (!true))] []:=H.pick [0] [] rfl
   refine aY (F:=fun u_ _=>u_=.int .i64 0) (aI H (aA rfl) (aM rfl rfl)) rfl rfl rfl H ?_
   try clear H a W
   rintro _ a W rfl H
   refine aH ?_
   replace H:St 43 w a W [(6,.int .i64 0)] []:=H.pick [0] [] rfl
   refine hK9 _ _ ?_
   clear hK9
   refine wp_ret ?_
   repeat (first | (with_reducible refine bD ?_) | (with_reducible refine bI ?_))
   refine dX (p:=6) rfl rfl H (fun hb=>?_)
   exact ⟨by rw [Bool.true_and,er_t],hb⟩
  | false =>
   refine wp_cond_true (H.ev rfl) ?_
   refine wp_seq_k (fun K10 hK10=>?_)
   refine aE ?_
   replace H:St 43 w a W [(42,.bool (!false))] []:=H.pick [0] [] rfl
   refine aY (F:=fun u_ _=>u_=.int .i64 8) (aI H (aA rfl) (aM rfl rfl)) rfl rfl rfl H ?_
   try clear H a W
   rintro _ a W rfl H
   refine aH ?_
   replace H:St 43 w a W [(6,.int .i64 8)] []:=H.pick [0] [] rfl
   refine hK10 _ _ ?_
   clear hK10
   refine wp_ret ?_
   repeat (first | (with_reducible refine bD ?_) | (with_reducible refine bI ?_))
   refine dX (p:=6) rfl rfl H (fun hb=>?_)
   exact ⟨by rw [Bool.true_and,er_f],hb⟩
 | false =>
  refine wp_cond_true (H.ev rfl) ?_
  refine wp_seq_k (fun K11 hK11=>?_)
  refine aE ?_
  replace H:St 43 w a W [(28,.bool (!false)),(9,pA g5),(8,pA g4),(7,pA g3),(3,pA g1),(2,v)] [(g5,58,sv zo),(g4,23,ks (n/115792089237316195423570985008687907853269984665640564039457584007913129639936)),(g3,23,ks (n%115792089237316195423570985008687907853269984665640564039457584007913129639936)),(g1,23,ks p)]:=H.pick [0,1,2,3,5,6] [0,1,2,3] rfl
  refine aY (F:=fun u_ _=>u_=.int .i64 8) (aI H (aA rfl) (aM rfl rfl)) rfl rfl rfl H ?_
  try clear H a W
  rintro _ a W rfl H
  refine aH ?_
  replace H:St 43 w a W [(6,.int .i64 8),(9,pA g5),(8,pA g4),(7,pA g3),(3,pA g1),(2,v)] [(g5,58,sv zo),(g4,23,ks (n/115792089237316195423570985008687907853269984665640564039457584007913129639936)),(g3,23,ks (n%115792089237316195423570985008687907853269984665640564039457584007913129639936)),(g1,23,ks p)]:=H.pick [0,2,3,4,5,6] [0,1,2,3] rfl
  refine hK11 _ _ ?_
  clear hK11
  refine wp_ret ?_
  repeat (first | (with_reducible refine bD ?_) | (with_reducible refine bI ?_))
  refine dX (p:=6) rfl rfl H (fun hb=>?_)
  exact ⟨by rw [Bool.false_and,er_f],hb⟩
theorem eQ {v:Value} {p n:Nat} {M:List (List UInt8)} {l:List UInt8} (w:World) (hv:RF M v w) (hl:M.flatten=l) (hfit:Fit M) (hp:K256 p) (hn:n<13407807929942597099574024998205846127479365820592393377723561443721764030073546976801874298166903427690031858186486050853753882811946569946433649006084096) {b:Bool} (hb:checkN p n l=b) (hgl:GL w):Calls zP 12 #[.agg (ks p),.agg (Scl.ls n),v] w (fun rr w'=>rr=.returned (.int .i64 (er b))∧Below w.heap.size w w'):=by
 cases hisp:isPt p with
 | false =>
  have e:b=false:=by rw [←hb];unfold checkN;rw [dif_neg (by rw [hisp];decide)]
  rw [e,er_f]
  exact check_a w hv hl hfit hp hn hisp hgl
 | true =>
  have e:checkN p n l=(decide (n/115792089237316195423570985008687907853269984665640564039457584007913129639936<LL')&&decide (pbn (chkP p hisp (n/115792089237316195423570985008687907853269984665640564039457584007913129639936) (sigH (n%115792089237316195423570985008687907853269984665640564039457584007913129639936) p l))=n%115792089237316195423570985008687907853269984665640564039457584007913129639936)):=by unfold checkN;rw [dif_pos hisp]
  rw [←hb,e]
  exact check_b w hv hl hfit hp hn hisp rfl rfl hgl
end
section
set_option maxRecDepth 99999
open Go Go.RowKit
theorem ls_put {n k x:Nat} (hk:k<64) (hx:x<256):(Scl.ls n).setIfInBounds k (.int .u8 (x:Int))=Scl.ls (putd 256 n k x):=by
 rw [Scl.ls,dV,Scl.ls]
 congr 1
 apply List.ext_getElem?
 intro j
 rw [List.getElem?_set]
 by_cases hj:j<64
 ·
  rw [Scl.qQ (putd 256 n k x) hj,kI (by omega) hx (eU 256 n k x) j]
  by_cases e:k=j
  ·
   subst e
   rw [if_pos rfl,if_pos rfl,Scl.kW,if_pos hk]
  ·
   rw [if_neg e,if_neg (fun h=>e h.symm),Scl.qQ n hj]
 ·
  have:k≠j:=by omega
  rw [if_neg this,List.getElem?_eq_none (by rw [Scl.kW];omega),List.getElem?_eq_none (by rw [Scl.kW];omega)]
theorem wV (g:Nat) (W:World):(Instr.indexAt 40 (.pointer (some ⟨g,0,none⟩)) (.int .i64 32)).run zP W=.ok (.pointer (some ⟨g,32,none⟩)) W:=by kernel_rfl
theorem ld_long32 {n x:Nat} (hx:n/256^32%256=x) {g:Nat} (W:World) (h:Blk W g 40 (Scl.ls n)):(Instr.loadAt 5 (.pointer (some ⟨g,32,none⟩))).run zP W=.ok (.int .u8 (x:Int)) W:=by
 have hc:=h.cell 32
 rw [Scl.ls_get n (by omega),hx] at hc
 go_simp
theorem st_long32 {n:Nat} {v:Int} {g:Nat} (W:World) (h:Blk W g 40 (Scl.ls n)):(Instr.storeAt 5 (.pointer (some ⟨g,32,none⟩)) (.int .u8 v)).run zP W=.ok () (W.setCells g 32 [.int .u8 v]):=by
 have hc:=h.cell 32
 have hf:=h.frozen 32
 rw [Scl.ls_get n (by omega)] at hc
 have hs:(W.cell? ⟨g,32,none⟩).isSome=true:=by rw [hc];rfl
 show _=Result.ok () (W.setCell ⟨g,32,none⟩ (.int .u8 v))
 go_simp
theorem sv_long32 {n m:Nat} {x:Nat} (hx:x<256) (hm:putd 256 n 32 x=m):setV (Scl.ls n) 32 [.int .u8 (x:Int)]=Scl.ls m:=by
 show (Scl.ls n).setIfInBounds 32 (.int .u8 (x:Int))=Scl.ls m
 rw [ls_put (by omega) hx,hm]
theorem wrap_inc {x:Nat} (hx:x<256):IntKind.u8.wrap ((x:Int)+1)=(((x+1)%256:Nat):Int):=by
 have h:∀ x:Fin 256,IntKind.u8.wrap (((x.val:Nat):Int)+1)=(((x.val+1)%256:Nat):Int):=by decide +kernel
 exact h ⟨x,hx⟩
theorem b_inc {x y:Nat} (hx:x<256) (h:(x+1)%256=y) (p q:Operand) (W:World):(do eqGuard .add 5 p q (.int .u8 (x:Int)) (.int .u8 1);binOp .add 5 (.int .u8 (x:Int)) (.int .u8 1):Sem Value).run zP W=.ok (.int .u8 (y:Int)) W:=by
 have e:=wrap_inc hx
 rw [h] at e
 go_simp
theorem put_lo {n v:Nat}:putd 256 n 32 v%115792089237316195423570985008687907853269984665640564039457584007913129639936=n%115792089237316195423570985008687907853269984665640564039457584007913129639936:=by
 have e:=eU 256 n 32 v
 rw [←pJ] at e
 generalize putd 256 n 32 v=m at *
 omega
theorem put_hi {n v d:Nat} (hd:n/256^32%256=d) (hv:(d+1)%256=v):putd 256 n 32 v/115792089237316195423570985008687907853269984665640564039457584007913129639936≠n/115792089237316195423570985008687907853269984665640564039457584007913129639936:=by
 have e:=eU 256 n 32 v
 rw [←pJ] at e hd
 generalize putd 256 n 32 v=m at *
 omega
theorem check_put {x d v:Nat} {l:List UInt8} (hd:signN x l/256^32%256=d) (hv:(d+1)%256=v):checkN (pubN x) (putd 256 (signN x l) 32 v) l=false:=by
 have h1:signN x l%115792089237316195423570985008687907853269984665640564039457584007913129639936=sigP x l:=join_lo (jC x l)
 have h2:signN x l/115792089237316195423570985008687907853269984665640564039457584007913129639936=sigS x l:=join_hi (jC x l)
 rw [xH (by rw [put_lo];exact h1),decide_eq_false_iff_not,←h2]
 exact put_hi hd hv
theorem put_lt {n v:Nat} (hn:n<13407807929942597099574024998205846127479365820592393377723561443721764030073546976801874298166903427690031858186486050853753882811946569946433649006084096) (hv:v<256):putd 256 n 32 v<13407807929942597099574024998205846127479365820592393377723561443721764030073546976801874298166903427690031858186486050853753882811946569946433649006084096:=by
 have e:=eU 256 n 32 v
 have h1:(256:Nat)^32*(n/256^32%256)≤n:=digit_le n 32
 rw [←pJ] at e h1
 have h3:n/115792089237316195423570985008687907853269984665640564039457584007913129639936<115792089237316195423570985008687907853269984665640564039457584007913129639936:=uE hn
 generalize hq:n/115792089237316195423570985008687907853269984665640564039457584007913129639936=q at *
 have h4:q-q%256+v<115792089237316195423570985008687907853269984665640564039457584007913129639936:=by omega
 generalize putd 256 n 32 v=m at *
 omega
attribute [local irreducible] pubN signN sigP sigS checkN kby
theorem sign_z {v:Value} {x m:Nat} {M:List (List UInt8)} {l:List UInt8} (hm:m=signN x l) (w:World) (hv:RF M v w) (hl:M.flatten=l) (hfit:Fit M) (hgl:GL w):Calls zP 8 #[.agg (ks x),v] w (fun rr w'=>rr=.returned (.agg (Scl.ls m))∧Below w.heap.size w w'):=by
 subst hm;exact mB w hv hl hfit hgl
theorem public_z {x m:Nat} (hm:m=pubN x) (w:World) (hgl:GL w):Calls zP 9 #[.agg (ks x)] w (fun rr w'=>rr=.returned (.agg (ks m))∧Below w.heap.size w w'):=by
 subst hm;exact jF x w hgl
theorem fit_m:Fit [[109]]:=⟨by decide,by decide⟩
theorem jI {l:List UInt8} (h:l.length≤1000):Fit [l]:=⟨by simp;omega,by simp⟩
theorem iB (l:List UInt8):[l].flatten=l:=by simp
end
section
namespace Sha
open Go Go.RowKit
theorem mT {P:Program} (t e:TypeId) (ht:P.underlying t=some (.slice e)) (he:(P.info? e).map (fun i=>(i.zero,i.size,i.bytes))=some (some (.int .u64 0),1,8)) (n:Nat) (hn:n≤1000000) (W:World) :
  (Instr.makeSlice t (.int .i64 (n:Int)) (.int .i64 (n:Int))).run P W=.ok (.slice (some ⟨W.heap.size,0,none⟩) n n) (W.alloc (.cells (us (List.replicate n 0)) e)):=by
 obtain ⟨i,hi,hz,hs,hb⟩:=info_parts he
 have h:=run_make (P:=P) W t e i _ ht hi hz .i64 .i64 (n:Int) (n:Int) (by omega) (by omega) (by rw [hb];omega) (by omega)
 simp only [Int.toNat_natCast,hs,Nat.mul_one] at h
 rw [h]
 have:madeCells (Value.int .u64 0).cells n=us (List.replicate n 0):=by
  apply Array.toList_inj.1
  show (madeCells #[Value.int .u64 0] n).toList=_
  rw [toList_madeCells_one]
  simp [us,ncs,nc,List.map_replicate]
 rw [this]
theorem cN:(zP.info? 29).map (fun i=>(i.zero,i.size,i.bytes))=some (some (.int .u64 0),1,8):=by kernel_rfl
theorem nc_def (x:Nat):nc .u64 x=.int .u64 (x:Int):=rfl
structure US (w:World) (B:Nat) (A:Option Addr) (n c:Nat) (l:List Nat):Prop where
 len:l.length=n
 cap:n≤c
 nil_:A=none→c=0
 at_:0<n→∃ b o,A=some ⟨b,o,none⟩∧b<B∧∀ (j x:Nat),l[j]?=some x→w.cell? ⟨b,o+j,none⟩=some (.int .u64 (x:Int))
section
variable {w w':World} {B B' n c:Nat} {A:Option Addr} {l:List Nat}
theorem US.nil (w:World) (B:Nat):US w B none 0 0 []:=⟨rfl,Nat.le_refl _,fun _=>rfl,fun h=>absurd h (by omega)⟩
theorem US.keep (h:US w B A n c l) (hk:∀ p:Addr,p.block<B→w'.cell? p=w.cell? p):US w' B A n c l :=
 ⟨h.len,h.cap,h.nil_,fun hn=>by
  obtain ⟨b,o,e,hb,hc⟩:=h.at_ hn
  exact ⟨b,o,e,hb,fun j x hx=>(hk _ hb).trans (hc j x hx)⟩⟩
theorem US.more (h:US w B A n c l) (hB:B≤B'):US w B' A n c l :=
 ⟨h.len,h.cap,h.nil_,fun hn=>by
  obtain ⟨b,o,e,hb,hc⟩:=h.at_ hn
  exact ⟨b,o,e,by omega,hc⟩⟩
theorem US.below (h:US w B A n c l) (hb:Below B w w'):US w' B A n c l:=h.keep fun _ hp=>hb.cell hp
theorem US.drew (h:US w B A n c l):US w.drew B A n c l:=⟨h.1,h.2,h.3,h.4⟩
theorem US.alloc (h:US w B A n c l) (hB:B≤w.heap.size) (o:Obj):US (w.alloc o) B A n c l:=h.keep fun p hp=>World.cell?_alloc_lt w o p (by omega)
theorem US.setCell (h:US w B A n c l) {p:Addr} (hB:B≤p.block) (u:Value):US (w.setCell p u) B A n c l :=
 h.keep fun q hq=>World.cell?_setCell_other w p q u (fun e=>by subst e;omega)
theorem US.grown (h:US w B A n c l) {row:Option Nat} (hg:w.grownBy w' row) (hB:B≤w.heap.size) (hr:∀ g,row=some g→B≤g):US w' B A n c l :=
 h.keep fun p hp=>World.cell?_of_block (hg.block p.block (by omega) (fun e=>by have:=hr _ e.symm;omega))
theorem US.ofBlk {g:Nat} {t:TypeId} (h:Blk w g t (us l)) (n:Nat) (hn:n=l.length) (B:Nat) (hB:g<B):US w B (some ⟨g,0,none⟩) n n l :=
 ⟨hn.symm,Nat.le_refl _,(by intro e;cases e),fun _=>⟨g,0,rfl,hB,fun j x hx=>by rw [Nat.zero_add,h.cell,us_get,hx];rfl⟩⟩
theorem US.at' (h:US w B A n c l) {k:Nat} (hk:k<n):∃ b o x,A=some ⟨b,o,none⟩∧b<B∧l[k]?=some x∧w.cell? ⟨b,o+k,none⟩=some (.int .u64 (x:Int)):=by
 obtain ⟨b,o,e,hb,hc⟩:=h.at_ (by omega)
 have hl:k<l.length:=by have:=h.len;omega
 exact ⟨b,o,l[k],e,hb,List.getElem?_eq_getElem hl,hc k _ (List.getElem?_eq_getElem hl)⟩
end
def OwnU (w:World) (base:Nat) (e:TypeId) (v:Value) (l:List Nat):Prop:=w.ownsRow base e 1 v l.length (l.map (nc .u64))
section
variable {w w':World} {base:Nat} {e:TypeId} {v:Value} {l:List Nat}
theorem OwnU.nil (w:World) (base:Nat) (e:TypeId):OwnU w base e (.slice none 0 0) []:=⟨rfl,.inl ⟨rfl,rfl⟩⟩
theorem OwnU.alloc (h:OwnU w base e v l) (o:Obj):OwnU (w.alloc o) base e v l:=World.ownsRow.alloc h o
theorem OwnU.drew (h:OwnU w base e v l):OwnU w.drew base e v l:=h
theorem OwnU.ofBlk {g:Nat} (h:Blk w g e (us l)) (n:Nat) (hn:n=l.length) (hm:n≤maxLen) (hb:base≤g):OwnU w base e (.slice (some ⟨g,0,none⟩) n n) l:=by
 subst hn
 exact ⟨by simp,.inr ⟨g,_,_,rfl,hb,h,Nat.le_refl _,hm,by simp [us,ncs],by rw [List.take_of_length_le (by simp [kL])];simp [us,ncs]⟩⟩
theorem OwnU.form (h:OwnU w base e v l):∃ A n c,v=.slice A n c∧US w w.heap.size A n c l∧∀ g,v.ownBlock=some g→base≤g:=by
 have hlt:=World.ownsRow.lt h
 rcases h.2 with ⟨rfl,h0⟩ | ⟨g,cap,cur,rfl,hb,hh,hc,hm,hs,ht⟩
 ·
  obtain rfl:l=[]:=List.eq_nil_of_length_eq_zero h0
  exact ⟨none,0,0,rfl,US.nil _ _,fun g hg=>(hlt g hg).1⟩
 ·
  refine ⟨_,_,_,rfl,⟨rfl,hc,by intro e;(cases e),fun _=>⟨g,0,rfl,(hlt g rfl).2,fun j x hx=>?_⟩⟩,fun g hg=>(hlt g hg).1⟩
  have:=World.ownsRow.cells h (g:=g) rfl j (nc .u64 x) (by simp [hx])
  rw [Addr.add_lit] at this
  exact this
theorem OwnU.own (h:OwnU w base e v l) {g:Nat} (hg:v.ownBlock=some g):base≤g∧g<w.heap.size:=World.ownsRow.lt h g hg
end
section
variable {P:Program} {w:World} {ops:Array Oper} {rest:List Oper} {o:Oper} {a:Act} {Q:Exit→Act→World→Prop}
theorem jX {B:Nat} {A:Option Addr} {m c:Nat} {l:List Nat} (hr:US w B A m c l):∀ ad,A=some ad→∀ j u,(l.map (nc .u64))[j]?=some u→w.cell? (ad.add j)=some u:=by
 rintro ad rfl j u hu
 rw [List.getElem?_map] at hu
 obtain ⟨x,hx,rfl⟩:=Option.map_eq_some_iff.1 hu
 obtain ⟨b,o,e,_,hc⟩:=hr.at_ (by have:=hr.len;have:=(List.getElem?_eq_some_iff.1 hx).1;omega)
 injection e with e
 subst e
 rw [Addr.add_lit]
 exact hc j x hx
theorem qN (l:List Nat):∀ u∈l.map (nc .u64),u.oneCell'=true:=by
 intro u hu
 obtain ⟨_,_,rfl⟩:=List.mem_map.1 hu
 rfl
theorem fI (t ty:TypeId)
  (e:TypeId) (ht:P.underlying t=some (.slice e)) (he:(P.info? e).map (fun i=>(i.zero,i.size,i.bytes))=some (some (.int .u64 0),1,8))
  (base:Nat) (v:Value) (l:List Nat) (hown:OwnU w base e v l)
  (B m c:Nat) (A:Option Addr) (l2:List Nat) (hr:US w B A m c l2) (hbig:l.length+m≤1000000) (hbase:base≤w.heap.size) :
  ∃ v' w',(Builtin.append_ #[t,t] ty #[v,.slice A m c]).run P w=.ok v' w'∧OwnU w' base e v' (l++l2)∧w.grownBy w' v.ownBlock∧(v'.ownBlock=v.ownBlock∨v'.ownBlock=some w.heap.size):=by
 obtain ⟨i,hi,hz,hsz,hby⟩:=info_parts he
 have hm:=hr.len
 subst hm
 rcases A with _ | ad
 ·
  have h0:=hr.nil_ rfl
  have h1:=hr.cap
  obtain rfl:l2=[]:=List.eq_nil_of_length_eq_zero (by omega)
  subst h0
  exact ⟨v,w,run_append_owned_none (P:=P) w base t ty e i 1 ht hi v _ _ hown,by simpa using hown,World.grownBy.refl _ _,.inl rfl⟩
 ·
  obtain ⟨v',w',h1,h2,h3,_,h5⟩:=run_append_own_at (P:=P) w base t ty e i _ 1 8 ht hi hz hsz hby rfl (by omega) v _ _ hown ad l2.length c (l2.map (nc .u64)) (by simp) (jX hr _ rfl) (qN _) (by simp only [maxLen];omega) (by omega) hbase
  exact ⟨v',w',h1,by unfold OwnU;rw [List.length_append,List.map_append];exact h2,h3,h5⟩
theorem dD (hg:o.guard=none) (s x:Operand) (t:TypeId) (ho:o.op=.call { callee:=.builtin .append,args:=#[s,x],argTypes:=#[t,t] })
  (e:TypeId) (ht:P.underlying t=some (.slice e)) (he:(P.info? e).map (fun i=>(i.zero,i.size,i.bytes))=some (some (.int .u64 0),1,8))
  (base:Nat) (v:Value) (l:List Nat) (hs:a.eval s=v) (hown:OwnU w base e v l)
  (B m c:Nat) (A:Option Addr) (l2:List Nat) (hx:a.eval x=.slice A m c) (hr:US w B A m c l2) (hbig:l.length+m≤1000000) (hbase:base≤w.heap.size)
  (h:∀ v' w',OwnU w' base e v' (l++l2)→w.grownBy w' v.ownBlock→(v'.ownBlock=v.ownBlock∨v'.ownBlock=some w.heap.size)→wpList P ops Q rest (a.put o.dst v') w'):wpList P ops Q (o::rest) a w:=by
 refine wpList_plain hg fun K hK=>?_
 obtain ⟨v',w',hrun,h1,h2,h3⟩:=fI (P:=P) (w:=w) t o.type e ht he base v l hown B m c A l2 hr hbig hbase
 unfold Oper.wp
 simp [execOp,ho,resolve,invoke,builtin,hs,hx,hrun,Result.andThen]
 exact hK _ _ (h v' w' h1 h2 h3)
end
section
variable {P:Program} {w:World} {ops:Array Oper} {o:Oper} {a:Act} {K:Act→World→Prop} {Q:Exit→Act→World→Prop} {E:Prop}
theorem nN (hg:o.guard=none) (s x:Operand) (t:TypeId) (ho:o.op=.call { callee:=.builtin .append,args:=#[s,x],argTypes:=#[t,t] })
  (e:TypeId) (ht:P.underlying t=some (.slice e)) (he:(P.info? e).map (fun i=>(i.zero,i.size,i.bytes))=some (some (.int .u64 0),1,8))
  (base:Nat) (v:Value) (l:List Nat) (hs:a.eval s=v) (hown:OwnU w base e v l)
  (B m c:Nat) (A:Option Addr) (l2:List Nat) (hx:a.eval x=.slice A m c) (hr:US w B A m c l2) (hbig:l.length+m≤1000000) (hbase:base≤w.heap.size)
  (h:∀ v' w',OwnU w' base e v' (l++l2)→w.grownBy w' v.ownBlock→(v'.ownBlock=v.ownBlock∨v'.ownBlock=some w.heap.size)→K (a.put o.dst v') w') :
  if Region.wanted o (yielded ops a.tmps)=true then Oper.wp P o a w K Q else E:=by
 have hw:Region.wanted o (yielded ops a.tmps)=true:=by simp [Region.wanted,hg]
 rw [if_pos hw]
 obtain ⟨v',w',hrun,h1,h2,h3⟩:=fI (P:=P) (w:=w) t o.type e ht he base v l hown B m c A l2 hr hbig hbase
 unfold Oper.wp
 simp [execOp,ho,resolve,invoke,builtin,hs,hx,hrun,Result.andThen]
 exact h v' w' h1 h2 h3
end
end Sha
end
section
namespace Sha
def dv:List Nat→Nat
 | []=>0
 | x::r=>x+4294967296*dv r
theorem uO:∀ (l:List Nat) (j x:Nat),j<l.length→dv (l.set j x)+4294967296^j*l.getD j 0=dv l+4294967296^j*x
 | [],j,x,h=>absurd h (by simp)
 | y::r,0,x,_=>by simp [dv];omega
 | y::r,j+1,x,h=>by
  have ih:=uO r j x (by simpa using h)
  show y+4294967296*dv (r.set j x)+4294967296^(j+1)*(r.getD j 0)=y+4294967296*dv r+4294967296^(j+1)*x
  rw [Nat.pow_succ,Nat.mul_comm (4294967296^j) 4294967296,Nat.mul_assoc,Nat.mul_assoc]
  omega
theorem uN:∀ n,dv (List.replicate n 0)=0
 | 0=>rfl
 | n+1=>by rw [List.replicate_succ,dv,uN n]
theorem lG:∀ (l:List Nat) (j:Nat),j<l.length→dv (l.take (j+1))=dv (l.take j)+4294967296^j*l.getD j 0
 | [],j,h=>absurd h (by simp)
 | y::r,0,_=>by simp [dv]
 | y::r,j+1,h=>by
  have ih:=lG r j (by simpa using h)
  show y+4294967296*dv (r.take (j+1))=y+4294967296*dv (r.take j)+4294967296^(j+1)*(r.getD j 0)
  rw [ih,Nat.pow_succ,Nat.mul_comm (4294967296^j) 4294967296,Nat.mul_assoc]
  omega
theorem pR:∀ (l:List Nat) (j:Nat),dv l=dv (l.take j)+4294967296^j*dv (l.drop j)
 | l,0=>by simp [dv]
 | [],j+1=>by simp [dv]
 | y::r,j+1=>by
  have ih:=pR r j
  show y+4294967296*dv r=y+4294967296*dv (r.take j)+4294967296^(j+1)*dv (r.drop j)
  rw [ih,Nat.pow_succ,Nat.mul_comm (4294967296^j) 4294967296,Nat.mul_assoc]
  omega
theorem zF (l:List Nat) (j:Nat):dv (l.drop j)=l.getD j 0+4294967296*dv (l.drop (j+1)):=by
 by_cases h:j<l.length
 ·
  rw [List.drop_eq_getElem_cons h]
  simp [dv,List.getD,List.getElem?_eq_getElem h]
 ·
  rw [List.drop_of_length_le (by omega),List.drop_of_length_le (by omega)]
  simp [dv,List.getD,show l[j]?=none by simp;omega]
theorem eO (l:List Nat) (i j x:Nat) (h:i<l.length):(l.set i x).getD j 0=if j=i then x else l.getD j 0:=by
 by_cases e:j=i
 ·
  subst e
  simp [List.getD,List.getElem?_set,h]
 ·
  have:i≠j:=fun h=>e h.symm
  simp [List.getD,List.getElem?_set,this,e]
def Dig (l:List Nat):Prop:=∀ j,l.getD j 0<4294967296
theorem dv_lt:∀ (l:List Nat) (j:Nat),Dig l→dv (l.take j)<4294967296^j
 | l,0,_=>by simp [dv]
 | [],j+1,_=>by simp [dv];exact Nat.pow_pos (by omega)
 | y::r,j+1,h=>by
  have ih:=dv_lt r j (fun i=>h (i+1))
  have hy:y<4294967296:=h 0
  show y+4294967296*dv (r.take j)<4294967296^(j+1)
  rw [Nat.pow_succ]
  have:4294967296*(dv (r.take j)+1)≤4294967296*4294967296^j:=Nat.mul_le_mul_left _ ih
  omega
theorem dv_less {a b:List Nat} {j:Nat} (ha:Dig a) (h:dv (a.drop j)<dv (b.drop j)):dv a<dv b:=by
 have h1:=pR a j
 have h2:=pR b j
 have h3:=dv_lt a j ha
 have h4:4294967296^j*(dv (a.drop j)+1)≤4294967296^j*dv (b.drop j):=Nat.mul_le_mul_left _ h
 rw [Nat.mul_add] at h4
 omega
theorem most_step {a b:List Nat} {j:Nat} (ha:Dig a) (hb:Dig b) (he:dv (a.drop (j+1))=dv (b.drop (j+1))) :
  (a.getD j 0=b.getD j 0→dv (a.drop j)=dv (b.drop j))∧(a.getD j 0≠b.getD j 0→decide (a.getD j 0<b.getD j 0)=decide (dv a≤dv b)):=by
 have h1:=zF a j
 have h2:=zF b j
 refine ⟨fun e=>by omega,fun e=>?_⟩
 rcases Nat.lt_or_gt_of_ne e with h | h
 ·
  have:=dv_less (j:=j) (b:=b) ha (by omega)
  rw [decide_eq_true h,decide_eq_true (Nat.le_of_lt this)]
 ·
  have:=dv_less (a:=b) (b:=a) (j:=j) hb (by omega)
  rw [decide_eq_false (by omega),decide_eq_false (by omega)]
def RowAt (n:Nat) (a b:List Nat) (i:Nat) (l:List Nat):Prop:=l.length=n∧Dig l∧(∀ j,i+b.length≤j→l.getD j 0=0)∧dv l=dv (a.take i)*dv b
def RowIn (n x:Nat) (b:List Nat) (V i k:Nat) (l:List Nat) (c:Nat):Prop:=l.length=n∧Dig l∧(∀ j,i+b.length≤j→l.getD j 0=0)∧c<4294967296∧dv l+4294967296^(i+k)*c=V+4294967296^i*(x*dv (b.take k))
theorem row_start (n:Nat) (a b:List Nat):RowAt n a b 0 (List.replicate n 0):=by
 have h:∀ j,(List.replicate n 0).getD j 0=0:=fun j=>by by_cases h:j<n<;>simp [List.getD,List.getElem?_replicate,h]
 refine ⟨by simp,fun j=>by rw [h];omega,fun j _=>h j,?_⟩
 rw [uN]
 simp [dv]
theorem row_in {n x i:Nat} {a b l:List Nat} (h:RowAt n a b i l):RowIn n x b (dv (a.take i)*dv b) i 0 l 0:=by
 obtain ⟨h1,h2,h3,h4⟩:=h
 refine ⟨h1,h2,h3,by omega,?_⟩
 simp [dv,h4]
theorem row_step {n x V i k:Nat} {b l:List Nat} {c t:Nat} (hn:i+k<n) (hk:k<b.length) (hx:x<4294967296) (hb:Dig b) (h:RowIn n x b V i k l c) (ht:t=x*b.getD k 0+l.getD (i+k) 0+c) :
  t<18446744073709551616∧RowIn n x b V i (k+1) (l.set (i+k) (t%4294967296)) (t/4294967296):=by
 obtain ⟨h1,h2,h3,h4,h5⟩:=h
 have hp:x*b.getD k 0≤4294967295*4294967295:=Nat.mul_le_mul (by omega) (by have:=hb k;omega)
 have ho:=h2 (i+k)
 have htl:t<18446744073709551616:=by omega
 refine ⟨htl,by rw [List.length_set,h1],fun j=>?_,fun j hj=>?_,by omega,?_⟩
 ·
  rw [eO _ _ _ _ (by omega)]
  split
  ·
   omega
  ·
   exact h2 j
 ·
  rw [eO _ _ _ _ (by omega),if_neg (by omega)]
  exact h3 j hj
 ·
  have hs:=uO l (i+k) (t%4294967296) (by omega)
  rw [lG b k hk]
  have e1:4294967296^(i+(k+1))*(t/4294967296)=4294967296^(i+k)*(4294967296*(t/4294967296)):=by rw [←Nat.add_assoc,Nat.pow_succ,Nat.mul_assoc]
  have e2:4294967296^i*(x*(dv (b.take k)+4294967296^k*b.getD k 0))=4294967296^i*(x*dv (b.take k))+4294967296^(i+k)*(x*b.getD k 0):=by
   rw [Nat.mul_add,Nat.mul_add,Nat.pow_add]
   congr 1
   ac_rfl
  have e3:4294967296^(i+k)*(t%4294967296)+4294967296^(i+k)*(4294967296*(t/4294967296))=4294967296^(i+k)*(x*b.getD k 0)+4294967296^(i+k)*l.getD (i+k) 0+4294967296^(i+k)*c:=by
   rw [←Nat.mul_add,←Nat.mul_add,←Nat.mul_add,←ht,Nat.mod_add_div]
  rw [e1,e2]
  omega
theorem row_end_ {n i:Nat} {a b l:List Nat} {c:Nat} (hn:i+b.length<n) (hi:i<a.length) (h:RowIn n (a.getD i 0) b (dv (a.take i)*dv b) i b.length l c):RowAt n a b (i+1) (l.set (i+b.length) c):=by
 obtain ⟨h1,h2,h3,h4,h5⟩:=h
 refine ⟨by rw [List.length_set,h1],fun j=>?_,fun j hj=>?_,?_⟩
 ·
  rw [eO _ _ _ _ (by omega)]
  split
  ·
   exact h4
  ·
   exact h2 j
 ·
  rw [eO _ _ _ _ (by omega),if_neg (by omega)]
  exact h3 j (by omega)
 ·
  have hs:=uO l (i+b.length) c (by omega)
  rw [h3 (i+b.length) (by omega),Nat.mul_zero,Nat.add_zero] at hs
  rw [hs,h5,List.take_of_length_le (Nat.le_refl _),lG a i hi,Nat.add_mul]
  congr 1
  ac_rfl
theorem row_all {n:Nat} {a b l:List Nat} (h:RowAt n a b a.length l):l.length=n∧Dig l∧dv l=dv a*dv b:=by
 obtain ⟨h1,h2,_,h4⟩:=h
 rw [List.take_of_length_le (Nat.le_refl _)] at h4
 exact ⟨h1,h2,h4⟩
end Sha
end
section
namespace Sha
open Go Go.RowKit
theorem getD_out {l:List Nat} {k:Nat} (h:l.length≤k):l.getD k 0=0:=by simp [List.getD,List.getElem?_eq_none h]
theorem sA {l:List Nat} {k x:Nat} (h:l[k]?=some x):l.getD k 0=x:=by simp [List.getD,h]
set_option maxRecDepth 100000 in
theorem wG (la lb:List Nat) (A A2:Option Addr) (na ca nb cb B B2:Nat) (w:World) (ha:US w B A na ca la) (hb:US w B2 A2 nb cb lb) (da:Dig la) (db:Dig lb) (hna:na≤100) (hnb:nb≤100) :
  Calls zP 82 #[.slice A na ca,.slice A2 nb cb] w fun e w'=>e=.returned (.bool (decide (dv la≤dv lb)))∧w=w':=by
 have hlen:=ha.len
 have hlen2:=hb.len
 have HA:=Lib.hid ha
 have HB:=Lib.hid hb
 have DA:=Lib.hid da
 have DB:=Lib.hid db
 have hs0:IntKind.i64.wrap ((na:Int)+(nb:Int))=(na:Int)+(nb:Int):=by rw [IntKind.wrap_i64];omega
 have E0:=Lib.hid (show dv (la.drop (na+nb+1))=dv (lb.drop (na+nb+1)) by rw [List.drop_of_length_le (by omega),List.drop_of_length_le (by omega)])
 have HL:=Lib.hid hlen
 have HL2:=Lib.hid hlen2
 clear ha hb da db hlen hlen2
 go_enter Tryz.func82,Tryz.ntmps82
 go_wp2_with (fail)
 go_loopw [5] (fun i wq=>wq=w∧∃ (j:Nat) (z:Int),i=.int .i64 z∧z=(j:Int)-1∧j≤na+nb+1∧Hid (dv (la.drop j)=dv (lb.drop j))) (fun i _=>(intOf i+1).toNat)
 case atStart=>exact ⟨rfl,na+nb+1,_,rfl,by omega,Nat.le_refl _,E0⟩
 case round =>
  obtain ⟨rfl,j,z,rfl,hz,hj,hE⟩:=hrel
  clear E0
  rcases Nat.eq_zero_or_pos j with h0 | h0
  ·
   subst h0
   obtain rfl:z=-1:=by omega
   clear hz hs0
   have hd:=hE.out
   rw [List.drop_zero,List.drop_zero] at hd
   have hdt:decide (dv la≤dv lb)=true:=decide_eq_true (by omega)
   have HDT:=Lib.hid hdt
   clear hd hE HL HL2 hdt
   go_wp2_with (fail)
   go_ret
   refine ⟨?_,rfl⟩
   rw [HDT.out]
   rfl
  ·
   obtain ⟨k,rfl⟩:∃ k,j=k+1:=⟨j-1,by omega⟩
   obtain rfl:z=(k:Int):=by omega
   clear hz h0
   have hms:=most_step DA.out DB.out hE.out
   have HMS:=Lib.hid hms
   have hg1:na≤k→la.getD k 0=0:=fun h=>getD_out (by rw [HL.out];exact h)
   have hg2:nb≤k→lb.getD k 0=0:=fun h=>getD_out (by rw [HL2.out];exact h)
   clear hms hE
   by_cases h1:k<na
   ·
    by_cases h2:k<nb
    ·
     skip
     obtain ⟨b1,o1,x,rfl,hb1,hx1,hc1⟩:=HA.out.at' h1
     have HX:=Lib.hid (sA hx1)
     clear hx1
     obtain ⟨b2,o2,y,rfl,hb2,hx2,hc2⟩:=HB.out.at' h2
     have HY:=Lib.hid (sA hx2)
     clear hx2
     clear hg1 hg2 HL HL2
     rcases Nat.decEq x y with hxy | hxy
     ·
      skip
      have h2:=HMS.out.2 (by rw [HX.out,HY.out];exact hxy)
      rw [HX.out,HY.out] at h2
      have hne:¬ ((x:Int)=(y:Int)):=by omega
      have hdc:decide ((x:Int)<(y:Int))=decide (x<y):=by simp only [decide_eq_decide];omega
      have H2:=Lib.hid h2
      have HD:=Lib.hid hdc
      clear h2 hxy hdc
      go_wp2_with (fail)
      go_ret
      refine ⟨?_,rfl⟩
      rw [←H2.out,←HD.out]
      rfl
     ·
      subst hxy
      have h2:=HMS.out.1 (by rw [HX.out,HY.out])
      have H2:=Lib.hid h2
      clear h2
      go_wp2_with (fail)
      go_round
      case rel=>exact ⟨trivial,k,_,rfl,by go_num,by omega,H2⟩
      case measure=>simp [intOf]<;>omega
    ·
     skip
     obtain ⟨b1,o1,x,rfl,hb1,hx1,hc1⟩:=HA.out.at' h1
     have HX:=Lib.hid (sA hx1)
     clear hx1
     have HY:=Lib.hid (hg2 (by omega))
     clear hg1 hg2 HL HL2
     rcases Nat.decEq x 0 with hxy | hxy
     ·
      skip
      have h2:=HMS.out.2 (by rw [HX.out,HY.out];exact hxy)
      rw [HX.out,HY.out] at h2
      have hne:¬ ((x:Int)=(0:Int)):=by omega
      have hdc:decide ((x:Int)<(0:Int))=decide (x<0):=by simp only [decide_eq_decide];omega
      have H2:=Lib.hid h2
      have HD:=Lib.hid hdc
      clear h2 hxy hdc
      go_wp2_with (fail)
      go_ret
      refine ⟨?_,rfl⟩
      rw [←H2.out,←HD.out]
      rfl
     ·
      subst hxy
      have h2:=HMS.out.1 (by rw [HX.out,HY.out])
      have H2:=Lib.hid h2
      clear h2
      go_wp2_with (fail)
      go_round
      case rel=>exact ⟨trivial,k,_,rfl,by go_num,by omega,H2⟩
      case measure=>simp [intOf]<;>omega
   ·
    by_cases h2:k<nb
    ·
     skip
     have HX:=Lib.hid (hg1 (by omega))
     obtain ⟨b2,o2,y,rfl,hb2,hx2,hc2⟩:=HB.out.at' h2
     have HY:=Lib.hid (sA hx2)
     clear hx2
     clear hg1 hg2 HL HL2
     rcases Nat.decEq 0 y with hxy | hxy
     ·
      skip
      have h2:=HMS.out.2 (by rw [HX.out,HY.out];exact hxy)
      rw [HX.out,HY.out] at h2
      have hne:¬ ((0:Int)=(y:Int)):=by omega
      have hdc:decide ((0:Int)<(y:Int))=decide (0<y):=by simp only [decide_eq_decide];omega
      have H2:=Lib.hid h2
      have HD:=Lib.hid hdc
      clear h2 hxy hdc
      go_wp2_with (fail)
      go_ret
      refine ⟨?_,rfl⟩
      rw [←H2.out,←HD.out]
      rfl
     ·
      subst hxy
      have h2:=HMS.out.1 (by rw [HX.out,HY.out])
      have H2:=Lib.hid h2
      clear h2
      go_wp2_with (fail)
      go_round
      case rel=>exact ⟨trivial,k,_,rfl,by go_num,by omega,H2⟩
      case measure=>simp [intOf]<;>omega
    ·
     skip
     have HX:=Lib.hid (hg1 (by omega))
     have HY:=Lib.hid (hg2 (by omega))
     clear hg1 hg2 HL HL2
     have h2:=HMS.out.1 (by rw [HX.out,HY.out])
     have H2:=Lib.hid h2
     clear h2
     go_wp2_with (fail)
     go_round
     case rel=>exact ⟨trivial,k,_,rfl,by go_num,by omega,H2⟩
     case measure=>simp [intOf]<;>omega
end Sha
end
section
namespace Sha
open Go Go.RowKit
def LongPost (n v:Nat) (w:World) (e:Ending) (w':World):Prop:=∃ l:List Nat,e=.returned (.slice (some ⟨w.heap.size,0,none⟩) n n)∧l.length=n∧Dig l∧dv l=v∧Blk w' w.heap.size 29 (us l)∧Below w.heap.size w w'
set_option maxRecDepth 100000 in
theorem nT (la lb:List Nat) (A A2:Option Addr) (na ca nb cb B:Nat) (w:World) (ha:US w B A na ca la) (hb:US w B A2 nb cb lb) (hB:B≤w.heap.size) (da:Dig la) (db:Dig lb) (hna:na≤100) (hnb:nb≤100) (hp:0<na) (hp2:0<nb) :
  Calls zP 81 #[.slice A na ca,.slice A2 nb cb] w (LongPost (na+nb) (dv la*dv lb) w):=by
 have hlen:=ha.len
 have hlen2:=hb.len
 obtain ⟨b1,o1,e1,hb1,hc1⟩:=ha.at_ hp
 obtain ⟨b2,o2,e2,hb2,hc2⟩:=hb.at_ hp2
 subst e1
 subst e2
 have HA:=Lib.hid hc1
 have HB:=Lib.hid hc2
 have DB:=Lib.hid db
 have DA:=Lib.hid da
 obtain ⟨N,hN⟩:∃ N,N=na+nb:=⟨_,rfl⟩
 rw [←hN]
 have hNi:(N:Int)=(na:Int)+(nb:Int):=by omega
 have hrs:=row_start N la lb
 have HRS:=Lib.hid hrs
 have f0:=(Fr.start w).row (us (List.replicate N 0)) 29 (g:=w.heap.size) rfl
 have F0:=Lib.hid f0
 have hbw1:b1<w.heap.size:=by omega
 have hbw2:b2<w.heap.size:=by omega
 have hmk:=fun W=>mT (P:=zP) 115 29 Tryz.underlying115 cN N (by omega) W
 rw [hNi] at hmk
 have HN:=Lib.hid hN
 have HL:=Lib.hid hlen
 have HL2:=Lib.hid hlen2
 clear ha hb hc1 hc2 db hrs f0 hlen hlen2 hN hNi
 go_enter Tryz.func81,Tryz.ntmps81
 go_wp2_with (fail)
 clear hmk
 go_loopw [6] (fun i wr=>∃ (j:Nat) (l:List Nat),j≤na∧i=.int .i64 j∧RowAt N la lb j l∧Fr w wr [(w.heap.size,29,us l)] []) (fun i _=>na-(intOf i).toNat)
 case atStart=>exact ⟨0,_,by omega,rfl,HRS.out,F0.out⟩
 case round =>
  obtain ⟨j,l,hj,rfl,hC,hF⟩:=hrel
  clear F0 HRS
  by_cases hlt:j<na
  ·
   obtain ⟨V,hV⟩:∃ V,V=dv (la.take j)*dv lb:=⟨_,rfl⟩
   obtain ⟨x,hx⟩:∃ x,x=la.getD j 0:=⟨_,rfl⟩
   have hin1:=row_in (x:=x) hC
   rw [←hV] at hin1
   have hxl:x<4294967296:=by rw [hx];exact DA.out j
   have cx:w.cell? ⟨b1,o1+j,none⟩=some (.int .u64 (x:Int)):=HA.out j x (by rw [hx,List.getD,List.getElem?_eq_getElem (by rw [HL.out];exact hlt)];rfl)
   have CX:=Lib.hid cx
   have HV:=Lib.hid hV
   have HX:=Lib.hid hx
   have HIN:=Lib.hid hin1
   have HF:=Lib.hid hF
   clear hin1 hV hC hF hx cx
   go_wp2_with (fail)
   try rw [decide_eq_true (show (j:Int)<(na:Int) by omega)]
   go_loopw [8,7] (fun i c wq=>∃ (k:Nat) (l:List Nat) (cc:Nat),k≤nb∧i=.int .i64 k∧c=.int .u64 (cc:Int)∧RowIn N x lb V j k l cc∧Fr w wq [(w.heap.size,29,us l)] []) (fun i _ _=>nb-(intOf i).toNat)
   case atStart=>exact ⟨0,_,0,by omega,rfl,rfl,HIN.out,HF.out⟩
   case round =>
    obtain ⟨k,m,cc,hk,rfl,rfl,hC,hF⟩:=hrel
    clear HF HIN
    by_cases hkt:k<nb
    ·
     have hml:=hC.1
     obtain ⟨y,hy⟩:∃ y,y=lb.getD k 0:=⟨_,rfl⟩
     obtain ⟨d,hd⟩:∃ d,d=m.getD (j+k) 0:=⟨_,rfl⟩
     have hyl:y<4294967296:=by rw [hy];exact DB.out k
     have hdl:d<4294967296:=by rw [hd];exact hC.2.1 _
     have hcl:=hC.2.2.2.1
     have cxw:wr.cell? ⟨b1,o1+j,none⟩=some (.int .u64 (x:Int)):=(hF.below.cell hbw1).trans CX.out
     have cyw:wr.cell? ⟨b2,o2+k,none⟩=some (.int .u64 (y:Int)):=(hF.below.cell hbw2).trans (HB.out k y (by rw [hy,List.getD,List.getElem?_eq_getElem (by rw [HL2.out];exact hkt)];rfl))
     have hD:=hF.get (g:=w.heap.size) (t:=29) (cs:=us m) (by simp)
     have cdw:wr.cell? ⟨w.heap.size,j+k,none⟩=some (.int .u64 (d:Int)):=by rw [hD.cell,dJ (x:=d) (by rw [hd,List.getD,List.getElem?_eq_getElem (by rw [hml,HN.out];omega)];rfl)]
     have hf:=hD.frozen (j+k)
     obtain ⟨t,ht⟩:∃ t,t=x*y+d+cc:=⟨_,rfl⟩
     obtain ⟨htl,hst⟩:=row_step (t:=t) (by rw [HN.out];omega) (by rw [HL2.out];exact hkt) hxl DB.out hC (by rw [ht,hy,hd])
     have hse:=gG m (j+k) (t%4294967296)
     have f2:=hF.setHead (by simp) (by simp) (j+k) (.int .u64 ((t%4294967296:Nat):Int)) (by omega)
     rw [hse,show ((t%4294967296:Nat):Int)=(t:Int)%4294967296 from Int.natCast_emod t 4294967296] at f2
     have hxy:=Nat.mul_le_mul (show x≤4294967295 by omega) (show y≤4294967295 by omega)
     obtain ⟨p,hp⟩:∃ p,p=x*y:=⟨_,rfl⟩
     rw [←hp] at ht hxy
     have s1:IntKind.u64.wrap ((x:Int)*(y:Int))=(p:Int):=by rw [←Int.natCast_mul,←hp,IntKind.wrap_u64];omega
     have s2:IntKind.u64.wrap ((p:Int)+(d:Int))=((p+d:Nat):Int):=by rw [IntKind.wrap_u64];omega
     have s3:IntKind.u64.wrap (((p+d:Nat):Int)+(cc:Int))=(t:Int):=by rw [IntKind.wrap_u64];omega
     obtain ⟨pd,hpd⟩:∃ pd,pd=p+d:=⟨_,rfl⟩
     rw [←hpd] at s2 s3
     have HST:=Lib.hid hst
     have F2:=Lib.hid f2
     have HF:=Lib.hid hF
     have b0:IntKind.i64.wrap ((j:Int)+(k:Int))=((j+k:Nat):Int):=by rw [IntKind.wrap_i64];omega
     have bjk:j+k<N:=by rw [HN.out];omega
     obtain ⟨jk,hjk⟩:∃ q,q=j+k:=⟨_,rfl⟩
     rw [←hjk] at b0 bjk cdw hf
     have hst:=HST.out
     have f2:=F2.out
     rw [←hjk] at f2 hst
     clear HST F2
     have HST:=Lib.hid hst
     have F2:=Lib.hid f2
     clear hst f2 hF hC hD hse ht hp hpd hxy hd hy hyl hdl hcl hml hjk
     go_wp2_with (fail)
     refine wp_region_held_drew (S:=fun W=>W.cell? ⟨b1,o1+j,none⟩=some (.int .u64 (x:Int))∧W.cell? ⟨b2,o2+k,none⟩=some (.int .u64 (y:Int))∧W.cell? ⟨w.heap.size,jk,none⟩=some (.int .u64 (d:Int))) (by kernel_rfl) ?_ (fun hHeld=>?_)
     ·
      exact ⟨cxw,cyw,cdw⟩
     refine tk 0 hHeld ?_
     try simp only [Act.put,lA,lB,lC,lD,lE,lF]
     refine tk 1 hHeld ?_
     try simp only [Act.put,lA,lB,lC,lD,lE,lF]
     refine tk 2 hHeld ?_
     try simp only [Act.put,lA,lB,lC,lD,lE,lF]
     refine tk 3 hHeld ?_
     try simp only [Act.put,lA,lB,lC,lD,lE,lF]
     refine tk 4 hHeld ?_
     try simp only [Act.put,lA,lB,lC,lD,lE,lF]
     refine tk 5 hHeld ?_
     try simp only [Act.put,lA,lB,lC,lD,lE,lF]
     refine tk 6 hHeld ?_
     try simp only [Act.put,lA,lB,lC,lD,lE,lF]
     refine tk 7 hHeld ?_
     try simp only [Act.put,lA,lB,lC,lD,lE,lF]
     refine tk 8 hHeld ?_
     try simp only [Act.put,lA,lB,lC,lD,lE,lF]
     refine tk 9 hHeld ?_
     try simp only [Act.put,lA,lB,lC,lD,lE,lF]
     refine tk 10 hHeld ?_
     try simp only [Act.put,lA,lB,lC,lD,lE,lF]
     refine tk 11 hHeld ?_
     try simp only [Act.put,lA,lB,lC,lD,lE,lF]
     refine tk 12 hHeld ?_
     try simp only [Act.put,lA,lB,lC,lD,lE,lF]
     refine tk 13 hHeld ?_
     try simp only [Act.put,lA,lB,lC,lD,lE,lF]
     refine tk 14 hHeld ?_
     try simp only [Act.put,lA,lB,lC,lD,lE,lF]
     refine tk 15 hHeld ?_
     try simp only [Act.put,lA,lB,lC,lD,lE,lF]
     refine tk 16 hHeld ?_
     try simp only [Act.put,lA,lB,lC,lD,lE,lF]
     refine tk 17 hHeld ?_
     try simp only [Act.put,lA,lB,lC,lD,lE,lF]
     refine tk 18 hHeld ?_
     try simp only [Act.put,lA,lB,lC,lD,lE,lF]
     refine wpAnyH_done (by kernel_rfl) ?_ _
     go_wp2_with (fail)
     go_roundw
     case rel =>
      refine ⟨k+1,_,_,by omega,by go_num,?_,HST.out,?_⟩
      ·
       rfl
      ·
       exact F2.out.drew
     case measure=>simp [intOf]<;>omega
    ·
     obtain rfl:k=nb:=by omega
     have hml:=hC.1
     have hD:=hF.get (g:=w.heap.size) (t:=29) (cs:=us m) (by simp)
     have hf:=hD.frozen (j+k)
     obtain ⟨d,hd⟩:∃ d,d=m.getD (j+k) 0:=⟨_,rfl⟩
     have cdw:wr.cell? ⟨w.heap.size,j+k,none⟩=some (.int .u64 (d:Int)):=by rw [hD.cell,dJ (x:=d) (by rw [hd,List.getD,List.getElem?_eq_getElem (by rw [hml,HN.out];omega)];rfl)]
     have hre:=row_end_ (n:=N) (a:=la) (b:=lb) (i:=j) (l:=m) (c:=cc) (by rw [HL2.out,HN.out];omega) (by rw [HL.out];exact hlt) (by rw [HL2.out,←HX.out,←HV.out];exact hC)
     rw [HL2.out] at hre
     have f2:=hF.setHead (by simp) (by simp) (j+k) (.int .u64 (cc:Int)) (by omega)
     rw [gG] at f2
     have b0:IntKind.i64.wrap ((j:Int)+(k:Int))=((j+k:Nat):Int):=by rw [IntKind.wrap_i64];omega
     have bjk:j+k<N:=by rw [HN.out];omega
     obtain ⟨jk,hjk⟩:∃ q,q=j+k:=⟨_,rfl⟩
     rw [←hjk] at b0 bjk hf cdw f2 hre
     have HRE:=Lib.hid hre
     have F2:=Lib.hid f2
     clear hre f2 hF hC hD hml hjk hd
     go_wp2_with (fail)
     go_roundw
     case rel =>
      refine ⟨j+1,_,by omega,by go_num,HRE.out,?_⟩
      exact F2.out
     case measure=>simp [intOf]<;>omega
  ·
   obtain rfl:j=na:=by omega
   have hall:=row_all (a:=la) (b:=lb) (by rw [HL.out];exact hC)
   have kd:=hF.get (g:=w.heap.size) (t:=29) (cs:=us l) (by simp)
   have hbl:=hF.below
   have HALL:=Lib.hid hall
   have KD:=Lib.hid kd
   have HBL:=Lib.hid hbl
   clear hall kd hbl hF hC
   go_wp2_with (fail)
   go_ret
   exact ⟨l,rfl,HALL.out.1,HALL.out.2.1,HALL.out.2.2,KD.out,HBL.out⟩
end Sha
end
section
namespace Sha
open Go Go.RowKit
theorem OwnU.slice {w:World} {base:Nat} {e:TypeId} {v:Value} {l:List Nat} (h:OwnU w base e v l) (hl:0<l.length):∃ g cap,v=.slice (some ⟨g,0,none⟩) l.length cap∧base≤g∧g<w.heap.size:=by
 rcases h.2 with ⟨_,h0⟩ | ⟨g,cap,cur,rfl,hb,hg,_⟩
 ·
  omega
 ·
  exact ⟨g,cap,rfl,hb,(Array.getElem?_eq_some_iff.1 hg).1⟩
theorem OwnU.cell {w:World} {base g n cap:Nat} {e:TypeId} {l:List Nat} (h:OwnU w base e (.slice (some ⟨g,0,none⟩) n cap) l) (hn:n=l.length) {j x:Nat} (hx:l[j]?=some x):w.cell? ⟨g,j,none⟩=some (.int .u64 (x:Int)):=by
 subst hn
 have hj:=(List.getElem?_eq_some_iff.1 hx).1
 have h2:=World.ownsRow.cellAt (size:=1) h j (by omega)
 rw [h2,List.getElem?_map,hx]
 rfl
theorem OwnU.set {w:World} {base g n cap:Nat} {e:TypeId} {l:List Nat} (h:OwnU w base e (.slice (some ⟨g,0,none⟩) n cap) l) (hn:n=l.length) (j x:Nat) :
  OwnU (w.setCell ⟨g,j,none⟩ (.int .u64 (x:Int))) base e (.slice (some ⟨g,0,none⟩) n cap) (l.set j x)∧w.grownBy (w.setCell ⟨g,j,none⟩ (.int .u64 (x:Int))) (some g):=by
 subst hn
 obtain ⟨h1,h2⟩:=World.ownsRow.stored (size:=1) h j (.int .u64 (x:Int))
 refine ⟨?_,h2⟩
 unfold OwnU
 rw [List.length_set,List.map_set]
 exact h1
theorem OwnU.frozen {w:World} {base g n cap:Nat} {e:TypeId} {l:List Nat} (h:OwnU w base e (.slice (some ⟨g,0,none⟩) n cap) l) (hn:n=l.length) (j:Nat):w.frozen? ⟨g,j,none⟩=false:=by
 subst hn
 exact World.ownsRow.frozenAt (size:=1) h j
theorem OwnU.slice3 {w:World} {base:Nat} {e:TypeId} {v:Value} {l:List Nat} (h:OwnU w base e v l) (hl:l.length=3):∃ g cap,v=.slice (some ⟨g,0,none⟩) 3 cap∧base≤g∧g<w.heap.size:=by
 obtain ⟨g,cap,h1,h2⟩:=h.slice (by omega)
 rw [hl] at h1
 exact ⟨g,cap,h1,h2⟩
theorem us_row {w:World} {base g n cap:Nat} {e:TypeId} {l:List Nat} (h:OwnU w base e (.slice (some ⟨g,0,none⟩) n cap) l):US w w.heap.size (some ⟨g,0,none⟩) n cap l:=by
 obtain ⟨A,m,c,e1,h1,_⟩:=h.form
 injection e1 with a b c
 subst a;subst b;subst c
 exact h1
structure Sk (n p j X:Nat):Prop where
 sk:seek n p j X%18446744073709551616=rootN n p
 low:X%2^j=0
 lt:X<2^70
theorem Sk.start (n p:Nat):Sk n p 70 0:=⟨rfl,by simp,by decide⟩
theorem Sk.more {i X:Nat} (hi:i≤69) (h:X%2^(i+1)=0) (hl:X<2^70):X+2^i<2^70:=by
 obtain ⟨k,hk⟩:=Nat.dvd_of_mod_eq_zero h
 have e:(2:Nat)^70=2^(i+1)*2^(69-i):=by rw [←Nat.pow_add];congr 1;omega
 rw [hk,e] at hl
 have h1:k<2^(69-i):=Nat.lt_of_mul_lt_mul_left hl
 have h2:2^(i+1)*(k+1)≤2^(i+1)*2^(69-i):=Nat.mul_le_mul_left _ h1
 rw [←e,Nat.mul_add,Nat.mul_one,Nat.pow_succ] at h2
 have h3:0<2^i:=Nat.pow_pos (by omega)
 rw [hk,Nat.pow_succ]
 omega
theorem Sk.yes {n p i X:Nat} (hi:i≤69) (h:Sk n p (i+1) X) (hp:(X+2^i)^p≤n*2^(64*p)):Sk n p i (X+2^i):=by
 have h1:=h.sk
 rw [seek,if_pos hp] at h1
 refine ⟨h1,?_,Sk.more hi h.low h.lt⟩
 obtain ⟨k,hk⟩:=Nat.dvd_of_mod_eq_zero h.low
 rw [hk,Nat.pow_succ,Nat.add_mod_right,Nat.mul_assoc,Nat.mul_mod_right]
theorem Sk.no {n p i X:Nat} (h:Sk n p (i+1) X) (hp:¬ (X+2^i)^p≤n*2^(64*p)):Sk n p i X:=by
 have h1:=h.sk
 rw [seek,if_neg hp] at h1
 refine ⟨h1,?_,h.lt⟩
 obtain ⟨k,hk⟩:=Nat.dvd_of_mod_eq_zero h.low
 rw [hk,Nat.pow_succ,Nat.mul_assoc,Nat.mul_mod_right]
theorem Sk.end_ {n p X:Nat} (h:Sk n p 0 X):X%18446744073709551616=rootN n p:=h.sk
structure L3 (l:List Nat) (X:Nat):Prop where
 len:l.length=3
 dig:Dig l
 val:dv l=X
theorem L3.start:L3 [0,0,0] 0:=⟨rfl,fun j=>by rcases j with _ | _ | _ | j<;>simp [List.getD],rfl⟩
theorem w_pow (q:Nat):(4294967296:Nat)^q=2^(32*q):=by rw [Nat.pow_mul]
theorem nJ {l:List Nat} {q r:Nat} (hd:Dig l) (hr:r<32) (h:dv l%2^(32*q+r+1)=0):l.getD q 0+2^r<4294967296:=by
 obtain ⟨k,hk⟩:=Nat.dvd_of_mod_eq_zero h
 have hs:=pR l q
 have ht:=dv_lt l q hd
 have e1:(2:Nat)^(32*q+r+1)=4294967296^q*2^(r+1):=by rw [w_pow,←Nat.pow_add];congr 1
 rw [e1,Nat.mul_assoc] at hk
 have h0:dv (l.take q)=0:=by
  have h1:dv l%4294967296^q=dv (l.take q):=by rw [hs,Nat.add_mul_mod_self_left,Nat.mod_eq_of_lt ht]
  rw [←h1,hk,Nat.mul_mod_right]
 rw [h0,Nat.zero_add,hk] at hs
 have h2:2^(r+1)*k=dv (l.drop q):=Nat.eq_of_mul_eq_mul_left (Nat.pow_pos (by omega)) hs
 rw [zF] at h2
 have hdd:=hd q
 generalize l.getD q 0=d at *
 generalize dv (l.drop (q+1))=R at *
 have e2:(4294967296:Nat)=2^(r+1)*2^(31-r):=by rw [←Nat.pow_add,show r+1+(31-r)=32 by omega]
 have h3:d%2^(r+1)=0:=by
  have h4:(d+4294967296*R)%2^(r+1)=0:=by rw [←h2,Nat.mul_mod_right]
  rw [e2,Nat.mul_assoc,Nat.add_mul_mod_self_left] at h4
  exact h4
 obtain ⟨m,hm⟩:=Nat.dvd_of_mod_eq_zero h3
 rw [hm] at hdd ⊢
 rw [e2] at hdd ⊢
 have h5:m<2^(31-r):=Nat.lt_of_mul_lt_mul_left hdd
 have h6:2^(r+1)*(m+1)≤2^(r+1)*2^(31-r):=Nat.mul_le_mul_left _ h5
 rw [Nat.mul_add,Nat.mul_one,Nat.pow_succ] at h6
 have h7:0<2^r:=Nat.pow_pos (by omega)
 rw [Nat.pow_succ] at *
 omega
theorem L3.add {l:List Nat} {X i:Nat} (h:L3 l X) (hi:i≤69) (hX:X%2^(i+1)=0):l.getD (i/32) 0+2^(i%32)<4294967296∧L3 (l.set (i/32) (l.getD (i/32) 0+2^(i%32))) (X+2^i):=by
 have hr:i%32<32:=Nat.mod_lt _ (by omega)
 have e:32*(i/32)+i%32=i:=Nat.div_add_mod i 32
 have hl:i/32<l.length:=by rw [h.len];omega
 have h1:=nJ (l:=l) (q:=i/32) h.dig hr (by rw [e,h.val];exact hX)
 refine ⟨h1,by rw [List.length_set,h.len],fun j=>?_,?_⟩
 ·
  rw [eO _ _ _ _ hl]
  split
  ·
   exact h1
  ·
   exact h.dig j
 ·
  have h2:=uO l (i/32) (l.getD (i/32) 0+2^(i%32)) hl
  rw [h.val,Nat.mul_add,w_pow,←Nat.pow_add,e] at h2
  omega
theorem L3.low {l:List Nat} {X:Nat} (h:L3 l X):l.getD 0 0+l.getD 1 0*4294967296=X%18446744073709551616:=by
 obtain ⟨h1,h2,h3⟩:=h
 match l,h1 with
 | [a,b,c],_ =>
  have ha:=h2 0
  have hb:=h2 1
  simp only [List.getD,List.getElem?_cons_zero,List.getElem?_cons_succ,Option.getD_some,dv] at *
  omega
def bndL (n p:Nat):List Nat:=(List.replicate (2*p+1) 0).set (2*p) n
theorem bndL_len (n p:Nat):(bndL n p).length=2*p+1:=by simp [bndL]
theorem bndL_dig {n:Nat} (p:Nat) (hn:n<4294967296):Dig (bndL n p):=fun j=>by
 rw [bndL,eO _ _ _ _ (by simp)]
 split
 ·
  exact hn
 ·
  by_cases h:j<2*p+1<;>simp [List.getD,List.getElem?_replicate,h]
theorem bndL_val (n p:Nat):dv (bndL n p)=n*2^(64*p):=by
 have h:=uO (List.replicate (2*p+1) 0) (2*p) n (by simp)
 rw [uN,show (List.replicate (2*p+1) 0).getD (2*p) 0=0 by simp [List.getD],w_pow,show 32*(2*p)=64*p by omega] at h
 rw [bndL]
 rw [Nat.mul_comm n]
 omega
def NatPost (v:Nat) (w:World) (e:Ending) (w':World):Prop:=e=.returned (.int .u64 (v:Int))∧Below w.heap.size w w'
attribute [local irreducible] bndL seek rootN
set_option maxRecDepth 100000 in
theorem sV (n:Nat) (w:World) (hn:n<4294967296):Calls zP 38 #[.int .u64 n,.int .i64 2] w (NatPost (rootN n 2) w):=by
 have hmk:=fun W=>mT (P:=zP) 115 29 Tryz.underlying115 cN 5 (by omega) W
 rw [show ((5:Nat):Int)=5 from rfl] at hmk
 obtain ⟨Z,hZ⟩:∃ Z,Z=List.replicate 5 0:=⟨_,rfl⟩
 rw [←hZ] at hmk
 have k0:=((Fr.start w).row (us Z) 29 (g:=w.heap.size) rfl).get (g:=w.heap.size) (t:=29) (cs:=us Z) (by simp)
 have z0:=k0.frozen 4
 have c0:(w.alloc (.cells (us Z) 29)).cell? ⟨w.heap.size,4,none⟩=some (.int .u64 ((0:Nat):Int)):=by rw [k0.cell,dJ (x:=0) (by rw [hZ];decide)]
 have f1:Fr w (w.alloc (.cells ((us Z).setIfInBounds 4 (.int .u64 (n:Int))) 29)) [(w.heap.size,29,us (bndL n 2))] []:=by
  rw [gG,show Z.set 4 n=bndL n 2 by rw [hZ];unfold bndL;rfl]
  exact (Fr.start w).row _ 29 rfl
 have f2:=f1.row (us [0,0,0]) 29 (g:=w.heap.size+1) (by simp)
 have hus:=US.ofBlk (l:=[0,0,0]) (f2.get (g:=w.heap.size+1) (t:=29) (cs:=us [0,0,0]) (by simp)) 3 rfl _ (f2.get (g:=w.heap.size+1) (t:=29) (cs:=us [0,0,0]) (by simp)).lt
 have F2:=Lib.hid (f2.sub (L':=[(w.heap.size,29,us (bndL n 2))]) (R':=[]) (by simp) (by simp))
 have HUS:=Lib.hid hus
 have BV:=Lib.hid (bndL_val n 2)
 have BL:=Lib.hid (show (bndL n 2).length=5 from bndL_len n 2)
 have BD:=Lib.hid (bndL_dig 2 hn)
 generalize bndL n 2=bl at *
 clear k0 f1 f2 hus hZ
 go_enter Tryz.func38,Tryz.ntmps38
 go_wp2_with (fail)
 clear hmk
 go_loopw [7,6] (fun i x wq=>∃ (j:Nat) (z:Int) (g c X:Nat) (l:List Nat),i=.int .i64 z∧z=(j:Int)-1∧j≤70∧x=.slice (some ⟨g,0,none⟩) 3 c∧L3 l X∧Sk n 2 j X∧US wq wq.heap.size (some ⟨g,0,none⟩) 3 c l∧Fr w wq [(w.heap.size,29,us bl)] []) (fun i _ _=>(intOf i+1).toNat)
 case atStart=>exact ⟨70,69,_,_,0,[0,0,0],rfl,rfl,by omega,rfl,L3.start,Sk.start _ _,HUS.out,F2.out⟩
 case round =>
  obtain ⟨j,z,g,c,X,l,rfl,hz,hj,rfl,hl,hsk,hU,hF⟩:=hrel
  clear F2 HUS
  rcases Nat.eq_zero_or_pos j with h0 | h0
  ·
   subst h0
   obtain rfl:z=-1:=by omega
   clear hz hj
   have hlow:=hl.low
   rw [hsk.end_] at hlow
   obtain ⟨R,hR⟩:∃ R,R=rootN n 2:=⟨_,rfl⟩
   rw [←hR] at hlow
   have HRR:=Lib.hid hR
   clear hR
   obtain ⟨x0,hx0⟩:∃ x,x=l.getD 0 0:=⟨_,rfl⟩
   obtain ⟨x1,hx1⟩:∃ x,x=l.getD 1 0:=⟨_,rfl⟩
   obtain ⟨b,o,e1,hb,hc⟩:=hU.at_ (by omega)
   injection e1 with e1
   injection e1 with e1 e2
   subst e1;subst e2
   have c0:wr.cell? ⟨g,0,none⟩=some (.int .u64 (x0:Int)):=hc 0 x0 (by rw [hx0,List.getD,List.getElem?_eq_getElem (by rw [hl.len];omega)];rfl)
   have c1:wr.cell? ⟨g,1,none⟩=some (.int .u64 (x1:Int)):=hc 1 x1 (by rw [hx1,List.getD,List.getElem?_eq_getElem (by rw [hl.len];omega)];rfl)
   have d0:=hl.dig 0
   have d1:=hl.dig 1
   rw [←hx0,←hx1] at hlow
   rw [←hx0] at d0
   rw [←hx1] at d1
   have s1:IntKind.u64.wrap ((x1:Int)*4294967296)=((x1*4294967296:Nat):Int):=by rw [IntKind.wrap_u64];omega
   have s2:IntKind.u64.wrap ((x0:Int)+((x1*4294967296:Nat):Int))=(R:Int):=by rw [IntKind.wrap_u64];omega
   obtain ⟨y1,hy1⟩:∃ y,y=x1*4294967296:=⟨_,rfl⟩
   rw [←hy1] at s1 s2
   have HBF:=Lib.hid hF.below
   clear hc hU hF hl hsk hlow hx0 hx1 hy1 d0 d1
   go_wp2_with (fail)
   refine wp_region_held_drew (S:=fun W=>W.cell? ⟨g,0,none⟩=some (.int .u64 (x0:Int))∧W.cell? ⟨g,1,none⟩=some (.int .u64 (x1:Int))) (by kernel_rfl) ?_ (fun hHeld=>?_)
   ·
    exact ⟨c0,c1⟩
   refine tk 0 hHeld ?_
   try simp only [Act.put,lA,lB,lC,lD,lE,lF]
   refine tk 1 hHeld ?_
   try simp only [Act.put,lA,lB,lC,lD,lE,lF]
   refine tk 2 hHeld ?_
   try simp only [Act.put,lA,lB,lC,lD,lE,lF]
   refine tk 3 hHeld ?_
   try simp only [Act.put,lA,lB,lC,lD,lE,lF]
   refine tk 4 hHeld ?_
   try simp only [Act.put,lA,lB,lC,lD,lE,lF]
   refine tk 5 hHeld ?_
   try simp only [Act.put,lA,lB,lC,lD,lE,lF]
   refine tk 6 hHeld ?_
   try simp only [Act.put,lA,lB,lC,lD,lE,lF]
   refine tk 7 hHeld ?_
   try simp only [Act.put,lA,lB,lC,lD,lE,lF]
   refine tk 8 hHeld ?_
   try simp only [Act.put,lA,lB,lC,lD,lE,lF]
   refine wpAnyH_done (by kernel_rfl) ?_ _
   go_wp2_with (fail)
   go_ret
   refine ⟨?_,HBF.out.drew⟩
   rw [←HRR.out]
   rfl
  ·
   obtain ⟨i,rfl⟩:∃ k,j=k+1:=⟨j-1,by omega⟩
   obtain rfl:z=(i:Int):=by omega
   clear hz h0
   have hi:i≤69:=by omega
   obtain ⟨hdl,hl2⟩:=hl.add hi hsk.low
   have HU:=Lib.hid hU
   have HF:=Lib.hid hF
   have HLN:=Lib.hid hl.len
   have HL:=Lib.hid hl
   have HSK:=Lib.hid hsk
   have HL2:=Lib.hid hl2
   obtain ⟨d,hd⟩:∃ d,d=l.getD (i/32) 0:=⟨_,rfl⟩
   rw [←hd] at hdl
   have HD:=Lib.hid hd
   have hdq:=hd
   clear hU hF hl hsk hl2 hd hj
   obtain ⟨q,hq⟩:∃ q,q=i/32:=⟨_,rfl⟩
   obtain ⟨r,hr⟩:∃ r,r=i%32:=⟨_,rfl⟩
   rw [←hr] at hdl
   have hq1:(i:Int)/32=(q:Int):=by omega
   rw [←hq] at hdq
   have hr1:(i:Int)%32=(r:Int):=by omega
   have hq3:q<3:=by omega
   have hr3:r<32:=by omega
   have HQ:=Lib.hid hq
   have HDQ:Hid (l[q]?=some d):=Lib.hid (by rw [HD.out,hq,List.getD,List.getElem?_eq_getElem (by rw [HLN.out];omega)];rfl)
   have HR:=Lib.hid hr
   obtain ⟨m,hm⟩:∃ m,m=2^r:=⟨_,rfl⟩
   rw [←hm] at hdl
   have hsh:IntKind.u64.wrap ((2:Int)^r)=(m:Int):=by
    rw [show (2:Int)^r=((2^r:Nat):Int) by push_cast;rfl,←hm,IntKind.wrap_u64]
    omega
   obtain ⟨dm,hdm⟩:∃ q,q=d+m:=⟨_,rfl⟩
   have hsm:IntKind.u64.wrap ((d:Int)+(m:Int))=(dm:Int):=by rw [IntKind.wrap_u64];omega
   have hl3:=HL2.out
   rw [←hq,←hr,←hdq,←hm,←hdm] at hl3
   clear HL2
   have HL2:=Lib.hid hl3
   clear hq hr hm hl3 hdq hdl
   go_wp2_with (at_builtin;refine dD rfl (.const (.slice none 0 0)) (.tmp 24) 115 rfl 29 Tryz.underlying115 cN wr.heap.size (.slice none 0 0) [] rfl (OwnU.nil _ _ _) wr.heap.size 3 c (some ⟨g,0,none⟩) l rfl HU.out (by simp) (Nat.le_refl _) ?_;intro v1 w1 hown1 hg1 hat1;rw [List.nil_append] at hown1;obtain ⟨ge,cap1,rfl,hge1,hge2⟩:=hown1.slice3 HLN.out;have c1:=hown1.cell HLN.out.symm HDQ.out;have z1:=hown1.frozen HLN.out.symm q;have HO1:=Lib.hid hown1;have HG1:=Lib.hid hg1;have HGE1:=Lib.hid hge1;have HGE2:=Lib.hid hge2;clear hown1 hg1 hat1 hge1 hge2)
   have hset:=(HO1.out.set HLN.out.symm q (d+m)).1
   rw [←hdm,show (dm:Int)=(d:Int)+(m:Int) by omega] at hset
   have hus2:=us_row hset
   have hb2:Below wr.heap.size wr (w1.setCell ⟨ge,q,none⟩ (.int .u64 ((d:Int)+(m:Int)))):=((Below.refl wr.heap.size wr).grown HG1.out (Nat.le_refl _) (fun g h=>by cases h)).setCell HGE1.out _
   generalize w1.setCell ⟨ge,q,none⟩ (.int .u64 ((d:Int)+(m:Int)))=w2 at *
   have fr2:=HF.out.ext hb2
   have hx2:=HU.out.below hb2
   have htm:=nT (l.set q dm) (l.set q dm) (some ⟨ge,0,none⟩) (some ⟨ge,0,none⟩) 3 cap1 3 cap1 w2.heap.size w2 hus2 hus2 (Nat.le_refl _) HL2.out.dig HL2.out.dig (by omega) (by omega) (by omega) (by omega)
   rw [HL2.out.val] at htm
   have HTM:=Lib.hid htm
   have HUS2:=Lib.hid hus2
   have FR2:=Lib.hid fr2
   have HX2:=Lib.hid hx2
   have HSZ:=Lib.hid hb2.size
   clear hset hus2 hb2 fr2 hx2 htm HO1 HG1 HGE1 HGE2 HF HU c1 z1
   generalize hY:X+2^i=Y at *
   refine HTM.out.mono ?_
   rintro e w3 ⟨lp,rfl,hlp,hdp,hvp,kp,hb3⟩
   have fr9:=FR2.out.ext hb3
   have hx9:=((HX2.out.more HSZ.out).below hb3).more hb3.size
   have hy9:=(HUS2.out.below hb3).more hb3.size
   have hmo:=wG lp bl (some ⟨w2.heap.size,0,none⟩) (some ⟨w.heap.size,0,none⟩) 6 6 5 5 w3.heap.size w3.heap.size w3 (US.ofBlk kp 6 hlp.symm _ kp.lt) (US.ofBlk (fr9.get (g:=w.heap.size) (t:=29) (cs:=us bl) (by simp)) 5 BL.out.symm _ (fr9.get (g:=w.heap.size) (t:=29) (cs:=us bl) (by simp)).lt) hdp BD.out (by omega) (by omega)
   rw [hvp,BV.out,show Y*Y=Y^2 by rw [Nat.pow_two]] at hmo
   have hsz9:=hx9.len
   by_cases hle:Y^2≤n*2^(64*2)
   ·
    rw [decide_eq_true hle] at hmo
    have hk2:=HSK.out.yes hi (by rw [hY];exact hle)
    rw [hY] at hk2
    have HK2:=Lib.hid hk2
    have HMO:=Lib.hid hmo
    have FR9:=Lib.hid fr9
    have HY9:=Lib.hid hy9
    clear hmo hk2 fr9 hx9 hy9 hle hlp hdp hvp kp hb3 hsz9
    go_wp2_with (fail)
    refine HMO.out.mono ?_
    rintro e w9 ⟨rfl,rfl⟩
    go_wp2_with (fail)
    go_round
    case rel=>exact ⟨i,_,ge,cap1,Y,_,rfl,by go_num,by omega,rfl,HL2.out,HK2.out,HY9.out,FR9.out⟩
    case measure=>simp [intOf]<;>omega
   ·
    rw [decide_eq_false hle] at hmo
    have hk2:=HSK.out.no (by rw [hY];exact hle)
    have HK2:=Lib.hid hk2
    have HMO:=Lib.hid hmo
    have FR9:=Lib.hid fr9
    have HX9:=Lib.hid hx9
    clear hmo hk2 fr9 hx9 hy9 hle hlp hdp hvp kp hb3 hsz9
    go_wp2_with (fail)
    refine HMO.out.mono ?_
    rintro e w9 ⟨rfl,rfl⟩
    go_wp2_with (fail)
    go_round
    case rel=>exact ⟨i,_,g,c,X,_,rfl,by go_num,by omega,rfl,HL.out,HK2.out,HX9.out,FR9.out⟩
    case measure=>simp [intOf]<;>omega
set_option maxRecDepth 100000 in
theorem kQ (n:Nat) (w:World) (hn:n<4294967296):Calls zP 38 #[.int .u64 n,.int .i64 3] w (NatPost (rootN n 3) w):=by
 have hmk:=fun W=>mT (P:=zP) 115 29 Tryz.underlying115 cN 7 (by omega) W
 rw [show ((7:Nat):Int)=7 from rfl] at hmk
 obtain ⟨Z,hZ⟩:∃ Z,Z=List.replicate 7 0:=⟨_,rfl⟩
 rw [←hZ] at hmk
 have k0:=((Fr.start w).row (us Z) 29 (g:=w.heap.size) rfl).get (g:=w.heap.size) (t:=29) (cs:=us Z) (by simp)
 have z0:=k0.frozen 6
 have c0:(w.alloc (.cells (us Z) 29)).cell? ⟨w.heap.size,6,none⟩=some (.int .u64 ((0:Nat):Int)):=by rw [k0.cell,dJ (x:=0) (by rw [hZ];decide)]
 have f1:Fr w (w.alloc (.cells ((us Z).setIfInBounds 6 (.int .u64 (n:Int))) 29)) [(w.heap.size,29,us (bndL n 3))] []:=by
  rw [gG,show Z.set 6 n=bndL n 3 by rw [hZ];unfold bndL;rfl]
  exact (Fr.start w).row _ 29 rfl
 have f2:=f1.row (us [0,0,0]) 29 (g:=w.heap.size+1) (by simp)
 have hus:=US.ofBlk (l:=[0,0,0]) (f2.get (g:=w.heap.size+1) (t:=29) (cs:=us [0,0,0]) (by simp)) 3 rfl _ (f2.get (g:=w.heap.size+1) (t:=29) (cs:=us [0,0,0]) (by simp)).lt
 have F2:=Lib.hid (f2.sub (L':=[(w.heap.size,29,us (bndL n 3))]) (R':=[]) (by simp) (by simp))
 have HUS:=Lib.hid hus
 have BV:=Lib.hid (bndL_val n 3)
 have BL:=Lib.hid (show (bndL n 3).length=7 from bndL_len n 3)
 have BD:=Lib.hid (bndL_dig 3 hn)
 generalize bndL n 3=bl at *
 clear k0 f1 f2 hus hZ
 go_enter Tryz.func38,Tryz.ntmps38
 go_wp2_with (fail)
 clear hmk
 go_loopw [7,6] (fun i x wq=>∃ (j:Nat) (z:Int) (g c X:Nat) (l:List Nat),i=.int .i64 z∧z=(j:Int)-1∧j≤70∧x=.slice (some ⟨g,0,none⟩) 3 c∧L3 l X∧Sk n 3 j X∧US wq wq.heap.size (some ⟨g,0,none⟩) 3 c l∧Fr w wq [(w.heap.size,29,us bl)] []) (fun i _ _=>(intOf i+1).toNat)
 case atStart=>exact ⟨70,69,_,_,0,[0,0,0],rfl,rfl,by omega,rfl,L3.start,Sk.start _ _,HUS.out,F2.out⟩
 case round =>
  obtain ⟨j,z,g,c,X,l,rfl,hz,hj,rfl,hl,hsk,hU,hF⟩:=hrel
  clear F2 HUS
  rcases Nat.eq_zero_or_pos j with h0 | h0
  ·
   subst h0
   obtain rfl:z=-1:=by omega
   clear hz hj
   have hlow:=hl.low
   rw [hsk.end_] at hlow
   obtain ⟨R,hR⟩:∃ R,R=rootN n 3:=⟨_,rfl⟩
   rw [←hR] at hlow
   have HRR:=Lib.hid hR
   clear hR
   obtain ⟨x0,hx0⟩:∃ x,x=l.getD 0 0:=⟨_,rfl⟩
   obtain ⟨x1,hx1⟩:∃ x,x=l.getD 1 0:=⟨_,rfl⟩
   obtain ⟨b,o,e1,hb,hc⟩:=hU.at_ (by omega)
   injection e1 with e1
   injection e1 with e1 e2
   subst e1;subst e2
   have c0:wr.cell? ⟨g,0,none⟩=some (.int .u64 (x0:Int)):=hc 0 x0 (by rw [hx0,List.getD,List.getElem?_eq_getElem (by rw [hl.len];omega)];rfl)
   have c1:wr.cell? ⟨g,1,none⟩=some (.int .u64 (x1:Int)):=hc 1 x1 (by rw [hx1,List.getD,List.getElem?_eq_getElem (by rw [hl.len];omega)];rfl)
   have d0:=hl.dig 0
   have d1:=hl.dig 1
   rw [←hx0,←hx1] at hlow
   rw [←hx0] at d0
   rw [←hx1] at d1
   have s1:IntKind.u64.wrap ((x1:Int)*4294967296)=((x1*4294967296:Nat):Int):=by rw [IntKind.wrap_u64];omega
   have s2:IntKind.u64.wrap ((x0:Int)+((x1*4294967296:Nat):Int))=(R:Int):=by rw [IntKind.wrap_u64];omega
   obtain ⟨y1,hy1⟩:∃ y,y=x1*4294967296:=⟨_,rfl⟩
   rw [←hy1] at s1 s2
   have HBF:=Lib.hid hF.below
   clear hc hU hF hl hsk hlow hx0 hx1 hy1 d0 d1
   go_wp2_with (fail)
   refine wp_region_held_drew (S:=fun W=>W.cell? ⟨g,0,none⟩=some (.int .u64 (x0:Int))∧W.cell? ⟨g,1,none⟩=some (.int .u64 (x1:Int))) (by kernel_rfl) ?_ (fun hHeld=>?_)
   ·
    exact ⟨c0,c1⟩
   refine tk 0 hHeld ?_
   try simp only [Act.put,lA,lB,lC,lD,lE,lF]
   refine tk 1 hHeld ?_
   try simp only [Act.put,lA,lB,lC,lD,lE,lF]
   refine tk 2 hHeld ?_
   try simp only [Act.put,lA,lB,lC,lD,lE,lF]
   refine tk 3 hHeld ?_
   try simp only [Act.put,lA,lB,lC,lD,lE,lF]
   refine tk 4 hHeld ?_
   try simp only [Act.put,lA,lB,lC,lD,lE,lF]
   refine tk 5 hHeld ?_
   try simp only [Act.put,lA,lB,lC,lD,lE,lF]
   refine tk 6 hHeld ?_
   try simp only [Act.put,lA,lB,lC,lD,lE,lF]
   refine tk 7 hHeld ?_
   try simp only [Act.put,lA,lB,lC,lD,lE,lF]
   refine tk 8 hHeld ?_
   try simp only [Act.put,lA,lB,lC,lD,lE,lF]
   refine wpAnyH_done (by kernel_rfl) ?_ _
   go_wp2_with (fail)
   go_ret
   refine ⟨?_,HBF.out.drew⟩
   rw [←HRR.out]
   rfl
  ·
   obtain ⟨i,rfl⟩:∃ k,j=k+1:=⟨j-1,by omega⟩
   obtain rfl:z=(i:Int):=by omega
   clear hz h0
   have hi:i≤69:=by omega
   obtain ⟨hdl,hl2⟩:=hl.add hi hsk.low
   have HU:=Lib.hid hU
   have HF:=Lib.hid hF
   have HLN:=Lib.hid hl.len
   have HL:=Lib.hid hl
   have HSK:=Lib.hid hsk
   have HL2:=Lib.hid hl2
   obtain ⟨d,hd⟩:∃ d,d=l.getD (i/32) 0:=⟨_,rfl⟩
   rw [←hd] at hdl
   have HD:=Lib.hid hd
   have hdq:=hd
   clear hU hF hl hsk hl2 hd hj
   obtain ⟨q,hq⟩:∃ q,q=i/32:=⟨_,rfl⟩
   obtain ⟨r,hr⟩:∃ r,r=i%32:=⟨_,rfl⟩
   rw [←hr] at hdl
   have hq1:(i:Int)/32=(q:Int):=by omega
   rw [←hq] at hdq
   have hr1:(i:Int)%32=(r:Int):=by omega
   have hq3:q<3:=by omega
   have hr3:r<32:=by omega
   have HQ:=Lib.hid hq
   have HDQ:Hid (l[q]?=some d):=Lib.hid (by rw [HD.out,hq,List.getD,List.getElem?_eq_getElem (by rw [HLN.out];omega)];rfl)
   have HR:=Lib.hid hr
   obtain ⟨m,hm⟩:∃ m,m=2^r:=⟨_,rfl⟩
   rw [←hm] at hdl
   have hsh:IntKind.u64.wrap ((2:Int)^r)=(m:Int):=by
    rw [show (2:Int)^r=((2^r:Nat):Int) by push_cast;rfl,←hm,IntKind.wrap_u64]
    omega
   obtain ⟨dm,hdm⟩:∃ q,q=d+m:=⟨_,rfl⟩
   have hsm:IntKind.u64.wrap ((d:Int)+(m:Int))=(dm:Int):=by rw [IntKind.wrap_u64];omega
   have hl3:=HL2.out
   rw [←hq,←hr,←hdq,←hm,←hdm] at hl3
   clear HL2
   have HL2:=Lib.hid hl3
   clear hq hr hm hl3 hdq hdl
   go_wp2_with (at_builtin;refine dD rfl (.const (.slice none 0 0)) (.tmp 24) 115 rfl 29 Tryz.underlying115 cN wr.heap.size (.slice none 0 0) [] rfl (OwnU.nil _ _ _) wr.heap.size 3 c (some ⟨g,0,none⟩) l rfl HU.out (by simp) (Nat.le_refl _) ?_;intro v1 w1 hown1 hg1 hat1;rw [List.nil_append] at hown1;obtain ⟨ge,cap1,rfl,hge1,hge2⟩:=hown1.slice3 HLN.out;have c1:=hown1.cell HLN.out.symm HDQ.out;have z1:=hown1.frozen HLN.out.symm q;have HO1:=Lib.hid hown1;have HG1:=Lib.hid hg1;have HGE1:=Lib.hid hge1;have HGE2:=Lib.hid hge2;clear hown1 hg1 hat1 hge1 hge2)
   have hset:=(HO1.out.set HLN.out.symm q (d+m)).1
   rw [←hdm,show (dm:Int)=(d:Int)+(m:Int) by omega] at hset
   have hus2:=us_row hset
   have hb2:Below wr.heap.size wr (w1.setCell ⟨ge,q,none⟩ (.int .u64 ((d:Int)+(m:Int)))):=((Below.refl wr.heap.size wr).grown HG1.out (Nat.le_refl _) (fun g h=>by cases h)).setCell HGE1.out _
   generalize w1.setCell ⟨ge,q,none⟩ (.int .u64 ((d:Int)+(m:Int)))=w2 at *
   have fr2:=HF.out.ext hb2
   have hx2:=HU.out.below hb2
   have htm:=nT (l.set q dm) (l.set q dm) (some ⟨ge,0,none⟩) (some ⟨ge,0,none⟩) 3 cap1 3 cap1 w2.heap.size w2 hus2 hus2 (Nat.le_refl _) HL2.out.dig HL2.out.dig (by omega) (by omega) (by omega) (by omega)
   rw [HL2.out.val] at htm
   have HTM:=Lib.hid htm
   have HUS2:=Lib.hid hus2
   have FR2:=Lib.hid fr2
   have HX2:=Lib.hid hx2
   have HSZ:=Lib.hid hb2.size
   clear hset hus2 hb2 fr2 hx2 htm HO1 HG1 HGE1 HGE2 HF HU c1 z1
   generalize hY:X+2^i=Y at *
   refine HTM.out.mono ?_
   rintro e w3 ⟨lp,rfl,hlp,hdp,hvp,kp,hb3⟩
   have fr3:=FR2.out.ext hb3
   have hx3:=((HX2.out.more HSZ.out).below hb3).more hb3.size
   have hy3:=(HUS2.out.below hb3).more hb3.size
   have htm:=nT lp (l.set q dm) (some ⟨w2.heap.size,0,none⟩) (some ⟨ge,0,none⟩) 6 6 3 cap1 w3.heap.size w3 (US.ofBlk kp 6 hlp.symm _ kp.lt) hy3 (Nat.le_refl _) hdp HL2.out.dig (by omega) (by omega) (by omega) (by omega)
   rw [HL2.out.val,hvp] at htm
   have HTM2:=Lib.hid htm
   have FR3:=Lib.hid fr3
   have HX3:=Lib.hid hx3
   have HY3:=Lib.hid hy3
   clear fr3 hx3 hy3 htm hlp hdp hvp kp hb3 HTM FR2 HX2 HUS2
   go_wp2_with (fail)
   refine HTM2.out.mono ?_
   rintro e w4 ⟨lp2,rfl,hlp2,hdp2,hvp2,kp2,hb4⟩
   have fr9:=FR3.out.ext hb4
   have hx9:=(HX3.out.below hb4).more hb4.size
   have hy9:=(HY3.out.below hb4).more hb4.size
   have hmo:=wG lp2 bl (some ⟨w3.heap.size,0,none⟩) (some ⟨w.heap.size,0,none⟩) 9 9 7 7 w4.heap.size w4.heap.size w4 (US.ofBlk kp2 9 hlp2.symm _ kp2.lt) (US.ofBlk (fr9.get (g:=w.heap.size) (t:=29) (cs:=us bl) (by simp)) 7 BL.out.symm _ (fr9.get (g:=w.heap.size) (t:=29) (cs:=us bl) (by simp)).lt) hdp2 BD.out (by omega) (by omega)
   rw [hvp2,BV.out,show Y*Y*Y=Y^3 by rw [Nat.pow_succ,Nat.pow_two]] at hmo
   have hsz9:=hx9.len
   by_cases hle:Y^3≤n*2^(64*3)
   ·
    rw [decide_eq_true hle] at hmo
    have hk2:=HSK.out.yes hi (by rw [hY];exact hle)
    rw [hY] at hk2
    have HK2:=Lib.hid hk2
    have HMO:=Lib.hid hmo
    have FR9:=Lib.hid fr9
    have HY9:=Lib.hid hy9
    clear hmo hk2 fr9 hx9 hy9 hle hlp2 hdp2 hvp2 kp2 hb4 hsz9
    go_wp2_with (fail)
    refine HMO.out.mono ?_
    rintro e w9 ⟨rfl,rfl⟩
    go_wp2_with (fail)
    go_round
    case rel=>exact ⟨i,_,ge,cap1,Y,_,rfl,by go_num,by omega,rfl,HL2.out,HK2.out,HY9.out,FR9.out⟩
    case measure=>simp [intOf]<;>omega
   ·
    rw [decide_eq_false hle] at hmo
    have hk2:=HSK.out.no (by rw [hY];exact hle)
    have HK2:=Lib.hid hk2
    have HMO:=Lib.hid hmo
    have FR9:=Lib.hid fr9
    have HX9:=Lib.hid hx9
    clear hmo hk2 fr9 hx9 hy9 hle hlp2 hdp2 hvp2 kp2 hb4 hsz9
    go_wp2_with (fail)
    refine HMO.out.mono ?_
    rintro e w9 ⟨rfl,rfl⟩
    go_wp2_with (fail)
    go_round
    case rel=>exact ⟨i,_,g,c,X,_,rfl,by go_num,by omega,rfl,HL.out,HK2.out,HX9.out,FR9.out⟩
    case measure=>simp [intOf]<;>omega
end Sha
end
end Go.Proofs.YtpagiffbjofihaaGreatDoor
