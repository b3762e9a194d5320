/- Words, contracts and walks (So, Su, Hw, Hp, Hd, Hv, Hx, Hy, Hz, Hc, Hs, Hg, Hh, Hk, Ho, Hq, Ht, Hj, Vc, Vd, Ve, Vg), laid together. No condition. -/
import Derived.Test.YtpagiffbjofihaaGreatDoorZa
import Derived.Deep.DeepCutAuto
import Derived.Deep.CutBlock
import Derived.Deep.MidRow
namespace Go.Proofs.YtpagiffbjofihaaGreatDoor
set_option linter.unusedVariables false
set_option linter.unusedSimpArgs false
set_option maxHeartbeats 16000000
open Go
open _root_.Go.Proofs.Tryz renaming prog → zP
open List renaming getElem_toArray → lA,getElem_cons_succ → lB,getElem_cons_zero → lC,setIfInBounds_toArray → lD,set_cons_zero → lE,set_cons_succ → lF
section
namespace Scl
open Go.RowKit
theorem b4:(18446744073709551616:Nat)^4=115792089237316195423570985008687907853269984665640564039457584007913129639936:=by decide
theorem gN {fn:Func} {p:Tmp} (hr:fn.results=#[.cell p 23]) {frame:Act} {w w':World} {g n:Nat} (hp:frame.tmps.getD p undef=.pointer (some ⟨g,0,none⟩)) (hd:frame.defers=[]) (hb:Blk w' g 23 (ks n)) (hB:Below w.heap.size w w') :
  bodyPost zP fn (KeyPost n w) .ret frame w' :=
 bodyPost_ret (results_cell_row hr _ _ g 23 (ks n) (0,0) _ hp hb Tryz.underlying23 rfl (aL n)) hd ⟨rfl,hB⟩
theorem wordsW (n:Nat) (w:World) (hn:K256 n):Calls zP 53 #[.agg (ks n)] w (WPost 4 n w):=by
 have h:=jB n w hn
 unfold ElemPost at h
 simp only [es_ws] at h
 exact h
theorem mulAddL (a b c:Nat) (w:World) (ha:K256 a) (hb:K256 b) (hc:K256 c) :
  Calls zP 52 #[.agg (ws 4 a),.agg (ws 4 b),.agg (ws 4 c)] w (WPost 8 (a*b+c) w):=mulAdd8_any a b c w (by rw [b4];exact ha) (by rw [b4];exact hb) (by rw [b4];exact hc)
theorem yK {a b c:Nat} (ha:K256 a) (hb:K256 b) (hc:K256 c):a*b+c<18446744073709551616^8:=by
 have h1:a*b≤115792089237316195423570985008687907853269984665640564039457584007913129639935*115792089237316195423570985008687907853269984665640564039457584007913129639935:=Nat.mul_le_mul (by omega) (by omega)
 have e:(18446744073709551616:Nat)^8=13407807929942597099574024998205846127479365820592393377723561443721764030073546976801874298166903427690031858186486050853753882811946569946433649006084096:=by decide
 rw [e]
 omega
theorem LL_lt:K256 LL:=by rw [nP];omega
theorem minusL_ex (s:Nat) (hs:K256 s):∃ m c:Nat,(∀ w,Calls zP 69 #[.agg (ws 4 s),.agg #[.int .u64 6346243789798364141,.int .u64 1503914060200516822,.int .u64 0,.int .u64 1152921504606846976]] w fun e w'=>e=.returned (.tuple #[.agg (ws 4 m),.int .u64 (c:Int)])∧Below w.heap.size w w')∧c=if s<LL then 1 else 0:=by
 have hl:=LL_lt
 refine ⟨(s+115792089237316195423570985008687907853269984665640564039457584007913129639936-LL)%115792089237316195423570985008687907853269984665640564039457584007913129639936,if s<LL then 1 else 0,fun w=>?_,rfl⟩
 have h:=iL s LL w hs hl
 rw [ws_LL] at h
 refine h.mono ?_
 rintro e w' ⟨m,c,rfl,e1,e2,e3,hb⟩
 have em:m=(s+115792089237316195423570985008687907853269984665640564039457584007913129639936-LL)%115792089237316195423570985008687907853269984665640564039457584007913129639936:=by
  have:c=0∨c=1:=by omega
  rcases this with rfl | rfl<;>omega
 have ec:c=if s<LL then 1 else 0:=by
  have:c=0∨c=1:=by omega
  split<;>omega
 rw [←em,←ec]
 exact ⟨rfl,hb⟩
set_option maxRecDepth 100000 in
theorem mulAdd_key (a b c:Nat) (w:World) (hog:OG w) (ha:K256 a) (hb:K256 b) (hc:K256 c):Calls zP 22 #[.agg (ks a),.agg (ks b),.agg (ks c)] w (KeyPost ((a*b+c)%LL) w):=by
 have hfr:=(((((Fr.start w).row (ks a) 23 (g:=w.heap.size) rfl).row (ks b) 23 (g:=w.heap.size+1) (by simp)).row (ks c) 23 (g:=w.heap.size+1+1) (by simp)).any (ks 0) 23 32 (aG 0) (g:=w.heap.size+1+1+1) (by simp))
 have hfr2:=hfr
 rw [dK] at hfr2
 have HFR:=Lib.hid hfr2
 clear hfr hfr2
 have HOG:=Lib.hid hog
 have HA:=Lib.hid ha
 have HB:=Lib.hid hb
 have HC:=Lib.hid hc
 clear hog ha hb hc
 obtain ⟨r,hr⟩:∃ r,r=(a*b+c)%LL:=⟨_,rfl⟩
 rw [←hr]
 have hrest:=fun W ho=>rest_any (a*b+c) W ho (yK HA.out HB.out HC.out)
 rw [←hr] at hrest
 have HREST:=Lib.hid hrest
 clear hr hrest
 go_enter Tryz.func22,Tryz.ntmps22
 go_wp2_with (fail)
 refine wp_region_held_drew (S:=fun W=>Fr w W [(w.heap.size+1+1,23,ks c),(w.heap.size+1,23,ks b),(w.heap.size,23,ks a)] [(w.heap.size+1+1+1,23,32)]) (by kernel_rfl) ?_ (fun hHeld=>?_)
 ·
  exact HFR.out.drew
 refine wpAnyH_take (i:=0) (v:=.agg (ks a)) rfl (by kernel_rfl) (by kernel_rfl) (by kernel_rfl) (fun _ _ _ h=>h) (cY (by rfl) 23 (.tmp 3) rfl (w.heap.size) rfl 23 (ks a) _ (fun W (h:Fr _ W _ _)=>h.get (by simp)) Tryz.underlying23 rfl (aL _)) hHeld ?_
 try simp only [Act.put,lA,lB,lC,lD,lE,lF]
 refine wpAnyH_take (i:=2) (v:=.agg (ks b)) rfl (by kernel_rfl) (by kernel_rfl) (by kernel_rfl) (fun _ _ _ h=>h) (cY (by rfl) 23 (.tmp 4) rfl (w.heap.size+1) rfl 23 (ks b) _ (fun W (h:Fr _ W _ _)=>h.get (by simp)) Tryz.underlying23 rfl (aL _)) hHeld ?_
 try simp only [Act.put,lA,lB,lC,lD,lE,lF]
 refine wpAnyH_take (i:=4) (v:=.agg (ks c)) rfl (by kernel_rfl) (by kernel_rfl) (by kernel_rfl) (fun _ _ _ h=>h) (cY (by rfl) 23 (.tmp 5) rfl (w.heap.size+1+1) rfl 23 (ks c) _ (fun W (h:Fr _ W _ _)=>h.get (by simp)) Tryz.underlying23 rfl (aL _)) hHeld ?_
 try simp only [Act.put,lA,lB,lC,lD,lE,lF]
 refine wpAnyH_ready (rs:=[1]) (by kernel_rfl) (by simp) (AllReadyH.cons rfl (fun K hK=>?_) AllReadyH.nil)
 have h0:=hHeld
 clear hHeld
 try simp only [lA,lB,lC]
 have H0:=Lib.hid h0
 clear h0
 go_simp
 go_at_call 53
 refine (wordsW a _ HA.out).mono ?_
 rintro e vv ⟨rfl,hb⟩
 have h1:=H0.out.ext hb
 clear hb H0
 go_wp2_with (fail)
 refine hK.out _ _ h1 (fun hHeld=>?_)
 clear hK K h1
 try simp only [Act.put,lA,lB,lC,lD,lE,lF]
 refine wpAnyH_ready (rs:=[3]) (by kernel_rfl) (by simp) (AllReadyH.cons rfl (fun K hK=>?_) AllReadyH.nil)
 have h0:=hHeld
 clear hHeld
 try simp only [lA,lB,lC]
 have H0:=Lib.hid h0
 clear h0
 go_simp
 go_at_call 53
 refine (wordsW b _ HB.out).mono ?_
 rintro e vv ⟨rfl,hb⟩
 have h1:=H0.out.ext hb
 clear hb H0
 go_wp2_with (fail)
 refine hK.out _ _ h1 (fun hHeld=>?_)
 clear hK K h1
 try simp only [Act.put,lA,lB,lC,lD,lE,lF]
 refine wpAnyH_ready (rs:=[5]) (by kernel_rfl) (by simp) (AllReadyH.cons rfl (fun K hK=>?_) AllReadyH.nil)
 have h0:=hHeld
 clear hHeld
 try simp only [lA,lB,lC]
 have H0:=Lib.hid h0
 clear h0
 go_simp
 go_at_call 53
 refine (wordsW c _ HC.out).mono ?_
 rintro e vv ⟨rfl,hb⟩
 have h1:=H0.out.ext hb
 clear hb H0
 go_wp2_with (fail)
 refine hK.out _ _ h1 (fun hHeld=>?_)
 clear hK K h1
 try simp only [Act.put,lA,lB,lC,lD,lE,lF]
 refine wpAnyH_ready (rs:=[6]) (by kernel_rfl) (by simp) (AllReadyH.cons rfl (fun K hK=>?_) AllReadyH.nil)
 have h0:=hHeld
 clear hHeld
 try simp only [lA,lB,lC]
 have H0:=Lib.hid h0
 clear h0
 go_simp
 go_at_call 52
 refine (mulAddL a b c _ HA.out HB.out HC.out).mono ?_
 rintro e vv ⟨rfl,hb⟩
 have h1:=H0.out.ext hb
 clear hb H0
 go_wp2_with (fail)
 refine hK.out _ _ h1 (fun hHeld=>?_)
 clear hK K h1
 try simp only [Act.put,lA,lB,lC,lD,lE,lF]
 refine wpAnyH_ready (rs:=[7]) (by kernel_rfl) (by simp) (AllReadyH.cons rfl (fun K hK=>?_) AllReadyH.nil)
 have h0:=hHeld
 clear hHeld
 try simp only [lA,lB,lC]
 have H0:=Lib.hid h0
 clear h0
 go_simp
 go_at_call 51
 refine (HREST.out _ (Fr.og H0.out HOG.out)).mono ?_
 rintro e vv ⟨rfl,hb⟩
 have h1:=H0.out.ext hb
 clear hb H0
 go_wp2_with (fail)
 refine hK.out _ _ h1 (fun hHeld=>?_)
 clear hK K h1
 try simp only [Act.put,lA,lB,lC,lD,lE,lF]
 refine wpAnyH_ready (rs:=[8]) (by kernel_rfl) (by simp) (AllReadyH.cons rfl (fun K hK=>?_) AllReadyH.nil)
 have h0:=hHeld
 clear hHeld
 try simp only [lA,lB,lC]
 rw [if_pos (by rfl)]
 obtain ⟨old,hold,kold⟩:=Fr.old h0 (g:=w.heap.size+1+1+1) (t:=23) (n:=32) (by simp)
 refine wp_store_row 23 (.tmp 6) (.tmp 14) rfl (w.heap.size+1+1+1) (ks r) rfl rfl 23 old kold (aL _) hold (bU _) ?_
 refine hK.out _ _ (Fr.setAny h0 (g:=w.heap.size+1+1+1) (t:=23) (aG _) (by simp) (by simp<;>omega)) (fun hHeld=>?_)
 have kb:=kold.setRow_same (ks r)
 clear hK K h0 hold
 try simp only [Act.put,lA,lB,lC,lD,lE,lF]
 refine wpAnyH_done (by kernel_rfl) ?_ _
 have HF:=Lib.hid hHeld
 clear hHeld
 go_wp2_with (fail)
 exact gN (g:=w.heap.size+1+1+1) rfl rfl rfl kb HF.out.below
set_option maxRecDepth 100000 in
theorem may_key (a:Nat) (w:World) (hog:OG w) (ha:K256 a):Calls zP 30 #[.agg (ks a)] w (fun e w'=>e=.returned (.bool (decide (a<LL)))∧Below w.heap.size w w'):=by
 have hfr:=(Fr.start w).row (ks a) 23 (g:=w.heap.size) rfl
 obtain ⟨m,c,hc,hcv⟩:=minusL_ex a ha
 have HC:=Lib.hid hc
 have hO:=hfr.og hog
 have HA:=Lib.hid ha
 clear hc ha hog
 have hce:((c:Int) == 1)=decide (a<LL):=by rw [hcv];by_cases h:a<LL<;>simp [h]
 have HCE:=Lib.hid hce
 clear hce hcv
 go_enter Tryz.func30,Tryz.ntmps30
 go_wp2_with (fail)
 obtain ⟨wx,hwx⟩:∃ wx:World,wx=w.alloc (Obj.cells (ks a) 23):=⟨_,rfl⟩
 rw [←hwx] at hfr hO ⊢
 clear hwx
 have hn:=hfr.now.sub (L':=[(w.heap.size,23,ks a)]) (by simp)
 have HN:=Lib.hid hn
 have HFR:=Lib.hid hfr
 have HO:=Lib.hid hO
 clear hn hfr hO
 refine wp_region_held_drew (S:=fun W=>Fn wx W [(w.heap.size,23,ks a)]) (by kernel_rfl) ?_ (fun hHeld=>?_)
 ·
  exact HN.out.drew
 refine wpAnyH_take (i:=0) (v:=.agg (ks a)) rfl (by kernel_rfl) (by kernel_rfl) (by kernel_rfl) (fun _ _ _ h=>h) (cY (by rfl) 23 (.tmp 1) rfl (w.heap.size) rfl 23 (ks a) _ (fun W (h:Fn _ W _)=>h.get (by simp)) Tryz.underlying23 rfl (aL _)) hHeld ?_
 try simp only [Act.put,lA,lB,lC,lD,lE,lF]
 refine wpAnyH_take (i:=2) (v:=.agg #[.int .u64 6346243789798364141,.int .u64 1503914060200516822,.int .u64 0,.int .u64 1152921504606846976]) rfl (by kernel_rfl) (by kernel_rfl) (by kernel_rfl) (fun _ _ _ h=>h) (Or.inl ⟨by rfl,?_⟩) hHeld ?_
 ·
  (intro W hSw;have hO:=HO.out.ext (show Fn wx W _ from hSw).below;clear hSw;obtain ⟨hz,p0,p1,p2,p3⟩:=hO;(try simp only [lA,lB,lC]);go_simp;try with_reducible rfl)
 try simp only [Act.put,lA,lB,lC,lD,lE,lF]
 refine wpAnyH_ready (rs:=[1,7]) (by kernel_rfl) (by simp) (AllReadyH.cons rfl (fun K hK=>?_) (AllReadyH.cons rfl (fun K hK=>?_) AllReadyH.nil))
 ·
  have h0:=hHeld
  clear hHeld
  try simp only [lA,lB,lC]
  have H0:=Lib.hid h0
  clear h0
  go_simp
  go_at_call 53
  refine (wordsW a _ HA.out).mono ?_
  rintro e vv ⟨rfl,hb⟩
  have h1:=H0.out.ext hb
  clear hb H0
  go_wp2_with (fail)
  refine hK.out _ _ h1 (fun hHeld=>?_)
  clear hK K h1
  try simp only [Act.put,lA,lB,lC,lD,lE,lF]
  refine wpAnyH_ready (rs:=[3,7]) (by kernel_rfl) (by simp) (AllReadyH.cons rfl (fun K hK=>?_) (AllReadyH.cons rfl (fun K hK=>?_) AllReadyH.nil))
  ·
   have h0:=hHeld
   clear hHeld
   try simp only [lA,lB,lC]
   have H0:=Lib.hid h0
   clear h0
   go_simp
   go_at_call 69
   refine (HC.out _).mono ?_
   rintro e vv ⟨rfl,hb⟩
   have h1:=H0.out.ext hb
   clear hb H0
   go_wp2_with (fail)
   refine hK.out _ _ h1 (fun hHeld=>?_)
   clear hK K h1
   try simp only [Act.put,lA,lB,lC,lD,lE,lF]
   refine tk 4 hHeld ?_
   try simp only [Act.put,lA,lB,lC,lD,lE,lF]
   refine tk 5 hHeld ?_
   try simp only [Act.put,lA,lB,lC,lD,lE,lF]
   refine tk 6 hHeld ?_
   try simp only [Act.put,lA,lB,lC,lD,lE,lF]
   refine wpAnyH_ready (rs:=[7]) (by kernel_rfl) (by simp) (AllReadyH.cons rfl (fun K hK=>?_) AllReadyH.nil)
   have h0:=hHeld
   clear hHeld
   try simp only [lA,lB,lC]
   obtain ⟨kz,hg⟩:=Fn.fresh h0 54 #[.int .u64 0,.int .u64 0,.int .u64 0,.int .u64 0]
   have KZ:=Lib.hid kz
   have HG:=Lib.hid hg
   have H0:=Lib.hid h0
   clear kz hg h0
   go_simp
   refine hK.out _ _ (Fn.pass H0.out _) (fun hHeld=>?_)
   clear hK K H0
   try simp only [Act.put,lA,lB,lC,lD,lE,lF]
   refine wpAnyH_ready (rs:=[8]) (by kernel_rfl) (by simp) (AllReadyH.cons rfl (fun K hK=>?_) AllReadyH.nil)
   have h0:=hHeld
   clear hHeld
   try simp only [lA,lB,lC]
   rw [if_pos (by rfl)]
   refine wp_store_row 54 (.tmp 3) (.tmp 10) rfl _ (ws 4 m) rfl rfl 54 _ KZ.out (dB m) rfl (iN _ _) ?_
   refine hK.out _ _ (Fn.setFresh h0 HG.out _) (fun hHeld=>?_)
   have kb:=KZ.out.setRow_same (ws 4 m)
   clear hK K h0
   try simp only [Act.put,lA,lB,lC,lD,lE,lF]
   refine tk 9 hHeld ?_
   try simp only [Act.put,lA,lB,lC,lD,lE,lF]
   refine wpAnyH_done (by kernel_rfl) ?_ _
   have HB:=Lib.hid (HFR.out.ext hHeld.below)
   clear hHeld
   go_wp2_with (fail)
   simp only [HCE.out]
   go_ret
   exact ⟨rfl,HB.out.below⟩
  ·
   have h0:=hHeld
   clear hHeld
   try simp only [lA,lB,lC]
   obtain ⟨kz,hg⟩:=Fn.fresh h0 54 #[.int .u64 0,.int .u64 0,.int .u64 0,.int .u64 0]
   have KZ:=Lib.hid kz
   have HG:=Lib.hid hg
   have H0:=Lib.hid h0
   clear kz hg h0
   go_simp
   refine hK.out _ _ (Fn.pass H0.out _) (fun hHeld=>?_)
   clear hK K H0
   try simp only [Act.put,lA,lB,lC,lD,lE,lF]
   refine wpAnyH_ready (rs:=[3]) (by kernel_rfl) (by simp) (AllReadyH.cons rfl (fun K hK=>?_) AllReadyH.nil)
   have h0:=hHeld
   clear hHeld
   try simp only [lA,lB,lC]
   have H0:=Lib.hid h0
   clear h0
   go_simp
   go_at_call 69
   refine (HC.out _).mono ?_
   rintro e vv ⟨rfl,hb⟩
   have kz:=KZ.out.below hb KZ.out.lt
   clear KZ
   have KZ:=Lib.hid kz
   clear kz
   have h1:=H0.out.ext hb
   clear hb H0
   go_wp2_with (fail)
   refine hK.out _ _ h1 (fun hHeld=>?_)
   clear hK K h1
   try simp only [Act.put,lA,lB,lC,lD,lE,lF]
   refine tk 4 hHeld ?_
   try simp only [Act.put,lA,lB,lC,lD,lE,lF]
   refine tk 5 hHeld ?_
   try simp only [Act.put,lA,lB,lC,lD,lE,lF]
   refine tk 6 hHeld ?_
   try simp only [Act.put,lA,lB,lC,lD,lE,lF]
   refine wpAnyH_ready (rs:=[8]) (by kernel_rfl) (by simp) (AllReadyH.cons rfl (fun K hK=>?_) AllReadyH.nil)
   have h0:=hHeld
   clear hHeld
   try simp only [lA,lB,lC]
   rw [if_pos (by rfl)]
   refine wp_store_row 54 (.tmp 3) (.tmp 10) rfl _ (ws 4 m) rfl rfl 54 _ KZ.out (dB m) rfl (iN _ _) ?_
   refine hK.out _ _ (Fn.setFresh h0 HG.out _) (fun hHeld=>?_)
   have kb:=KZ.out.setRow_same (ws 4 m)
   clear hK K h0
   try simp only [Act.put,lA,lB,lC,lD,lE,lF]
   refine tk 9 hHeld ?_
   try simp only [Act.put,lA,lB,lC,lD,lE,lF]
   refine wpAnyH_done (by kernel_rfl) ?_ _
   have HB:=Lib.hid (HFR.out.ext hHeld.below)
   clear hHeld
   go_wp2_with (fail)
   simp only [HCE.out]
   go_ret
   exact ⟨rfl,HB.out.below⟩
 ·
  have h0:=hHeld
  clear hHeld
  try simp only [lA,lB,lC]
  obtain ⟨kz,hg⟩:=Fn.fresh h0 54 #[.int .u64 0,.int .u64 0,.int .u64 0,.int .u64 0]
  have KZ:=Lib.hid kz
  have HG:=Lib.hid hg
  have H0:=Lib.hid h0
  clear kz hg h0
  go_simp
  refine hK.out _ _ (Fn.pass H0.out _) (fun hHeld=>?_)
  clear hK K H0
  try simp only [Act.put,lA,lB,lC,lD,lE,lF]
  refine wpAnyH_ready (rs:=[1]) (by kernel_rfl) (by simp) (AllReadyH.cons rfl (fun K hK=>?_) AllReadyH.nil)
  have h0:=hHeld
  clear hHeld
  try simp only [lA,lB,lC]
  have H0:=Lib.hid h0
  clear h0
  go_simp
  go_at_call 53
  refine (wordsW a _ HA.out).mono ?_
  rintro e vv ⟨rfl,hb⟩
  have kz:=KZ.out.below hb KZ.out.lt
  clear KZ
  have KZ:=Lib.hid kz
  clear kz
  have h1:=H0.out.ext hb
  clear hb H0
  go_wp2_with (fail)
  refine hK.out _ _ h1 (fun hHeld=>?_)
  clear hK K h1
  try simp only [Act.put,lA,lB,lC,lD,lE,lF]
  refine wpAnyH_ready (rs:=[3]) (by kernel_rfl) (by simp) (AllReadyH.cons rfl (fun K hK=>?_) AllReadyH.nil)
  have h0:=hHeld
  clear hHeld
  try simp only [lA,lB,lC]
  have H0:=Lib.hid h0
  clear h0
  go_simp
  go_at_call 69
  refine (HC.out _).mono ?_
  rintro e vv ⟨rfl,hb⟩
  have kz:=KZ.out.below hb KZ.out.lt
  clear KZ
  have KZ:=Lib.hid kz
  clear kz
  have h1:=H0.out.ext hb
  clear hb H0
  go_wp2_with (fail)
  refine hK.out _ _ h1 (fun hHeld=>?_)
  clear hK K h1
  try simp only [Act.put,lA,lB,lC,lD,lE,lF]
  refine tk 4 hHeld ?_
  try simp only [Act.put,lA,lB,lC,lD,lE,lF]
  refine tk 5 hHeld ?_
  try simp only [Act.put,lA,lB,lC,lD,lE,lF]
  refine tk 6 hHeld ?_
  try simp only [Act.put,lA,lB,lC,lD,lE,lF]
  refine wpAnyH_ready (rs:=[8]) (by kernel_rfl) (by simp) (AllReadyH.cons rfl (fun K hK=>?_) AllReadyH.nil)
  have h0:=hHeld
  clear hHeld
  try simp only [lA,lB,lC]
  rw [if_pos (by rfl)]
  refine wp_store_row 54 (.tmp 3) (.tmp 10) rfl _ (ws 4 m) rfl rfl 54 _ KZ.out (dB m) rfl (iN _ _) ?_
  refine hK.out _ _ (Fn.setFresh h0 HG.out _) (fun hHeld=>?_)
  have kb:=KZ.out.setRow_same (ws 4 m)
  clear hK K h0
  try simp only [Act.put,lA,lB,lC,lD,lE,lF]
  refine tk 9 hHeld ?_
  try simp only [Act.put,lA,lB,lC,lD,lE,lF]
  refine wpAnyH_done (by kernel_rfl) ?_ _
  have HB:=Lib.hid (HFR.out.ext hHeld.below)
  clear hHeld
  go_wp2_with (fail)
  simp only [HCE.out]
  go_ret
  exact ⟨rfl,HB.out.below⟩
end Scl
end
section
namespace Scl
open Go Go.RowKit
def lb (n:Nat):List Nat:=(List.range 64).map fun i=>n/256^i%256
theorem kW (n:Nat):(lb n).length=64:=by simp [lb]
theorem qQ (n:Nat) {i:Nat} (h:i<64):(lb n)[i]?=some (n/256^i%256):=by simp [lb,h]
def ls (n:Nat):Array Value:=ncs .u8 (lb n)
theorem bE (n:Nat):(ls n).size=64:=by rw [ls,dL,kW]
theorem ls_get (n:Nat) {i:Nat} (h:i<64):(ls n)[i]?=some (.int .u8 ((n/256^i%256:Nat):Int)):=by rw [ls,dW,qQ n h];rfl
theorem cG (n:Nat):(zP.info? 40).map (·.size)=some (ls n).size:=by rw [bE];kernel_rfl
theorem w256 (q r:Nat):(18446744073709551616:Nat)^q*2^(8*r)=256^(8*q+r):=by
 have e:(18446744073709551616:Nat)=256^8:=by decide
 rw [e,←Nat.pow_mul,Nat.pow_mul 2 8 r,show (2:Nat)^8=256 by decide,←Nat.pow_add]
theorem low_word (N k:Nat):wj (N%256^k) (k/8)<2^(8*(k%8)):=by
 have h:=w256 (k/8) (k%8)
 rw [Nat.div_add_mod] at h
 have h1:N%256^k<18446744073709551616^(k/8)*2^(8*(k%8)):=by rw [h];exact Nat.mod_lt _ (Nat.pow_pos (by omega))
 unfold wj
 refine Nat.lt_of_le_of_lt (Nat.mod_le _ _) ?_
 rw [Nat.div_lt_iff_lt_mul (Nat.pow_pos (by omega)),Nat.mul_comm]
 exact h1
theorem byte_put (N k:Nat) (hk:k<64):(ws 8 (N%256^k)).setIfInBounds (k/8) (.int .u64 ((wj (N%256^k) (k/8)+N/256^k%256*2^(8*(k%8)):Nat):Int))=ws 8 (N%256^(k+1)):=by
 have hl:=low_word N k
 have h:=w256 (k/8) (k%8)
 rw [Nat.div_add_mod] at h
 have hx:N/256^k%256<256:=Nat.mod_lt _ (by omega)
 refine sC (by omega) ?_ ?_
 ·
  have hp:2^(8*(k%8))≤2^56:=Nat.pow_le_pow_right (by omega) (by omega)
  have hm:N/256^k%256*2^(8*(k%8))≤255*2^(8*(k%8)):=Nat.mul_le_mul_right _ (by omega)
  have h2:(2:Nat)^56=72057594037927936:=by decide
  omega
 ·
  have e:∀ x,18446744073709551616^(k/8)*(x*2^(8*(k%8)))=256^k*x:=fun x=>by
   rw [←h]
   ac_rfl
  rw [Nat.mod_pow_succ,Nat.mul_add,e]
  omega
theorem b512:(256:Nat)^64=18446744073709551616^8:=by
 have e:(18446744073709551616:Nat)=256^8:=by decide
 rw [e,←Nat.pow_mul]
set_option maxRecDepth 100000 in
theorem reduce_any (N:Nat) (w:World) (hog:OG w) (hN:N<256^64) :
  Calls zP 50 #[.agg (ls N)] w (KeyPost (N%LL) w):=by
 have hfr:=(((Fr.start w).row (ls N) 40 (g:=w.heap.size) rfl).any (ks 0) 23 32 (aG 0) (g:=w.heap.size+1) (by simp)).row (ws 8 0) 91 (g:=w.heap.size+1+1) (by simp)
 have hfr2:=hfr
 rw [lX] at hfr2
 rw [dK] at hfr2
 have k1:=hfr2.get (g:=w.heap.size) (t:=40) (cs:=ls N) (by simp)
 have HFR:=Lib.hid hfr2
 have HOG:=Lib.hid hog
 have HNN:=Lib.hid hN
 clear hfr hfr2 hog hN
 obtain ⟨z,hz⟩:∃ z,z=N%LL:=⟨_,rfl⟩
 rw [←hz]
 have HZ:=Lib.hid hz
 clear hz
 go_enter Tryz.func50,Tryz.ntmps50
 go_wp2_with (first | (refine wpList_load_row rfl 40 (.tmp 1) rfl w.heap.size rfl 40 (ls N) (0,0) _ k1 Tryz.underlying40 rfl (cG N) ?_))
 go_loopw [7] (fun c wr=>∃ k:Nat,k≤64∧c=.int .i64 k∧Fr w wr [(w.heap.size+1+1,91,ws 8 (N%256^k)),(w.heap.size,40,ls N)] [(w.heap.size+1,23,32)]) (fun c _=>64-(intOf c).toNat)
 case atStart=>exact ⟨0,by omega,rfl,by rw [Nat.pow_zero,Nat.mod_one,lX];exact HFR.out⟩
 case round =>
  obtain ⟨k,hk,rfl,hF⟩:=hrel
  clear HFR
  by_cases hlt:k<64
  ·
   have hB:=hF.get (g:=w.heap.size+1+1) (t:=91) (cs:=ws 8 (N%256^k)) (by simp)
   have hc:wr.cell? ⟨w.heap.size+1+1,k/8,none⟩=some (.int .u64 (wj (N%256^k) (k/8):Int)):=by rw [hB.cell,jP _ _ (by omega)]
   have hf:=hB.frozen (k/8)
   have hix:=fun W=>gH (P:=zP) W 40 5 64 .u8 Tryz.underlying40 Tryz.underlying5 (fun W=>fH (by kernel_rfl) W) (lb N) k (N/256^k%256) hlt (qQ N hlt)
   have hx8:N/256^k%256<256:=Nat.mod_lt _ (by omega)
   have hix2:∀ W,(Instr.index 40 (.agg (ls N)) (.int .i64 (k:Int))).run zP W=.ok (.int .u8 ((N/256^k%256:Nat):Int)) W:=hix
   clear hix
   have hset:=byte_put N k hlt
   have hor:=pE (wj (N%256^k) (k/8)) (N/256^k%256) (k%8) (low_word N k) hx8 (by omega)
   have HS:=Lib.hid hset
   have HO:=Lib.hid hor
   have HF:=Lib.hid hF
   clear hset hor hF hB
   generalize N/256^k%256=x at *
   have b1:(0:Int)≤(k:Int)/8:=by omega
   have b2:(k:Int)/8<8:=by omega
   go_wp2
   go_region
   go_wp2
   go_roundw
   case rel =>
    refine ⟨k+1,by omega,by go_num,?_⟩
    rw [HO.out]
    refine Fr.drew ?_
    rw [←HS.out]
    exact HF.out.setHead (by simp<;>omega) (by simp<;>omega) _ _ (by omega)
   case measure=>simp [intOf];omega
  ·
   obtain rfl:k=64:=by omega
   rw [Nat.mod_eq_of_lt HNN.out] at hF
   have kT:=hF.get (g:=w.heap.size+1+1) (t:=91) (cs:=ws 8 N) (by simp)
   have hrest:=rest_any N wr (hF.og HOG.out) (by rw [←b512];exact HNN.out)
   rw [←HZ.out] at hrest
   have HF:=Lib.hid hF
   clear hF
   go_wp2_with (first | (refine wpList_load_row rfl 91 (.tmp 3) rfl (w.heap.size+1+1) rfl 91 (ws 8 N) (0,0) _ kT Tryz.underlying91 rfl (mH N) ?_))
   refine hrest.mono ?_
   clear hrest
   rintro e v1 ⟨rfl,hb⟩
   have hf:=HF.out.ext hb
   obtain ⟨old,hold,kR⟩:=hf.old (g:=w.heap.size+1) (t:=23) (n:=32) (by simp)
   have kS:=kR.setRow_same (ks z)
   have hB2:=below_setRow hf.below (show w.heap.size≤w.heap.size+1 by omega) (ks z)
   have hold':old.size=(ks z).size:=by rw [hold,aG]
   have HS:=Lib.hid kS
   have HB2:=Lib.hid hB2
   have HO:=Lib.hid hold'
   clear hb hf kS hB2 hold hold' kT
   go_wp2_with (first | (refine wpList_store_row rfl 23 (.tmp 2) (.tmp 25) rfl (w.heap.size+1) (ks z) rfl rfl 23 old kR (aL z) HO.out (bU _) ?_))
   exact gN (g:=w.heap.size+1) rfl rfl rfl HS.out HB2.out
theorem oA {n k x:Nat} (hk:k<32) (hx:x<256):(ks n).setIfInBounds k (.int .u8 (x:Int))=ks (putd 256 n k x):=by
 rw [ks,dV,ks]
 congr 1
 apply List.ext_getElem?
 intro j
 rw [List.getElem?_set]
 by_cases hj:j<32
 ·
  rw [fQ (putd 256 n k x) hj,kI (by omega) hx (eU 256 n k x) j]
  by_cases e:k=j
  ·
   subst e
   rw [if_pos rfl,if_pos rfl,dP,if_pos hk]
  ·
   rw [if_neg e,if_neg (fun h=>e h.symm),fQ n hj]
 ·
  have:k≠j:=by omega
  rw [if_neg this,List.getElem?_eq_none (by rw [dP];omega),List.getElem?_eq_none (by rw [dP];omega)]
def clampN (n:Nat):Nat:=putd 256 (putd 256 n 0 (n/256^0%256/8*8)) 31 (n/256^31%256%64+64)
theorem kJ (n:Nat):((ks n).setIfInBounds 0 (.int .u8 ((n/256^0%256/8*8:Nat):Int))).setIfInBounds 31 (.int .u8 ((n/256^31%256%64+64:Nat):Int))=ks (clampN n):=by
 rw [oA (by omega) (by omega),oA (by omega) (by omega)]
 rfl
theorem low3:∀ x:Fin 256,bits .andNot .u8 (x.val:Int) 7=(x.val:Int)/8*8:=by decide +kernel
theorem top1:∀ x:Fin 256,bits .andNot .u8 (x.val:Int) 128=(x.val:Int)%128:=by decide +kernel
theorem top2:∀ x:Fin 256,bits .or .u8 ((x.val:Int)%128) 64=(x.val:Int)%64+64:=by decide +kernel
theorem xO (x:Nat) (h:x<256):bits .andNot .u8 (x:Int) 7=(x:Int)/8*8:=low3 ⟨x,h⟩
theorem xM (x:Nat) (h:x<256):bits .andNot .u8 (x:Int) 128=(x:Int)%128:=top1 ⟨x,h⟩
theorem xL (x:Nat) (h:x<256):bits .or .u8 ((x:Int)%128) 64=(x:Int)%64+64:=top2 ⟨x,h⟩
theorem uU {n x y:Nat} {v:Value} (hx:x=n/256^0%256) (hy:y=n/256^31%256):(((ks n).setIfInBounds 0 (.int .u8 ((x:Int)/8*8))).setIfInBounds 31 v).setIfInBounds 31 (.int .u8 ((y:Int)%64+64))=ks (clampN n):=by
 have h:=kJ n
 rw [←hx,←hy] at h
 rw [←h,Array.setIfInBounds_setIfInBounds]
 congr 2
theorem oL {n x y:Nat} (hx:x=n/256^0%256) (hy:y=n/256^31%256):((ks n).setIfInBounds 0 (.int .u8 ((x:Int)/8*8))).setIfInBounds 31 (.int .u8 ((y:Int)%64+64))=ks (clampN n):=by
 have h:=kJ n
 rw [←hx,←hy] at h
 rw [←h]
 congr 2
set_option maxRecDepth 100000 in
theorem clamp_any (n:Nat) (w:World):Calls zP 45 #[.agg (ks n)] w (KeyPost (clampN n) w):=by
 have hfr:=((Fr.start w).row (ks n) 23 (g:=w.heap.size) rfl).any (ks 0) 23 32 (aG 0) (g:=w.heap.size+1) (by simp)
 rw [dK] at hfr
 have hk:=hfr.get (g:=w.heap.size) (t:=23) (cs:=ks n) (by simp)
 obtain ⟨x,hx⟩:∃ x,x=n/256^0%256:=⟨_,rfl⟩
 obtain ⟨y,hy⟩:∃ y,y=n/256^31%256:=⟨_,rfl⟩
 have hxl:x<256:=by rw [hx];exact Nat.mod_lt _ (by omega)
 have hyl:y<256:=by rw [hy];exact Nat.mod_lt _ (by omega)
 have c0:=hk.cell 0
 have c31:=hk.cell 31
 rw [dR n (by omega),←hx] at c0
 rw [dR n (by omega),←hy] at c31
 have f0:=hk.frozen 0
 have f31:=hk.frozen 31
 have hrow:=uU (v:=.int .u8 ((y:Int)%128)) hx hy
 have hf:=((Fr.start w).row (ks (clampN n)) 23 (g:=w.heap.size) rfl).any (ks 0) 23 32 (aG 0) (g:=w.heap.size+1) (by simp)
 rw [dK] at hf
 have KT:=Lib.hid (hf.get (g:=w.heap.size) (t:=23) (cs:=ks (clampN n)) (by simp))
 have a31:((ks n).setIfInBounds 0 (.int .u8 ((x:Int)/8*8)))[31]?=some (.int .u8 (y:Int)):=by rw [Array.getElem?_setIfInBounds_ne (by omega),dR n (by omega),←hy]
 have b31:(((ks n).setIfInBounds 0 (.int .u8 ((x:Int)/8*8))).setIfInBounds 31 (.int .u8 ((y:Int)%128)))[31]?=some (.int .u8 ((y:Int)%128)):=by rw [Array.getElem?_setIfInBounds_self,if_pos (by rw [Array.size_setIfInBounds,aG];omega)]
 obtain ⟨old,hold,kR⟩:=hf.old (g:=w.heap.size+1) (t:=23) (n:=32) (by simp)
 have HS:=Lib.hid (kR.setRow_same (ks (clampN n)))
 have HB:=Lib.hid (below_setRow hf.below (show w.heap.size≤w.heap.size+1 by omega) (ks (clampN n)))
 have KR:=Lib.hid kR
 have HO:=Lib.hid (show old.size=(ks (clampN n)).size by rw [hold,aG])
 clear hfr hk hx hy hf hold kR
 have h1:=xO x hxl
 have h2:=xM y hyl
 have h3:=xL y hyl
 go_enter Tryz.func45,Tryz.ntmps45
 go_wp2_with (first | (refine wpList_load_row rfl 23 (.tmp 1) rfl w.heap.size rfl 23 (ks (clampN n)) (0,0) _ KT.out Tryz.underlying23 rfl (aL _) ?_) | (refine wpList_store_row rfl 23 (.tmp 2) (.tmp 15) rfl (w.heap.size+1) (ks (clampN n)) rfl rfl 23 old KR.out (aL _) HO.out (bU _) ?_))
 exact gN (g:=w.heap.size+1) rfl rfl rfl HS.out HB.out
set_option maxRecDepth 100000 in
theorem tE (n:Nat) (w:World):Calls zP 55 #[.agg (ks n)] w (KeyPost (clampN n) w):=by
 have hfr:=((Fr.start w).row (ks n) 23 (g:=w.heap.size) rfl).any (ks 0) 23 32 (aG 0) (g:=w.heap.size+1) (by simp)
 rw [dK] at hfr
 have hk:=hfr.get (g:=w.heap.size) (t:=23) (cs:=ks n) (by simp)
 obtain ⟨x,hx⟩:∃ x,x=n/256^0%256:=⟨_,rfl⟩
 obtain ⟨y,hy⟩:∃ y,y=n/256^31%256:=⟨_,rfl⟩
 have hxl:x<256:=by rw [hx];exact Nat.mod_lt _ (by omega)
 have hyl:y<256:=by rw [hy];exact Nat.mod_lt _ (by omega)
 have c0:=hk.cell 0
 have c31:=hk.cell 31
 rw [dR n (by omega),←hx] at c0
 rw [dR n (by omega),←hy] at c31
 have f0:=hk.frozen 0
 have f31:=hk.frozen 31
 have hrow:=oL hx hy
 have hf:=((Fr.start w).row (ks (clampN n)) 23 (g:=w.heap.size) rfl).any (ks 0) 23 32 (aG 0) (g:=w.heap.size+1) (by simp)
 rw [dK] at hf
 have KT:=Lib.hid (hf.get (g:=w.heap.size) (t:=23) (cs:=ks (clampN n)) (by simp))
 have a31:((ks n).setIfInBounds 0 (.int .u8 ((x:Int)/8*8)))[31]?=some (.int .u8 (y:Int)):=by rw [Array.getElem?_setIfInBounds_ne (by omega),dR n (by omega),←hy]
 obtain ⟨old,hold,kR⟩:=hf.old (g:=w.heap.size+1) (t:=23) (n:=32) (by simp)
 have HS:=Lib.hid (kR.setRow_same (ks (clampN n)))
 have HB:=Lib.hid (below_setRow hf.below (show w.heap.size≤w.heap.size+1 by omega) (ks (clampN n)))
 have KR:=Lib.hid kR
 have HO:=Lib.hid (show old.size=(ks (clampN n)).size by rw [hold,aG])
 clear hfr hk hx hy hf hold kR
 go_enter Tryz.func55,Tryz.ntmps55
 go_wp2_with (first | (refine wpList_load_row rfl 23 (.tmp 1) rfl w.heap.size rfl 23 (ks (clampN n)) (0,0) _ KT.out Tryz.underlying23 rfl (aL _) ?_) | (refine wpList_store_row rfl 23 (.tmp 2) (.tmp 13) rfl (w.heap.size+1) (ks (clampN n)) rfl rfl 23 old KR.out (aL _) HO.out (bU _) ?_))
 exact gN (g:=w.heap.size+1) rfl rfl rfl HS.out HB.out
end Scl
end
section
namespace Sha
open Go Go.RowKit
def rorN (x n:Nat):Nat:=x/2^n ||| x*2^(64-n)%18446744073709551616
theorem eI {x n:Nat} (h:x<18446744073709551616):rorN x n<18446744073709551616:=by
 have h1:x/2^n<2^64:=Nat.lt_of_le_of_lt (Nat.div_le_self _ _) (by omega)
 have h2:x*2^(64-n)%18446744073709551616<2^64:=by omega
 have:=Nat.or_lt_two_pow h1 h2
 unfold rorN
 omega
theorem lW {x y:Nat} (hx:x<18446744073709551616) (hy:y<18446744073709551616):x ^^^ y<18446744073709551616:=Nat.xor_lt_two_pow (n:=64) (by omega) (by omega)
theorem jU {x y:Nat} (hx:x<18446744073709551616) (hy:y<18446744073709551616):x &&& y<18446744073709551616:=Nat.and_lt_two_pow (n:=64) x (by omega)
theorem jS {x n:Nat} (hx:x<18446744073709551616):x/n<18446744073709551616:=Nat.lt_of_le_of_lt (Nat.div_le_self _ _) hx
def turnN (x i j k:Nat):Nat:=rorN x i ^^^ rorN x j ^^^ rorN x k
def mixN (x i j k:Nat):Nat:=rorN x i ^^^ rorN x j ^^^ x/2^k
theorem oT (x s:Nat):IntKind.u64.wrap ((x:Int)*2^s)=((x*2^s%18446744073709551616:Nat):Int):=by
 rw [show (x:Int)*2^s=((x*2^s:Nat):Int) by push_cast;rfl,IntKind.wrap_u64]
 omega
theorem rP (x s:Nat):(x:Int)/2^s=((x/2^s:Nat):Int):=by push_cast;rfl
theorem minus63:∀ i:Fin 64,0<i.val→bits .and .u64 (IntKind.u64.wrap (-(i.val:Int))) 63=((64-i.val:Nat):Int):=by decide +kernel
theorem ror_value (x i:Nat) (hx:x<18446744073709551616) (hi:i<64) (h0:0<i) :
  bits .or .u64 (IntKind.u64.wrap ((x:Int)*2^(64-i))) ((x:Int)/2^(64-(64-i)))=((rorN x i:Nat):Int):=by
 rw [show 64-(64-i)=i by omega,oT,rP,u64_or_nat _ _ (by omega) (jS hx),rorN,Nat.or_comm]
theorem ror_value2 (x i:Nat) (hx:x<18446744073709551616) (hi:i<64) (h0:0<i) :
  bits .or .u64 ((x:Int)/2^i) (IntKind.u64.wrap ((x:Int)*2^(64-i)))=((rorN x i:Nat):Int):=by
 rw [oT,rP,u64_or_nat _ _ (jS hx) (by omega),rorN]
theorem iQ (x i:Nat) (w:World) (hx:x<18446744073709551616) (hi:i<64) (h0:0<i) :
  Calls zP 132 #[.int .u64 x,.int .i64 (-(i:Int))] w fun e w'=>e=.returned (.int .u64 (rorN x i:Nat))∧w=w':=by
 have h:=minus63 ⟨i,hi⟩ h0
 have h3:64-i<65:=by omega
 simp only at h
 go_enter Tryz.func132,Tryz.ntmps132
 go_wp2
 go_ret
 refine ⟨?_,rfl⟩
 rw [←ror_value x i hx hi h0]
 rfl
theorem fS (x i:Nat) (w:World) (hx:x<18446744073709551616) (hi:i<64) (h0:0<i) :
  Calls zP 101 #[.int .u64 x,.int .u64 i] w fun e w'=>e=.returned (.int .u64 (rorN x i:Nat))∧w=w':=by
 have h3:64-i<65:=by omega
 go_enter Tryz.func101,Tryz.ntmps101
 go_wp2
 go_ret
 refine ⟨?_,rfl⟩
 rw [←ror_value2 x i hx hi h0]
 rfl
theorem sH (x i j k:Nat) (w:World) (hx:x<18446744073709551616) (hi:i<64) (i0:0<i) (hj:j<64) (j0:0<j) (hk:k<64) (k0:0<k) :
  Calls zP 126 #[.int .u64 x,.int .i64 i,.int .i64 j,.int .i64 k] w fun e w'=>e=.returned (.int .u64 (turnN x i j k:Nat))∧w=w':=by
 go_enter Tryz.func126,Tryz.ntmps126
 go_wp2_with (fail)
 refine (iQ x i _ hx hi i0).mono ?_
 rintro e w' ⟨rfl,rfl⟩
 go_wp2_with (fail)
 refine (iQ x j _ hx hj j0).mono ?_
 rintro e w' ⟨rfl,rfl⟩
 go_wp2_with (fail)
 refine (iQ x k _ hx hk k0).mono ?_
 rintro e w' ⟨rfl,rfl⟩
 have l1:=eI (n:=i) hx
 have l2:=eI (n:=j) hx
 have l3:=eI (n:=k) hx
 have e1:=u64_xor_nat _ _ l1 l2
 have e2:=u64_xor_nat _ _ (lW l1 l2) l3
 go_wp2_with (fail)
 go_ret
 refine ⟨?_,rfl⟩
 rw [turnN,←e2]
 rfl
theorem turn_def (x i j k:Nat):turnN x i j k=rorN x i ^^^ rorN x j ^^^ rorN x k:=rfl
theorem yY (x i j k:Nat):mixN x i j k=rorN x i ^^^ rorN x j ^^^ x/2^k:=rfl
attribute [local irreducible] rorN mixN turnN
theorem wO (x i j k:Nat) (w:World) (hx:x<18446744073709551616) (hi:i<64) (i0:0<i) (hj:j<64) (j0:0<j) (hk:k<64) :
  Calls zP 131 #[.int .u64 x,.int .i64 i,.int .i64 j,.int .i64 k] w fun e w'=>e=.returned (.int .u64 (mixN x i j k:Nat))∧w.drew=w':=by
 have h3:k<65:=by omega
 have l1:=eI (n:=i) hx
 have l2:=eI (n:=j) hx
 have e1:=u64_xor_nat _ _ l1 l2
 have e2:=u64_xor_nat _ _ (lW l1 l2) (jS (n:=2^k) hx)
 rw [←rP] at e2
 have E2:=Lib.hid e2
 clear e2
 have hwi:IntKind.i64.wrap (-(i:Int))=-(i:Int):=by rw [IntKind.wrap_i64];omega
 have hwj:IntKind.i64.wrap (-(j:Int))=-(j:Int):=by rw [IntKind.wrap_i64];omega
 go_enter Tryz.func131,Tryz.ntmps131
 go_wp2_with (fail)
 refine wp_region_held_drew (S:=fun W=>W=w.drew) (by kernel_rfl) ?_ (fun hHeld=>?_)
 ·
  exact rfl
 refine tk 0 hHeld ?_
 try simp only [Act.put,lA,lB,lC,lD,lE,lF]
 refine tk 1 hHeld ?_
 try simp only [Act.put,lA,lB,lC,lD,lE,lF]
 refine tk 2 hHeld ?_
 try simp only [Act.put,lA,lB,lC,lD,lE,lF]
 refine tk 4 hHeld ?_
 try simp only [Act.put,lA,lB,lC,lD,lE,lF]
 refine tk 5 hHeld ?_
 try simp only [Act.put,lA,lB,lC,lD,lE,lF]
 refine tk 6 hHeld ?_
 try simp only [Act.put,lA,lB,lC,lD,lE,lF]
 refine tk 9 hHeld ?_
 try simp only [Act.put,lA,lB,lC,lD,lE,lF]
 refine tk 10 hHeld ?_
 try simp only [Act.put,lA,lB,lC,lD,lE,lF]
 refine tk 11 hHeld ?_
 try simp only [Act.put,lA,lB,lC,lD,lE,lF]
 refine wpAnyH_ready (rs:=[3]) (by kernel_rfl) (by simp) (AllReadyH.cons rfl (fun K hK=>?_) AllReadyH.nil)
 have h0:=hHeld
 clear hHeld
 try simp only [lA,lB,lC]
 go_simp
 go_at_call 132
 refine (iQ x i _ hx hi i0).mono ?_
 rintro e vv ⟨rfl,rfl⟩
 go_wp2_with (fail)
 refine hK.out _ _ rfl (fun hHeld=>?_)
 clear hK K h0
 try simp only [Act.put,lA,lB,lC,lD,lE,lF]
 refine wpAnyH_ready (rs:=[7]) (by kernel_rfl) (by simp) (AllReadyH.cons rfl (fun K hK=>?_) AllReadyH.nil)
 have h0:=hHeld
 clear hHeld
 try simp only [lA,lB,lC]
 go_simp
 go_at_call 132
 refine (iQ x j _ hx hj j0).mono ?_
 rintro e vv ⟨rfl,rfl⟩
 go_wp2_with (fail)
 refine hK.out _ _ rfl (fun hHeld=>?_)
 clear hK K h0
 try simp only [Act.put,lA,lB,lC,lD,lE,lF]
 refine tk 8 hHeld ?_
 try simp only [Act.put,lA,lB,lC,lD,lE,lF]
 refine tk 12 hHeld ?_
 try simp only [Act.put,lA,lB,lC,lD,lE,lF]
 refine wpAnyH_ready (rs:=[13]) (by kernel_rfl) (by simp) (AllReadyH.cons rfl (fun K hK=>?_) AllReadyH.nil)
 have h0:=hHeld
 clear hHeld
 try simp only [lA,lB,lC]
 go_simp
 refine hK.out _ _ (h0) (fun hHeld=>?_)
 clear hK K h0
 try simp only [Act.put,lA,lB,lC,lD,lE,lF]
 refine wpAnyH_done (by kernel_rfl) ?_ _
 go_wp2_with (fail)
 go_ret
 refine ⟨?_,rfl⟩
 rw [yY,←E2.out]
 rfl
theorem mulAdd2_any (a b c d:Nat) (w:World) (ha:a<18446744073709551616) (hb:b<18446744073709551616) (hc:c<18446744073709551616) (hd:d<18446744073709551616) :
  Calls zP 136 #[.int .u64 a,.int .u64 b,.int .u64 c,.int .u64 d] w (MulAddPost a b c d w):=by
 obtain ⟨hi,lo,h1,e1,l1⟩:=kF a b ha hb
 obtain ⟨s,k,h2,e2,l2,k2⟩:=eP lo c 0 l1 hc (by omega)
 obtain ⟨t,j,h3,e3,l3,k3⟩:=eP s d 0 l2 hd (by omega)
 have hm:=gB ha hb
 have hAt:MulAddAt a b c d (hi+k+j) t:=by
  unfold MulAddAt
  generalize a*b=m at *
  omega
 have b1:hi+k+j<18446744073709551616:=hAt.2.2
 clear hm
 have HA:=Lib.hid hAt
 have E1:=Lib.hid e1
 have E2:=Lib.hid e2
 have E3:=Lib.hid e3
 clear hAt e1 e2 e3
 rw [Int.natCast_zero] at h2 h3
 go_enter Tryz.func136,Tryz.ntmps136
 go_wp2_with (first | simp only [h2] | simp only [h3] | (go_at_call 117;refine (h1 _).mono ?_;rintro e w' ⟨rfl,rfl⟩))
 go_ret2
 exact ⟨hi+k+j,t,by go_num,HA.out,rfl⟩
end Sha
end
section
namespace Sha
def PR:List Nat:=[2,3,5,7,11,13,17,19,23,29,31,37,41,43,47,53,59,61,67,71,
 73,79,83,89,97,101,103,107,109,113,127,131,137,139,149,151,157,163,167,173,
 179,181,191,193,197,199,211,223,227,229,233,239,241,251,257,263,269,271,277,281,
 283,293,307,311,313,317,331,337,347,349,353,359,367,373,379,383,389,397,401,409]
def HS:List Nat:=[7640891576956012808,13503953896175478587,4354685564936845355,11912009170470909681,5840696475078001361,11170449401992604703,
 2270897969802886507,6620516959819538809]
def HK:List Nat:=[4794697086780616226,8158064640168781261,13096744586834688815,16840607885511220156,4131703408338449720,6480981068601479193,
 10538285296894168987,12329834152419229976,15566598209576043074,1334009975649890238,2608012711638119052,6128411473006802146,
 8268148722764581231,9286055187155687089,11230858885718282805,13951009754708518548,16472876342353939154,17275323862435702243,
 1135362057144423861,2597628984639134821,3308224258029322869,5365058923640841347,6679025012923562964,8573033837759648693,
 10970295158949994411,12119686244451234320,12683024718118986047,13788192230050041572,14330467153632333762,15395433587784984357,
 489312712824947311,1452737877330783856,2861767655752347644,3322285676063803686,5560940570517711597,5996557281743188959,
 7280758554555802590,8532644243296465576,9350256976987008742,10552545826968843579,11727347734174303076,12113106623233404929,
 14000437183269869457,14369950271660146224,15101387698204529176,15463397548674623760,17586052441742319658,1182934255886127544,
 1847814050463011016,2177327727835720531,2830643537854262169,3796741975233480872,4115178125766777443,5681478168544905931,
 6601373596472566643,7507060721942968483,8399075790359081724,8693463985226723168,9568029438360202098,10144078919501101548,
 10430055236837252648,11840083180663258601,13761210420658862357,14299343276471374635,14566680578165727644,15097957966210449927,
 16922976911328602910,17689382322260857208,500013540394364858,748580250866718886,1242879168328830382,1977374033974150939,
 2944078676154940804,3659926193048069267,4368137639120453308,4836135668995329356,5532061633213252278,6448918945643986474,
 6902733635092675308,7801388544844847127]
theorem PR_len:PR.length=80:=rfl
theorem fG:HS.length=8:=rfl
theorem eT:HK.length=80:=rfl
structure Q4 where
 a:Nat
 b:Nat
 c:Nat
 d:Nat
def Q4.same (x y:Q4):Bool:=Nat.beq x.a y.a&&(Nat.beq x.b y.b&&(Nat.beq x.c y.c&&Nat.beq x.d y.d))
theorem Q4.same_iff (x y:Q4):x.same y=true↔x=y:=by
 obtain ⟨a,b,c,d⟩:=x
 obtain ⟨e,f,g,h⟩:=y
 simp [Q4.same]
def tmsN (x y:Q4):Q4 :=
 let p1:=x.c*y.b
 let p2:=x.b*y.b+p1/18446744073709551616+0
 let p3:=x.a*y.b+p2/18446744073709551616+0
 let p4:=x.d*y.a+p1%18446744073709551616+0
 let p5:=x.c*y.a+p2%18446744073709551616+p4/18446744073709551616
 let p6:=x.b*y.a+p3%18446744073709551616+p5/18446744073709551616
 ⟨(x.a*y.a+p3/18446744073709551616+p6/18446744073709551616)%18446744073709551616,p6%18446744073709551616,p5%18446744073709551616,p4%18446744073709551616⟩
def len8 (x:Nat):Nat:=if x=0 then 0 else Nat.log2 x+1
def lenN (x:Nat):Nat :=
 let n1:=if 4294967296≤x then 32 else 0
 let x1:=if 4294967296≤x then x/4294967296 else x
 let n2:=if 65536≤x1 then n1+16 else n1
 let x2:=if 65536≤x1 then x1/65536 else x1
 let n3:=if 256≤x2 then n2+8 else n2
 let x3:=if 256≤x2 then x2/256 else x2
 n3+len8 x3
def corr (y1 y0 u:Nat):Nat→Nat→Nat→Option Nat
 | 0,_,_=>none
 | k+1,q,r =>
  if 4294967296≤q∨(4294967296*r%18446744073709551616+u)%18446744073709551616<q*y0%18446744073709551616 then
   (if 4294967296≤(r+y1)%18446744073709551616 then some (q-1) else corr y1 y0 u k (q-1) ((r+y1)%18446744073709551616))
  else some q
def subW (a b:Nat):Nat:=(a+(18446744073709551616-b))%18446744073709551616
def divC (k y2 y1 y0 un32 un1 un0:Nat):Option Nat :=
 if y1=0 then none else
  match corr y1 y0 un1 k (un32/y1) (subW un32 (un32/y1*y1%18446744073709551616)) with
  | none=>none
  | some q1 =>
   match corr y1 y0 un0 k (subW ((un32*4294967296%18446744073709551616+un1)%18446744073709551616) (q1*y2%18446744073709551616)/y1) (subW (subW ((un32*4294967296%18446744073709551616+un1)%18446744073709551616) (q1*y2%18446744073709551616)) (subW ((un32*4294967296%18446744073709551616+un1)%18446744073709551616) (q1*y2%18446744073709551616)/y1*y1%18446744073709551616)) with
   | none=>none
   | some q0=>some ((q1*4294967296%18446744073709551616+q0)%18446744073709551616)
def divS (s hi lo y:Nat):Option Nat :=
 divC 9 (y*2^s%18446744073709551616) (y*2^s%18446744073709551616/4294967296) (y*2^s%18446744073709551616%4294967296) (hi*2^s%18446744073709551616 ||| lo/2^(64-s)) (lo*2^s%18446744073709551616/4294967296) (lo*2^s%18446744073709551616%4294967296)
def divN (hi lo y:Nat):Option Nat :=
 if y≤hi then none else if hi=0 then some (lo/y) else divS (64-lenN y) hi lo y
def belowN (p:Nat) (x:Q4):Q4:=if p=3 then tmsN x x else x
def slopeN (p:Nat) (x:Q4):Q4:=tmsN (belowN p x) ⟨p,0,0,0⟩
def allN (p:Nat) (x:Q4):Q4:=tmsN (belowN p x) x
def lowN (n p:Nat) (x:Q4):Option Q4 :=
 let all:=allN p x
 if all.a<n then some x else
  let sl:=slopeN p x
  match divN (subW all.a n*72057594037927936%18446744073709551616 ||| all.b/256) (all.b*72057594037927936%18446744073709551616) (((sl.a*72057594037927936%18446744073709551616 ||| sl.b/256)+1)%18446744073709551616) with
  | none=>none
  | some q=>some ⟨x.a,subW x.b (max q 1),x.c,x.d⟩
def chainB (n p:Nat):Nat→Q4→Q4→Bool
 | 0,_,_=>false
 | k+1,x,z=>match lowN n p x with
  | none=>false
  | some y=>if y.same x then x.same z else chainB n p k y z
def wholeB (n p v:Nat):Bool:=(List.range v).all (fun j=>j == 0 || Nat.ble (j^p) n)&&(Nat.ble 1 v&&(Nat.ble (v^p) n&&Nat.blt n ((v+1)^p)))
def fracB (n p v c:Nat):Bool:=wholeB n p v&&chainB n p 20 ⟨v,18446744073709551615,0,0⟩ ⟨v,c,0,0⟩
def seek (n p:Nat):Nat→Nat→Nat
 | 0,x=>x
 | i+1,x=>seek n p i (if (x+2^i)^p≤n*2^(64*p) then x+2^i else x)
def rootN (n p:Nat):Nat:=seek n p 70 0%18446744073709551616
def primeB (n:Nat):Nat→Bool
 | 0=>true
 | k+1=>primeB n k&&(Nat.blt k 2 || (Nat.blt n (k*k) || !(n%k == 0)))
def rt2 (n:Nat):Nat:=(List.range 22).foldl (fun a j=>if j*j≤n then j else a) 0
def rt3 (n:Nat):Nat:=(List.range 9).foldl (fun a j=>if j*j*j≤n then j else a) 0
theorem start_ok:((List.range 8).all fun i=>fracB (PR.getD i 0) 2 (rt2 (PR.getD i 0)) (HS.getD i 0))=true:=by decide +kernel
theorem const_ok:((List.range 80).all fun i=>fracB (PR.getD i 0) 3 (rt3 (PR.getD i 0)) (HK.getD i 0))=true:=by decide +kernel
theorem root_ok:((List.range 80).all fun i=>Nat.beq (rootN (PR.getD i 0) 3) (HK.getD i 0)&&(Nat.ble 8 i || Nat.beq (rootN (PR.getD i 0) 2) (HS.getD i 0)))=true:=by decide +kernel
end Sha
end
section
namespace Sha
open Go Go.RowKit
def tab8:ByteArray:=⟨((List.range 256).map fun x=>UInt8.ofNat (len8 x)).toArray⟩
theorem gA:tab8.size=256:=by simp [tab8,ByteArray.size]
theorem len8_lt:∀ x:Fin 256,len8 x.val<256:=by decide +kernel
theorem tab8_at (x:Nat) (h:x<256) (h2:x<tab8.size):(tab8[x]'h2).toNat=len8 x:=by
 have:=len8_lt ⟨x,h⟩
 simp only at this
 simp only [tab8,ByteArray.getElem_eq_getElem_data,lA,List.getElem_map,List.getElem_range,UInt8.toNat_ofNat']
 exact Nat.mod_eq_of_lt this
theorem mG {tab:ByteArray} {y k:Nat} (ht:tab=tab8) (hk:k≤56) (hy:y<256) (h2:y<tab.size):wrap64 ((k:Int)+wrap64 ((tab[y]'h2).toNat:Int))=((k+len8 y:Nat):Int):=by
 subst ht
 have h:=len8_lt ⟨y,hy⟩
 simp only at h
 rw [tab8_at y hy h2]
 unfold wrap64
 omega
theorem len8_le8:∀ x:Fin 256,len8 x.val≤8:=by decide +kernel
set_option maxRecDepth 100000 in
theorem len64_hhh (x:Nat) (w:World) (hx:x<18446744073709551616) (h1:4294967296≤x) (h2:65536≤x/4294967296) (h3:256≤x/4294967296/65536) :
  Calls zP 138 #[.int .u64 x] w fun e w'=>e=.returned (.int .i64 (lenN x:Nat))∧w=w':=by
 have hl:lenN x=56+len8 (x/4294967296/65536/256):=by
  unfold lenN
  simp only [if_pos h1,if_pos h2,if_pos h3]
 have b1:decide ((4294967296:Int)≤(x:Int))=true:=by simp;omega
 have e1:(x:Int)/4294967296=((x/4294967296:Nat):Int):=by omega
 have l1:x/4294967296≤4294967295:=by omega
 obtain ⟨z1,hz1⟩:∃ m,m=x/4294967296:=⟨_,rfl⟩
 rw [←hz1] at e1 l1 hl h2 h3
 have b2:decide ((65536:Int)≤(z1:Int))=true:=by simp;omega
 have e2:(z1:Int)/65536=((z1/65536:Nat):Int):=by omega
 have l2:z1/65536≤1000000000:=by omega
 obtain ⟨z2,hz2⟩:∃ m,m=z1/65536:=⟨_,rfl⟩
 rw [←hz2] at e2 l2 hl h3
 have b3:decide ((256:Int)≤(z2:Int))=true:=by simp;omega
 have e3:(z2:Int)/256=((z2/256:Nat):Int):=by omega
 have l3:z2/256≤1000000000:=by omega
 obtain ⟨z3,hz3⟩:∃ m,m=z2/256:=⟨_,rfl⟩
 rw [←hz3] at e3 l3 hl
 have hy2:z3<256:=by omega
 have hxi:=Lib.hid hx
 rw [hl]
 clear h1 h2 h3 hx hl hz1 hz2 hz3
 go_enter Tryz.func138,Tryz.ntmps138
 generalize hs:(ByteArray.mk _:ByteArray)=tab at ⊢
 have htab:tab=tab8:=by rw [←hs];kernel_rfl
 clear hs
 have hsz:tab.size=256:=by rw [htab];exact gA
 have HT:=Lib.hid htab
 clear htab
 go_wp2
 go_ret
 refine ⟨?_,rfl⟩
 have hfin:=mG (k:=56) HT.out (by omega) hy2 (by rw [hsz];exact hy2)
 skip
 rw [←hfin]
 rfl
set_option maxRecDepth 100000 in
theorem len64_hhl (x:Nat) (w:World) (hx:x<18446744073709551616) (h1:4294967296≤x) (h2:65536≤x/4294967296) (h3:x/4294967296/65536<256) :
  Calls zP 138 #[.int .u64 x] w fun e w'=>e=.returned (.int .i64 (lenN x:Nat))∧w=w':=by
 have hl:lenN x=48+len8 (x/4294967296/65536):=by
  unfold lenN
  simp only [if_pos h1,if_pos h2,if_neg (show ¬ 256≤x/4294967296/65536 by omega)]
 have b1:decide ((4294967296:Int)≤(x:Int))=true:=by simp;omega
 have e1:(x:Int)/4294967296=((x/4294967296:Nat):Int):=by omega
 have l1:x/4294967296≤4294967295:=by omega
 obtain ⟨z1,hz1⟩:∃ m,m=x/4294967296:=⟨_,rfl⟩
 rw [←hz1] at e1 l1 hl h2 h3
 have b2:decide ((65536:Int)≤(z1:Int))=true:=by simp;omega
 have e2:(z1:Int)/65536=((z1/65536:Nat):Int):=by omega
 have l2:z1/65536≤1000000000:=by omega
 obtain ⟨z2,hz2⟩:∃ m,m=z1/65536:=⟨_,rfl⟩
 rw [←hz2] at e2 l2 hl h3
 have b3:decide ((256:Int)≤(z2:Int))=false:=by simp;omega
 have hy2:z2<256:=by omega
 have hxi:=Lib.hid hx
 rw [hl]
 clear h1 h2 h3 hx hl hz1 hz2
 go_enter Tryz.func138,Tryz.ntmps138
 generalize hs:(ByteArray.mk _:ByteArray)=tab at ⊢
 have htab:tab=tab8:=by rw [←hs];kernel_rfl
 clear hs
 have hsz:tab.size=256:=by rw [htab];exact gA
 have HT:=Lib.hid htab
 clear htab
 go_wp2
 go_ret
 refine ⟨?_,rfl⟩
 have hfin:=mG (k:=48) HT.out (by omega) hy2 (by rw [hsz];exact hy2)
 skip
 rw [←hfin]
 rfl
set_option maxRecDepth 100000 in
theorem len64_hlh (x:Nat) (w:World) (hx:x<18446744073709551616) (h1:4294967296≤x) (h2:x/4294967296<65536) (h3:256≤x/4294967296) :
  Calls zP 138 #[.int .u64 x] w fun e w'=>e=.returned (.int .i64 (lenN x:Nat))∧w=w':=by
 have hl:lenN x=40+len8 (x/4294967296/256):=by
  unfold lenN
  simp only [if_pos h1,if_neg (show ¬ 65536≤x/4294967296 by omega),if_pos h3]
 have b1:decide ((4294967296:Int)≤(x:Int))=true:=by simp;omega
 have e1:(x:Int)/4294967296=((x/4294967296:Nat):Int):=by omega
 have l1:x/4294967296≤4294967295:=by omega
 obtain ⟨z1,hz1⟩:∃ m,m=x/4294967296:=⟨_,rfl⟩
 rw [←hz1] at e1 l1 hl h2 h3
 have b2:decide ((65536:Int)≤(z1:Int))=false:=by simp;omega
 have b3:decide ((256:Int)≤(z1:Int))=true:=by simp;omega
 have e3:(z1:Int)/256=((z1/256:Nat):Int):=by omega
 have l3:z1/256≤1000000000:=by omega
 obtain ⟨z3,hz3⟩:∃ m,m=z1/256:=⟨_,rfl⟩
 rw [←hz3] at e3 l3 hl
 have hy2:z3<256:=by omega
 have hxi:=Lib.hid hx
 rw [hl]
 clear h1 h2 h3 hx hl hz1 hz3
 go_enter Tryz.func138,Tryz.ntmps138
 generalize hs:(ByteArray.mk _:ByteArray)=tab at ⊢
 have htab:tab=tab8:=by rw [←hs];kernel_rfl
 clear hs
 have hsz:tab.size=256:=by rw [htab];exact gA
 have HT:=Lib.hid htab
 clear htab
 go_wp2
 go_ret
 refine ⟨?_,rfl⟩
 have hfin:=mG (k:=40) HT.out (by omega) hy2 (by rw [hsz];exact hy2)
 skip
 rw [←hfin]
 rfl
set_option maxRecDepth 100000 in
theorem len64_hll (x:Nat) (w:World) (hx:x<18446744073709551616) (h1:4294967296≤x) (h2:x/4294967296<65536) (h3:x/4294967296<256) :
  Calls zP 138 #[.int .u64 x] w fun e w'=>e=.returned (.int .i64 (lenN x:Nat))∧w=w':=by
 have hl:lenN x=32+len8 (x/4294967296):=by
  unfold lenN
  simp only [if_pos h1,if_neg (show ¬ 65536≤x/4294967296 by omega),if_neg (show ¬ 256≤x/4294967296 by omega)]
 have b1:decide ((4294967296:Int)≤(x:Int))=true:=by simp;omega
 have e1:(x:Int)/4294967296=((x/4294967296:Nat):Int):=by omega
 have l1:x/4294967296≤4294967295:=by omega
 obtain ⟨z1,hz1⟩:∃ m,m=x/4294967296:=⟨_,rfl⟩
 rw [←hz1] at e1 l1 hl h2 h3
 have b2:decide ((65536:Int)≤(z1:Int))=false:=by simp;omega
 have b3:decide ((256:Int)≤(z1:Int))=false:=by simp;omega
 have hy2:z1<256:=by omega
 have hxi:=Lib.hid hx
 rw [hl]
 clear h1 h2 h3 hx hl hz1
 go_enter Tryz.func138,Tryz.ntmps138
 generalize hs:(ByteArray.mk _:ByteArray)=tab at ⊢
 have htab:tab=tab8:=by rw [←hs];kernel_rfl
 clear hs
 have hsz:tab.size=256:=by rw [htab];exact gA
 have HT:=Lib.hid htab
 clear htab
 go_wp2
 go_ret
 refine ⟨?_,rfl⟩
 have hfin:=mG (k:=32) HT.out (by omega) hy2 (by rw [hsz];exact hy2)
 skip
 rw [←hfin]
 rfl
set_option maxRecDepth 100000 in
theorem len64_lhh (x:Nat) (w:World) (hx:x<18446744073709551616) (h1:x<4294967296) (h2:65536≤x) (h3:256≤x/65536) :
  Calls zP 138 #[.int .u64 x] w fun e w'=>e=.returned (.int .i64 (lenN x:Nat))∧w=w':=by
 have hl:lenN x=24+len8 (x/65536/256):=by
  unfold lenN
  simp only [if_neg (show ¬ 4294967296≤x by omega),if_pos h2,if_pos h3]
 have b1:decide ((4294967296:Int)≤(x:Int))=false:=by simp;omega
 have b2:decide ((65536:Int)≤(x:Int))=true:=by simp;omega
 have e2:(x:Int)/65536=((x/65536:Nat):Int):=by omega
 have l2:x/65536≤281474976710655:=by omega
 obtain ⟨z2,hz2⟩:∃ m,m=x/65536:=⟨_,rfl⟩
 rw [←hz2] at e2 l2 hl h3
 have b3:decide ((256:Int)≤(z2:Int))=true:=by simp;omega
 have e3:(z2:Int)/256=((z2/256:Nat):Int):=by omega
 have l3:z2/256≤1000000000:=by omega
 obtain ⟨z3,hz3⟩:∃ m,m=z2/256:=⟨_,rfl⟩
 rw [←hz3] at e3 l3 hl
 have hy2:z3<256:=by omega
 have hxi:=Lib.hid hx
 rw [hl]
 clear h1 h2 h3 hx hl hz2 hz3
 go_enter Tryz.func138,Tryz.ntmps138
 generalize hs:(ByteArray.mk _:ByteArray)=tab at ⊢
 have htab:tab=tab8:=by rw [←hs];kernel_rfl
 clear hs
 have hsz:tab.size=256:=by rw [htab];exact gA
 have HT:=Lib.hid htab
 clear htab
 go_wp2
 go_ret
 refine ⟨?_,rfl⟩
 have hfin:=mG (k:=24) HT.out (by omega) hy2 (by rw [hsz];exact hy2)
 skip
 rw [←hfin]
 rfl
set_option maxRecDepth 100000 in
theorem len64_lhl (x:Nat) (w:World) (hx:x<18446744073709551616) (h1:x<4294967296) (h2:65536≤x) (h3:x/65536<256) :
  Calls zP 138 #[.int .u64 x] w fun e w'=>e=.returned (.int .i64 (lenN x:Nat))∧w=w':=by
 have hl:lenN x=16+len8 (x/65536):=by
  unfold lenN
  simp only [if_neg (show ¬ 4294967296≤x by omega),if_pos h2,if_neg (show ¬ 256≤x/65536 by omega)]
 have b1:decide ((4294967296:Int)≤(x:Int))=false:=by simp;omega
 have b2:decide ((65536:Int)≤(x:Int))=true:=by simp;omega
 have e2:(x:Int)/65536=((x/65536:Nat):Int):=by omega
 have l2:x/65536≤281474976710655:=by omega
 obtain ⟨z2,hz2⟩:∃ m,m=x/65536:=⟨_,rfl⟩
 rw [←hz2] at e2 l2 hl h3
 have b3:decide ((256:Int)≤(z2:Int))=false:=by simp;omega
 have hy2:z2<256:=by omega
 have hxi:=Lib.hid hx
 rw [hl]
 clear h1 h2 h3 hx hl hz2
 go_enter Tryz.func138,Tryz.ntmps138
 generalize hs:(ByteArray.mk _:ByteArray)=tab at ⊢
 have htab:tab=tab8:=by rw [←hs];kernel_rfl
 clear hs
 have hsz:tab.size=256:=by rw [htab];exact gA
 have HT:=Lib.hid htab
 clear htab
 go_wp2
 go_ret
 refine ⟨?_,rfl⟩
 have hfin:=mG (k:=16) HT.out (by omega) hy2 (by rw [hsz];exact hy2)
 skip
 rw [←hfin]
 rfl
set_option maxRecDepth 100000 in
theorem len64_llh (x:Nat) (w:World) (hx:x<18446744073709551616) (h1:x<4294967296) (h2:x<65536) (h3:256≤x) :
  Calls zP 138 #[.int .u64 x] w fun e w'=>e=.returned (.int .i64 (lenN x:Nat))∧w=w':=by
 have hl:lenN x=8+len8 (x/256):=by
  unfold lenN
  simp only [if_neg (show ¬ 4294967296≤x by omega),if_neg (show ¬ 65536≤x by omega),if_pos h3]
 have b1:decide ((4294967296:Int)≤(x:Int))=false:=by simp;omega
 have b2:decide ((65536:Int)≤(x:Int))=false:=by simp;omega
 have b3:decide ((256:Int)≤(x:Int))=true:=by simp;omega
 have e3:(x:Int)/256=((x/256:Nat):Int):=by omega
 have l3:x/256≤72057594037927935:=by omega
 obtain ⟨z3,hz3⟩:∃ m,m=x/256:=⟨_,rfl⟩
 rw [←hz3] at e3 l3 hl
 have hy2:z3<256:=by omega
 have hxi:=Lib.hid hx
 rw [hl]
 clear h1 h2 h3 hx hl hz3
 go_enter Tryz.func138,Tryz.ntmps138
 generalize hs:(ByteArray.mk _:ByteArray)=tab at ⊢
 have htab:tab=tab8:=by rw [←hs];kernel_rfl
 clear hs
 have hsz:tab.size=256:=by rw [htab];exact gA
 have HT:=Lib.hid htab
 clear htab
 go_wp2
 go_ret
 refine ⟨?_,rfl⟩
 have hfin:=mG (k:=8) HT.out (by omega) hy2 (by rw [hsz];exact hy2)
 skip
 rw [←hfin]
 rfl
set_option maxRecDepth 100000 in
theorem len64_lll (x:Nat) (w:World) (hx:x<18446744073709551616) (h1:x<4294967296) (h2:x<65536) (h3:x<256) :
  Calls zP 138 #[.int .u64 x] w fun e w'=>e=.returned (.int .i64 (lenN x:Nat))∧w=w':=by
 have hl:lenN x=0+len8 (x):=by
  unfold lenN
  simp only [if_neg (show ¬ 4294967296≤x by omega),if_neg (show ¬ 65536≤x by omega),if_neg (show ¬ 256≤x by omega)]
 have b1:decide ((4294967296:Int)≤(x:Int))=false:=by simp;omega
 have b2:decide ((65536:Int)≤(x:Int))=false:=by simp;omega
 have b3:decide ((256:Int)≤(x:Int))=false:=by simp;omega
 have hy2:x<256:=by omega
 have hxi:=Lib.hid hx
 rw [hl]
 clear h1 h2 h3 hx hl 
 go_enter Tryz.func138,Tryz.ntmps138
 generalize hs:(ByteArray.mk _:ByteArray)=tab at ⊢
 have htab:tab=tab8:=by rw [←hs];kernel_rfl
 clear hs
 have hsz:tab.size=256:=by rw [htab];exact gA
 have HT:=Lib.hid htab
 clear htab
 go_wp2
 go_ret
 refine ⟨?_,rfl⟩
 have hfin:=mG (k:=0) HT.out (by omega) hy2 (by rw [hsz];exact hy2)
 rw [Int.natCast_zero,Int.zero_add] at hfin
 rw [←hfin]
 rfl
theorem len64_any (x:Nat) (w:World) (hx:x<18446744073709551616) :
  Calls zP 138 #[.int .u64 x] w fun e w'=>e=.returned (.int .i64 (lenN x:Nat))∧w=w':=by
 rcases Nat.lt_or_ge (x) 4294967296 with h1 | h1
 ·
  rcases Nat.lt_or_ge (x) 65536 with h2 | h2
  ·
   rcases Nat.lt_or_ge (x) 256 with h3 | h3
   ·
    exact len64_lll x w hx h1 h2 h3
   ·
    exact len64_llh x w hx h1 h2 h3
  ·
   rcases Nat.lt_or_ge (x/65536) 256 with h3 | h3
   ·
    exact len64_lhl x w hx h1 h2 h3
   ·
    exact len64_lhh x w hx h1 h2 h3
 ·
  rcases Nat.lt_or_ge (x/4294967296) 65536 with h2 | h2
  ·
   rcases Nat.lt_or_ge (x/4294967296) 256 with h3 | h3
   ·
    exact len64_hll x w hx h1 h2 h3
   ·
    exact len64_hlh x w hx h1 h2 h3
  ·
   rcases Nat.lt_or_ge (x/4294967296/65536) 256 with h3 | h3
   ·
    exact len64_hhl x w hx h1 h2 h3
   ·
    exact len64_hhh x w hx h1 h2 h3
theorem lenN_le (x:Nat) (hx:x<18446744073709551616):lenN x≤64:=by
 unfold lenN
 simp only
 generalize hz:(if 256≤_ then _/256 else _:Nat)=z
 have hz2:z<256:=by
  rw [←hz]
  repeat' split
  all_goals omega
 have:=len8_le8 ⟨z,hz2⟩
 simp only at this
 repeat' split
 all_goals omega
theorem lead_any (x s:Nat) (w:World) (hx:x<18446744073709551616) (hs:s=64-lenN x) :
  Calls zP 137 #[.int .u64 x] w fun e w'=>e=.returned (.int .i64 (s:Nat))∧w=w':=by
 have hl:=lenN_le x hx
 have h:=fun W=>len64_any x W hx
 generalize lenN x=y at *
 subst hs
 go_enter Tryz.func137,Tryz.ntmps137
 go_wp2_with (fail)
 refine (h _).mono ?_
 rintro e w' ⟨rfl,rfl⟩
 go_wp2_with (fail)
 go_ret
 refine ⟨?_,rfl⟩
 have e:((64-y:Nat):Int)=64-(y:Int):=by omega
 rw [e]
 rfl
end Sha
end
section
namespace Sha
open Go Go.RowKit
theorem cM (a b:Nat):IntKind.u64.wrap ((a:Int)+(b:Int))=(((a+b)%18446744073709551616:Nat):Int):=by
 rw [show (a:Int)+(b:Int)=((a+b:Nat):Int) by push_cast;rfl,IntKind.wrap_u64]
 omega
theorem eV (a b:Nat):IntKind.u64.wrap ((a:Int)*(b:Int))=((a*b%18446744073709551616:Nat):Int):=by
 rw [show (a:Int)*(b:Int)=((a*b:Nat):Int) by push_cast;rfl,IntKind.wrap_u64]
 omega
theorem mO (a b:Nat) (hb:b≤18446744073709551616):IntKind.u64.wrap ((a:Int)-(b:Int))=((subW a b:Nat):Int):=by
 unfold subW
 rw [IntKind.wrap_u64]
 omega
theorem iG (a b:Nat):subW a b<18446744073709551616:=Nat.mod_lt _ (by omega)
theorem mask_nat (a:Nat) (ha:a<18446744073709551616):bits .and .u64 (a:Int) 4294967295=((a%4294967296:Nat):Int):=Mul64.maskN a ha
theorem sJ (a b:Nat):(a:Int).tdiv (b:Int)=((a/b:Nat):Int):=by
 rw [Int.tdiv_eq_ediv_of_nonneg (by omega)]
 push_cast
 rfl
def DivPost (q:Nat) (w:World) (e:Ending) (w':World):Prop:=∃ r:Int,e=.returned (.tuple #[.int .u64 (q:Int),.int .u64 r])∧Below w.heap.size w w'
theorem xF (y1 y0 u k q r:Nat):corr y1 y0 u (k+1) q r =
  if 4294967296≤q∨(4294967296*r%18446744073709551616+u)%18446744073709551616<q*y0%18446744073709551616 then
   (if 4294967296≤(r+y1)%18446744073709551616 then some (q-1) else corr y1 y0 u k (q-1) ((r+y1)%18446744073709551616))
  else some q:=rfl
set_option maxRecDepth 100000 in
theorem div64_zero (lo y:Nat) (w:World) (hl:lo<18446744073709551616) (hy:y<18446744073709551616) (h0:0<y) :
  Calls zP 135 #[.int .u64 0,.int .u64 lo,.int .u64 y] w (DivPost (lo/y) w):=by
 have b1:((y:Int) == 0)=false:=by simp;omega
 have b2:decide ((y:Int)≤0)=false:=by simp;omega
 obtain ⟨q,hq⟩:∃ q,q=lo/y:=⟨_,rfl⟩
 have ht:=sJ lo y
 rw [←hq] at ht
 have hql:q<18446744073709551616:=by rw [hq];exact jS hl
 have hwq:IntKind.u64.wrap (q:Int)=(q:Int):=by rw [IntKind.wrap_u64];omega
 rw [←hq]
 clear hq
 go_enter Tryz.func135,Tryz.ntmps135
 go_wp2
 refine wp_region_held_drew (S:=fun W=>W=w.drew) (by kernel_rfl) ?_ (fun hHeld=>?_)
 ·
  exact rfl
 refine tk 0 hHeld ?_
 try simp only [Act.put,lA,lB,lC,lD,lE,lF]
 refine tk 1 hHeld ?_
 try simp only [Act.put,lA,lB,lC,lD,lE,lF]
 refine tk 2 hHeld ?_
 try simp only [Act.put,lA,lB,lC,lD,lE,lF]
 refine tk 3 hHeld ?_
 try simp only [Act.put,lA,lB,lC,lD,lE,lF]
 refine tk 4 hHeld ?_
 try simp only [Act.put,lA,lB,lC,lD,lE,lF]
 refine tk 5 hHeld ?_
 try simp only [Act.put,lA,lB,lC,lD,lE,lF]
 refine wpAnyH_ready (rs:=[6]) (by kernel_rfl) (by simp) (AllReadyH.cons rfl (fun K hK=>?_) AllReadyH.nil)
 have h0:=hHeld
 clear hHeld
 try simp only [lA,lB,lC]
 go_simp
 refine hK.out _ _ (rfl) (fun hHeld=>?_)
 clear hK K h0
 try simp only [Act.put,lA,lB,lC,lD,lE,lF]
 refine wpAnyH_ready (rs:=[7]) (by kernel_rfl) (by simp) (AllReadyH.cons rfl (fun K hK=>?_) AllReadyH.nil)
 have h0:=hHeld
 clear hHeld
 try simp only [lA,lB,lC]
 go_simp
 refine hK.out _ _ (rfl) (fun hHeld=>?_)
 clear hK K h0
 try simp only [Act.put,lA,lB,lC,lD,lE,lF]
 refine wpAnyH_done (by kernel_rfl) ?_ _
 go_wp2
 go_ret2
 exact ⟨_,rfl,(Below.refl _ _).drew⟩
set_option maxRecDepth 100000 in
theorem div64_more (hi lo y s Q:Nat) (w:World) (hhi:hi<18446744073709551616) (hl:lo<18446744073709551616) (hy:y<18446744073709551616) (h0:0<hi) (h1:hi<y) (hs:s=64-lenN y) (hs2:s<64)
  (un32 un1 un0 y2 y1 y0 q1 un21:Nat) (e_y2:y2=y*2^s%18446744073709551616) (e_y1:y1=y2/4294967296) (e_y0:y0=y2%4294967296)
  (e_un32:un32=hi*2^s%18446744073709551616 ||| lo/2^(64-s)) (e_un1:un1=lo*2^s%18446744073709551616/4294967296) (e_un0:un0=lo*2^s%18446744073709551616%4294967296)
  (h_y1:y1≠0) (h_q1:corr y1 y0 un1 9 (un32/y1) (subW un32 (un32/y1*y1%18446744073709551616))=some q1)
  (e_un21:un21=subW ((un32*4294967296%18446744073709551616+un1)%18446744073709551616) (q1*y2%18446744073709551616)) (h_q0:corr y1 y0 un0 9 (un21/y1) (subW un21 (un21/y1*y1%18446744073709551616))=some Q) (F:Nat) (e_F:F=(q1*4294967296%18446744073709551616+Q)%18446744073709551616) :
  Calls zP 135 #[.int .u64 hi,.int .u64 lo,.int .u64 y] w (DivPost F w):=by
 have b1:((y:Int) == 0)=false:=by simp;omega
 have b3:((hi:Int) == 0)=false:=by simp;omega
 have c3:¬ y≤hi:=by omega
 have c4:¬ hi=0:=by omega
 have hs3:64-s<65:=by omega
 have HCL:=Lib.hid (fun W=>lead_any y s W hy hs)
 clear hs
 have e1:=oT y s
 rw [←e_y2] at e1
 have l_y2:y2<18446744073709551616:=by rw [e_y2];exact Nat.mod_lt _ (by omega)
 have e2:(y2:Int)/4294967296=(y1:Int):=by omega
 have e3:=mask_nat y2 l_y2
 rw [←e_y0] at e3
 have l_y1:y1<4294967296:=by omega
 have l_y0:y0<4294967296:=by omega
 obtain ⟨hA,e_hA⟩:∃ m,m=hi*2^s%18446744073709551616:=⟨_,rfl⟩
 have e4:=oT hi s
 rw [←e_hA] at e4 e_un32
 have l_hA:hA<18446744073709551616:=by rw [e_hA];exact Nat.mod_lt _ (by omega)
 obtain ⟨hB,e_hB⟩:∃ m,m=lo/2^(64-s):=⟨_,rfl⟩
 have e5:=rP lo (64-s)
 rw [←e_hB] at e5 e_un32
 have l_hB:hB<18446744073709551616:=by rw [e_hB];exact jS hl
 have e6:=u64_or_nat hA hB l_hA l_hB
 rw [←e_un32] at e6
 have l_un32:un32<18446744073709551616:=by rw [e_un32];exact Nat.or_lt_two_pow (n:=64) (by omega) (by omega)
 obtain ⟨un10,e_un10⟩:∃ m,m=lo*2^s%18446744073709551616:=⟨_,rfl⟩
 have e7:=oT lo s
 rw [←e_un10] at e7 e_un1 e_un0
 have l_un10:un10<18446744073709551616:=by rw [e_un10];exact Nat.mod_lt _ (by omega)
 have e8:(un10:Int)/4294967296=(un1:Int):=by omega
 have e9:=mask_nat un10 l_un10
 rw [←e_un0] at e9
 have l_un1:un1<4294967296:=by omega
 have l_un0:un0<4294967296:=by omega
 obtain ⟨qa,e_qa⟩:∃ m,m=un32/y1:=⟨_,rfl⟩
 have e10:=sJ un32 y1
 rw [←e_qa] at e10 h_q1
 have l_qa:qa<18446744073709551616:=by rw [e_qa];exact jS l_un32
 have e11:IntKind.u64.wrap (qa:Int)=(qa:Int):=by rw [IntKind.wrap_u64];omega
 obtain ⟨ma,e_ma⟩:∃ m,m=qa*y1%18446744073709551616:=⟨_,rfl⟩
 have e12:=eV qa y1
 rw [←e_ma] at e12 h_q1
 have l_ma:ma<18446744073709551616:=by rw [e_ma];exact Nat.mod_lt _ (by omega)
 obtain ⟨ra,e_ra⟩:∃ m,m=subW un32 ma:=⟨_,rfl⟩
 have e13:=mO un32 ma (by omega)
 rw [←e_ra] at e13 h_q1
 have l_ra:ra<18446744073709551616:=by rw [e_ra];exact iG _ _
 have H1:=Lib.hid h_q1
 have H0:=Lib.hid h_q0
 have HU:=Lib.hid e_un21
 have EF:=Lib.hid e_F
 clear e_F h_q1 h_q0 e_un21 e_ra e_ma e_qa e_un1 e_un0 e_un10 e_hB e_hA e_un32 e_y2 e_y1 e_y0
 go_enter Tryz.func135,Tryz.ntmps135
 go_wp2_with (fail)
 refine (HCL.out _).mono ?_
 rintro e w' ⟨rfl,rfl⟩
 go_upto_block 0 with (fail)
 go_cut [15] (fun sa wz=>sa=.int .u64 (q1:Nat)∧q1<18446744073709551616∧wz=w)
 case first =>
  go_wp2_with (fail)
  go_loop [15,16] (fun x z=>∃ q r k:Nat,x=.int .u64 (q:Nat)∧z=.int .u64 (r:Nat)∧q<18446744073709551616∧r<18446744073709551616∧Hid (corr y1 y0 un1 k q r=some q1)) (fun x _=>(intOf x).toNat)
  case atStart=>exact ⟨_,_,9,rfl,rfl,l_qa,l_ra,H1⟩
  case round =>
   obtain ⟨q,r,k,rfl,rfl,hq,hr,hc⟩:=hrel
   cases k with
   | zero=>cases hc.out
   | succ k =>
    have hc2:=hc.out
    rw [xF] at hc2
    clear hc
    obtain ⟨m1,e_m1⟩:∃ m,m=q*y0%18446744073709551616:=⟨_,rfl⟩
    have f1:=eV q y0
    rw [←e_m1] at f1 hc2
    obtain ⟨m2,e_m2⟩:∃ m,m=4294967296*r%18446744073709551616:=⟨_,rfl⟩
    have f2:IntKind.u64.wrap (4294967296*(r:Int))=(m2:Int):=by rw [e_m2];exact eV 4294967296 r
    rw [←e_m2] at hc2
    obtain ⟨m3,e_m3⟩:∃ m,m=(m2+un1)%18446744073709551616:=⟨_,rfl⟩
    have f3:=cM m2 un1
    rw [←e_m3] at f3 hc2
    obtain ⟨r2,e_r2⟩:∃ m,m=(r+y1)%18446744073709551616:=⟨_,rfl⟩
    have f4:=cM r y1
    rw [←e_r2] at f4 hc2
    have l_r2:r2<18446744073709551616:=by rw [e_r2];exact Nat.mod_lt _ (by omega)
    have l_m1:m1<18446744073709551616:=by rw [e_m1];exact Nat.mod_lt _ (by omega)
    have l_m2:m2<18446744073709551616:=by rw [e_m2];exact Nat.mod_lt _ (by omega)
    have l_m3:m3<18446744073709551616:=by rw [e_m3];exact Nat.mod_lt _ (by omega)
    have q1p:4294967296≤q∨m3<m1→0<q:=by
     intro h
     rcases Nat.eq_zero_or_pos q with h9 | h9
     ·
      rw [h9,Nat.zero_mul,Nat.zero_mod] at e_m1;omega
     ·
      exact h9
    clear e_m1 e_m2 e_m3 e_r2
    obtain ⟨qm,e_qm⟩:∃ m,m=q-1:=⟨_,rfl⟩
    rw [←e_qm] at hc2
    by_cases hA1:4294967296≤q
    ·
     have bA:decide ((4294967296:Int)≤(q:Int))=true:=by simp;omega
     have f5:IntKind.u64.wrap ((q:Int)-1)=(qm:Int):=by rw [IntKind.wrap_u64];omega
     have l_qm:qm<18446744073709551616∧qm<q:=by omega
     rw [if_pos (by first | exact Or.inl hA1 | exact Or.inr hB1)] at hc2
     clear e_qm q1p
     by_cases hR:4294967296≤r2
     ·
      have bR:decide ((4294967296:Int)≤(r2:Int))=true:=by simp;omega
      rw [if_pos hR] at hc2
      injection hc2 with hc3
      subst hc3
      clear hR
      go_wp2_with (fail)
      go_meet
      exact ⟨rfl,by omega,rfl⟩
     ·
      have bR:decide ((4294967296:Int)≤(r2:Int))=false:=by simp;omega
      rw [if_neg hR] at hc2
      have HC:=Lib.hid hc2
      clear hc2
      go_wp2_with (fail)
      go_round
      case rel=>exact ⟨qm,r2,k,rfl,rfl,by omega,l_r2,HC⟩
      case measure=>simp [intOf];omega
    ·
     have bA:decide ((4294967296:Int)≤(q:Int))=false:=by simp;omega
     by_cases hB1:m3<m1
     ·
      have bB:decide (m3<m1)=true:=decide_eq_true hB1
      have f5:IntKind.u64.wrap ((q:Int)-1)=(qm:Int):=by rw [IntKind.wrap_u64];omega
      have l_qm:qm<18446744073709551616∧qm<q:=by omega
      rw [if_pos (by first | exact Or.inl hA1 | exact Or.inr hB1)] at hc2
      clear e_qm q1p
      by_cases hR:4294967296≤r2
      ·
       have bR:decide ((4294967296:Int)≤(r2:Int))=true:=by simp;omega
       rw [if_pos hR] at hc2
       injection hc2 with hc3
       subst hc3
       clear hR
       go_wp2_with (fail)
       go_meet
       exact ⟨rfl,by omega,rfl⟩
      ·
       have bR:decide ((4294967296:Int)≤(r2:Int))=false:=by simp;omega
       rw [if_neg hR] at hc2
       have HC:=Lib.hid hc2
       clear hc2
       go_wp2_with (fail)
       go_round
       case rel=>exact ⟨qm,r2,k,rfl,rfl,by omega,l_r2,HC⟩
       case measure=>simp [intOf];omega
     ·
      have bB:decide (m3<m1)=false:=decide_eq_false hB1
      rw [if_neg (by omega)] at hc2
      injection hc2 with hc3
      subst hc3
      clear e_qm q1p
      go_wp2_with (fail)
      go_meet
      exact ⟨rfl,hq,rfl⟩
 case rest =>
  obtain ⟨rfl,l_q1,rfl⟩:=hcut
  have hU:=HU.out
  obtain ⟨g1,e_g1⟩:∃ m,m=un32*4294967296%18446744073709551616:=⟨_,rfl⟩
  have k1:=eV un32 4294967296
  rw [←e_g1] at k1 hU
  have l_g1:g1<18446744073709551616:=by rw [e_g1];first | exact Nat.mod_lt _ (by omega) | exact iG _ _
  obtain ⟨g2,e_g2⟩:∃ m,m=(g1+un1)%18446744073709551616:=⟨_,rfl⟩
  have k2:=cM g1 un1
  rw [←e_g2] at k2 hU
  have l_g2:g2<18446744073709551616:=by rw [e_g2];first | exact Nat.mod_lt _ (by omega) | exact iG _ _
  obtain ⟨g3,e_g3⟩:∃ m,m=q1*y2%18446744073709551616:=⟨_,rfl⟩
  have k3:=eV q1 y2
  rw [←e_g3] at k3 hU
  have l_g3:g3<18446744073709551616:=by rw [e_g3];first | exact Nat.mod_lt _ (by omega) | exact iG _ _
  have k4:=mO g2 g3 (by omega)
  rw [←hU] at k4
  have l_un21:un21<18446744073709551616:=by rw [hU];exact iG _ _
  have h0:=H0.out
  obtain ⟨qb,e_qb⟩:∃ m,m=un21/y1:=⟨_,rfl⟩
  have k5:=sJ un21 y1
  rw [←e_qb] at k5 h0
  have l_qb:qb<18446744073709551616:=by rw [e_qb];exact jS l_un21
  have k6:IntKind.u64.wrap (qb:Int)=(qb:Int):=by rw [IntKind.wrap_u64];omega
  obtain ⟨mb,e_mb⟩:∃ m,m=qb*y1%18446744073709551616:=⟨_,rfl⟩
  have k7:=eV qb y1
  rw [←e_mb] at k7 h0
  have l_mb:mb<18446744073709551616:=by rw [e_mb];first | exact Nat.mod_lt _ (by omega) | exact iG _ _
  obtain ⟨rb,e_rb⟩:∃ m,m=subW un21 mb:=⟨_,rfl⟩
  have k8:=mO un21 mb (by omega)
  rw [←e_rb] at k8 h0
  have l_rb:rb<18446744073709551616:=by rw [e_rb];exact iG _ _
  have k9:IntKind.u64.wrap ((un32:Int)*4294967296)=(g1:Int):=k1
  have HB:=Lib.hid h0
  clear h0 hU e_rb e_mb e_qb e_g1 e_g2 e_g3 H1 H0 HU
  go_upto_block 2 with (fail)
  go_cut [18] (fun sa wz=>sa=.int .u64 (Q:Nat)∧Q<18446744073709551616∧wz=wc)
  case first =>
   go_wp2_with (fail)
   go_loop [18,16] (fun x z=>∃ q r k:Nat,x=.int .u64 (q:Nat)∧z=.int .u64 (r:Nat)∧q<18446744073709551616∧r<18446744073709551616∧Hid (corr y1 y0 un0 k q r=some Q)) (fun x _=>(intOf x).toNat)
   case atStart=>exact ⟨_,_,9,rfl,rfl,l_qb,l_rb,HB⟩
   case round =>
    obtain ⟨q,r,k,rfl,rfl,hq,hr,hc⟩:=hrel
    cases k with
    | zero=>cases hc.out
    | succ k =>
     have hc2:=hc.out
     rw [xF] at hc2
     clear hc
     obtain ⟨m1,e_m1⟩:∃ m,m=q*y0%18446744073709551616:=⟨_,rfl⟩
     have f1:=eV q y0
     rw [←e_m1] at f1 hc2
     obtain ⟨m2,e_m2⟩:∃ m,m=4294967296*r%18446744073709551616:=⟨_,rfl⟩
     have f2:IntKind.u64.wrap (4294967296*(r:Int))=(m2:Int):=by rw [e_m2];exact eV 4294967296 r
     rw [←e_m2] at hc2
     obtain ⟨m3,e_m3⟩:∃ m,m=(m2+un0)%18446744073709551616:=⟨_,rfl⟩
     have f3:=cM m2 un0
     rw [←e_m3] at f3 hc2
     obtain ⟨r2,e_r2⟩:∃ m,m=(r+y1)%18446744073709551616:=⟨_,rfl⟩
     have f4:=cM r y1
     rw [←e_r2] at f4 hc2
     have l_r2:r2<18446744073709551616:=by rw [e_r2];exact Nat.mod_lt _ (by omega)
     have l_m1:m1<18446744073709551616:=by rw [e_m1];exact Nat.mod_lt _ (by omega)
     have l_m2:m2<18446744073709551616:=by rw [e_m2];exact Nat.mod_lt _ (by omega)
     have l_m3:m3<18446744073709551616:=by rw [e_m3];exact Nat.mod_lt _ (by omega)
     have q1p:4294967296≤q∨m3<m1→0<q:=by
      intro h
      rcases Nat.eq_zero_or_pos q with h9 | h9
      ·
       rw [h9,Nat.zero_mul,Nat.zero_mod] at e_m1;omega
      ·
       exact h9
     clear e_m1 e_m2 e_m3 e_r2
     obtain ⟨qm,e_qm⟩:∃ m,m=q-1:=⟨_,rfl⟩
     rw [←e_qm] at hc2
     by_cases hA1:4294967296≤q
     ·
      have bA:decide ((4294967296:Int)≤(q:Int))=true:=by simp;omega
      have f5:IntKind.u64.wrap ((q:Int)-1)=(qm:Int):=by rw [IntKind.wrap_u64];omega
      have l_qm:qm<18446744073709551616∧qm<q:=by omega
      rw [if_pos (by first | exact Or.inl hA1 | exact Or.inr hB1)] at hc2
      clear e_qm q1p
      by_cases hR:4294967296≤r2
      ·
       have bR:decide ((4294967296:Int)≤(r2:Int))=true:=by simp;omega
       rw [if_pos hR] at hc2
       injection hc2 with hc3
       subst hc3
       clear hR
       go_wp2_with (fail)
       go_meet
       exact ⟨rfl,by omega,rfl⟩
      ·
       have bR:decide ((4294967296:Int)≤(r2:Int))=false:=by simp;omega
       rw [if_neg hR] at hc2
       have HC:=Lib.hid hc2
       clear hc2
       go_wp2_with (fail)
       go_round
       case rel=>exact ⟨qm,r2,k,rfl,rfl,by omega,l_r2,HC⟩
       case measure=>simp [intOf];omega
     ·
      have bA:decide ((4294967296:Int)≤(q:Int))=false:=by simp;omega
      by_cases hB1:m3<m1
      ·
       have bB:decide (m3<m1)=true:=decide_eq_true hB1
       have f5:IntKind.u64.wrap ((q:Int)-1)=(qm:Int):=by rw [IntKind.wrap_u64];omega
       have l_qm:qm<18446744073709551616∧qm<q:=by omega
       rw [if_pos (by first | exact Or.inl hA1 | exact Or.inr hB1)] at hc2
       clear e_qm q1p
       by_cases hR:4294967296≤r2
       ·
        have bR:decide ((4294967296:Int)≤(r2:Int))=true:=by simp;omega
        rw [if_pos hR] at hc2
        injection hc2 with hc3
        subst hc3
        clear hR
        go_wp2_with (fail)
        go_meet
        exact ⟨rfl,by omega,rfl⟩
       ·
        have bR:decide ((4294967296:Int)≤(r2:Int))=false:=by simp;omega
        rw [if_neg hR] at hc2
        have HC:=Lib.hid hc2
        clear hc2
        go_wp2_with (fail)
        go_round
        case rel=>exact ⟨qm,r2,k,rfl,rfl,by omega,l_r2,HC⟩
        case measure=>simp [intOf];omega
      ·
       have bB:decide (m3<m1)=false:=decide_eq_false hB1
       rw [if_neg (by omega)] at hc2
       injection hc2 with hc3
       subst hc3
       clear e_qm q1p
       go_wp2_with (fail)
       go_meet
       exact ⟨rfl,hq,rfl⟩
  case rest =>
   obtain ⟨rfl,l_Q,rfl⟩:=hcut
   obtain ⟨fa,e_fa⟩:∃ m,m=q1*4294967296%18446744073709551616:=⟨_,rfl⟩
   have k1:IntKind.u64.wrap ((q1:Int)*4294967296)=(fa:Int):=by rw [e_fa];exact eV q1 4294967296
   have e_F2:=EF.out
   rw [←e_fa] at e_F2
   have k2:=cM fa Q
   rw [←e_F2] at k2
   have l_fa:fa<18446744073709551616:=by rw [e_fa];exact Nat.mod_lt _ (by omega)
   clear e_fa e_F2
   have hs4:s<65:=by omega
   go_wp2_with (fail)
   go_ret2
   exact ⟨_,rfl,Below.refl _ _⟩
theorem divC_some {k y2 y1 y0 un32 un1 un0 q:Nat} (h:divC k y2 y1 y0 un32 un1 un0=some q):y1≠0∧∃ q1 un21 Q,corr y1 y0 un1 k (un32/y1) (subW un32 (un32/y1*y1%18446744073709551616))=some q1 ∧
  un21=subW ((un32*4294967296%18446744073709551616+un1)%18446744073709551616) (q1*y2%18446744073709551616)∧corr y1 y0 un0 k (un21/y1) (subW un21 (un21/y1*y1%18446744073709551616))=some Q∧q=(q1*4294967296%18446744073709551616+Q)%18446744073709551616:=by
 unfold divC at h
 split at h
 ·
  cases h
 ·
  rename_i hy1
  refine ⟨hy1,?_⟩
  split at h
  ·
   cases h
  ·
   rename_i q1 hc
   generalize hU:subW ((un32*4294967296%18446744073709551616+un1)%18446744073709551616) (q1*y2%18446744073709551616)=U at h
   split at h
   ·
    cases h
   ·
    rename_i Q hd
    injection h with h
    exact ⟨q1,U,Q,hc,hU.symm,hd,h.symm⟩
theorem div64_any (hi lo y q:Nat) (w:World) (hhi:hi<18446744073709551616) (hl:lo<18446744073709551616) (hy:y<18446744073709551616) (h:divN hi lo y=some q) :
  Calls zP 135 #[.int .u64 hi,.int .u64 lo,.int .u64 y] w (DivPost q w):=by
 unfold divN at h
 split at h
 ·
  cases h
 ·
  rename_i h1
  split at h
  ·
   rename_i h0
   subst h0
   injection h with h
   subst h
   exact div64_zero lo y w hl hy (by omega)
  ·
   rename_i h0
   obtain ⟨s,e1⟩:∃ s,s=64-lenN y:=⟨_,rfl⟩
   rw [←e1] at h
   unfold divS at h
   obtain ⟨y2,e2⟩:∃ m,m=y*2^s%18446744073709551616:=⟨_,rfl⟩
   obtain ⟨un32,e5⟩:∃ m,m=(hi*2^s%18446744073709551616 ||| lo/2^(64-s)):=⟨_,rfl⟩
   obtain ⟨un1,e6⟩:∃ m,m=lo*2^s%18446744073709551616/4294967296:=⟨_,rfl⟩
   obtain ⟨un0,e7⟩:∃ m,m=lo*2^s%18446744073709551616%4294967296:=⟨_,rfl⟩
   rw [←e2,←e5,←e6,←e7] at h
   obtain ⟨e8,q1,un21,Q,e9,e10,e11,e12⟩:=divC_some h
   have hs:s<64:=by
    rcases Nat.eq_zero_or_pos (lenN y) with h5 | h5
    ·
     exfalso
     rw [h5] at e1
     rw [e1] at e2
     apply e8
     rw [e2,Nat.mul_mod_left]
    ·
     omega
   exact div64_more hi lo y s Q w hhi hl hy (by omega) (by omega) e1 hs un32 un1 un0 y2 _ _ q1 un21 e2 rfl rfl e5 e6 e7 e8 e9 e10 e11 q e12
end Sha
end
section
namespace Sha
open Go Go.RowKit
def us (l:List Nat):Array Value:=ncs .u64 l
theorem kL (l:List Nat):(us l).size=l.length:=dL _ _
theorem us_get (l:List Nat) (i:Nat):(us l)[i]?=l[i]?.map (nc .u64):=dW _ _ _
theorem dJ {l:List Nat} {i x:Nat} (h:l[i]?=some x):(us l)[i]?=some (.int .u64 (x:Int)):=by rw [us_get,h];rfl
theorem gG (l:List Nat) (i x:Nat):(us l).setIfInBounds i (.int .u64 (x:Int))=us (l.set i x):=dV _ _ _ _
theorem dQ (l:List Nat):(us l).all (·.oneCell')=true:=iH _ _
theorem cA {T:TypeId} {n:Nat} {l:List Nat} (h:(zP.info? T).map (·.size)=some n) (hl:l.length=n):(zP.info? T).map (·.size)=some (us l).size:=by rw [kL,hl];exact h
theorem bO:(zP.info? 158).map (·.size)=some 4:=by kernel_rfl
theorem eM:(zP.info? 124).map (·.size)=some 8:=by kernel_rfl
theorem mA:(zP.info? 126).map (·.size)=some 80:=by kernel_rfl
theorem rM:(zP.info? 91).map (·.size)=some 8:=by kernel_rfl
def RowPost (l:List Nat) (w:World) (e:Ending) (w':World):Prop:=e=.returned (.agg (us l))∧Below w.heap.size w w'
theorem jE {fn:Func} {p:Tmp} {T:TypeId} {n0:Nat} {e0:TypeId} {n:Nat} {l:List Nat} (hu:zP.underlying T=some (.array n0 e0)) (hi:(zP.info? T).map (·.size)=some n) (hl:l.length=n)
  (hr:fn.results=#[.cell p T]) {a:Act} (hd:a.defers=[]) {W w:World} {g:Nat} (hp:a.tmps.getD p undef=.pointer (some ⟨g,0,none⟩)) (hb:Blk w g T (us l)) (hB:Below W.heap.size W w) :
  bodyPost zP fn (RowPost l W) .ret a w :=
 bodyPost_ret (results_cell_row hr _ _ g T (us l) (0,0) _ hp hb hu rfl (cA hi hl)) hd ⟨rfl,hB⟩
theorem iP:us [0,0,0,0]=#[.int .u64 0,.int .u64 0,.int .u64 0,.int .u64 0]:=rfl
def Q4.l (x:Q4):List Nat:=[x.a,x.b,x.c,x.d]
theorem Q4.len (x:Q4):x.l.length=4:=rfl
structure Q4.ok (x:Q4):Prop where
 a:x.a<18446744073709551616
 b:x.b<18446744073709551616
 c:x.c<18446744073709551616
 d:x.d<18446744073709551616
theorem xW (x y:Q4):(tmsN x y).ok:=⟨Nat.mod_lt _ (by omega),Nat.mod_lt _ (by omega),Nat.mod_lt _ (by omega),Nat.mod_lt _ (by omega)⟩
theorem tmsN_eq (x y:Q4) (c1 d1 c2 d2 c3 d3 c4 d4 c5 d5 c6 d6:Nat) (h1:c1*18446744073709551616+d1=x.c*y.b) (l1:d1<18446744073709551616) (h2:MulAddAt x.b y.b c1 0 c2 d2) (h3:MulAddAt x.a y.b c2 0 c3 d3) (h4:MulAddAt x.d y.a d1 0 c4 d4)
  (h5:MulAddAt x.c y.a d2 c4 c5 d5) (h6:MulAddAt x.b y.a d3 c5 c6 d6) :
  (tmsN x y).l=[(x.a*y.a+c3+c6)%18446744073709551616,d6,d5,d4]:=by
 unfold MulAddAt at *
 have a1:x.c*y.b/18446744073709551616=c1:=by omega
 have b1:x.c*y.b%18446744073709551616=d1:=by omega
 have a2:(x.b*y.b+c1+0)/18446744073709551616=c2:=by omega
 have b2:(x.b*y.b+c1+0)%18446744073709551616=d2:=by omega
 have a3:(x.a*y.b+c2+0)/18446744073709551616=c3:=by omega
 have b3:(x.a*y.b+c2+0)%18446744073709551616=d3:=by omega
 have a4:(x.d*y.a+d1+0)/18446744073709551616=c4:=by omega
 have b4:(x.d*y.a+d1+0)%18446744073709551616=d4:=by omega
 have a5:(x.c*y.a+d2+c4)/18446744073709551616=c5:=by omega
 have b5:(x.c*y.a+d2+c4)%18446744073709551616=d5:=by omega
 have a6:(x.b*y.a+d3+c5)/18446744073709551616=c6:=by omega
 have b6:(x.b*y.a+d3+c5)%18446744073709551616=d6:=by omega
 simp only [tmsN,Q4.l,a1,b1,a2,b2,a3,b3,a4,b4,a5,b5,a6,b6]
theorem kE (a b c d:Nat) (ha:a<18446744073709551616) (hb:b<18446744073709551616) (hc:c<18446744073709551616) (hd:d<18446744073709551616) :
  ∃ hi lo:Nat,(∀ w:World,Calls zP 136 #[.int .u64 a,.int .u64 b,.int .u64 c,.int .u64 d] w fun e w'=>e=.returned (.tuple #[.int .u64 hi,.int .u64 lo])∧w=w')∧MulAddAt a b c d hi lo∧hi<18446744073709551616∧lo<18446744073709551616:=by
 obtain ⟨p,hp⟩:∃ p,p=a*b+c+d:=⟨_,rfl⟩
 have hm:=gB ha hb
 have hat:MulAddAt a b c d (p/18446744073709551616) (p%18446744073709551616):=by unfold MulAddAt;omega
 obtain ⟨hi,e1⟩:∃ h,h=p/18446744073709551616:=⟨_,rfl⟩
 obtain ⟨lo,e2⟩:∃ h,h=p%18446744073709551616:=⟨_,rfl⟩
 rw [←e1,←e2] at hat
 refine ⟨hi,lo,fun w=>(mulAdd2_any a b c d w ha hb hc hd).mono ?_,hat,hat.2.2,hat.2.1⟩
 rintro e w' ⟨hi2,lo2,rfl,⟨h1,h2,h3⟩,rfl⟩
 obtain ⟨g1,g2,g3⟩:=hat
 have e3:hi2=hi:=by omega
 have e4:lo2=lo:=by omega
 rw [e3,e4]
 exact ⟨rfl,rfl⟩
attribute [local irreducible] tmsN
set_option maxRecDepth 100000 in
theorem qC (x y z:Q4) (w:World) (hx:x.ok) (hy:y.ok) (hz:z=tmsN x y):Calls zP 134 #[.agg (us x.l),.agg (us y.l)] w (RowPost z.l w):=by
 have hfr:=(((Fr.start w).row (us x.l) 158 (g:=w.heap.size) rfl).row (us y.l) 158 (g:=w.heap.size+1) (by simp)).any (us [0,0,0,0]) 158 4 rfl (g:=w.heap.size+1+1) (by simp)
 rw [iP] at hfr
 have kx:=hfr.get (g:=w.heap.size) (t:=158) (cs:=us x.l) (by simp)
 have ky:=hfr.get (g:=w.heap.size+1) (t:=158) (cs:=us y.l) (by simp)
 obtain ⟨old,hold,kz⟩:=hfr.old (g:=w.heap.size+1+1) (t:=158) (n:=4) (by simp)
 obtain ⟨xa,xb,xc,xd⟩:=x
 obtain ⟨ya,yb,yc,yd⟩:=y
 obtain ⟨hxa,hxb,hxc,hxd⟩:=hx
 obtain ⟨hya,hyb,hyc,hyd⟩:=hy
 simp only at hxa hxb hxc hxd hya hyb hyc hyd
 have x0:=kx.cell 0
 rw [dJ (i:=0) (x:=xa) rfl] at x0
 have x1:=kx.cell 1
 rw [dJ (i:=1) (x:=xb) rfl] at x1
 have x2:=kx.cell 2
 rw [dJ (i:=2) (x:=xc) rfl] at x2
 have x3:=kx.cell 3
 rw [dJ (i:=3) (x:=xd) rfl] at x3
 have y0:=ky.cell 0
 rw [dJ (i:=0) (x:=ya) rfl] at y0
 have y1:=ky.cell 1
 rw [dJ (i:=1) (x:=yb) rfl] at y1
 obtain ⟨c1,d1,h1,e1,m1⟩:=kF xc yb hxc hyb
 have l1:c1<18446744073709551616:=by have:=gB hxc hyb;omega
 obtain ⟨c2,d2,h2,e2,l2,m2⟩:=kE xb yb c1 0 hxb hyb l1 (by omega)
 rw [Int.natCast_zero] at h2
 obtain ⟨c3,d3,h3,e3,l3,m3⟩:=kE xa yb c2 0 hxa hyb l2 (by omega)
 rw [Int.natCast_zero] at h3
 obtain ⟨c4,d4,h4,e4,l4,m4⟩:=kE xd ya d1 0 hxd hya m1 (by omega)
 rw [Int.natCast_zero] at h4
 obtain ⟨c5,d5,h5,e5,l5,m5⟩:=kE xc ya d2 c4 hxc hya m2 l4
 obtain ⟨c6,d6,h6,e6,l6,m6⟩:=kE xb ya d3 c5 hxb hya m3 l5
 have k1:=eV xa ya
 obtain ⟨t1,g1⟩:∃ t,t=xa*ya%18446744073709551616:=⟨_,rfl⟩
 rw [←g1] at k1
 have k2:=cM t1 c3
 obtain ⟨t2,g2⟩:∃ t,t=(t1+c3)%18446744073709551616:=⟨_,rfl⟩
 rw [←g2] at k2
 have k3:=cM t2 c6
 obtain ⟨t3,g3⟩:∃ t,t=(t2+c6)%18446744073709551616:=⟨_,rfl⟩
 rw [←g3] at k3
 have hzl:z.l=[t3,d6,d5,d4]:=by
  rw [hz,tmsN_eq _ _ c1 d1 c2 d2 c3 d3 c4 d4 c5 d5 c6 d6 e1 m1 e2 e3 e4 e5 e6,g3,g2,g1]
  congr 1
  simp only
  omega
 rw [hzl]
 have kS:=kz.setRow_same (us [t3,d6,d5,d4])
 have hB:=below_setRow hfr.below (show w.heap.size≤w.heap.size+1+1 by omega) (us [t3,d6,d5,d4])
 have hold':old.size=(us [t3,d6,d5,d4]).size:=by rw [hold];rfl
 have HS:=Lib.hid kS
 have HB:=Lib.hid hB
 have HO:=Lib.hid hold'
 clear hfr kS hB hold hold' kx ky hz hyc hyd hzl e1 e2 e3 e4 e5 e6 g1 g2 g3
 go_enter Tryz.func134,Tryz.ntmps134
 go_wp2_with (fail)
 refine (h1 _).mono ?_
 rintro e w' ⟨rfl,rfl⟩
 go_wp2_with (fail)
 refine (h2 _).mono ?_
 rintro e w' ⟨rfl,rfl⟩
 go_wp2_with (fail)
 refine (h3 _).mono ?_
 rintro e w' ⟨rfl,rfl⟩
 go_wp2_with (fail)
 refine (h4 _).mono ?_
 rintro e w' ⟨rfl,rfl⟩
 go_wp2_with (fail)
 refine (h5 _).mono ?_
 rintro e w' ⟨rfl,rfl⟩
 go_wp2_with (fail)
 refine (h6 _).mono ?_
 rintro e w' ⟨rfl,rfl⟩
 go_wp2_with (refine wpList_store_row rfl 158 (.tmp 4) (.tmp 77) rfl (w.heap.size+1+1) (us [t3,d6,d5,d4]) rfl rfl 158 _ kz (cA bO rfl) HO.out (dQ _) ?_)
 exact jE (n0:=4) rfl bO rfl rfl rfl rfl HS.out HB.out
end Sha
end
section
namespace Sha
open Go Go.RowKit
theorem pow_low {v k:Nat} (hv:v≤64) (hk:k≤2):v^k≤4096:=Nat.le_trans (Nat.pow_le_pow_left hv k) (Nat.pow_le_pow_right (n:=64) (by omega) hk)
theorem raised_any (v p:Nat) (w:World) (hv:v≤64) (hp:p≤3):Calls zP 133 #[.int .u64 v,.int .i64 p] w fun e w'=>e=.returned (.int .u64 ((v^p:Nat):Int))∧w=w':=by
 go_enter Tryz.func133,Tryz.ntmps133
 go_wp2
 go_loop [5,7] (fun a i=>∃ k:Nat,k≤p∧i=.int .i64 k∧∃ m:Nat,a=.int .u64 m∧Hid (m=v^k)) (fun _ i=>p-(intOf i).toNat)
 case atStart=>exact ⟨0,Nat.zero_le _,rfl,1,rfl,Lib.hid rfl⟩
 case round =>
  obtain ⟨k,hk,rfl,m,rfl,hm⟩:=hrel
  by_cases hlt:k<p
  ·
   have hml:m≤4096:=by rw [hm.out];exact pow_low hv (by omega)
   have hx:=eV m v
   obtain ⟨x,e1⟩:∃ x,x=m*v:=⟨_,rfl⟩
   have hl:x≤4096*64:=by rw [e1];exact Nat.mul_le_mul hml hv
   rw [←e1,Nat.mod_eq_of_lt (by omega)] at hx
   have E1:=Lib.hid e1
   clear e1
   go_wp2
   go_round
   case rel =>
    refine ⟨k+1,by omega,by go_num,x,rfl,Lib.hid ?_⟩
    rw [E1.out,hm.out,Nat.pow_succ]
   case measure=>simp [intOf]<;>omega
  ·
   go_wp2
   go_ret
   obtain rfl:k=p:=by omega
   refine ⟨?_,rfl⟩
   have e9:(v:Int)^k=(m:Int):=by rw [hm.out];push_cast;rfl
   rw [e9]
   rfl
theorem wholeB_up {n p v:Nat} (h:wholeB n p v=true):1≤v∧v^p≤n∧n+1≤(v+1)^p:=by
 simp only [wholeB,Bool.and_eq_true] at h
 obtain ⟨_,h1,h2,h3⟩:=h
 exact ⟨Nat.le_of_ble_eq_true h1,Nat.le_of_ble_eq_true h2,by simpa [Nat.blt] using h3⟩
theorem whole_any (n p v:Nat) (w:World) (hn:n<18446744073709551616) (hp:p≤3) (hv:v≤60) (h:wholeB n p v=true):Calls zP 128 #[.int .u64 n,.int .i64 p] w fun e w'=>e=.returned (.int .u64 (v:Int))∧w=w':=by
 obtain ⟨h1,h2,h3⟩:=wholeB_up h
 clear h
 have H2:=Lib.hid h2
 have H3:=Lib.hid h3
 clear h2 h3
 go_enter Tryz.func128,Tryz.ntmps128
 go_wp2
 go_loop [5] (fun a=>∃ k:Nat,k≤v∧1≤k∧a=.int .u64 k) (fun a=>v-(intOf a).toNat)
 case atStart=>exact ⟨1,h1,Nat.le_refl _,rfl⟩
 case round =>
  obtain ⟨k,hk,hk1,rfl⟩:=hrel
  have hr:=raised_any (k+1) p w (by omega) hp
  have hl:(k+1)^p≤262144:=Nat.le_trans (Nat.pow_le_pow_left (show k+1≤64 by omega) p) (Nat.pow_le_pow_right (n:=64) (by omega) hp)
  have hc:k<v→(k+1)^p≤n:=fun h=>Nat.le_trans (Nat.pow_le_pow_left (show k+1≤v by omega) p) H2.out
  have hd:¬ k<v→¬ (k+1)^p≤n:=fun h=>by
   have:=H3.out
   have e:k=v:=by omega
   rw [e];omega
  obtain ⟨m,e1⟩:∃ m,m=(k+1)^p:=⟨_,rfl⟩
  rw [←e1] at hr hl hc hd
  rw [show ((k+1:Nat):Int)=(k:Int)+1 by omega] at hr
  clear e1
  have HR:=Lib.hid hr
  clear hr
  by_cases hlt:k<v
  ·
   have hm:=hc hlt
   clear hc hd
   go_wp2_with (fail)
   refine HR.out.mono ?_
   rintro e w' ⟨rfl,rfl⟩
   go_wp2
   go_round
   case rel=>exact ⟨k+1,by omega,by omega,by go_num⟩
   case measure=>simp [intOf]<;>omega
  ·
   have hm:=hd hlt
   clear hc hd
   go_wp2_with (fail)
   refine HR.out.mono ?_
   rintro e w' ⟨rfl,rfl⟩
   go_wp2
   go_ret
   obtain rfl:k=v:=by omega
   exact ⟨rfl,rfl⟩
def bk (x:Q4) (k:Nat):Q4:=if k=0 then x else tmsN x x
theorem sB (x:Q4):bk x 0=x:=rfl
theorem bk_one (x:Q4):bk x (0+1)=tmsN x x:=rfl
theorem bk_ok {x:Q4} (h:x.ok) (k:Nat):(bk x k).ok:=by unfold bk;split;exact h;exact xW _ _
theorem below_bk {p:Nat} (x:Q4) (hp:p=2∨p=3):belowN p x=bk x (p-2):=by rcases hp with rfl | rfl<;>rfl
attribute [local irreducible] bk tmsN
theorem divC_lt {k y2 y1 y0 a b c q:Nat} (h:divC k y2 y1 y0 a b c=some q):q<18446744073709551616:=by
 unfold divC at h
 split at h
 ·
  cases h
 ·
  split at h
  ·
   cases h
  ·
   split at h
   ·
    cases h
   ·
    injection h with h
    rw [←h]
    exact Nat.mod_lt _ (by omega)
theorem divN_lt {hi lo y q:Nat} (hl:lo<18446744073709551616) (h:divN hi lo y=some q):q<18446744073709551616:=by
 unfold divN at h
 split at h
 ·
  cases h
 ·
  split at h
  ·
   injection h with h
   rw [←h]
   exact jS hl
  ·
   exact divC_lt h
theorem tV {n p:Nat} {x y:Q4} (h:lowN n p x=some y):((allN p x).a<n∧y=x)∨(¬ (allN p x).a<n∧∃ q m,divN (subW (allN p x).a n*72057594037927936%18446744073709551616 ||| (allN p x).b/256) ((allN p x).b*72057594037927936%18446744073709551616) ((((slopeN p x).a*72057594037927936%18446744073709551616 ||| (slopeN p x).b/256)+1)%18446744073709551616)=some q∧m=subW x.b (max q 1)∧y=⟨x.a,m,x.c,x.d⟩):=by
 unfold lowN at h
 simp only at h
 split at h
 ·
  injection h with h
  exact Or.inl ⟨by assumption,h.symm⟩
 ·
  refine Or.inr ⟨by assumption,?_⟩
  split at h
  ·
   cases h
  ·
   rename_i q hq
   injection h with h
   exact ⟨q,_,hq,rfl,h.symm⟩
set_option maxRecDepth 100000 in
theorem rG (x y:Q4) (n p:Nat) (w:World) (hx:x.ok) (hn:n<18446744073709551616) (hp:p=2∨p=3) (h:lowN n p x=some y):Calls zP 129 #[.agg (us x.l),.int .u64 n,.int .i64 p] w (RowPost y.l w):=by
 have f0:=((Fr.start w).row (us x.l) 158 (g:=w.heap.size) rfl).any (us [0,0,0,0]) 158 4 rfl (g:=w.heap.size+1) (by simp)
 have f1:=f0.row (us [0,0,0,0]) 158 (g:=w.heap.size+1+1) (by simp)
 have k3:=f0.get (g:=w.heap.size) (t:=158) (cs:=us x.l) (by simp)
 have k7:=f1.get (g:=w.heap.size+1+1) (t:=158) (cs:=us [0,0,0,0]) (by simp)
 have f2:=f1.setRowHead (by simp<;>omega) (by simp<;>omega) (us x.l) (by omega)
 rw [iP] at k3 k7 f2
 have F2:=Lib.hid f2
 clear f0 f1 f2
 have hb2:=below_bk x hp
 have hpi:IntKind.i64.wrap ((p:Int)-2)=((p-2:Nat):Int):=by rw [IntKind.wrap_i64];omega
 have HL:=tV h
 rw [show allN p x=tmsN (belowN p x) x from rfl,show slopeN p x=tmsN (belowN p x) ⟨p,0,0,0⟩ from rfl,hb2] at HL
 have HL:=Lib.hid HL
 clear h hb2
 obtain ⟨r,hr⟩:∃ r,r=p-2:=⟨_,rfl⟩
 rw [←hr] at hpi HL
 have hr1:r≤1:=by omega
 go_enter Tryz.func129,Tryz.ntmps129
 go_wp2_with (first | (refine wpList_load_row rfl 158 (.tmp 3) rfl (w.heap.size) rfl 158 (us x.l) (0,0) _ k3 Tryz.underlying158 rfl (cA bO rfl) ?_) | (refine wpList_store_row rfl 158 (.tmp 7) (.tmp 13) rfl (w.heap.size+1+1) (us x.l) rfl rfl 158 (_) k7 (cA bO rfl) rfl (dQ _) ?_))
 clear k3 k7
 go_loopw [16] (fun c wr=>∃ k:Nat,k≤r∧c=.int .i64 k∧Fr w wr [(w.heap.size+1+1,158,us (bk x k).l),(w.heap.size,158,us x.l)] [(w.heap.size+1,158,4)]) (fun c _=>r-(intOf c).toNat)
 case atStart=>exact ⟨0,by omega,rfl,by rw [sB];exact F2.out⟩
 case round =>
  obtain ⟨k,hk,rfl,hF⟩:=hrel
  clear F2
  have k7:=hF.get (g:=w.heap.size+1+1) (t:=158) (cs:=us (bk x k).l) (by simp)
  have k3:=hF.get (g:=w.heap.size) (t:=158) (cs:=us x.l) (by simp)
  have HF:=Lib.hid hF
  clear hF
  by_cases hlt:k<r
  ·
   obtain rfl:k=0:=by omega
   go_wp2_with (first | (refine wpList_load_row rfl 158 (.tmp 7) rfl (w.heap.size+1+1) rfl 158 (us (bk x 0).l) (0,0) _ k7 Tryz.underlying158 rfl (cA bO rfl) ?_) | (refine wpList_load_row rfl 158 (.tmp 3) rfl (w.heap.size) rfl 158 (us x.l) (0,0) _ k3 Tryz.underlying158 rfl (cA bO rfl) ?_))
   refine (qC (bk x 0) x _ _ (bk_ok hx 0) hx rfl).mono ?_
   rintro e v ⟨rfl,hb⟩
   have f1:=HF.out.ext hb
   have k8:=f1.get (g:=w.heap.size+1+1) (t:=158) (cs:=us (bk x 0).l) (by simp)
   have f2:=f1.setRowHead (by simp<;>omega) (by simp<;>omega) (us (tmsN (bk x 0) x).l) (by omega)
   rw [sB] at f2
   rw [sB]
   have F2:=Lib.hid f2
   clear f1 f2 hb k7 k3
   rw [sB] at k8
   go_wp2_with (first | (refine wpList_store_row rfl 158 (.tmp 7) (.tmp 20) rfl (w.heap.size+1+1) (us (tmsN x x).l) rfl rfl 158 (_) k8 (cA bO rfl) rfl (dQ _) ?_))
   go_round
   case rel=>exact ⟨0+1,by omega,by go_num,by rw [bk_one];exact F2.out⟩
   case measure=>simp [intOf];omega
  ·
   obtain rfl:k=r:=by omega
   have bo:=bk_ok hx k
   have HL2:=HL.out
   obtain ⟨be,e1⟩:∃ q,q=bk x k:=⟨_,rfl⟩
   rw [←e1] at HL2 HF k7 bo
   have oa:=xW be x
   obtain ⟨al,e2⟩:∃ q,q=tmsN be x:=⟨_,rfl⟩
   rw [←e2] at HL2 oa
   have E2:=Lib.hid e2
   have os:=xW be ⟨p,0,0,0⟩
   obtain ⟨sl,e3⟩:∃ q,q=tmsN be ⟨p,0,0,0⟩:=⟨_,rfl⟩
   rw [←e3] at HL2 os
   have E3:=Lib.hid e3
   clear e1 e2 e3 HL
   have HL:=Lib.hid HL2
   clear HL2
   go_wp2_with (first | (refine wpList_load_row rfl 158 (.tmp 7) rfl (w.heap.size+1+1) rfl 158 (us be.l) (0,0) _ k7 Tryz.underlying158 rfl (cA bO rfl) ?_) | (refine wpList_load_row rfl 158 (.tmp 3) rfl (w.heap.size) rfl 158 (us x.l) (0,0) _ k3 Tryz.underlying158 rfl (cA bO rfl) ?_))
   refine (qC be x al _ bo hx E2.out).mono ?_
   rintro e v ⟨rfl,hb⟩
   clear k7 k3
   have f1:=HF.out.ext hb
   have f2:=f1.row (us [0,0,0,0]) 158 rfl
   have hv:w.heap.size+1+1<v.heap.size:=by have:=hb.size;have:=HF.out.get (g:=w.heap.size+1+1) (t:=158) (cs:=us be.l) (by simp);have:=this.lt;omega
   generalize hgv:v.heap.size=g8 at *
   have k8:=f2.get (g:=g8) (t:=158) (cs:=us [0,0,0,0]) (by simp)
   have f3:=f2.setRowHead (by simp<;>omega) (by simp<;>omega) (us al.l) (by omega)
   rw [iP] at k8 f3
   clear f1 f2 hb HF
   have k9:=f3.get (g:=g8) (t:=158) (cs:=us al.l) (by simp)
   have a0:=k9.cell 0
   rw [dJ (i:=0) (x:=al.a) rfl] at a0
   have a1:=k9.cell 1
   rw [dJ (i:=1) (x:=al.b) rfl] at a1
   have F3:=Lib.hid f3
   clear f3 k9
   rcases HL.out with ⟨hlt2,rfl⟩ | ⟨hge,q,m,hq,hm0,rfl⟩
   ·
    have k3:=F3.out.get (g:=w.heap.size) (t:=158) (cs:=us y.l) (by simp)
    obtain ⟨old,ho,k6⟩:=F3.out.old (g:=w.heap.size+1) (t:=158) (n:=4) (by simp)
    have kS:=k6.setRow_same (us y.l)
    have hB:=below_setRow F3.out.below (show w.heap.size≤w.heap.size+1 by omega) (us y.l)
    have HS:=Lib.hid kS
    have HB:=Lib.hid hB
    have ho':old.size=(us y.l).size:=by rw [ho];rfl
    have HO:=Lib.hid ho'
    clear kS hB F3 HL ho ho'
    go_wp2_with (first | (refine wpList_store_row rfl 158 (.tmp 8) (.tmp 24) rfl (g8) (us al.l) rfl rfl 158 (_) k8 (cA bO rfl) rfl (dQ _) ?_) | (refine wpList_load_row rfl 158 (.tmp 3) rfl (w.heap.size) rfl 158 (us y.l) (0,0) _ k3 Tryz.underlying158 rfl (cA bO rfl) ?_) | (refine wpList_store_row rfl 158 (.tmp 6) (.tmp 29) rfl (w.heap.size+1) (us y.l) rfl rfl 158 (old) k6 (cA bO rfl) HO.out (dQ _) ?_))
    exact jE (n0:=4) rfl bO rfl rfl rfl rfl HS.out HB.out
   ·
    have HM0:=Lib.hid hm0
    clear hm0
    have hql:q<18446744073709551616:=divN_lt (Nat.mod_lt _ (by omega)) hq
    have k7:=F3.out.get (g:=w.heap.size+1+1) (t:=158) (cs:=us be.l) (by simp)
    have hpu:IntKind.u64.wrap (p:Int)=(p:Int):=by rw [IntKind.wrap_u64];omega
    go_wp2_with (first | (refine wpList_store_row rfl 158 (.tmp 8) (.tmp 24) rfl (g8) (us al.l) rfl rfl 158 (_) k8 (cA bO rfl) rfl (dQ _) ?_) | (refine wpList_load_row rfl 158 (.tmp 7) rfl (w.heap.size+1+1) rfl 158 (us be.l) (0,0) _ k7 Tryz.underlying158 rfl (cA bO rfl) ?_))
    refine (qC be ⟨p,0,0,0⟩ sl _ bo ⟨by simp only;omega,by simp,by simp,by simp⟩ E3.out).mono ?_
    rintro e v2 ⟨rfl,hb⟩
    clear k7 k8 a0 a1
    have f1:=F3.out.ext hb
    have f2:=f1.row (us [0,0,0,0]) 158 rfl
    have hv2:g8<v2.heap.size:=by have:=hb.size;have:=F3.out.get (g:=g8) (t:=158) (cs:=us al.l) (by simp);have:=this.lt;omega
    generalize hgv2:v2.heap.size=g9 at *
    have k8:=f2.get (g:=g9) (t:=158) (cs:=us [0,0,0,0]) (by simp)
    have f3:=f2.setRowHead (by simp<;>omega) (by simp<;>omega) (us sl.l) (by omega)
    rw [iP] at k8 f3
    clear f1 f2 hb F3
    have k9:=f3.get (g:=g8) (t:=158) (cs:=us al.l) (by simp)
    have a0:=k9.cell 0
    rw [dJ (i:=0) (x:=al.a) rfl] at a0
    have a1:=k9.cell 1
    rw [dJ (i:=1) (x:=al.b) rfl] at a1
    have k10:=f3.get (g:=g9) (t:=158) (cs:=us sl.l) (by simp)
    have s0:=k10.cell 0
    rw [dJ (i:=0) (x:=sl.a) rfl] at s0
    have s1:=k10.cell 1
    rw [dJ (i:=1) (x:=sl.b) rfl] at s1
    have F3:=Lib.hid f3
    clear f3 k9 k10
    obtain ⟨oa0,oa1,_,_⟩:=oa
    obtain ⟨os0,os1,_,_⟩:=os
    generalize al.a=A at *
    generalize al.b=B at *
    generalize sl.a=C at *
    generalize sl.b=D at *
    have q1:=mO A n (by omega)
    have l1:=iG A n
    generalize subW A n=m1 at *
    obtain ⟨m2,em2⟩:∃ q,q=m1*72057594037927936%18446744073709551616:=⟨_,rfl⟩
    obtain ⟨m3,em3⟩:∃ q,q=B/256:=⟨_,rfl⟩
    obtain ⟨m5,em5⟩:∃ q,q=B*72057594037927936%18446744073709551616:=⟨_,rfl⟩
    obtain ⟨m6,em6⟩:∃ q,q=C*72057594037927936%18446744073709551616:=⟨_,rfl⟩
    obtain ⟨m7,em7⟩:∃ q,q=D/256:=⟨_,rfl⟩
    rw [←em2,←em3,←em5,←em6,←em7] at hq
    obtain ⟨m4,em4⟩:∃ q,q=m2 ||| m3:=⟨_,rfl⟩
    obtain ⟨m8,em8⟩:∃ q,q=m6 ||| m7:=⟨_,rfl⟩
    rw [←em4,←em8] at hq
    obtain ⟨m9,em9⟩:∃ q,q=(m8+1)%18446744073709551616:=⟨_,rfl⟩
    rw [←em9] at hq
    have l2:m2<18446744073709551616:=by omega
    have l3:m3<18446744073709551616:=by omega
    have l5:m5<18446744073709551616:=by omega
    have l6:m6<18446744073709551616:=by omega
    have l7:m7<18446744073709551616:=by omega
    have l9:m9<18446744073709551616:=by omega
    have l4:m4<18446744073709551616:=by rw [em4];exact Nat.or_lt_two_pow (n:=64) l2 l3
    have q2:IntKind.u64.wrap ((m1:Int)*72057594037927936)=(m2:Int):=by rw [em2];exact eV m1 72057594037927936
    have q5:IntKind.u64.wrap ((B:Int)*72057594037927936)=(m5:Int):=by rw [em5];exact eV B 72057594037927936
    have q6:IntKind.u64.wrap ((C:Int)*72057594037927936)=(m6:Int):=by rw [em6];exact eV C 72057594037927936
    have q3:(B:Int)/256=(m3:Int):=by rw [em3];rfl
    have q7:(D:Int)/256=(m7:Int):=by rw [em7];rfl
    have q4:bits .or .u64 (m2:Int) (m3:Int)=(m4:Int):=by rw [em4];exact u64_or_nat _ _ l2 l3
    have q8:bits .or .u64 (m6:Int) (m7:Int)=(m8:Int):=by rw [em8];exact u64_or_nat _ _ l6 l7
    have q9:IntKind.u64.wrap ((m8:Int)+1)=(m9:Int):=by rw [em9];exact cM m8 1
    clear em2 em3 em4 em5 em6 em7 em8 em9
    have HQ:=Lib.hid hq
    clear hq
    go_wp2_with (first | (refine wpList_store_row rfl 158 (.tmp 9) (.tmp 34) rfl (g9) (us sl.l) rfl rfl 158 (_) k8 (cA bO rfl) rfl (dQ _) ?_))
    refine (div64_any m4 m5 m9 q _ l4 l5 l9 HQ.out).mono ?_
    rintro e v3 ⟨r,rfl,hb⟩
    clear k8 a0 a1 s0 s1
    have f1:=F3.out.ext hb
    have k3:=f1.get (g:=w.heap.size) (t:=158) (cs:=us x.l) (by simp)
    have x1:=k3.cell 1
    rw [dJ (i:=1) (x:=x.b) rfl] at x1
    have F3:=Lib.hid f1
    clear f1 hb k3
    skip
    rcases Nat.eq_zero_or_pos q with h0 | h0
    ·
     subst h0
     have q10:IntKind.u64.wrap ((x.b:Int)-1)=(m:Int):=by rw [HM0.out];exact mO x.b 1 (by omega)
     have q11:IntKind.u64.wrap ((x.b:Int)-max 0 1)=(m:Int):=q10
     have k3:=F3.out.get (g:=w.heap.size) (t:=158) (cs:=us x.l) (by simp)
     have z1:=k3.frozen 1
     have k31:=k3.set_ 1 (.int .u64 (m:Int))
     have ek:(us x.l).setIfInBounds 1 (.int .u64 (m:Int))=us (Q4.mk x.a m x.c x.d).l:=gG _ _ _
     rw [ek] at k31
     obtain ⟨old,ho,k60⟩:=F3.out.old (g:=w.heap.size+1) (t:=158) (n:=4) (by simp)
     have k6:Blk (v3.setCell ⟨w.heap.size,1,none⟩ (.int .u64 (m:Int))) (w.heap.size+1) 158 old:=k60.far (show w.heap.size+1≠w.heap.size by omega) _
     have hB0:Below w.heap.size w (v3.setCell ⟨w.heap.size,1,none⟩ (.int .u64 (m:Int))):=F3.out.below.setCell (Nat.le_refl _) _
     have kS:=k6.setRow_same (us (Q4.mk x.a m x.c x.d).l)
     have hB:=below_setRow hB0 (show w.heap.size≤w.heap.size+1 by omega) (us (Q4.mk x.a m x.c x.d).l)
     have HS:=Lib.hid kS
     have HB:=Lib.hid hB
     have ho':old.size=(us (Q4.mk x.a m x.c x.d).l).size:=by rw [ho];rfl
     have HO:=Lib.hid ho'
     clear kS hB hB0 k60 F3 ho ho' ek
     go_wp2_with (first | (refine wpList_load_row rfl 158 (.tmp 3) rfl (w.heap.size) rfl 158 (us (Q4.mk x.a m x.c x.d).l) (0,0) _ k31 Tryz.underlying158 rfl (cA bO rfl) ?_) | (refine wpList_store_row rfl 158 (.tmp 6) (.tmp 66) rfl (w.heap.size+1) (us (Q4.mk x.a m x.c x.d).l) rfl rfl 158 (old) k6 (cA bO rfl) HO.out (dQ _) ?_))
     exact jE (n0:=4) rfl bO rfl rfl rfl rfl HS.out HB.out
    ·
     have q10:IntKind.u64.wrap ((x.b:Int)-(q:Int))=(m:Int):=by rw [HM0.out,show max q 1=q by omega];exact mO x.b q (by omega)
     have q11:IntKind.u64.wrap ((x.b:Int)-max (q:Int) 1)=(m:Int):=by rw [show max (q:Int) 1=(q:Int) by omega];exact q10
     have k3:=F3.out.get (g:=w.heap.size) (t:=158) (cs:=us x.l) (by simp)
     have z1:=k3.frozen 1
     have k31:=k3.set_ 1 (.int .u64 (m:Int))
     have ek:(us x.l).setIfInBounds 1 (.int .u64 (m:Int))=us (Q4.mk x.a m x.c x.d).l:=gG _ _ _
     rw [ek] at k31
     obtain ⟨old,ho,k60⟩:=F3.out.old (g:=w.heap.size+1) (t:=158) (n:=4) (by simp)
     have k6:Blk (v3.setCell ⟨w.heap.size,1,none⟩ (.int .u64 (m:Int))) (w.heap.size+1) 158 old:=k60.far (show w.heap.size+1≠w.heap.size by omega) _
     have hB0:Below w.heap.size w (v3.setCell ⟨w.heap.size,1,none⟩ (.int .u64 (m:Int))):=F3.out.below.setCell (Nat.le_refl _) _
     have kS:=k6.setRow_same (us (Q4.mk x.a m x.c x.d).l)
     have hB:=below_setRow hB0 (show w.heap.size≤w.heap.size+1 by omega) (us (Q4.mk x.a m x.c x.d).l)
     have HS:=Lib.hid kS
     have HB:=Lib.hid hB
     have ho':old.size=(us (Q4.mk x.a m x.c x.d).l).size:=by rw [ho];rfl
     have HO:=Lib.hid ho'
     clear kS hB hB0 k60 F3 ho ho' ek
     go_wp2_with (first | (refine wpList_load_row rfl 158 (.tmp 3) rfl (w.heap.size) rfl 158 (us (Q4.mk x.a m x.c x.d).l) (0,0) _ k31 Tryz.underlying158 rfl (cA bO rfl) ?_) | (refine wpList_store_row rfl 158 (.tmp 6) (.tmp 66) rfl (w.heap.size+1) (us (Q4.mk x.a m x.c x.d).l) rfl rfl 158 (old) k6 (cA bO rfl) HO.out (dQ _) ?_))
     exact jE (n0:=4) rfl bO rfl rfl rfl rfl HS.out HB.out
end Sha
end
section
namespace Sha
open Go Go.RowKit
theorem size_u64z (W:World):(sizeOf 29).run zP W=.ok 1 W:=by kernel_rfl
theorem same_beq (x y:Q4):(x.l == y.l)=x.same y:=by
 obtain ⟨a,b,c,d⟩:=x
 obtain ⟨e,f,g,h⟩:=y
 rw [Bool.eq_iff_iff]
 simp [Q4.l,Q4.same]
theorem wN (x y:Q4) (b:Bool) (h:x.same y=b) (W:World):(Op.equalIn 10000 158 (.agg (us x.l)) (.agg (us y.l))).run zP W=.ok b W:=by
 have h2:=eD (P:=zP) W 9998 158 29 4 .u64 Tryz.underlying158 Tryz.underlying29 size_u64z x.l y.l rfl rfl
 rw [same_beq,h] at h2
 exact h2
theorem lowN_ok {n p:Nat} {x y:Q4} (hx:x.ok) (h:lowN n p x=some y):y.ok:=by
 rcases tV h with ⟨_,rfl⟩ | ⟨_,q,m,_,hm,rfl⟩
 ·
  exact hx
 ·
  exact ⟨hx.a,by rw [hm];exact iG _ _,hx.c,hx.d⟩
def goesB (n p k:Nat) (x y z:Q4):Bool:=if y.same x then x.same z else chainB n p k y z
theorem uV {n p k:Nat} {x z:Q4} (h:chainB n p (k+1) x z=true):∃ y,lowN n p x=some y∧goesB n p k x y z=true:=by
 rw [chainB] at h
 split at h
 ·
  cases h
 ·
  exact ⟨_,by assumption,h⟩
theorem goes_end {n p k:Nat} {x y z:Q4} (h:goesB n p k x y z=true) (e:y.same x=true):x=z:=by
 unfold goesB at h
 rw [if_pos e] at h
 exact (Q4.same_iff _ _).1 h
theorem goes_on {n p k:Nat} {x y z:Q4} (h:goesB n p k x y z=true) (e:y.same x=false):∃ j y',k=j+1∧lowN n p y=some y'∧goesB n p j y y' z=true:=by
 unfold goesB at h
 rw [e] at h
 cases k with
 | zero=>cases h
 | succ j =>
  obtain ⟨y',h1,h2⟩:=uV h
  exact ⟨j,y',rfl,h1,h2⟩
theorem fracB_up {n p v c:Nat} (h:fracB n p v c=true):wholeB n p v=true∧∃ y,lowN n p ⟨v,18446744073709551615,0,0⟩=some y∧goesB n p 19 ⟨v,18446744073709551615,0,0⟩ y ⟨v,c,0,0⟩=true:=by
 simp only [fracB,Bool.and_eq_true] at h
 exact ⟨h.1,uV h.2⟩
attribute [local irreducible] lowN chainB goesB fracB wholeB Q4.same
set_option maxRecDepth 100000 in
theorem pP (n p v c:Nat) (w:World) (hn:n<18446744073709551616) (hp:p=2∨p=3) (hv:v≤60) (h:fracB n p v c=true):Calls zP 124 #[.int .u64 n,.int .i64 p] w fun e w'=>e=.returned (.int .u64 (c:Int))∧Below w.heap.size w w':=by
 obtain ⟨hw,y0,hy0,hg0⟩:=fracB_up h
 clear h
 have hx0:(Q4.mk v 18446744073709551615 0 0).ok:=⟨by simp only;omega,by simp,by simp,by simp⟩
 have ew:=whole_any n p v w hn (by omega) hv hw
 obtain ⟨x0,e0⟩:∃ q,q=Q4.mk v 18446744073709551615 0 0:=⟨_,rfl⟩
 rw [←e0] at hy0 hg0 hx0
 have e0l:us x0.l=#[.int .u64 (v:Int),.int .u64 18446744073709551615,.int .u64 0,.int .u64 0]:=by rw [e0];rfl
 clear e0
 have f0:=(Fr.start w).row (us [0,0,0,0]) 158 (g:=w.heap.size) rfl
 have k0:=f0.get (g:=w.heap.size) (t:=158) (cs:=us [0,0,0,0]) (by simp)
 have f1:=f0.setRowHead (by simp<;>omega) (by simp<;>omega) (us x0.l) (by omega)
 rw [iP] at k0 f1
 have k1:=f1.get (g:=w.heap.size) (t:=158) (cs:=us x0.l) (by simp)
 have F1:=Lib.hid f1
 have HG:=Lib.hid hg0
 have HY:=Lib.hid hy0
 have EW:=Lib.hid ew
 clear f0 f1 hw hg0 hy0 ew
 go_enter Tryz.func124,Tryz.ntmps124
 go_wp2_with (fail)
 refine EW.out.mono ?_
 rintro e w' ⟨rfl,rfl⟩
 have E0:=Lib.hid e0l
 clear e0l
 go_wp2_with (first | (refine wpList_store_row rfl 158 (.tmp 5) (.tmp 10) rfl (w.heap.size) (us x0.l) rfl (by rw [E0.out];rfl) 158 (_) k0 (cA bO rfl) rfl (dQ _) ?_) | (refine wpList_load_row rfl 158 (.tmp 5) rfl (w.heap.size) rfl 158 (us x0.l) (0,0) _ k1 Tryz.underlying158 rfl (cA bO rfl) ?_))
 refine (rG x0 y0 n p _ hx0 hn hp HY.out).mono ?_
 rintro e v1 ⟨rfl,hb⟩
 clear k0 k1
 have f2:=F1.out.ext hb
 have hv1:w.heap.size<v1.heap.size:=by have:=hb.size;simp at this;omega
 have f3:=f2.row (us [0,0,0,0]) 158 rfl
 generalize hg6:v1.heap.size=g6 at *
 have k6:=f3.get (g:=g6) (t:=158) (cs:=us [0,0,0,0]) (by simp)
 have f4:=f3.setRowHead (by simp<;>omega) (by simp<;>omega) (us y0.l) (by omega)
 rw [iP] at k6 f4
 have F4:=Lib.hid f4
 clear f2 f3 f4 hb F1
 go_wp2_with (first | (refine wpList_store_row rfl 158 (.tmp 6) (.tmp 14) rfl (g6) (us y0.l) rfl rfl 158 (_) k6 (cA bO rfl) rfl (dQ _) ?_))
 clear k6
 try simp only [Act.put,lA,lB,lC,lD,lE,lF]
 go_loopg [6] 19 (fun gk q wr=>∃ (g:Nat) (x y:Q4),q=.pointer (some ⟨g,0,none⟩)∧x.ok∧Hid (lowN n p x=some y)∧Hid (goesB n p gk x y ⟨v,c,0,0⟩=true)∧w.heap.size<g∧Fr w wr [(g,158,us y.l),(w.heap.size,158,us x.l)] [])
 case atStart=>exact ⟨g6,x0,y0,rfl,hx0,HY,HG,hv1,F4.out⟩
 case round =>
  clear F4 HY HG hg6 hv1
  obtain ⟨g,x,y,rfl,hx,hl,hgo,hg,hF⟩:=hrel
  have ky:=hF.get (g:=g) (t:=158) (cs:=us y.l) (by simp)
  have kx:=hF.get (g:=w.heap.size) (t:=158) (cs:=us x.l) (by simp)
  have HF:=Lib.hid hF
  clear hF
  have hyo:=lowN_ok hx hl.out
  cases hs:y.same x
  ·
   obtain ⟨j,y',rfl,h1,h2⟩:=goes_on hgo.out hs
   have he:=wN y x false hs
   have H1:=Lib.hid h1
   have H2:=Lib.hid h2
   clear hs h1 h2 hgo hl
   have f1:Fr w (wr.setRow (w.heap.size) (us y.l)) [(w.heap.size,158,us y.l),(g,158,us y.l)] []:=(HF.out.sub (L':=[(w.heap.size,158,us x.l),(g,158,us y.l)]) (by simp) (by simp)).setRowHead (by simp<;>omega) (by simp<;>omega) (us y.l) (Nat.le_refl _)
   have k6:=f1.get (g:=g) (t:=158) (cs:=us y.l) (by simp)
   have hsz:(wr.setRow (w.heap.size) (us y.l)).heap.size=wr.heap.size:=by simp [World.setRow]
   have f2:=f1.row (us [0,0,0,0]) 158 (g:=wr.heap.size) hsz.symm
   have hg1:w.heap.size<wr.heap.size:=kx.lt
   have hg2:g<wr.heap.size:=ky.lt
   have k7:=f2.get (g:=wr.heap.size) (t:=158) (cs:=us [0,0,0,0]) (by simp)
   have f3:=f2.setRowHead (by simp<;>omega) (by simp<;>omega) (us y.l) (by omega)
   rw [iP] at k7 f3
   have k8:=f3.get (g:=w.heap.size) (t:=158) (cs:=us y.l) (by simp)
   have F3:=Lib.hid f3
   clear f1 f2 f3 HF
   go_wp2_with (first | (refine wpList_load_row rfl 158 (.tmp 6) rfl (g) rfl 158 (us y.l) (0,0) _ ky Tryz.underlying158 rfl (cA bO rfl) ?_) | (refine wpList_load_row rfl 158 (.tmp 5) rfl (w.heap.size) rfl 158 (us x.l) (0,0) _ kx Tryz.underlying158 rfl (cA bO rfl) ?_) | (refine wpList_store_row rfl 158 (.tmp 5) (.tmp 22) rfl (w.heap.size) (us y.l) rfl rfl 158 (_) kx (cA bO rfl) rfl (dQ _) ?_) | (refine wpList_load_row rfl 158 (.tmp 6) rfl (g) rfl 158 (us y.l) (0,0) _ k6 Tryz.underlying158 rfl (cA bO rfl) ?_) | (refine wpList_store_row rfl 158 (.tmp 6) (.tmp 23) rfl (wr.heap.size) (us y.l) rfl rfl 158 (_) k7 (cA bO rfl) rfl (dQ _) ?_) | (refine wpList_load_row rfl 158 (.tmp 5) rfl (w.heap.size) rfl 158 (us y.l) (0,0) _ k8 Tryz.underlying158 rfl (cA bO rfl) ?_))
   refine (rG y y' n p _ hyo hn hp H1.out).mono ?_
   rintro e v2 ⟨rfl,hb⟩
   have f4:=F3.out.ext hb
   have k9:=f4.get (g:=wr.heap.size) (t:=158) (cs:=us y.l) (by simp)
   have f5:=f4.setRowHead (by simp<;>omega) (by simp<;>omega) (us y'.l) (by omega)
   have f6:=f5.sub (L':=[(wr.heap.size,158,us y'.l),(w.heap.size,158,us y.l)]) (R':=[]) (by simp) (by simp)
   have F6:=Lib.hid f6
   clear f4 f5 f6 hb F3
   go_wp2_with (first | (refine wpList_store_row rfl 158 (.tmp 6) (.tmp 21) rfl (wr.heap.size) (us y'.l) rfl rfl 158 (_) k9 (cA bO rfl) rfl (dQ _) ?_))
   try simp only [Act.put,lA,lB,lC,lD,lE,lF]
   go_roundg j
   case measure=>omega
   case rel=>exact ⟨wr.heap.size,y,y',rfl,hyo,H1,H2,hg1,F6.out⟩
  ·
   obtain rfl:x=_:=goes_end hgo.out hs
   have he:=wN y _ true hs
   clear hs hgo hl
   have c1:=kx.cell 1
   rw [dJ (i:=1) (x:=c) rfl] at c1
   go_wp2_with (first | (refine wpList_load_row rfl 158 (.tmp 6) rfl (g) rfl 158 (us y.l) (0,0) _ ky Tryz.underlying158 rfl (cA bO rfl) ?_) | (refine wpList_load_row rfl 158 (.tmp 5) rfl (w.heap.size) rfl 158 (us _) (0,0) _ kx Tryz.underlying158 rfl (cA bO rfl) ?_))
   go_ret
   exact ⟨rfl,HF.out.below⟩
structure PM (w:World):Prop where
 lt:2<w.heap.size
 c:∀ i,i<80→w.cell? ⟨2,i,none⟩=some (.int .u64 ((PR.getD i 0:Nat):Int))
theorem PM.below {w w':World} {B:Nat} (h:PM w) (hb:Below B w w') (hB:2<B) (hs:w.heap.size≤w'.heap.size):PM w' :=
 ⟨Nat.lt_of_lt_of_le h.lt hs,fun i hi=>(hb.cell (p:=⟨2,i,none⟩) hB).trans (h.c i hi)⟩
theorem PM.ext {w w':World} (h:PM w) (hb:Below w.heap.size w w'):PM w':=h.below hb h.lt hb.size
theorem PM.drew {w:World} (h:PM w):PM w.drew:=⟨h.1,h.2⟩
theorem _root_.Go.Proofs.YtpagiffbjofihaaGreatDoor.Fr.pm {w W:World} {L:List (Nat × TypeId × Array Value)} {R:List (Nat × TypeId × Nat)} (h:Fr w W L R) (hp:PM w):PM W:=hp.ext h.below
theorem low_ok:((List.range 80).all fun i=>Nat.ble (PR.getD i 0) 500&&(Nat.ble (rt2 (PR.getD i 0)) 60&&Nat.ble (rt3 (PR.getD i 0)) 60))=true:=by decide +kernel
theorem low_at {i:Nat} (hi:i<80):PR.getD i 0≤500∧rt2 (PR.getD i 0)≤60∧rt3 (PR.getD i 0)≤60:=by
 have h:=List.all_eq_true.1 low_ok i (List.mem_range.2 hi)
 simp only [Bool.and_eq_true] at h
 exact ⟨Nat.le_of_ble_eq_true h.1,Nat.le_of_ble_eq_true h.2.1,Nat.le_of_ble_eq_true h.2.2⟩
theorem start_at {i:Nat} (hi:i<8):fracB (PR.getD i 0) 2 (rt2 (PR.getD i 0)) (HS.getD i 0)=true:=List.all_eq_true.1 start_ok i (List.mem_range.2 hi)
theorem const_at {i:Nat} (hi:i<80):fracB (PR.getD i 0) 3 (rt3 (PR.getD i 0)) (HK.getD i 0)=true:=List.all_eq_true.1 const_ok i (List.mem_range.2 hi)
def WPost (c:Nat) (w:World) (e:Ending) (w':World):Prop:=e=.returned (.int .u64 (c:Int))∧Below w.heap.size w w'
attribute [local irreducible] PR HS HK rt2 rt3
theorem start_in (k:Nat) (w:World) (hk:k<8) (hp:PM w):Calls zP 114 #[.int .i64 k] w (WPost (HS.getD k 0) w):=by
 have hc:=hp.c k (by omega)
 obtain ⟨l1,l2,l3⟩:=low_at (show k<80 by omega)
 have hf:=start_at hk
 generalize HH:HS.getD k 0=c at *
 generalize rt2 (PR.getD k 0)=v at *
 generalize PR.getD k 0=p at *
 have hx:=fun W=>pP p 2 v c W (by omega) (by omega) (by omega) hf
 have HX:=Lib.hid hx
 clear hx hf HH l2 l3
 go_enter Tryz.func114,Tryz.ntmps114
 go_wp2_with (fail)
 refine (HX.out _).mono ?_
 rintro e w' ⟨rfl,hb⟩
 go_wp2_with (fail)
 go_ret
 exact ⟨rfl,hb⟩
theorem constant_in (k:Nat) (w:World) (hk:k<80) (hp:PM w):Calls zP 115 #[.int .i64 k] w (WPost (HK.getD k 0) w):=by
 have hc:=hp.c k (by omega)
 obtain ⟨l1,l2,l3⟩:=low_at (show k<80 by omega)
 have hf:=const_at hk
 generalize HH:HK.getD k 0=c at *
 generalize rt3 (PR.getD k 0)=v at *
 generalize PR.getD k 0=p at *
 have hx:=fun W=>pP p 3 v c W (by omega) (by omega) (by omega) hf
 have HX:=Lib.hid hx
 clear hx hf HH l2 l3
 go_enter Tryz.func115,Tryz.ntmps115
 go_wp2_with (fail)
 refine (HX.out _).mono ?_
 rintro e w' ⟨rfl,hb⟩
 go_wp2_with (fail)
 go_ret
 exact ⟨rfl,hb⟩
end Sha
end
section
namespace Sha
open Go Go.RowKit
def fill (l:List Nat) (k:Nat):List Nat:=l.take k++List.replicate (l.length-k) 0
theorem fill_len {l:List Nat} {k:Nat} (h:k≤l.length):(fill l k).length=l.length:=by simp [fill];omega
theorem qT (l:List Nat):fill l l.length=l:=by simp [fill]
theorem uG {l:List Nat} {k:Nat} (h:k<l.length):(fill l k).set k (l.getD k 0)=fill l (k+1):=by
 have e:l.length-k=(l.length-(k+1))+1:=by omega
 have e2:l.take (k+1)=l.take k++[l.getD k 0]:=by rw [List.take_succ_eq_append_getElem h];simp [List.getD,h]
 have e3:(l.take k).length=k:=by simp;omega
 unfold fill
 rw [e,List.replicate_succ,List.set_append_right _ _ (by omega),e2,e3]
 simp
theorem uH {l:List Nat} {k:Nat} (h:k<l.length):(fill l k)[k]?=some 0:=by
 have e3:(l.take k).length=k:=by simp;omega
 unfold fill
 rw [List.getElem?_append_right (by omega),e3,Nat.sub_self,List.getElem?_replicate,if_pos (by omega)]
theorem oQ:us (fill HS 0)=#[.int .u64 0,.int .u64 0,.int .u64 0,.int .u64 0,.int .u64 0,.int .u64 0,.int .u64 0,.int .u64 0]:=rfl
theorem rL:(us (fill HS 0)).size=8:=rfl
theorem zlen_HK:(us (fill HK 0)).size=80:=rfl
theorem oO (w:World):(zeroValue 126).run zP w=.ok (.agg (us (fill HK 0))) w:=by kernel_rfl
attribute [local irreducible] HS HK PR fill
set_option maxRecDepth 100000 in
theorem starts_any (w:World) (hp:PM w):Calls zP 90 #[] w (RowPost HS w):=by
 have f0:=((Fr.start w).any (us (fill HS 0)) 124 8 rL (g:=w.heap.size) rfl).row (us (fill HS 0)) 124 (g:=w.heap.size+1) (by simp)
 rw [oQ] at f0
 have F0:=Lib.hid f0
 have HP:=Lib.hid hp
 clear f0 hp
 go_enter Tryz.func90,Tryz.ntmps90
 go_wp2_with (fail)
 go_loopw [3] (fun c wr=>∃ k:Nat,k≤8∧c=.int .i64 k∧Fr w wr [(w.heap.size+1,124,us (fill HS k))] [(w.heap.size,124,8)]) (fun c _=>8-(intOf c).toNat)
 case atStart=>exact ⟨0,by omega,rfl,by rw [oQ];exact F0.out⟩
 case round =>
  clear F0
  obtain ⟨k,hk,rfl,hF⟩:=hrel
  have HF:=Lib.hid hF
  clear hF
  by_cases hlt:k<8
  ·
   go_wp2_with (fail)
   refine (start_in k _ hlt (HF.out.pm HP.out)).mono ?_
   rintro e v ⟨rfl,hb⟩
   have f1:=HF.out.ext hb
   have kb:=f1.get (g:=w.heap.size+1) (t:=124) (cs:=us (fill HS k)) (by simp)
   have z1:=kb.frozen k
   have c1:=kb.cell k
   rw [dJ (uH (l:=HS) (by rw [fG];exact hlt))] at c1
   have f2:=f1.setHead (by simp<;>omega) (by simp<;>omega) k (.int .u64 ((HS.getD k 0:Nat):Int)) (by omega)
   rw [gG,uG (by rw [fG];exact hlt)] at f2
   have F2:=Lib.hid f2
   clear f1 f2 hb
   generalize HS.getD k 0=x at *
   go_wp2_with (fail)
   go_round
   case rel=>exact ⟨k+1,by omega,by go_num,F2.out⟩
   case measure=>simp [intOf];omega
  ·
   obtain rfl:k=8:=by omega
   have hf:=HF.out
   have e1:us (fill HS 8)=us HS:=by rw [show (8:Nat)=HS.length from fG.symm,qT]
   rw [e1] at hf
   have k1:=hf.get (g:=w.heap.size+1) (t:=124) (cs:=us HS) (by simp)
   obtain ⟨old,ho,k0⟩:=hf.old (g:=w.heap.size) (t:=124) (n:=8) (by simp)
   have kS:=k0.setRow_same (us HS)
   have hB:=below_setRow hf.below (Nat.le_refl _) (us HS)
   have ho':old.size=(us HS).size:=by rw [ho,kL,fG]
   have KS:=Lib.hid kS
   have HB:=Lib.hid hB
   have HO:=Lib.hid ho'
   have HI:=Lib.hid (cA (T:=124) eM fG)
   clear hf kS hB ho ho' HF e1
   go_wp2_with (first | (refine wpList_load_row rfl 124 (.tmp 1) rfl (w.heap.size+1) rfl 124 (us HS) (0,0) _ k1 Tryz.underlying124 rfl HI.out ?_) | (refine wpList_store_row rfl 124 (.tmp 0) (.tmp 11) rfl (w.heap.size) (us HS) rfl rfl 124 old k0 HI.out HO.out (dQ _) ?_))
   exact jE (n0:=8) rfl eM fG rfl rfl rfl KS.out HB.out
set_option maxRecDepth 100000 in
theorem vM (w:World) (hp:PM w):Calls zP 91 #[] w (RowPost HK w):=by
 have f0:=((Fr.start w).any (us (fill HK 0)) 126 80 zlen_HK (g:=w.heap.size) rfl).row (us (fill HK 0)) 126 (g:=w.heap.size+1) (by simp)
 have hz80:∀ W:World,(zeroValue 126).run zP W=.ok (.agg (us (fill HK 0))) W:=oO
 have F0:=Lib.hid f0
 have HP:=Lib.hid hp
 clear f0 hp
 go_enter Tryz.func91,Tryz.ntmps91
 go_wp2_with (fail)
 go_loopw [3] (fun c wr=>∃ k:Nat,k≤80∧c=.int .i64 k∧Fr w wr [(w.heap.size+1,126,us (fill HK k))] [(w.heap.size,126,80)]) (fun c _=>80-(intOf c).toNat)
 case atStart=>exact ⟨0,by omega,rfl,F0.out⟩
 case round =>
  clear F0
  obtain ⟨k,hk,rfl,hF⟩:=hrel
  have HF:=Lib.hid hF
  clear hF
  by_cases hlt:k<80
  ·
   go_wp2_with (fail)
   refine (constant_in k _ hlt (HF.out.pm HP.out)).mono ?_
   rintro e v ⟨rfl,hb⟩
   have f1:=HF.out.ext hb
   have kb:=f1.get (g:=w.heap.size+1) (t:=126) (cs:=us (fill HK k)) (by simp)
   have z1:=kb.frozen k
   have c1:=kb.cell k
   rw [dJ (uH (l:=HK) (by rw [eT];exact hlt))] at c1
   have f2:=f1.setHead (by simp<;>omega) (by simp<;>omega) k (.int .u64 ((HK.getD k 0:Nat):Int)) (by omega)
   rw [gG,uG (by rw [eT];exact hlt)] at f2
   have F2:=Lib.hid f2
   clear f1 f2 hb
   generalize HK.getD k 0=x at *
   go_wp2_with (fail)
   go_round
   case rel=>exact ⟨k+1,by omega,by go_num,F2.out⟩
   case measure=>simp [intOf];omega
  ·
   obtain rfl:k=80:=by omega
   have hf:=HF.out
   have e1:us (fill HK 80)=us HK:=by rw [show (80:Nat)=HK.length from eT.symm,qT]
   rw [e1] at hf
   have k1:=hf.get (g:=w.heap.size+1) (t:=126) (cs:=us HK) (by simp)
   obtain ⟨old,ho,k0⟩:=hf.old (g:=w.heap.size) (t:=126) (n:=80) (by simp)
   have kS:=k0.setRow_same (us HK)
   have hB:=below_setRow hf.below (Nat.le_refl _) (us HK)
   have ho':old.size=(us HK).size:=by rw [ho,kL,eT]
   have KS:=Lib.hid kS
   have HB:=Lib.hid hB
   have HO:=Lib.hid ho'
   have HI:=Lib.hid (cA (T:=126) mA eT)
   clear hf kS hB ho ho' HF e1
   go_wp2_with (first | (refine wpList_load_row rfl 126 (.tmp 1) rfl (w.heap.size+1) rfl 126 (us HK) (0,0) _ k1 Tryz.underlying126 rfl HI.out ?_) | (refine wpList_store_row rfl 126 (.tmp 0) (.tmp 11) rfl (w.heap.size) (us HK) rfl rfl 126 old k0 HI.out HO.out (dQ _) ?_))
   exact jE (n0:=80) rfl mA eT rfl rfl rfl KS.out HB.out
end Sha
end
section
namespace Sha
structure S8 where
 a:Nat
 b:Nat
 c:Nat
 d:Nat
 e:Nat
 f:Nat
 g:Nat
 h:Nat
def S8.l (s:S8):List Nat:=[s.a,s.b,s.c,s.d,s.e,s.f,s.g,s.h]
structure S8.ok (s:S8):Prop where
 a:s.a<18446744073709551616
 b:s.b<18446744073709551616
 c:s.c<18446744073709551616
 d:s.d<18446744073709551616
 e:s.e<18446744073709551616
 f:s.f<18446744073709551616
 g:s.g<18446744073709551616
 h:s.h<18446744073709551616
def chN (e f g:Nat):Nat:=e &&& f ^^^ (18446744073709551615-e) &&& g
def majN (a b c:Nat):Nat:=a &&& b ^^^ a &&& c ^^^ b &&& c
def xN (k w:Nat) (s:S8):Nat:=((((s.h+turnN s.e 14 18 41)%18446744073709551616+chN s.e s.f s.g)%18446744073709551616+k)%18446744073709551616+w)%18446744073709551616
def yN (s:S8):Nat:=(turnN s.a 28 34 39+majN s.a s.b s.c)%18446744073709551616
def rnd (k w:Nat) (s:S8):S8:=⟨(xN k w s+yN s)%18446744073709551616,s.a,s.b,s.c,(s.d+xN k w s)%18446744073709551616,s.e,s.f,s.g⟩
theorem rnd_ok {k w:Nat} {s:S8} (h:s.ok):(rnd k w s).ok:=⟨Nat.mod_lt _ (by omega),h.a,h.b,h.c,Nat.mod_lt _ (by omega),h.e,h.f,h.g⟩
def rnds (K W:List Nat) (s:S8):Nat→S8
 | 0=>s
 | n+1=>rnd (K.getD n 0) (W.getD n 0) (rnds K W s n)
theorem yH {K W:List Nat} {s:S8} (h:s.ok):∀ n,(rnds K W s n).ok
 | 0=>h
 | n+1=>rnd_ok (yH h n)
def sw (p:List Nat) (t:Nat):Nat:=(((p.getD (t-16) 0+mixN (p.getD (t-15) 0) 1 8 7)%18446744073709551616+p.getD (t-7) 0)%18446744073709551616+mixN (p.getD (t-2) 0) 19 61 6)%18446744073709551616
def sched (l:List Nat):Nat→List Nat
 | 0=>l
 | n+1=>(sched l n).set (16+n) (sw (sched l n) (16+n))
theorem mR (l:List Nat):∀ n,(sched l n).length=l.length
 | 0=>rfl
 | n+1=>by rw [sched,List.length_set,mR l n]
theorem sP {l:List Nat} (h:∀ x∈l,x<18446744073709551616):∀ n,∀ x∈sched l n,x<18446744073709551616
 | 0=>h
 | n+1=>fun x hx=>by
  rcases List.mem_or_eq_of_mem_set hx with hx | rfl
  ·
   exact sP h n x hx
  ·
   exact Nat.mod_lt _ (by omega)
def be (l:List Nat):Nat:=l.foldl (fun w x=>w*256+x) 0
theorem zN (l:List Nat) (x:Nat):be (l++[x])=be l*256+x:=by simp [be]
theorem be_lt:∀ (n:Nat) (l:List Nat),l.length=n→(∀ x∈l,x<256)→be l<256^n
 | 0,l,h,_=>by rw [List.eq_nil_of_length_eq_zero h];decide
 | n+1,l,h,hb=>by
  have hne:l≠[]:=by intro e;rw [e] at h;simp at h
  rw [←List.dropLast_concat_getLast hne,zN,Nat.pow_succ]
  have h1:=be_lt n l.dropLast (by simp [h]) (fun x hx=>hb x (List.dropLast_subset l hx))
  have h2:=hb _ (List.getLast_mem hne)
  omega
def word8 (bl:List Nat) (i:Nat):Nat:=be ((bl.drop (8*i)).take 8)
theorem word8_lt {bl:List Nat} (hb:∀ x∈bl,x<256) {i:Nat} (hi:8*i+8≤bl.length):word8 bl i<18446744073709551616:=by
 have:=be_lt 8 ((bl.drop (8*i)).take 8) (by simp;omega) (fun x hx=>hb x (List.mem_of_mem_drop (List.mem_of_mem_take hx)))
 exact this
def wordsTo (bl:List Nat) (n:Nat):List Nat:=(List.range n).map (word8 bl)++List.replicate (80-n) 0
theorem hJ {bl:List Nat} {n:Nat} (h:n≤80):(wordsTo bl n).length=80:=by simp [wordsTo];omega
theorem wordsTo_set {bl:List Nat} {n:Nat} (h:n<80):(wordsTo bl n).set n (word8 bl n)=wordsTo bl (n+1):=by
 have e:80-n=(80-(n+1))+1:=by omega
 unfold wordsTo
 rw [e,List.replicate_succ,List.set_append_right _ _ (by simp),List.range_succ,List.map_append]
 simp
theorem sF {bl:List Nat} (hb:∀ x∈bl,x<256) (hl:bl.length=128) {n:Nat} (hn:n≤16):∀ x∈wordsTo bl n,x<18446744073709551616:=by
 intro x hx
 rcases List.mem_append.1 hx with hx | hx
 ·
  obtain ⟨i,hi,rfl⟩:=List.mem_map.1 hx
  exact word8_lt hb (by have:=List.mem_range.1 hi;omega)
 ·
  rw [(List.mem_replicate.1 hx).2];omega
def addS (s t:S8):S8:=⟨(s.a+t.a)%18446744073709551616,(s.b+t.b)%18446744073709551616,(s.c+t.c)%18446744073709551616,(s.d+t.d)%18446744073709551616,(s.e+t.e)%18446744073709551616,(s.f+t.f)%18446744073709551616,(s.g+t.g)%18446744073709551616,(s.h+t.h)%18446744073709551616⟩
theorem addS_ok (s t:S8):(addS s t).ok:=⟨Nat.mod_lt _ (by omega),Nat.mod_lt _ (by omega),Nat.mod_lt _ (by omega),Nat.mod_lt _ (by omega),Nat.mod_lt _ (by omega),Nat.mod_lt _ (by omega),Nat.mod_lt _ (by omega),Nat.mod_lt _ (by omega)⟩
def press (bl:List Nat) (h:S8):S8:=addS (rnds HK (sched (wordsTo bl 16) 64) h 80) h
def blocks (l:List Nat) (h:S8):Nat→S8
 | 0=>h
 | n+1=>press ((l.drop (128*n)).take 128) (blocks l h n)
theorem xK {l:List Nat} {h:S8} (hh:h.ok):∀ n,(blocks l h n).ok
 | 0=>hh
 | n+1=>addS_ok _ _
theorem jT (l m:List Nat) (h:S8):∀ n,128*n≤l.length→blocks (l++m) h n=blocks l h n
 | 0,_=>rfl
 | n+1,hn=>by
  rw [blocks,blocks,jT l m h n (by omega),List.drop_append_of_le_length (by omega),List.take_append_of_le_length (by simp;omega)]
def H0:S8:=⟨7640891576956012808,13503953896175478587,4354685564936845355,11912009170470909681,5840696475078001361,11170449401992604703,2270897969802886507,6620516959819538809⟩
theorem H0_l:H0.l=HS:=rfl
theorem H0_ok:H0.ok:=by constructor<;>decide
def b8 (x:Nat):List Nat:=[x/72057594037927936%256,x/281474976710656%256,x/1099511627776%256,x/4294967296%256,x/16777216%256,x/65536%256,x/256%256,x%256]
def padL (n:Nat):Nat:=if 128-n%128<17 then 128-n%128+128 else 128-n%128
def pad (n:Nat):List Nat:=128::(List.replicate (padL n-17) 0++(b8 (8*n/18446744073709551616)++b8 (8*n%18446744073709551616)))
theorem mW (n:Nat):17≤padL n:=by unfold padL;split<;>omega
theorem pad_len (n:Nat):(pad n).length=padL n:=by
 have:=mW n
 simp [pad,b8];omega
theorem pad_whole (n:Nat):(n+padL n)%128=0:=by unfold padL;split<;>omega
def full (l:List Nat):List Nat:=l++pad l.length
def outS (s:S8):List Nat:=b8 s.a++(b8 s.b++(b8 s.c++(b8 s.d++(b8 s.e++(b8 s.f++(b8 s.g++b8 s.h))))))
def hashS (l:List Nat):S8:=blocks (full l) H0 ((full l).length/128)
def hashN (l:List Nat):List Nat:=outS (hashS l)
end Sha
end
section
namespace Sha
open Go Go.RowKit
def bn (l:List UInt8):List Nat:=l.map UInt8.toNat
theorem iF (l:List UInt8):(bn l).length=l.length:=by simp [bn]
theorem bn_lt (l:List UInt8):∀ x∈bn l,x<256:=by
 intro x hx
 obtain ⟨y,_,rfl⟩:=List.mem_map.1 hx
 exact zI y
theorem be_take {l:List UInt8} {k:Nat} {x:UInt8} (h:l[k]?=some x):be (bn (l.take (k+1)))=be (bn (l.take k))*256+x.toNat:=by
 obtain ⟨hk,hx⟩:=List.getElem?_eq_some_iff.1 h
 rw [List.take_succ_eq_append_getElem hk,hx,bn,List.map_append,List.map_singleton,zN,bn]
theorem or_byte64 (a:Nat) (x:UInt8) (h:a<72057594037927936):bits .or .u64 ((a:Int)*256) (x.toNat:Int)=((a*256+x.toNat:Nat):Int):=by
 have hx:=zI x
 have e:(a:Int)*256=((a*256:Nat):Int):=(Int.natCast_mul a 256).symm
 rw [e,u64_or_nat _ _ (by omega) (by omega)]
 have:=Nat.two_pow_add_eq_or_of_lt (i:=8) (b:=x.toNat) (by omega) a
 rw [show (2:Nat)^8=256 by decide] at this
 rw [Nat.mul_comm a 256,this]
theorem be_small {l:List UInt8} {k:Nat} (hk:k≤7):be (bn (l.take k))<72057594037927936:=by
 have h1:=be_lt (bn (l.take k)).length (bn (l.take k)) rfl (bn_lt _)
 have h2:(bn (l.take k)).length≤7:=by rw [iF,List.length_take];omega
 exact Nat.lt_of_lt_of_le h1 (Nat.pow_le_pow_right (n:=256) (by omega) h2)
attribute [local irreducible] be
theorem hget_any (A:Option Addr) (n c B:Nat) (l:List UInt8) (w:World) (hl:BS w B A n c l) (h2:n≤8) :
  Calls zP 130 #[.slice A n c] w fun e w'=>e=.returned (.int .u64 (be (bn l):Nat))∧w=w':=by
 go_enter Tryz.func130,Tryz.ntmps130
 go_wp2
 go_loop [3,8] (fun a i=>∃ k:Nat,k≤n∧i=.int .i64 k∧∃ m:Nat,a=.int .u64 m∧Hid (m=be (bn (l.take k)))) (fun _ i=>n-(intOf i).toNat)
 case atStart=>exact ⟨0,Nat.zero_le _,rfl,0,rfl,Lib.hid (by unfold be;rfl)⟩
 case round =>
  obtain ⟨k,hk,rfl,m,rfl,hm⟩:=hrel
  by_cases hlt:k<n
  ·
   obtain ⟨b,o,x,rfl,hb,hx,hc⟩:=hl.at' hlt
   have hx2:=be_take hx
   have hml:m<72057594037927936:=by rw [hm.out];exact be_small (by omega)
   have hxb:=zI x
   have hor:=or_byte64 m x hml
   rw [hm.out,←hx2] at hor
   rw [←hm.out] at hor
   have HX:=Lib.hid hx2
   have HY:=Lib.hid hx
   obtain ⟨m2,e2⟩:∃ q,q=be (bn (l.take (k+1))):=⟨_,rfl⟩
   rw [←e2] at hor
   have E2:=Lib.hid e2
   clear hx2 hx e2 hm
   go_wp2
   go_round
   case rel=>exact ⟨k+1,by omega,by go_num,m2,rfl,E2⟩
   case measure=>simp [intOf];omega
  ·
   obtain rfl:k=n:=by omega
   have e9:m=be (bn l):=by rw [hm.out,List.take_of_length_le (by rw [hl.len];omega)]
   have E9:=Lib.hid e9
   clear e9 hm
   go_wp2
   go_ret
   refine ⟨?_,rfl⟩
   rw [←E9.out]
   rfl
theorem _root_.Go.Proofs.YtpagiffbjofihaaGreatDoor.BS.mid {P:Program} (t e:TypeId) (ht:P.underlying t=some (.slice e)) (he:(P.info? e).map (fun i=>(i.zero,i.size,i.bytes))=some (some (.int .u8 0),1,1)) {w:World} {B n c:Nat} {A:Option Addr} {l:List UInt8}
  (h:BS w B A n c l) {i j:Nat} (hij:i<j) (hj:j≤n) :
  ∃ A',(∀ W,(Instr.slice t (.slice A n c) (some (.int .i64 (i:Int))) (some (.int .i64 (j:Int))) none).run P W=.ok (.slice A' (j-i) (c-i)) W)∧BS w B A' (j-i) (c-i) ((l.drop i).take (j-i)):=by
 obtain ⟨A',h1,h2⟩:=h.tail t e ht he (k:=i) (by omega)
 have hel:P.elem t=e:=by simp [Program.elem,ht]
 have hnc:=h.cap
 refine ⟨A',fun W=>?_,h2.head2 (by omega)⟩
 have h3:=h1 W
 rw [run_slice_l W t A n c (by rw [hel];exact ht) _ _ (by omega) (by omega),hel,fH he] at h3
 rw [run_slice_lh W t A n c (by rw [hel];exact ht) _ _ _ _ (by omega) (by omega) (by omega),hel,fH he]
 simp only [Result.andThen,sliced,Int.toNat_natCast,Nat.mul_one] at h3 ⊢
 injection h3 with h3
 injection h3 with h4 h5 h6
 rw [h4]
def putC (cs:Array Value) (o x:Nat):Nat→Array Value
 | 0=>cs
 | j+1=>(putC cs o x j).setIfInBounds (o+7-j) (.int .u8 ((x/256^j%256:Nat):Int))
theorem putC_at (cs:Array Value) (o x:Nat):∀ j i,i<8-j→j≤8→(putC cs o x j)[o+i]?=cs[o+i]?
 | 0,_,_,_=>rfl
 | j+1,i,hi,hj=>by
  rw [putC,Array.getElem?_setIfInBounds_ne (by omega)]
  exact putC_at cs o x j i (by omega) (by omega)
theorem uW (x j:Nat):(x:Int)/2^(8*j)%256=((x/256^j%256:Nat):Int):=by
 have h:(x:Int)/2^(8*j)=((x/256^j:Nat):Int):=by
  rw [show (256:Nat)^j=2^(8*j) by rw [show (256:Nat)=2^8 from rfl,←Nat.pow_mul]]
  push_cast
  rfl
 rw [h]
 omega
def PutPost (g:Nat) (t:TypeId) (cs:Array Value) (w:World) (e:Ending) (w':World):Prop:=e=.returned (.tuple #[])∧Blk w' g t cs∧w.grownBy w' (some g)
theorem pN (g o c:Nat) (t:TypeId) (cs:Array Value) (x:Nat) (w:World) (hx:x<18446744073709551616) (hc8:8≤c) (hb:Blk w g t cs) (hcs:∀ i,i<8→∃ y:Int,cs[o+i]?=some (.int .u8 y)) :
  Calls zP 118 #[.slice (some ⟨g,o,none⟩) 8 c,.int .u64 x] w (PutPost g t (putC cs o x 8) w):=by
 go_enter Tryz.func118,Tryz.ntmps118
 go_wp2
 go_loopw [7] (fun i wr=>∃ j:Nat,j≤8∧i=.int .i64 j∧Blk wr g t (putC cs o x j)∧w.grownBy wr (some g)) (fun i _=>8-(intOf i).toNat)
 case atStart=>exact ⟨0,by omega,rfl,hb,World.grownBy.refl _ _⟩
 case round =>
  clear hb
  obtain ⟨j,hj,rfl,hB,hg⟩:=hrel
  by_cases hlt:j<8
  ·
   obtain ⟨y,hy⟩:=hcs (7-j) (by omega)
   have hc:wr.cell? ⟨g,o+(7-j),none⟩=some (.int .u8 y):=by rw [hB.cell,putC_at cs o x j (7-j) (by omega) (by omega),hy]
   have hf:=hB.frozen (o+(7-j))
   have h8:(8:Int)*(j:Int)<65:=by omega
   have hset:=hB.set_ (o+7-j) (.int .u8 ((x/256^j%256:Nat):Int))
   have hgr:=eG hg (gE wr g (o+7-j) (.int .u8 ((x/256^j%256:Nat):Int)))
   have e1:o+7-j=o+(7-j):=by omega
   rw [e1] at hset hgr
   have hset2:Blk (wr.setCell ⟨g,o+(7-j),none⟩ (.int .u8 ((x/256^j%256:Nat):Int))) g t (putC cs o x (j+1)):=by rw [putC,e1];exact hset
   have hbn:=uW x j
   have HS:=Lib.hid hset2
   have HG:=Lib.hid hgr
   have HN:=Lib.hid hbn
   clear hset hset2 hgr hbn hy hcs
   go_wp2
   go_roundw
   case rel =>
    refine ⟨j+1,by omega,by go_num,?_⟩
    rw [HN.out]
    exact ⟨HS.out,HG.out⟩
   case measure=>simp [intOf];omega
  ·
   obtain rfl:j=8:=by omega
   go_wp2
   go_end0
   exact ⟨rfl,hB,hg⟩
end Sha
end
section
namespace Sha
open Go Go.RowKit
theorem eE:(zP.info? 5).map (fun i=>(i.zero,i.size,i.bytes))=some (some (.int .u8 0),1,1):=by kernel_rfl
theorem words_zero (bl:List Nat):wordsTo bl 0=fill HK 0:=by simp [wordsTo,fill,eT]
theorem dN {l:List Nat} {i:Nat} (h:i<l.length):(us l)[i]?=some (.int .u64 ((l.getD i 0:Nat):Int)):=by
 rw [us_get]
 simp [List.getD,h]
 rfl
theorem kH {l:List Nat} {i:Nat} (h:i<l.length):l.getD i 0∈l:=by
 rw [show l.getD i 0=l[i] by simp [List.getD,h]]
 exact List.getElem_mem h
theorem bn_mid (l:List UInt8) (i:Nat):bn ((l.drop (8*i)).take 8)=((bn l).drop (8*i)).take 8:=by simp [bn,List.map_take,List.map_drop]
theorem sO (l:List Nat) (n:Nat):sched l (n+1)=(sched l n).set (16+n) (sw (sched l n) (16+n)):=rfl
attribute [local irreducible] be HK fill wordsTo sched sw
set_option maxRecDepth 100000 in
theorem yB (A:Option Addr) (c B:Nat) (l:List UInt8) (w:World) (hl:BS w B A 128 c l) (hBw:B≤w.heap.size) :
  Calls zP 125 #[.slice A 128 c] w (RowPost (sched (wordsTo (bn l) 16) 64) w):=by
 have hz80:∀ W:World,(zeroValue 126).run zP W=.ok (.agg (us (wordsTo (bn l) 0))) W:=fun W=>by rw [words_zero];exact oO W
 have f0:=((Fr.start w).any (us (wordsTo (bn l) 0)) 126 80 (by rw [kL,hJ (by omega)]) (g:=w.heap.size) rfl).row (us (wordsTo (bn l) 0)) 126 (g:=w.heap.size+1) (by simp)
 have F0:=Lib.hid f0
 have hcap:=hl.cap
 have hlen:(bn l).length=128:=by rw [iF,hl.len]
 have HL:=Lib.hid hl
 have HN:=Lib.hid hlen
 clear f0 hl hlen
 go_enter Tryz.func125,Tryz.ntmps125
 go_wp2_with (fail)
 go_loopw [6] (fun i wr=>∃ k:Nat,k≤16∧i=.int .i64 k∧Fr w wr [(w.heap.size+1,126,us (wordsTo (bn l) k))] [(w.heap.size,126,80)]) (fun i _=>16-(intOf i).toNat)
 case atStart=>exact ⟨0,by omega,rfl,F0.out⟩
 case round =>
  clear F0
  obtain ⟨k,hk,rfl,hF⟩:=hrel
  have HF:=Lib.hid hF
  clear hF
  by_cases hlt:k<16
  ·
   obtain ⟨A',hsl,hm⟩:=HL.out.mid (P:=zP) 24 5 Tryz.underlying24 eE (i:=8*k) (j:=8*k+8) (by omega) (by omega)
   rw [show 8*k+8-8*k=8 by omega] at hsl hm
   rw [show ((8*k:Nat):Int)=(k:Int)*8 by omega,show ((8*k+8:Nat):Int)=((k:Int)+1)*8 by omega] at hsl
   have hget:=fun (W:World) (h:Below w.heap.size w W)=>hget_any A' 8 (c-8*k) B _ W (hm.below (h.mono hBw)) (by omega)
   rw [bn_mid] at hget
   have hset:=wordsTo_set (bl:=bn l) (n:=k) (by omega)
   have hwl:(wordsTo (bn l) k).length=80:=hJ (by omega)
   obtain ⟨x,ex⟩:∃ x,x=word8 (bn l) k:=⟨_,rfl⟩
   rw [show be (((bn l).drop (8*k)).take 8)=x by rw [ex];rfl] at hget
   rw [←ex] at hset
   have hf:=HF.out
   have kb:=hf.get (g:=w.heap.size+1) (t:=126) (cs:=us (wordsTo (bn l) k)) (by simp)
   have z1:=kb.frozen k
   have c1:=kb.cell k
   rw [dN (by omega)] at c1
   have f2:=hf.setHead (by simp<;>omega) (by simp<;>omega) k (.int .u64 (x:Int)) (by omega)
   rw [gG,hset] at f2
   have F2:=Lib.hid f2
   have HG:=Lib.hid hget
   clear hf f2 hget hm ex hset
   go_wp2_with (fail)
   refine (HG.out _ HF.out.below).mono ?_
   rintro e v ⟨rfl,rfl⟩
   go_wp2_with (fail)
   go_roundw
   case rel=>exact ⟨k+1,by omega,by go_num,F2.out⟩
   case measure=>simp [intOf];omega
  ·
   have e16:k=16:=by omega
   have hf:=HF.out
   rw [e16] at hf
   have HF:=Lib.hid hf
   clear hf e16
   have hs0:sched (wordsTo (bn l) 16) 0=wordsTo (bn l) 16:=by unfold sched;rfl
   have HS0:=Lib.hid hs0
   clear hs0
   go_wp2_with (fail)
   go_loopw [5] (fun i wr=>∃ j:Nat,16≤j∧j≤80∧i=.int .i64 (j:Int)∧Fr w wr [(w.heap.size+1,126,us (sched (wordsTo (bn l) 16) (j-16)))] [(w.heap.size,126,80)]) (fun i _=>80-(intOf i).toNat)
   case atStart=>exact ⟨16,by omega,by omega,rfl,by rw [Nat.sub_self,HS0.out];exact HF.out⟩
   case round =>
    clear HF HS0
    obtain ⟨j,hj16,hj,rfl,hF⟩:=hrel
    have hlen:(sched (wordsTo (bn l) 16) (j-16)).length=80:=by rw [mR,hJ (by omega)]
    have hwl:∀ x∈sched (wordsTo (bn l) 16) (j-16),x<18446744073709551616:=sP (sF (bn_lt l) HN.out (by omega)) _
    have hstep:sched (wordsTo (bn l) 16) (j-16+1)=(sched (wordsTo (bn l) 16) (j-16)).set (16+(j-16)) (sw (sched (wordsTo (bn l) 16) (j-16)) (16+(j-16))):=sO _ _
    rw [show 16+(j-16)=j by omega] at hstep
    by_cases hlt:j<80
    ·
     have hsw:sw (sched (wordsTo (bn l) 16) (j-16)) j=((((sched (wordsTo (bn l) 16) (j-16)).getD (j-16) 0+mixN ((sched (wordsTo (bn l) 16) (j-16)).getD (j-15) 0) 1 8 7)%18446744073709551616+(sched (wordsTo (bn l) 16) (j-16)).getD (j-7) 0)%18446744073709551616+mixN ((sched (wordsTo (bn l) 16) (j-16)).getD (j-2) 0) 19 61 6)%18446744073709551616:=by unfold sw;rfl
     have hnx:sched (wordsTo (bn l) 16) (j+1-16)=sched (wordsTo (bn l) 16) (j-16+1):=by rw [show j+1-16=j-16+1 by omega]
     rw [hstep] at hnx
     generalize sched (wordsTo (bn l) 16) (j-16)=p at *
     have kb:=hF.get (g:=w.heap.size+1) (t:=126) (cs:=us p) (by simp)
     have b15:p.getD (j-15) 0<18446744073709551616:=hwl _ (kH (by omega))
     have b2:p.getD (j-2) 0<18446744073709551616:=hwl _ (kH (by omega))
     have c16:=kb.cell (j-16)
     rw [dN (by omega)] at c16
     have c15:=kb.cell (j-15)
     rw [dN (by omega)] at c15
     have c7:=kb.cell (j-7)
     rw [dN (by omega)] at c7
     have c2:=kb.cell (j-2)
     rw [dN (by omega)] at c2
     have c0:=kb.cell j
     rw [dN (by omega)] at c0
     have z1:=kb.frozen j
     obtain ⟨x1,e1⟩:∃ x,x=(p.getD (j-16) 0+mixN (p.getD (j-15) 0) 1 8 7)%18446744073709551616:=⟨_,rfl⟩
     have a1:=cM (p.getD (j-16) 0) (mixN (p.getD (j-15) 0) 1 8 7)
     rw [←e1] at a1 hsw
     obtain ⟨x2,e2⟩:∃ x,x=(x1+p.getD (j-7) 0)%18446744073709551616:=⟨_,rfl⟩
     have a2:=cM x1 (p.getD (j-7) 0)
     rw [←e2] at a2 hsw
     obtain ⟨x3,e3⟩:∃ x,x=(x2+mixN (p.getD (j-2) 0) 19 61 6)%18446744073709551616:=⟨_,rfl⟩
     have a3:=cM x2 (mixN (p.getD (j-2) 0) 19 61 6)
     rw [←e3] at a3 hsw
     have m1:=fun W=>wO (p.getD (j-15) 0) 1 8 7 W b15 (by omega) (by omega) (by omega) (by omega) (by omega)
     have m2:=fun W=>wO (p.getD (j-2) 0) 19 61 6 W b2 (by omega) (by omega) (by omega) (by omega) (by omega)
     have f2:=hF.setHead (by simp<;>omega) (by simp<;>omega) j (.int .u64 (x3:Int)) (by omega)
     rw [hsw] at hnx
     rw [gG,←hnx] at f2
     have kb2:=f2.get (g:=w.heap.size+1) (t:=126) (cs:=us (sched (wordsTo (bn l) 16) (j+1-16))) (by simp)
     rw [hnx] at kb2
     have q4:∀ d,0<d→d≤16→(wr.setCell ⟨w.heap.size+1,j,none⟩ (.int .u64 (x3:Int))).cell? ⟨w.heap.size+1,j-d,none⟩=some (.int .u64 ((p.getD (j-d) 0:Nat):Int)):=fun d d0 d1=>by
      rw [kb2.cell,dN (by rw [List.length_set];omega),List.getD,List.getD,List.getElem?_set_ne (by omega)]
     have Q4S:=Lib.hid (show _∧_∧_∧_ from ⟨q4 16 (by omega) (by omega),q4 15 (by omega) (by omega),q4 7 (by omega) (by omega),q4 2 (by omega) (by omega)⟩)
     have F2:=Lib.hid f2
     clear kb2 q4 e1 e2 e3 f2 hsw hnx hstep hwl hF
     generalize mixN (p.getD (j-15) 0) 1 8 7=n1 at *
     generalize mixN (p.getD (j-2) 0) 19 61 6=n2 at *
     generalize p.getD (j-16) 0=v16 at *
     generalize p.getD (j-15) 0=v15 at *
     generalize p.getD (j-7) 0=v7 at *
     generalize p.getD (j-2) 0=v2 at *
     generalize p.getD j 0=v0 at *
     have i16a:(16:Int)≤(j:Int):=by omega
     have i16b:(j:Int)-16<80:=by omega
     have i16w:IntKind.i64.wrap ((j:Int)-16)=(j:Int)-16:=by rw [IntKind.wrap_i64];omega
     have i16n:((j:Int)-16).toNat=j-16:=by omega
     have i15a:(15:Int)≤(j:Int):=by omega
     have i15b:(j:Int)-15<80:=by omega
     have i15w:IntKind.i64.wrap ((j:Int)-15)=(j:Int)-15:=by rw [IntKind.wrap_i64];omega
     have i15n:((j:Int)-15).toNat=j-15:=by omega
     have i7a:(7:Int)≤(j:Int):=by omega
     have i7b:(j:Int)-7<80:=by omega
     have i7w:IntKind.i64.wrap ((j:Int)-7)=(j:Int)-7:=by rw [IntKind.wrap_i64];omega
     have i7n:((j:Int)-7).toNat=j-7:=by omega
     have i2a:(2:Int)≤(j:Int):=by omega
     have i2b:(j:Int)-2<80:=by omega
     have i2w:IntKind.i64.wrap ((j:Int)-2)=(j:Int)-2:=by rw [IntKind.wrap_i64];omega
     have i2n:((j:Int)-2).toNat=j-2:=by omega
     have M1:=Lib.hid m1
     have M2:=Lib.hid m2
     clear m1 m2
     go_wp2_with (fail)
     refine wp_region_held_drew (S:=fun W=>W.cell? ⟨w.heap.size+1,j-16,none⟩=some (.int .u64 (v16:Int))∧W.cell? ⟨w.heap.size+1,j-15,none⟩=some (.int .u64 (v15:Int))∧W.cell? ⟨w.heap.size+1,j-7,none⟩=some (.int .u64 (v7:Int))∧W.cell? ⟨w.heap.size+1,j-2,none⟩=some (.int .u64 (v2:Int))) (by kernel_rfl) ?_ (fun hHeld=>?_)
     ·
      exact ⟨c16,c15,c7,c2⟩
     refine tk 0 hHeld ?_
     try simp only [Act.put,lA,lB,lC,lD,lE,lF]
     refine tk 1 hHeld ?_
     try simp only [Act.put,lA,lB,lC,lD,lE,lF]
     refine tk 2 hHeld ?_
     try simp only [Act.put,lA,lB,lC,lD,lE,lF]
     refine tk 3 hHeld ?_
     try simp only [Act.put,lA,lB,lC,lD,lE,lF]
     refine tk 4 hHeld ?_
     try simp only [Act.put,lA,lB,lC,lD,lE,lF]
     refine tk 5 hHeld ?_
     try simp only [Act.put,lA,lB,lC,lD,lE,lF]
     refine tk 6 hHeld ?_
     try simp only [Act.put,lA,lB,lC,lD,lE,lF]
     refine tk 7 hHeld ?_
     try simp only [Act.put,lA,lB,lC,lD,lE,lF]
     refine tk 8 hHeld ?_
     try simp only [Act.put,lA,lB,lC,lD,lE,lF]
     refine tk 11 hHeld ?_
     try simp only [Act.put,lA,lB,lC,lD,lE,lF]
     refine tk 12 hHeld ?_
     try simp only [Act.put,lA,lB,lC,lD,lE,lF]
     refine tk 13 hHeld ?_
     try simp only [Act.put,lA,lB,lC,lD,lE,lF]
     refine tk 14 hHeld ?_
     try simp only [Act.put,lA,lB,lC,lD,lE,lF]
     refine tk 16 hHeld ?_
     try simp only [Act.put,lA,lB,lC,lD,lE,lF]
     refine tk 17 hHeld ?_
     try simp only [Act.put,lA,lB,lC,lD,lE,lF]
     refine tk 18 hHeld ?_
     try simp only [Act.put,lA,lB,lC,lD,lE,lF]
     refine tk 19 hHeld ?_
     try simp only [Act.put,lA,lB,lC,lD,lE,lF]
     refine wpAnyH_ready (rs:=[9]) (by kernel_rfl) (by simp) (AllReadyH.cons rfl (fun K hK=>?_) AllReadyH.nil)
     have h0:=hHeld
     clear hHeld
     try simp only [lA,lB,lC]
     go_simp
     go_at_call 131
     refine (M1.out _).mono ?_
     rintro e vv ⟨rfl,rfl⟩
     go_wp2_with (fail)
     refine hK.out _ _ (by exact h0) (fun hHeld=>?_)
     clear hK K h0
     try simp only [Act.put,lA,lB,lC,lD,lE,lF]
     refine tk 10 hHeld ?_
     try simp only [Act.put,lA,lB,lC,lD,lE,lF]
     refine tk 15 hHeld ?_
     try simp only [Act.put,lA,lB,lC,lD,lE,lF]
     refine wpAnyH_ready (rs:=[20]) (by kernel_rfl) (by simp) (AllReadyH.cons rfl (fun K hK=>?_) AllReadyH.nil)
     have h0:=hHeld
     clear hHeld
     try simp only [lA,lB,lC]
     go_simp
     go_at_call 131
     refine (M2.out _).mono ?_
     rintro e vv ⟨rfl,rfl⟩
     go_wp2_with (fail)
     refine hK.out _ _ (by exact h0) (fun hHeld=>?_)
     clear hK K h0
     try simp only [Act.put,lA,lB,lC,lD,lE,lF]
     refine tk 21 hHeld ?_
     try simp only [Act.put,lA,lB,lC,lD,lE,lF]
     refine tk 22 hHeld ?_
     try simp only [Act.put,lA,lB,lC,lD,lE,lF]
     refine wpAnyH_ready (rs:=[23]) (by kernel_rfl) (by simp) (AllReadyH.cons rfl (fun K hK=>?_) AllReadyH.nil)
     have h0:=hHeld
     clear hHeld
     try simp only [lA,lB,lC]
     go_simp
     refine hK.out _ _ (by exact Q4S.out) (fun hHeld=>?_)
     clear hK K h0
     try simp only [Act.put,lA,lB,lC,lD,lE,lF]
     refine wpAnyH_done (by kernel_rfl) ?_ _
     go_wp2_with (fail)
     go_round
     case rel=>exact ⟨j+1,by omega,by omega,by go_num,F2.out.drew.drew.drew⟩
     case measure=>simp [intOf];omega
    ·
     obtain rfl:j=80:=by omega
     rw [show 80-16=64 by omega] at hF hlen
     clear hstep hwl
     generalize sched (wordsTo (bn l) 16) 64=p at *
     have k1:=hF.get (g:=w.heap.size+1) (t:=126) (cs:=us p) (by simp)
     obtain ⟨old,ho,k0⟩:=hF.old (g:=w.heap.size) (t:=126) (n:=80) (by simp)
     have kS:=k0.setRow_same (us p)
     have hB:=below_setRow hF.below (Nat.le_refl _) (us p)
     have ho':old.size=(us p).size:=by rw [ho,kL,hlen]
     have KS:=Lib.hid kS
     have HB:=Lib.hid hB
     have HO:=Lib.hid ho'
     have HI:=Lib.hid (cA (T:=126) mA hlen)
     clear hF kS hB ho ho'
     go_wp2_with (first | (refine wpList_load_row rfl 126 (.tmp 3) rfl (w.heap.size+1) rfl 126 (us p) (0,0) _ k1 Tryz.underlying126 rfl HI.out ?_) | (refine wpList_store_row rfl 126 (.tmp 2) (.tmp 47) rfl (w.heap.size) (us p) rfl rfl 126 old k0 HI.out HO.out (dQ _) ?_))
     exact jE (n0:=80) rfl mA hlen rfl rfl rfl KS.out HB.out
end Sha
end
section
namespace Sha
open Go Go.RowKit
theorem wF (K W:List Nat) (s:S8) (n:Nat):rnds K W s (n+1)=rnd (K.getD n 0) (W.getD n 0) (rnds K W s n):=rfl
theorem wE (K W:List Nat) (s:S8):rnds K W s 0=s:=rfl
theorem qK (bl:List Nat) (h:S8):press bl h=addS (rnds HK (sched (wordsTo bl 16) 64) h 80) h:=rfl
def addl (p q:List Nat):Nat→List Nat
 | 0=>p
 | k+1=>(addl p q k).set k ((p.getD k 0+q.getD k 0)%18446744073709551616)
theorem iY (p q:List Nat):∀ k,(addl p q k).length=p.length
 | 0=>rfl
 | k+1=>by rw [addl,List.length_set,iY p q k]
theorem vB (p q:List Nat):∀ k i,k≤i→(addl p q k).getD i 0=p.getD i 0
 | 0,_,_=>rfl
 | k+1,i,h=>by
  rw [addl,List.getD,List.getElem?_set_ne (by omega),←List.getD]
  exact vB p q k i (by omega)
theorem xP (p q:List Nat):addl p q 0=p:=rfl
theorem xQ (p q:List Nat) (k:Nat):addl p q (k+1)=(addl p q k).set k ((p.getD k 0+q.getD k 0)%18446744073709551616):=rfl
theorem vC (s t:S8):addl s.l t.l 8=(addS s t).l:=rfl
theorem rnd_eq (k w:Nat) (s:S8) (x y z u:Nat) (hx:x=xN k w s) (hy:y=yN s) (hz:z=(x+y)%18446744073709551616) (hu:u=(s.d+x)%18446744073709551616):rnd k w s=⟨z,s.a,s.b,s.c,u,s.e,s.f,s.g⟩:=by
 rw [hz,hu,hx,hy]
 rfl
theorem ones_xor (x:Nat) (hx:x<18446744073709551616):18446744073709551615 ^^^ x=18446744073709551615-x:=by
 have h:=BitVec.toNat_not (x:=BitVec.ofNat 64 x)
 rw [BitVec.not_def,BitVec.toNat_xor,BitVec.toNat_allOnes,BitVec.toNat_ofNat,Nat.mod_eq_of_lt (by omega)] at h
 exact h
theorem not_nat (x:Nat) (hx:x<18446744073709551616):bits .xor .u64 (if IntKind.u64.signed=true then -1 else IntKind.u64.max) (x:Int)=((18446744073709551615-x:Nat):Int):=by
 rw [←ones_xor x hx,←u64_xor_nat _ _ (by omega) hx]
 rfl
attribute [local irreducible] be HK fill wordsTo sched sw rnds rnd xN yN chN majN turnN addl addS press
set_option maxRecDepth 100000 in
theorem pressed_any (s:S8) (A:Option Addr) (c B:Nat) (l:List UInt8) (gk ok:Nat) (w:World) (hs:s.ok) (hl:BS w B A 128 c l) (hBw:B≤w.heap.size) (hgk:gk<w.heap.size)
  (hK:∀ t,t<80→w.cell? ⟨gk,ok+t,none⟩=some (.int .u64 ((HK.getD t 0:Nat):Int))) :
  Calls zP 116 #[.agg (us s.l),.slice A 128 c,.pointer (some ⟨gk,ok,none⟩)] w (RowPost (press (bn l) s).l w):=by
 have f0:=((Fr.start w).row (us s.l) 124 (g:=w.heap.size) rfl).any (us (fill HS 0)) 124 8 rL (g:=w.heap.size+1) (by simp)
 rw [oQ] at f0
 have k3:=f0.get (g:=w.heap.size) (t:=124) (cs:=us s.l) (by simp)
 have hcap:=hl.cap
 have hlen:(bn l).length=128:=by rw [iF,hl.len]
 have hl0:=(hl.alloc hBw (.cells (us s.l) 124)).alloc (by simp;omega) (.cells #[.int .u64 0,.int .u64 0,.int .u64 0,.int .u64 0,.int .u64 0,.int .u64 0,.int .u64 0,.int .u64 0] 124)
 have hsc:=yB A c B l _ hl0 (by simp;omega)
 have HSC:=Lib.hid hsc
 have hwl:(sched (wordsTo (bn l) 16) 64).length=80:=by rw [mR,hJ (by omega)]
 rw [qK]
 obtain ⟨Wl,hW⟩:∃ q,q=sched (wordsTo (bn l) 16) 64:=⟨_,rfl⟩
 rw [←hW] at hwl ⊢
 obtain ⟨R,hR⟩:∃ q,q=addS (rnds HK Wl s 80) s:=⟨_,rfl⟩
 rw [←hR]
 have HR:=Lib.hid hR
 clear hR
 have HW:=Lib.hid hW
 have F0:=Lib.hid f0
 have HKK:=Lib.hid hK
 have HSO:=Lib.hid hs
 clear f0 hl hl0 hlen hsc hW hK hs
 have hz80:∀ W:World,(zeroValue 126).run zP W=.ok (.agg (us (fill HK 0))) W:=oO
 go_enter Tryz.func116,Tryz.ntmps116
 go_wp2_with (fail)
 refine HSC.out.mono ?_
 rintro e v ⟨rfl,hb⟩
 rw [←HW.out]
 have f1:=F0.out.ext hb
 have hv:w.heap.size+1<v.heap.size:=by have:=hb.size;simp at this;omega
 have f2:=f1.row (us (fill HK 0)) 126 rfl
 generalize hg7:v.heap.size=g7 at *
 have k7:=f2.get (g:=g7) (t:=126) (cs:=us (fill HK 0)) (by simp)
 have f3:=f2.setRowHead (by simp<;>omega) (by simp<;>omega) (us Wl) (by omega)
 have k3b:=f3.get (g:=w.heap.size) (t:=124) (cs:=us s.l) (by simp)
 have hs7:((v.alloc (.cells (us (fill HK 0)) 126)).setRow g7 (us Wl)).heap.size=g7+1:=by simp [World.setRow,hg7]
 have f4:=f3.row (us (fill HS 0)) 124 (g:=g7+1) hs7.symm
 have k8:=f4.get (g:=g7+1) (t:=124) (cs:=us (fill HS 0)) (by simp)
 have f5:=f4.setRowHead (by simp<;>omega) (by simp<;>omega) (us s.l) (by omega)
 rw [oQ] at k8 f5
 have k9:=f5.get (g:=g7+1) (t:=124) (cs:=us s.l) (by simp)
 have c0:=k9.cell 0
 rw [dJ (i:=0) (x:=s.a) rfl] at c0
 have c1:=k9.cell 1
 rw [dJ (i:=1) (x:=s.b) rfl] at c1
 have c2:=k9.cell 2
 rw [dJ (i:=2) (x:=s.c) rfl] at c2
 have c3:=k9.cell 3
 rw [dJ (i:=3) (x:=s.d) rfl] at c3
 have c4:=k9.cell 4
 rw [dJ (i:=4) (x:=s.e) rfl] at c4
 have c5:=k9.cell 5
 rw [dJ (i:=5) (x:=s.f) rfl] at c5
 have c6:=k9.cell 6
 rw [dJ (i:=6) (x:=s.g) rfl] at c6
 have c7:=k9.cell 7
 rw [dJ (i:=7) (x:=s.h) rfl] at c7
 have F5:=Lib.hid f5
 have HI:=Lib.hid (cA (T:=126) mA hwl)
 have HZ:=Lib.hid (show (us (fill HK 0)).size=(us Wl).size by rw [zlen_HK,kL,hwl])
 clear f1 f2 f3 f4 f5 hb F0 k9 HSC
 go_wp2_with (first | (refine wpList_store_row rfl 126 (.tmp 7) (.tmp 22) rfl g7 (us Wl) rfl rfl 126 _ k7 HI.out HZ.out (dQ _) ?_) | (refine wpList_load_row rfl 124 (.tmp 3) rfl (w.heap.size) rfl 124 (us s.l) (0,0) _ k3b Tryz.underlying124 rfl (cA eM rfl) ?_) | (refine wpList_store_row rfl 124 (.tmp 8) (.tmp 23) rfl (g7+1) (us s.l) rfl rfl 124 _ k8 (cA eM rfl) rfl (dQ _) ?_))
 refine wp_region_held_drew (S:=fun W=>W.cell? ⟨g7+1,0,none⟩=some (.int .u64 (s.a:Int))∧W.cell? ⟨g7+1,1,none⟩=some (.int .u64 (s.b:Int))∧W.cell? ⟨g7+1,2,none⟩=some (.int .u64 (s.c:Int))∧W.cell? ⟨g7+1,3,none⟩=some (.int .u64 (s.d:Int))∧W.cell? ⟨g7+1,4,none⟩=some (.int .u64 (s.e:Int))∧W.cell? ⟨g7+1,5,none⟩=some (.int .u64 (s.f:Int))∧W.cell? ⟨g7+1,6,none⟩=some (.int .u64 (s.g:Int))∧W.cell? ⟨g7+1,7,none⟩=some (.int .u64 (s.h:Int))) (by kernel_rfl) ?_ (fun hHeld=>?_)
 ·
  exact ⟨c0,c1,c2,c3,c4,c5,c6,c7⟩
 refine tk 0 hHeld ?_
 try simp only [Act.put,lA,lB,lC,lD,lE,lF]
 refine tk 1 hHeld ?_
 try simp only [Act.put,lA,lB,lC,lD,lE,lF]
 refine tk 2 hHeld ?_
 try simp only [Act.put,lA,lB,lC,lD,lE,lF]
 refine tk 3 hHeld ?_
 try simp only [Act.put,lA,lB,lC,lD,lE,lF]
 refine tk 4 hHeld ?_
 try simp only [Act.put,lA,lB,lC,lD,lE,lF]
 refine tk 5 hHeld ?_
 try simp only [Act.put,lA,lB,lC,lD,lE,lF]
 refine tk 6 hHeld ?_
 try simp only [Act.put,lA,lB,lC,lD,lE,lF]
 refine tk 7 hHeld ?_
 try simp only [Act.put,lA,lB,lC,lD,lE,lF]
 refine tk 8 hHeld ?_
 try simp only [Act.put,lA,lB,lC,lD,lE,lF]
 refine tk 9 hHeld ?_
 try simp only [Act.put,lA,lB,lC,lD,lE,lF]
 refine tk 10 hHeld ?_
 try simp only [Act.put,lA,lB,lC,lD,lE,lF]
 refine tk 11 hHeld ?_
 try simp only [Act.put,lA,lB,lC,lD,lE,lF]
 refine tk 12 hHeld ?_
 try simp only [Act.put,lA,lB,lC,lD,lE,lF]
 refine tk 13 hHeld ?_
 try simp only [Act.put,lA,lB,lC,lD,lE,lF]
 refine tk 14 hHeld ?_
 try simp only [Act.put,lA,lB,lC,lD,lE,lF]
 refine tk 15 hHeld ?_
 try simp only [Act.put,lA,lB,lC,lD,lE,lF]
 refine tk 16 hHeld ?_
 try simp only [Act.put,lA,lB,lC,lD,lE,lF]
 refine tk 17 hHeld ?_
 try simp only [Act.put,lA,lB,lC,lD,lE,lF]
 refine tk 18 hHeld ?_
 try simp only [Act.put,lA,lB,lC,lD,lE,lF]
 refine tk 19 hHeld ?_
 try simp only [Act.put,lA,lB,lC,lD,lE,lF]
 refine tk 20 hHeld ?_
 try simp only [Act.put,lA,lB,lC,lD,lE,lF]
 refine tk 21 hHeld ?_
 try simp only [Act.put,lA,lB,lC,lD,lE,lF]
 refine tk 22 hHeld ?_
 try simp only [Act.put,lA,lB,lC,lD,lE,lF]
 refine tk 23 hHeld ?_
 try simp only [Act.put,lA,lB,lC,lD,lE,lF]
 refine wpAnyH_done (by kernel_rfl) ?_ _
 go_wp2_with (fail)
 clear k7 k3b k8 HZ
 clear c0
 clear c1
 clear c2
 clear c3
 clear c4
 clear c5
 clear c6
 clear c7
 go_loopw [9,10,11,12,13,14,15,16,40] (fun va vb vc vd ve vf vg vh i wr=>∃ (k:Nat) (S:S8),k≤80∧i=.int .i64 k∧Hid (S=rnds HK Wl s k)∧va=.int .u64 (S.a:Int)∧vb=.int .u64 (S.b:Int)∧vc=.int .u64 (S.c:Int)∧vd=.int .u64 (S.d:Int)∧ve=.int .u64 (S.e:Int)∧vf=.int .u64 (S.f:Int)∧vg=.int .u64 (S.g:Int)∧vh=.int .u64 (S.h:Int)∧Fr w wr [(g7+1,124,us s.l),(g7,126,us Wl),(w.heap.size,124,us s.l)] [(w.heap.size+1,124,8)]) (fun va vb vc vd ve vf vg vh i _=>80-(intOf i).toNat)
 case atStart=>exact ⟨0,s,by omega,rfl,Lib.hid (wE _ _ _).symm,rfl,rfl,rfl,rfl,rfl,rfl,rfl,rfl,F5.out.drew⟩
 case round =>
  clear F5
  obtain ⟨k,S,hk,rfl,hS,rfl,rfl,rfl,rfl,rfl,rfl,rfl,rfl,hF⟩:=hrel
  have hSo:S.ok:=by rw [hS.out];exact yH HSO.out k
  by_cases hlt:k<80
  ·
   have hnx:=wF HK Wl s k
   rw [←hS.out] at hnx
   obtain ⟨kk,ekk⟩:∃ q,q=HK.getD k 0:=⟨_,rfl⟩
   obtain ⟨ww,eww⟩:∃ q,q=Wl.getD k 0:=⟨_,rfl⟩
   have ck:wr.cell? ⟨gk,ok+k,none⟩=some (.int .u64 (kk:Int)):=by rw [ekk,←HKK.out k hlt];exact hF.below.cell (p:=⟨gk,ok+k,none⟩) hgk
   have kw:=hF.get (g:=g7) (t:=126) (cs:=us Wl) (by simp)
   have cw:=kw.cell k
   rw [dN (by omega),←eww] at cw
   rw [←ekk,←eww] at hnx
   obtain ⟨a,b,c,d,e,f,g,h⟩:=S
   obtain ⟨la,lb,lc,ld,le,lf,lg,lh⟩:=hSo
   simp only at la lb lc ld le lf lg lh
   obtain ⟨t1,et1⟩:∃ q,q=turnN e 14 18 41:=⟨_,rfl⟩
   have H1:=fun W=>sH e 14 18 41 W le (by omega) (by omega) (by omega) (by omega) (by omega) (by omega)
   rw [←et1] at H1
   obtain ⟨t2,et2⟩:∃ q,q=turnN a 28 34 39:=⟨_,rfl⟩
   have H2:=fun W=>sH a 28 34 39 W la (by omega) (by omega) (by omega) (by omega) (by omega) (by omega)
   rw [←et2] at H2
   have H1:=Lib.hid H1
   have H2:=Lib.hid H2
   obtain ⟨p1,ep1⟩:∃ q,q=(h+t1)%18446744073709551616:=⟨_,rfl⟩
   have a1:=cM h t1
   rw [←ep1] at a1
   obtain ⟨ef,eef⟩:∃ q,q=e &&& f:=⟨_,rfl⟩
   have b1:=u64_and_nat e f le lf
   rw [←eef] at b1
   have lef:ef<18446744073709551616:=by rw [eef];exact jU le lf
   obtain ⟨ne,ene⟩:∃ q,q=18446744073709551615-e:=⟨_,rfl⟩
   have b0:=not_nat e le
   rw [←ene] at b0
   have lne:ne<18446744073709551616:=by omega
   obtain ⟨ng,eng⟩:∃ q,q=ne &&& g:=⟨_,rfl⟩
   have b2:=u64_and_nat ne g lne lg
   rw [←eng] at b2
   have lng:ng<18446744073709551616:=by rw [eng];exact jU lne lg
   obtain ⟨ch,ech⟩:∃ q,q=ef ^^^ ng:=⟨_,rfl⟩
   have b3:=u64_xor_nat ef ng lef lng
   rw [←ech] at b3
   obtain ⟨p2,ep2⟩:∃ q,q=(p1+ch)%18446744073709551616:=⟨_,rfl⟩
   have a2:=cM p1 ch
   rw [←ep2] at a2
   obtain ⟨p3,ep3⟩:∃ q,q=(p2+kk)%18446744073709551616:=⟨_,rfl⟩
   have a3:=cM p2 kk
   rw [←ep3] at a3
   obtain ⟨x,ex⟩:∃ q,q=(p3+ww)%18446744073709551616:=⟨_,rfl⟩
   have a4:=cM p3 ww
   rw [←ex] at a4
   obtain ⟨ab,eab⟩:∃ q,q=a &&& b:=⟨_,rfl⟩
   have b4:=u64_and_nat a b la lb
   rw [←eab] at b4
   have lab:ab<18446744073709551616:=by rw [eab];exact jU la lb
   obtain ⟨ac,eac⟩:∃ q,q=a &&& c:=⟨_,rfl⟩
   have b5:=u64_and_nat a c la lc
   rw [←eac] at b5
   have lac:ac<18446744073709551616:=by rw [eac];exact jU la lc
   obtain ⟨bc,ebc⟩:∃ q,q=b &&& c:=⟨_,rfl⟩
   have b6:=u64_and_nat b c lb lc
   rw [←ebc] at b6
   have lbc:bc<18446744073709551616:=by rw [ebc];exact jU lb lc
   obtain ⟨m1,em1⟩:∃ q,q=ab ^^^ ac:=⟨_,rfl⟩
   have b7:=u64_xor_nat ab ac lab lac
   rw [←em1] at b7
   have lm1:m1<18446744073709551616:=by rw [em1];exact lW lab lac
   obtain ⟨mj,emj⟩:∃ q,q=m1 ^^^ bc:=⟨_,rfl⟩
   have b8:=u64_xor_nat m1 bc lm1 lbc
   rw [←emj] at b8
   obtain ⟨y,ey⟩:∃ q,q=(t2+mj)%18446744073709551616:=⟨_,rfl⟩
   have a5:=cM t2 mj
   rw [←ey] at a5
   obtain ⟨z,ez⟩:∃ q,q=(x+y)%18446744073709551616:=⟨_,rfl⟩
   have a6:=cM x y
   rw [←ez] at a6
   obtain ⟨u,eu⟩:∃ q,q=(d+x)%18446744073709551616:=⟨_,rfl⟩
   have a7:=cM d x
   rw [←eu] at a7
   have hch:chN e f g=ch:=by rw [ech,eef,eng,ene];unfold chN;rfl
   have hmj:majN a b c=mj:=by rw [emj,em1,eab,eac,ebc];unfold majN;rfl
   have hxx:x=xN kk ww ⟨a,b,c,d,e,f,g,h⟩:=by unfold xN;rw [ex,ep3,ep2,ep1,et1,←hch]
   have hyy:y=yN ⟨a,b,c,d,e,f,g,h⟩:=by unfold yN;rw [ey,et2,←hmj]
   rw [rnd_eq kk ww _ x y z u hxx hyy ez eu] at hnx
   have HNX:=Lib.hid hnx
   have HF:=Lib.hid hF
   clear ene hnx hF hS ekk eww et1 et2 ep1 eef eng ech ep2 ep3 ex eab eac ebc em1 emj ey ez eu hch hmj hxx hyy kw
   go_wp2_with (fail)
   refine wp_region_held_drew (S:=fun W=>W.cell? ⟨gk,ok+k,none⟩=some (.int .u64 (kk:Int))∧W.cell? ⟨g7,k,none⟩=some (.int .u64 (ww:Int))) (by kernel_rfl) ?_ (fun hHeld=>?_)
   ·
    exact ⟨ck,cw⟩
   refine tk 0 hHeld ?_
   try simp only [Act.put,lA,lB,lC,lD,lE,lF]
   refine tk 1 hHeld ?_
   try simp only [Act.put,lA,lB,lC,lD,lE,lF]
   refine tk 4 hHeld ?_
   try simp only [Act.put,lA,lB,lC,lD,lE,lF]
   refine tk 5 hHeld ?_
   try simp only [Act.put,lA,lB,lC,lD,lE,lF]
   refine tk 6 hHeld ?_
   try simp only [Act.put,lA,lB,lC,lD,lE,lF]
   refine tk 7 hHeld ?_
   try simp only [Act.put,lA,lB,lC,lD,lE,lF]
   refine tk 8 hHeld ?_
   try simp only [Act.put,lA,lB,lC,lD,lE,lF]
   refine tk 9 hHeld ?_
   try simp only [Act.put,lA,lB,lC,lD,lE,lF]
   refine tk 10 hHeld ?_
   try simp only [Act.put,lA,lB,lC,lD,lE,lF]
   refine tk 11 hHeld ?_
   try simp only [Act.put,lA,lB,lC,lD,lE,lF]
   refine tk 13 hHeld ?_
   try simp only [Act.put,lA,lB,lC,lD,lE,lF]
   refine tk 14 hHeld ?_
   try simp only [Act.put,lA,lB,lC,lD,lE,lF]
   refine tk 15 hHeld ?_
   try simp only [Act.put,lA,lB,lC,lD,lE,lF]
   refine tk 16 hHeld ?_
   try simp only [Act.put,lA,lB,lC,lD,lE,lF]
   refine tk 17 hHeld ?_
   try simp only [Act.put,lA,lB,lC,lD,lE,lF]
   refine tk 19 hHeld ?_
   try simp only [Act.put,lA,lB,lC,lD,lE,lF]
   refine tk 20 hHeld ?_
   try simp only [Act.put,lA,lB,lC,lD,lE,lF]
   refine tk 21 hHeld ?_
   try simp only [Act.put,lA,lB,lC,lD,lE,lF]
   refine wpAnyH_ready (rs:=[2]) (by kernel_rfl) (by simp) (AllReadyH.cons rfl (fun K hK=>?_) AllReadyH.nil)
   have h0:=hHeld
   clear hHeld
   try simp only [lA,lB,lC]
   go_simp
   go_at_call 126
   refine (H1.out _).mono ?_
   rintro e vv ⟨rfl,rfl⟩
   go_wp2_with (fail)
   refine hK.out _ _ h0 (fun hHeld=>?_)
   clear hK K h0
   try simp only [Act.put,lA,lB,lC,lD,lE,lF]
   refine tk 3 hHeld ?_
   try simp only [Act.put,lA,lB,lC,lD,lE,lF]
   refine tk 12 hHeld ?_
   try simp only [Act.put,lA,lB,lC,lD,lE,lF]
   refine tk 18 hHeld ?_
   try simp only [Act.put,lA,lB,lC,lD,lE,lF]
   refine tk 22 hHeld ?_
   try simp only [Act.put,lA,lB,lC,lD,lE,lF]
   refine tk 23 hHeld ?_
   try simp only [Act.put,lA,lB,lC,lD,lE,lF]
   refine wpAnyH_done (by kernel_rfl) ?_ _
   go_wp2_with (fail)
   refine (H2.out _).mono ?_
   rintro e9 vv ⟨rfl,rfl⟩
   go_wp2_with (fail)
   go_round
   case rel=>exact ⟨k+1,⟨z,a,b,c,u,e,f,g⟩,by omega,by go_num,Lib.hid HNX.out.symm,rfl,rfl,rfl,rfl,rfl,rfl,rfl,rfl,HF.out.drew⟩
   case measure=>simp [intOf];omega
  ·
   have hkE:k=80:=by omega
   have hS8:=hS.out
   rw [hkE] at hS8
   have kS0:=hF.get (g:=g7+1) (t:=124) (cs:=us s.l) (by simp)
   have f1:=hF.setRowHead (by simp<;>omega) (by simp<;>omega) (us S.l) (by omega)
   have F1:=Lib.hid f1
   have HKE:=Lib.hid hkE
   have HS8:=Lib.hid hS8
   have ebl:us S.l=#[.int .u64 (S.a:Int),.int .u64 (S.b:Int),.int .u64 (S.c:Int),.int .u64 (S.d:Int),.int .u64 (S.e:Int),.int .u64 (S.f:Int),.int .u64 (S.g:Int),.int .u64 (S.h:Int)]:=rfl
   have HE:=Lib.hid ebl
   clear hS hF f1 hkE hS8 ebl
   go_wp2_with (first | (refine wpList_store_row rfl 124 (.tmp 8) (.tmp 101) rfl (g7+1) (us S.l) rfl (by rw [HE.out];rfl) 124 _ kS0 (cA eM rfl) rfl (dQ _) ?_))
   clear kS0
   go_loopw [102] (fun i wr=>∃ j:Nat,j≤8∧i=.int .i64 j∧Fr w wr [(g7+1,124,us (addl S.l s.l j)),(w.heap.size,124,us s.l)] [(w.heap.size+1,124,8)]) (fun i _=>8-(intOf i).toNat)
   case atStart=>exact ⟨0,by omega,rfl,by rw [xP];exact F1.out.sub (by simp) (by simp)⟩
   case round =>
    clear F1
    obtain ⟨j,hj,rfl,hF⟩:=hrel
    have hal:(addl S.l s.l j).length=8:=iY _ _ j
    by_cases hlt:j<8
    ·
     have hnx:=xQ S.l s.l j
     have hgt:=vB S.l s.l j j (Nat.le_refl _)
     have kp:=hF.get (g:=g7+1) (t:=124) (cs:=us (addl S.l s.l j)) (by simp)
     have kq:=hF.get (g:=w.heap.size) (t:=124) (cs:=us s.l) (by simp)
     have cp:=kp.cell j
     rw [dN (by omega),hgt] at cp
     have cq:=kq.cell j
     rw [dN (show j<s.l.length from hlt)] at cq
     have z1:=kp.frozen j
     obtain ⟨x,ex⟩:∃ q,q=(S.l.getD j 0+s.l.getD j 0)%18446744073709551616:=⟨_,rfl⟩
     have a1:=cM (S.l.getD j 0) (s.l.getD j 0)
     rw [←ex] at a1 hnx
     have f2:=hF.setHead (by simp<;>omega) (by simp<;>omega) j (.int .u64 (x:Int)) (by omega)
     rw [gG,←hnx] at f2
     have F2:=Lib.hid f2
     clear ex f2 hF hnx hgt kq
     generalize S.l.getD j 0=v1 at *
     generalize s.l.getD j 0=v2 at *
     go_wp2_with (fail)
     go_region
     go_wp2_with (fail)
     go_round
     case rel=>exact ⟨j+1,by omega,by go_num,F2.out.drew⟩
     case measure=>simp [intOf];omega
    ·
     have e8:addl S.l s.l j=R.l:=by rw [show j=8 by omega,HR.out,←HS8.out];exact vC S s
     rw [e8] at hF
     have k1:=hF.get (g:=g7+1) (t:=124) (cs:=us R.l) (by simp)
     obtain ⟨old,ho,k0⟩:=hF.old (g:=w.heap.size+1) (t:=124) (n:=8) (by simp)
     have kS:=k0.setRow_same (us R.l)
     have hB:=below_setRow hF.below (show w.heap.size≤w.heap.size+1 by omega) (us R.l)
     have ho':old.size=(us R.l).size:=by rw [ho];rfl
     have KS:=Lib.hid kS
     have HB:=Lib.hid hB
     have HO:=Lib.hid ho'
     clear hF kS hB ho ho' e8 hal
     go_wp2_with (first | (refine wpList_load_row rfl 124 (.tmp 8) rfl (g7+1) rfl 124 (us R.l) (0,0) _ k1 Tryz.underlying124 rfl (cA eM rfl) ?_) | (refine wpList_store_row rfl 124 (.tmp 6) (.tmp 114) rfl (w.heap.size+1) (us R.l) rfl rfl 124 old k0 (cA eM rfl) HO.out (dQ _) ?_))
     exact jE (n0:=8) rfl eM rfl rfl rfl rfl KS.out HB.out
end Sha
end
section
namespace Sha
open Go Go.RowKit
theorem _root_.Go.Proofs.YtpagiffbjofihaaGreatDoor.Fr.grownHead {w W W':World} {L:List (Nat × TypeId × Array Value)} {R:List (Nat × TypeId × Nat)} {g:Nat} {t:TypeId} {cs cs':Array Value} (h:Fr w W ((g,t,cs)::L) R) (hg:W.grownBy W' (some g)) (hb:Blk W' g t cs') (hw:w.heap.size≤g) (hL:∀ p∈L,p.1≠g) (hR:∀ p∈R,p.1≠g) :
  Fr w W' ((g,t,cs')::L) R:=by
 refine ⟨h.below.grown hg h.below.size (by rintro k hk;cases hk;exact hw),fun p hp=>?_,fun p hp=>?_,h.own⟩
 ·
  rcases List.mem_cons.1 hp with rfl | hp
  ·
   exact hb
  ·
   exact (h.rows p (by simp [hp])).row hg (hL p hp)
 ·
  obtain ⟨c,e,k⟩:=h.some_ p hp
  exact ⟨c,e,k.row hg (hR p hp)⟩
def lowb (x:Nat):Nat→List Nat
 | 0=>[]
 | j+1=>(x/256^j%256)::lowb x j
theorem lowb_eight (x:Nat):lowb x 8=b8 x:=by simp [lowb,b8]
theorem wI (l:List Nat) (o x:Nat) (h:o+8≤l.length):∀ j,j≤8→putC (ncs .u8 l) o x j=ncs .u8 (l.take (o+8-j)++(lowb x j++l.drop (o+8)))
 | 0,_=>by rw [putC,lowb,List.nil_append,Nat.sub_zero,List.take_append_drop]
 | j+1,hj=>by
  rw [putC,wI l o x h j (by omega),dV]
  congr 1
  have e:o+8-j=(o+8-(j+1))+1:=by omega
  have e1:(l.take (o+8-(j+1))).length=o+7-j:=by simp;omega
  rw [e,List.take_succ_eq_append_getElem (show o+8-(j+1)<l.length by omega),List.append_assoc,List.set_append_right _ _ (by omega),e1,Nat.sub_self]
  rfl
theorem oU (l:List Nat) (o x:Nat) (h:o+8≤l.length):putC (ncs .u8 l) o x 8=ncs .u8 (l.take o++(b8 x++l.drop (o+8))):=by
 rw [wI l o x h 8 (by omega),lowb_eight,show o+8-8=o by omega]
theorem pV {l:List Nat} {i:Nat} (h:i<l.length):∃ y:Int,(ncs .u8 l)[i]?=some (.int .u8 y):=⟨_,by rw [dW,List.getElem?_eq_getElem h];rfl⟩
theorem b8_len (x:Nat):(b8 x).length=8:=rfl
def rowN (l:List Nat) (k:Nat):List Nat:=(l.take k).flatMap b8++List.replicate (64-8*k) 0
theorem flat_len (l:List Nat):(l.flatMap b8).length=8*l.length:=by
 induction l with
 | nil=>rfl
 | cons x l ih=>rw [List.flatMap_cons,List.length_append,ih,b8_len,List.length_cons];omega
theorem rowN_len {l:List Nat} (h:l.length=8) {k:Nat} (hk:k≤8):(rowN l k).length=64:=by
 rw [rowN,List.length_append,flat_len,List.length_take,List.length_replicate];omega
def z64:List Nat:=List.replicate 64 0
theorem xS:z64.length=64:=rfl
theorem rowN_zero (l:List Nat):rowN l 0=z64:=by simp [rowN,z64]
theorem rowN_step {l:List Nat} (h:l.length=8) {k:Nat} (hk:k<8):(rowN l k).take (8*k)++(b8 (l.getD k 0)++(rowN l k).drop (8*k+8))=rowN l (k+1):=by
 have h1:((l.take k).flatMap b8).length=8*k:=by rw [flat_len,List.length_take];omega
 have h2:l.take (k+1)=l.take k++[l.getD k 0]:=by rw [List.take_succ_eq_append_getElem (by omega)];simp [List.getD,show k<l.length by omega]
 unfold rowN
 rw [List.take_append_of_le_length (by omega),List.take_of_length_le (by omega),List.drop_append,h2,List.flatMap_append,List.drop_of_length_le (by omega),h1,List.drop_replicate]
 simp only [List.flatMap_cons,List.flatMap_nil,List.append_nil,List.nil_append,List.append_assoc]
 congr 3
 omega
theorem rowN_full (S:S8):rowN S.l 8=outS S:=by simp [rowN,outS,S8.l]
theorem pY (w:World):(zeroValue 40).run zP w=.ok (.agg (ncs .u8 z64)) w:=by kernel_rfl
theorem qH:(zP.info? 40).map (·.size)=some 64:=by kernel_rfl
theorem size_u64o (w:World):(sizeOf 29).run zP w=.ok 1 w:=by kernel_rfl
def BytesRow (l:List Nat) (w:World) (e:Ending) (w':World):Prop:=e=.returned (.agg (ncs .u8 l))∧Below w.heap.size w w'
theorem slice_arr (t:TypeId) (n:Nat) (ht:zP.underlying t=some (.array n 5)) (g o i j:Nat) (hi:i<n) (hij:i≤j) (hj:j≤n) (W:World) :
  (Instr.sliceAt t (.pointer (some ⟨g,o,none⟩)) (some (.int .i64 (i:Int))) (some (.int .i64 (j:Int))) none).run zP W=.ok (.slice (some ⟨g,o+i,none⟩) (j-i) (n-i)) W:=by
 have h1:zP.arrayLen t=n:=by simp [Program.arrayLen,ht]
 have h2:zP.elem t=5:=by simp [Program.elem,ht]
 rw [run_sliceAt_array_lh W t _ (by rw [h1,h2];exact ht) _ _ _ _ (by omega) (by omega) (by rw [h1];omega),h1,h2,fH eE]
 simp only [Result.andThen,slicedAt,Int.toNat_natCast,Nat.mul_one,Addr.add_lit]
 rw [if_neg (by omega)]
attribute [local irreducible] b8 rowN outS z64
set_option maxRecDepth 100000 in
theorem hash_any (S:S8) (w:World) (hS:S.ok):Calls zP 94 #[.agg (us S.l)] w (BytesRow (outS S) w):=by
 obtain ⟨R,hR⟩:∃ q,q=outS S:=⟨_,rfl⟩
 rw [←hR]
 have HR:=Lib.hid hR
 clear hR
 have hz64:∀ W:World,(zeroValue 40).run zP W=.ok (.agg (ncs .u8 z64)) W:=pY
 have f0:=((Fr.start w).row (us S.l) 124 (g:=w.heap.size) rfl).any (ncs .u8 z64) 40 64 (by rw [dL,xS]) (g:=w.heap.size+1) (by simp)
 have f1:=f0.row (ncs .u8 z64) 40 (g:=w.heap.size+1+1) (by simp)
 have k1:=f1.get (g:=w.heap.size) (t:=124) (cs:=us S.l) (by simp)
 have hlt8:∀ x∈S.l,x<18446744073709551616:=by
  obtain ⟨h1,h2,h3,h4,h5,h6,h7,h8⟩:=hS
  intro x hx
  simp only [S8.l,List.mem_cons,List.not_mem_nil,or_false] at hx
  rcases hx with rfl | rfl | rfl | rfl | rfl | rfl | rfl | rfl<;>assumption
 have F1:=Lib.hid f1
 have HLT:=Lib.hid hlt8
 have hl8:S.l.length=8:=rfl
 have hend:=rowN_full S
 have HEND:=Lib.hid hend
 clear f0 f1 hlt8 hend hS
 generalize S.l=L at *
 go_enter Tryz.func94,Tryz.ntmps94
 go_wp2_with (first | (refine wpList_load_row rfl 124 (.tmp 1) rfl (w.heap.size) rfl 124 (us L) (0,0) _ k1 Tryz.underlying124 rfl (cA eM hl8) ?_))
 clear k1
 go_loopw [7] (fun i wr=>∃ k:Nat,k≤8∧i=.int .i64 k∧Fr w wr [(w.heap.size+1+1,40,ncs .u8 (rowN L k))] [(w.heap.size+1,40,64)]) (fun i _=>8-(intOf i).toNat)
 case atStart=>exact ⟨0,by omega,rfl,by rw [rowN_zero];exact F1.out.sub (by simp) (by simp)⟩
 case round =>
  clear F1
  obtain ⟨k,hk,rfl,hF⟩:=hrel
  by_cases hlt:k<8
  ·
   have hrl:=rowN_len hl8 hk
   have hx:L[k]?=some (L.getD k 0):=by simp [List.getD,show k<L.length by omega]
   have hxl:=HLT.out _ (kH (show k<L.length by omega))
   have hix:=fun W=>gH (P:=zP) W 124 29 8 .u64 Tryz.underlying124 Tryz.underlying29 size_u64o L k _ hlt hx
   have hix2:∀ W,(Instr.index 124 (.agg (us L)) (.int .i64 (k:Int))).run zP W=.ok (.int .u64 ((L.getD k 0:Nat):Int)) W:=hix
   have hst:=rowN_step hl8 hlt
   have hpl:=oU (rowN L k) (8*k) (L.getD k 0) (by omega)
   rw [hst] at hpl
   have kb:=hF.get (g:=w.heap.size+1+1) (t:=40) (cs:=ncs .u8 (rowN L k)) (by simp)
   have hput:=pN (w.heap.size+1+1) (8*k) (64-8*k) 40 _ (L.getD k 0) wr hxl (by omega) kb (fun i hi=>pV (by omega))
   rw [hpl] at hput
   generalize L.getD k 0=x at *
   have HP:=Lib.hid hput
   have HF:=Lib.hid hF
   have hsl:=fun W=>slice_arr 40 64 Tryz.underlying40 (w.heap.size+1+1) 0 (8*k) (8*k+8) (by omega) (by omega) (by omega) W
   rw [show ((8*k:Nat):Int)=(k:Int)*8 by omega,show ((8*k+8:Nat):Int)=((k:Int)+1)*8 by omega,show 8*k+8-8*k=8 by omega,Nat.zero_add] at hsl
   clear hix hst hpl hx hxl kb hput hF hrl
   go_wp2_with (fail)
   refine HP.out.mono ?_
   rintro e v ⟨rfl,hb,hg⟩
   have f2:=HF.out.grownHead hg hb (by omega) (by simp) (by simp<;>omega)
   have F2:=Lib.hid f2
   clear f2 hb hg HF HP
   go_wp2_with (fail)
   go_round
   case rel=>exact ⟨k+1,by omega,by go_num,F2.out⟩
   case measure=>simp [intOf];omega
  ·
   have e8:rowN L k=R:=by rw [show k=8 by omega,HR.out];exact HEND.out
   have hl64:R.length=64:=by rw [←e8];exact rowN_len hl8 hk
   rw [e8] at hF
   have k1:=hF.get (g:=w.heap.size+1+1) (t:=40) (cs:=ncs .u8 R) (by simp)
   obtain ⟨old,ho,k0⟩:=hF.old (g:=w.heap.size+1) (t:=40) (n:=64) (by simp)
   have kS:=k0.setRow_same (ncs .u8 R)
   have hB:=below_setRow hF.below (show w.heap.size≤w.heap.size+1 by omega) (ncs .u8 R)
   have KS:=Lib.hid kS
   have HB:=Lib.hid hB
   have HO:=Lib.hid (show old.size=(ncs .u8 R).size by rw [ho,dL,hl64])
   have HI:=Lib.hid (show (zP.info? 40).map (·.size)=some (ncs .u8 R).size by rw [dL,hl64];exact qH)
   clear hF kS hB ho e8 HEND
   go_wp2_with (first | (refine wpList_load_row rfl 40 (.tmp 3) rfl (w.heap.size+1+1) rfl 40 (ncs .u8 R) (0,0) _ k1 Tryz.underlying40 rfl HI.out ?_) | (refine wpList_store_row rfl 40 (.tmp 2) (.tmp 20) rfl (w.heap.size+1) (ncs .u8 R) rfl rfl 40 old k0 HI.out HO.out (iH _ _) ?_))
   exact bodyPost_ret (results_cell_row rfl _ _ (w.heap.size+1) 40 (ncs .u8 R) (0,0) _ rfl KS.out Tryz.underlying40 rfl HI.out) rfl ⟨rfl,HB.out⟩
end Sha
end
section
namespace Sha
open Go Go.RowKit
def zr (k:Nat):List Nat:=List.replicate k 0
theorem zr_len (k:Nat):(zr k).length=k:=by simp [zr]
theorem bvs_zr (k:Nat):bvs (zeros k)=ncs .u8 (zr k):=by
 simp only [bvs,ncs,zeros,zr,List.map_replicate]
 rfl
theorem slice_lo (g o n c i:Nat) (hi:i<c) (hn:i≤n) (W:World):(Instr.slice 24 (.slice (some ⟨g,o,none⟩) n c) (some (.int .i64 (i:Int))) none none).run zP W=.ok (.slice (some ⟨g,o+i,none⟩) (n-i) (c-i)) W:=by
 have hel:zP.elem 24=5:=by simp [Program.elem,Tryz.underlying24]
 rw [run_slice_l W 24 _ n c (by rw [hel];exact Tryz.underlying24) _ _ (by omega) (by omega),hel,fH eE]
 simp only [Result.andThen,sliced,Int.toNat_natCast,Nat.mul_one]
 rw [if_neg (by omega)]
 simp [Addr.add_lit]
theorem slice_hi (g o n c j:Nat) (hj:j≤c) (hc:0<c) (W:World):(Instr.slice 24 (.slice (some ⟨g,o,none⟩) n c) none (some (.int .i64 (j:Int))) none).run zP W=.ok (.slice (some ⟨g,o,none⟩) j c) W:=by
 have hel:zP.elem 24=5:=by simp [Program.elem,Tryz.underlying24]
 rw [run_slice_h W 24 _ n c (by rw [hel];exact Tryz.underlying24) _ _ (by omega) (by omega),hel,fH eE]
 simp only [Result.andThen,sliced,Int.toNat_natCast,Nat.zero_mul,Nat.sub_zero]
 rw [if_neg (by omega)]
 simp [Addr.add_lit]
theorem pad_eq (n K hi lo:Nat) (hK:K=padL n) (h1:hi=8*n/18446744073709551616) (h2:lo=8*n%18446744073709551616) :
  ((((zr K).set 0 128).take (K-16)++(b8 hi++((zr K).set 0 128).drop (K-16+8))).take (K-8)++(b8 lo++(((zr K).set 0 128).take (K-16)++(b8 hi++((zr K).set 0 128).drop (K-16+8))).drop (K-8+8)))=pad n:=by
 have h17:=mW n
 rw [←hK] at h17
 have e1:(zr K).set 0 128=128::List.replicate (K-1) 0:=by
  rw [zr,show K=(K-1)+1 by omega,List.replicate_succ]
  rfl
 have e2:(128::List.replicate (K-1) 0).take (K-16)=128::List.replicate (K-17) 0:=by
  rw [show K-16=(K-17)+1 by omega,List.take_succ_cons,List.take_replicate]
  congr 2
  omega
 rw [e1,e2]
 have lD:(List.drop (K-16+8) (128::List.replicate (K-1) 0)).length=8:=by rw [List.length_drop,List.length_cons,List.length_replicate];omega
 generalize List.drop (K-16+8) (128::List.replicate (K-1) 0)=D at *
 have lA:(128::List.replicate (K-17) 0).length=K-16:=by rw [List.length_cons,List.length_replicate];omega
 have hpad:pad n=(128::List.replicate (K-17) 0)++(b8 hi++b8 lo):=by rw [pad,←hK,h1,h2];rfl
 rw [hpad]
 generalize 128::List.replicate (K-17) 0=A at *
 have l2:(A++b8 hi).length=K-8:=by rw [List.length_append,b8_len];omega
 have t1:(A++(b8 hi++D)).take (K-8)=A++b8 hi:=by rw [←List.append_assoc,List.take_append_of_le_length (by omega),List.take_of_length_le (by omega)]
 have t2:(A++(b8 hi++D)).drop (K-8+8)=[]:=List.drop_of_length_le (by rw [←List.append_assoc,List.length_append,l2];omega)
 rw [t1,t2,List.append_nil,List.append_assoc]
theorem put_len (l:List Nat) (o x:Nat) (h:o+8≤l.length):(l.take o++(b8 x++l.drop (o+8))).length=l.length:=by
 rw [List.length_append,List.length_append,b8_len,List.length_take,List.length_drop];omega
attribute [local irreducible] zr pad b8 padL
def PadPost (l:List Nat) (w:World) (e:Ending) (w':World):Prop:=e=.returned (.slice (some ⟨w.heap.size,0,none⟩) l.length l.length)∧Blk w' w.heap.size 5 (ncs .u8 l)∧Below w.heap.size w w'
theorem fZ (n:Nat):(128-n%128<17∧padL n=128-n%128+128)∨(¬ 128-n%128<17∧padL n=128-n%128):=by
 unfold padL
 split
 ·
  exact Or.inl ⟨by assumption,rfl⟩
 ·
  exact Or.inr ⟨by assumption,rfl⟩
set_option maxRecDepth 100000 in
theorem padding_any (n:Nat) (w:World) (hn:n<18446744073709551616):Calls zP 93 #[.int .u64 n] w (PadPost (pad n) w):=by
 have h17:=mW n
 have hkk:padL n≤300:=by rcases fZ n with h | h<;>omega
 have hcs:=fZ n
 obtain ⟨K,eK⟩:∃ q,q=padL n:=⟨_,rfl⟩
 obtain ⟨hi,lo,hm,em,lm⟩:=kF n 8 hn (by omega)
 have hp:=pad_eq n K hi lo eK (by omega) (by omega)
 have hpl:=pad_len n
 rw [←eK] at h17 hkk hcs hpl
 generalize pad n=P at *
 have hmk:=fun W=>run_mkb (P:=zP) 24 5 Tryz.underlying24 eE K (by omega) W
 simp only [bvs_zr] at hmk
 have q1:=fun W=>slice_lo w.heap.size 0 K K (K-16) (by omega) (by omega) W
 rw [Nat.zero_add,show K-(K-16)=16 by omega,show ((K-16:Nat):Int)=(K:Int)-16 by omega] at q1
 have q2:=fun W=>slice_hi w.heap.size (K-16) 16 16 8 (by omega) (by omega) W
 have q3:=fun W=>slice_lo w.heap.size (K-16) 16 16 8 (by omega) (by omega) W
 rw [show K-16+8=K-8 by omega] at q3
 have f0:=(Fr.start w).row (ncs .u8 (zr K)) 5 (g:=w.heap.size) rfl
 have k0:=f0.get (g:=w.heap.size) (t:=5) (cs:=ncs .u8 (zr K)) (by simp)
 have z0:=k0.frozen 0
 have c0:=k0.cell 0
 have hc0:(ncs .u8 (zr K))[0]?=some (.int .u8 0):=by
  rw [dW,zr,List.getElem?_replicate,if_pos (by omega)]
  rfl
 rw [hc0] at c0
 have f1:Fr w (w.alloc (.cells ((ncs .u8 (zr K)).setIfInBounds 0 (.int .u8 128)) 5)) [(w.heap.size,5,ncs .u8 ((zr K).set 0 128))] []:=by
  rw [←show (ncs .u8 (zr K)).setIfInBounds 0 (.int .u8 128)=ncs .u8 ((zr K).set 0 128) from dV _ _ _ _]
  exact (Fr.start w).row _ 5 rfl
 have hz1:((zr K).set 0 128).length=K:=by rw [List.length_set,zr_len]
 generalize (zr K).set 0 128=L1 at *
 have k1:=f1.get (g:=w.heap.size) (t:=5) (cs:=ncs .u8 L1) (by simp)
 have p1:=pN w.heap.size (K-16) 16 5 _ hi _ (by have:=gB hn (show 8<18446744073709551616 by omega);omega) (by omega) k1 (fun i hi=>pV (by omega))
 rw [oU _ _ _ (by omega)] at p1
 have hz2:=put_len L1 (K-16) hi (by omega)
 generalize L1.take (K-16)++(b8 hi++L1.drop (K-16+8))=L2 at *
 have HP1:=Lib.hid p1
 have HP:=Lib.hid hp
 have F1:=Lib.hid f1
 have HM:=Lib.hid hm
 have HZ1:=Lib.hid hz1
 clear p1 hp f0 f1 k1 hc0 hm em hz1 eK
 go_enter Tryz.func93,Tryz.ntmps93
 rcases hcs with ⟨d1,d2⟩ | ⟨d1,d2⟩
 ·
  have hr:(128:Int)-(n:Int)%128+128=(K:Int):=by omega
  clear d2
  go_wp2_with (fail)
  refine (HM.out _).mono ?_
  rintro e w' ⟨rfl,rfl⟩
  go_wp2_with (fail)
  refine HP1.out.mono ?_
  rintro e v1 ⟨rfl,kb1,hg1⟩
  have p2:=pN w.heap.size (K-8) 8 5 _ lo v1 lm (by omega) kb1 (fun i hi=>pV (by have:=HZ1.out;omega))
  rw [oU _ _ _ (by have:=HZ1.out;omega),HP.out,show K-8=K-16+8 by omega] at p2
  have f2:=F1.out.grownHead hg1 kb1 (Nat.le_refl _) (by simp) (by simp)
  have F2:=Lib.hid f2
  have HP2:=Lib.hid p2
  clear p2 f2 kb1 hg1 F1 HP1
  go_wp2_with (fail)
  refine HP2.out.mono ?_
  rintro e v2 ⟨rfl,kb2,hg2⟩
  have f3:=F2.out.grownHead hg2 kb2 (Nat.le_refl _) (by simp) (by simp)
  have F3:=Lib.hid f3
  have KB:=Lib.hid kb2
  clear f3 kb2 hg2 F2
  go_wp2_with (fail)
  go_ret
  exact ⟨by rw [hpl];rfl,KB.out,F3.out.below⟩
 ·
  have hr:(128:Int)-(n:Int)%128=(K:Int):=by omega
  clear d2
  go_wp2_with (fail)
  refine (HM.out _).mono ?_
  rintro e w' ⟨rfl,rfl⟩
  go_wp2_with (fail)
  refine HP1.out.mono ?_
  rintro e v1 ⟨rfl,kb1,hg1⟩
  have p2:=pN w.heap.size (K-8) 8 5 _ lo v1 lm (by omega) kb1 (fun i hi=>pV (by have:=HZ1.out;omega))
  rw [oU _ _ _ (by have:=HZ1.out;omega),HP.out,show K-8=K-16+8 by omega] at p2
  have f2:=F1.out.grownHead hg1 kb1 (Nat.le_refl _) (by simp) (by simp)
  have F2:=Lib.hid f2
  have HP2:=Lib.hid p2
  clear p2 f2 kb1 hg1 F1 HP1
  go_wp2_with (fail)
  refine HP2.out.mono ?_
  rintro e v2 ⟨rfl,kb2,hg2⟩
  have f3:=F2.out.grownHead hg2 kb2 (Nat.le_refl _) (by simp) (by simp)
  have F3:=Lib.hid f3
  have KB:=Lib.hid kb2
  clear f3 kb2 hg2 F2
  go_wp2_with (fail)
  go_ret
  exact ⟨by rw [hpl];rfl,KB.out,F3.out.below⟩
end Sha
end
section
namespace Sha
open Go Go.RowKit
structure Tk (X:List UInt8) (S:S8) (Bu:List UInt8) (f:Nat):Prop where
 len:Bu.length=128
 fil:f=X.length%128
 st:S=blocks (bn X) H0 (X.length/128)
 blk:Bu.take f=X.drop (128*(X.length/128))
theorem iM (X Y:List UInt8):bn (X++Y)=bn X++bn Y:=by simp [bn]
theorem bn_drop (X:List UInt8) (i:Nat):bn (X.drop i)=(bn X).drop i:=by simp [bn,List.map_drop]
def over (Bu:List UInt8) (f:Nat) (Y:List UInt8):List UInt8:=Bu.take f++Y++Bu.drop (f+Y.length)
theorem pD {Bu Y:List UInt8} {f:Nat} (h:Bu.length=128) (hf:f+Y.length≤128):(over Bu f Y).length=128:=by
 simp only [over,List.length_append,List.length_take,List.length_drop];omega
theorem Tk.lt {X:List UInt8} {S:S8} {Bu:List UInt8} {f:Nat} (h:Tk X S Bu f):f<128:=by rw [h.fil];omega
theorem Tk.ok {X:List UInt8} {S:S8} {Bu:List UInt8} {f:Nat} (h:Tk X S Bu f):S.ok:=by rw [h.st];exact xK H0_ok _
theorem Tk.less {X:List UInt8} {S:S8} {Bu:List UInt8} {f:Nat} (h:Tk X S Bu f) (Y:List UInt8) (hy:f+Y.length<128):Tk (X++Y) S (over Bu f Y) (f+Y.length):=by
 obtain ⟨h1,h2,h3,h4⟩:=h
 have hq:(X++Y).length/128=X.length/128:=by rw [List.length_append];omega
 refine ⟨pD h1 (by omega),by rw [List.length_append];omega,?_,?_⟩
 ·
  rw [hq,iM,jT _ _ _ _ (by rw [iF];omega),←h3]
 ·
  have e:(Bu.take f++Y).length=f+Y.length:=by rw [List.length_append,List.length_take];omega
  rw [hq,over,List.take_append_of_le_length (by omega),List.take_of_length_le (by omega),List.drop_append_of_le_length (by omega),h4]
theorem Tk.whole {X:List UInt8} {S:S8} {Bu:List UInt8} {f:Nat} (h:Tk X S Bu f) (Y:List UInt8) (hy:f+Y.length=128):Tk (X++Y) (press (bn (over Bu f Y)) S) (over Bu f Y) 0:=by
 obtain ⟨h1,h2,h3,h4⟩:=h
 have hq:(X++Y).length/128=X.length/128+1:=by rw [List.length_append];omega
 have e:(Bu.take f++Y).length=128:=by rw [List.length_append,List.length_take];omega
 have e2:over Bu f Y=X.drop (128*(X.length/128))++Y:=by rw [over,List.drop_of_length_le (by omega),List.append_nil,h4]
 refine ⟨pD h1 (by omega),by rw [List.length_append];omega,?_,?_⟩
 ·
  rw [hq,blocks,iM,jT _ _ _ _ (by rw [iF];omega),←h3,List.drop_append_of_le_length (by rw [iF];omega),←bn_drop,←iM,←e2,List.take_of_length_le (by rw [iF,pD h1 (by omega)];omega)]
 ·
  rw [hq,List.take_zero,List.drop_of_length_le (by rw [List.length_append];omega)]
def mcL (S:S8) (Bu:List UInt8) (f n:Nat):List Value:=S.l.map (nc .u64)++(HK.map (nc .u64)++(Bu.map bv++[.int .i64 (f:Int),.int .u64 (n:Int)]))
def mc (S:S8) (Bu:List UInt8) (f n:Nat):Array Value:=(mcL S Bu f n).toArray
theorem yZ {S:S8} {Bu:List UInt8} {f n:Nat} (h:Bu.length=128):(mcL S Bu f n).length=218:=by
 simp only [mcL,List.length_append,List.length_map,eT,h];rfl
theorem wP (S:S8) (Bu:List UInt8) (f n i:Nat):(mc S Bu f n)[i]?=(mcL S Bu f n)[i]?:=by simp [mc]
theorem lY (S:S8):(S.l.map (nc .u64)).length=8:=rfl
theorem uB:(HK.map (nc .u64)).length=80:=by rw [List.length_map,eT]
theorem mc_K (S:S8) (Bu:List UInt8) (f n:Nat) {t:Nat} (ht:t<80):(mc S Bu f n)[8+t]?=some (.int .u64 ((HK.getD t 0:Nat):Int)):=by
 rw [wP,mcL,List.getElem?_append_right (by rw [lY];omega),lY,show 8+t-8=t by omega,List.getElem?_append_left (by rw [uB];exact ht),List.getElem?_map]
 simp [List.getD,show t<HK.length by rw [eT];exact ht]
 rfl
theorem mc_B (S:S8) {Bu:List UInt8} (f n:Nat) {j:Nat} (hl:Bu.length=128) (hj:j<128):(mc S Bu f n)[88+j]?=Bu[j]?.map bv:=by
 rw [wP,mcL,List.getElem?_append_right (by rw [lY];omega),lY,List.getElem?_append_right (by rw [uB];omega),uB,List.getElem?_append_left (by rw [List.length_map];omega),List.getElem?_map,show 88+j-8-80=j by omega]
theorem pI (S:S8) (Bu:List UInt8) (f n:Nat):mcL S Bu f n=(S.l.map (nc .u64)++(HK.map (nc .u64)++Bu.map bv))++[.int .i64 (f:Int),.int .u64 (n:Int)]:=by simp [mcL]
theorem iC {S:S8} {Bu:List UInt8} (h:Bu.length=128):(S.l.map (nc .u64)++(HK.map (nc .u64)++Bu.map bv)).length=216:=by
 rw [List.length_append,List.length_append,lY,uB,List.length_map,h]
theorem mc_f (S:S8) {Bu:List UInt8} (f n:Nat) (h:Bu.length=128):(mc S Bu f n)[216]?=some (.int .i64 (f:Int)):=by
 rw [wP,pI,List.getElem?_append_right (by rw [iC h];omega),iC h];rfl
theorem mc_n (S:S8) {Bu:List UInt8} (f n:Nat) (h:Bu.length=128):(mc S Bu f n)[217]?=some (.int .u64 (n:Int)):=by
 rw [wP,pI,List.getElem?_append_right (by rw [iC h];omega),iC h];rfl
theorem mc_setf (S:S8) {Bu:List UInt8} (f n f':Nat) (h:Bu.length=128):(mc S Bu f n).setIfInBounds 216 (.int .i64 (f':Int))=mc S Bu f' n:=by
 simp only [mc,pI,lD]
 rw [List.set_append_right _ _ (by rw [iC h];omega),iC h]
 rfl
theorem mc_setn (S:S8) {Bu:List UInt8} (f n n':Nat) (h:Bu.length=128):(mc S Bu f n).setIfInBounds 217 (.int .u64 (n':Int))=mc S Bu f n':=by
 simp only [mc,pI,lD]
 rw [List.set_append_right _ _ (by rw [iC h];omega),iC h]
 rfl
theorem mc_over (S:S8) {Bu Y:List UInt8} (f n:Nat) (h:Bu.length=128) (hf:f+Y.length≤128) :
  ((mc S Bu f n).toList.take (88+f)++Y.map bv++(mc S Bu f n).toList.drop (88+f+(Y.map bv).length)).toArray=mc S (over Bu f Y) f n:=by
 have e:mcL S Bu f n=(S.l.map (nc .u64)++HK.map (nc .u64))++(Bu.map bv++[.int .i64 (f:Int),.int .u64 (n:Int)]):=by simp [mcL]
 have el:(S.l.map (nc .u64)++HK.map (nc .u64)).length=88:=by rw [List.length_append,lY,uB]
 have t1:(mcL S Bu f n).take (88+f)=(S.l.map (nc .u64)++HK.map (nc .u64))++(Bu.take f).map bv:=by
  rw [e,List.take_append,el,List.take_of_length_le (by omega),show 88+f-88=f by omega,List.take_append_of_le_length (by rw [List.length_map];omega),List.map_take]
 have t2:(mcL S Bu f n).drop (88+f+Y.length)=(Bu.drop (f+Y.length)).map bv++[.int .i64 (f:Int),.int .u64 (n:Int)]:=by
  rw [e,List.drop_append,el,List.drop_of_length_le (by omega),List.nil_append,show 88+f+Y.length-88=f+Y.length by omega,List.drop_append_of_le_length (by rw [List.length_map];omega),List.map_drop]
 show ((mcL S Bu f n).take (88+f)++Y.map bv++(mcL S Bu f n).drop (88+f+(Y.map bv).length)).toArray=(mcL S (over Bu f Y) f n).toArray
 rw [List.length_map,t1,t2,mcL,over]
 simp
def setL (cs:Array Value) (o:Nat):List Value→Array Value
 | []=>cs
 | v::r=>setL (cs.setIfInBounds o v) (o+1) r
theorem _root_.Go.Proofs.YtpagiffbjofihaaGreatDoor.Blk.setCells {g:Nat} {t:TypeId}:∀ (vs:List Value) (o:Nat) (cs:Array Value) (W:World),Blk W g t cs→Blk (W.setCells g o vs) g t (setL cs o vs)
 | [],_,_,_,h=>h
 | v::r,o,cs,W,h=>Blk.setCells r (o+1) _ _ (h.set_ o v)
theorem iS (g:Nat):∀ (vs:List Value) (o:Nat) (W:World),W.grownBy (W.setCells g o vs) (some g)
 | [],_,W=>World.grownBy.refl _ _
 | v::r,o,W=>eG (gE W g o v) (iS g r (o+1) _)
theorem mc_setS (S S':S8) (Bu:List UInt8) (f n:Nat):setL (mc S Bu f n) 0 (us S'.l).toList=mc S' Bu f n:=by
 obtain ⟨a,b,c,d,e,f0,g,h⟩:=S
 obtain ⟨a',b',c',d',e',f',g',h'⟩:=S'
 have e1:(us (S8.l ⟨a',b',c',d',e',f',g',h'⟩)).toList=[nc .u64 a',nc .u64 b',nc .u64 c',nc .u64 d',nc .u64 e',nc .u64 f',nc .u64 g',nc .u64 h']:=rfl
 rw [e1]
 simp only [mc,mcL,S8.l,List.map_cons,List.map_nil,List.cons_append,List.nil_append,setL,lD,lE,lF]
theorem mc_one (S:S8) (Bu:List UInt8) (f n:Nat):(mc S Bu f n).all (·.oneCell')=true:=by
 rw [Array.all_eq_true_iff_forall_mem]
 intro v hv
 simp only [mc,mcL,List.mem_toArray,List.mem_append,List.mem_map,List.mem_cons,List.not_mem_nil,or_false] at hv
 rcases hv with ⟨x,_,rfl⟩ | ⟨x,_,rfl⟩ | ⟨x,_,rfl⟩ | rfl | rfl<;>rfl
structure PS (w:World) (g:Nat) (A:Option Addr) (n c:Nat) (l:List UInt8):Prop where
 len:l.length=n
 cap:n≤c
 nil_:A=none→c=0
 at_:0<n→∃ b o,A=some ⟨b,o,none⟩∧b≠g∧b<w.heap.size∧∀ j x,l[j]?=some x→w.cell? ⟨b,o+j,none⟩=some (.int .u8 (x.toNat:Int))
theorem PS.ofBS {w:World} {g n c B:Nat} {A:Option Addr} {l:List UInt8} (h:BS w B A n c l) (hg:B≤g) (hw:B≤w.heap.size):PS w g A n c l :=
 ⟨h.len,h.cap,h.nil_,fun hn=>by
  obtain ⟨b,o,e,hb,hc⟩:=h.at_ hn
  exact ⟨b,o,e,by omega,by omega,hc⟩⟩
theorem PS.grown {w w':World} {g n c:Nat} {A:Option Addr} {l:List UInt8} (h:PS w g A n c l) (hg:w.grownBy w' (some g)):PS w' g A n c l :=
 ⟨h.len,h.cap,h.nil_,fun hn=>by
  obtain ⟨b,o,e,hb,hlt,hc⟩:=h.at_ hn
  have hk:=hg.block b hlt (fun e=>hb (by injection e))
  exact ⟨b,o,e,hb,(Nat.lt_of_lt_of_le hlt hg.size),fun j x hx=>(World.cell?_of_block hk).trans (hc j x hx)⟩⟩
theorem PS.tail {w:World} {g n c:Nat} {A:Option Addr} {l:List UInt8} (h:PS w g A n c l) {k:Nat} (hk:k≤n) :
  ∃ A',(∀ W,(Instr.slice 24 (.slice A n c) (some (.int .i64 (k:Int))) none none).run zP W=.ok (.slice A' (n-k) (c-k)) W)∧PS w g A' (n-k) (c-k) (l.drop k):=by
 have hel:zP.elem 24=5:=by simp [Program.elem,Tryz.underlying24]
 have hnc:=h.cap
 refine ⟨if c=k then A else A.map (fun a=>a.add k),fun W=>?_,?_⟩
 ·
  rw [run_slice_l W 24 A n c (by rw [hel];exact Tryz.underlying24) _ _ (by omega) (by omega),hel,fH eE]
  simp only [Result.andThen,sliced,Int.toNat_natCast,Nat.mul_one]
 ·
  refine ⟨by rw [List.length_drop,h.len],by omega,fun e=>?_,fun hp=>?_⟩
  ·
   split at e
   ·
    omega
   ·
    cases A with
    | none=>have:=h.nil_ rfl;omega
    | some a=>cases e
  ·
   obtain ⟨b,o,e,hb,hlt,hc⟩:=h.at_ (by omega)
   subst e
   rw [if_neg (by omega)]
   refine ⟨b,o+k,by simp [Addr.add_lit],hb,hlt,fun j x hx=>?_⟩
   rw [List.getElem?_drop] at hx
   have:=hc _ x hx
   rw [←Nat.add_assoc] at this
   exact this
def lenV:Value→Nat
 | .slice _ n _=>n
 | _=>0
def TakePost (g:Nat) (Z:List UInt8) (w:World) (e:Ending) (w':World):Prop:=e=.returned (.tuple #[])∧∃ S Bu f,Tk Z S Bu f∧Blk w' g 130 (mc S Bu f Z.length)∧w.grownBy w' (some g)
theorem nM {P:Program} {o:Oper} {a:Act} {w:World} {K:Act→World→Prop} {Q:Exit→Act→World→Prop} (d s:Operand) (dT sT:TypeId)
  (ho:o.op=.call { callee:=.builtin .copy,args:=#[d,s],argTypes:=#[dT,sT] }) (elem:TypeId) (hu:P.underlying dT=some (.slice elem)) (hsz:(P.info? elem).map (·.size)=some 1)
  (dLen dCap sLen sCap:Nat) (g off:Nat) (ad:Addr) (hd:a.eval d=.slice (some ⟨g,off,none⟩) dLen dCap) (hs:a.eval s=.slice (some ad) sLen sCap)
  (cur:Array Value) (t:TypeId) (hg:w.heap[g]?=some (.cells cur t (0,0))) (cs:List Value) (hn:cs.length=Nat.min sLen dLen)
  (hsrc:∀ j v,cs[j]?=some v→w.cell? (ad.add j)=some v) (hfit:off+cs.length≤cur.size) (h1:∀ v∈cs,v.oneCell'=true) (m:Nat) (hm:cs.length=m)
  (h:K (a.put o.dst (.int .i64 (m:Int))) (w.setRow g (cur.toList.take off++cs++cur.toList.drop (off+cs.length)).toArray)) :
  Oper.wp P o a w K Q:=by
 have hrun:=run_copy_row (P:=P) w dT sT o.type elem g off dLen dCap ad sLen sCap cur t cs hu hsz hg hn hsrc hfit h1
 unfold Oper.wp
 simp [execOp,ho,resolve,invoke,builtin,hd,hs,hrun,Result.andThen]
 subst hm
 rw [List.append_assoc] at h
 exact h
theorem slice_arr_l (t:TypeId) (n:Nat) (ht:zP.underlying t=some (.array n 5)) (g o i:Nat) (hi:i<n) (W:World) :
  (Instr.sliceAt t (.pointer (some ⟨g,o,none⟩)) (some (.int .i64 (i:Int))) none none).run zP W=.ok (.slice (some ⟨g,o+i,none⟩) (n-i) (n-i)) W:=by
 have h1:zP.arrayLen t=n:=by simp [Program.arrayLen,ht]
 have h2:zP.elem t=5:=by simp [Program.elem,ht]
 rw [run_sliceAt_array_l W t _ (by rw [h1,h2];exact ht) _ _ (by omega) (by rw [h1];omega),h1,h2,fH eE]
 simp only [Result.andThen,slicedAt,Int.toNat_natCast,Nat.mul_one,Addr.add_lit]
 rw [if_neg (by omega)]
theorem vG (t:TypeId) (n:Nat) (ht:zP.underlying t=some (.array n 5)) (g o:Nat) (hn:0<n) (W:World) :
  (Instr.sliceAt t (.pointer (some ⟨g,o,none⟩)) none none none).run zP W=.ok (.slice (some ⟨g,o,none⟩) n n) W:=by
 have h1:zP.arrayLen t=n:=by simp [Program.arrayLen,ht]
 have h2:zP.elem t=5:=by simp [Program.elem,ht]
 rw [run_sliceAt_array_all W t _ (by rw [h1,h2];exact ht),h1,h2,fH eE]
 simp only [Result.andThen,slicedAt,Nat.zero_mul,Nat.sub_zero,Addr.add_lit,Nat.add_zero]
 rw [if_neg (by omega)]
theorem wp_load_st {op:Oper} {a:Act} {w:World} {K:Act→World→Prop} {Q:Exit→Act→World→Prop} (x:Operand) (ho:op.op=.load 124 x) (g:Nat) (hx:a.eval x=.pointer (some ⟨g,0,none⟩)) {t:TypeId} {S:S8} {Bu:List UInt8} {f n:Nat}
  (hb:Blk w g t (mc S Bu f n)) (h:K (a.put op.dst (.agg (us S.l))) w):op.wp zP a w K Q:=by
 refine wp_load_mid 124 x ho g 0 hx (us S.l).toList _ (fun j v hv=>?_) Tryz.underlying124 rfl eM h
 rw [hb.cell,Nat.zero_add,wP,mcL,List.getElem?_append_left (by have:=(List.getElem?_eq_some_iff.1 hv).1;rw [lY];exact this)]
 exact hv
theorem wp_store_st {op:Oper} {a:Act} {w:World} {K:Act→World→Prop} {Q:Exit→Act→World→Prop} (x y:Operand) (ho:op.op=.store 124 x y) (g:Nat) (hx:a.eval x=.pointer (some ⟨g,0,none⟩)) {t:TypeId} {S S':S8} {Bu:List UInt8} {f n:Nat} (hl:Bu.length=128)
  (hy:a.eval y=.agg (us S'.l)) (hb:Blk w g t (mc S Bu f n)) (h:K (a.put op.dst undef) (w.setCells g 0 (us S'.l).toList)):op.wp zP a w K Q:=by
 refine wp_store_mid 124 x y ho g 0 (us S'.l) hx hy (fun j hj=>⟨?_,hb.frozen _⟩) eM (dQ _) h
 have hj8:j<8:=hj
 rw [hb.cell,Array.getElem?_eq_getElem (by rw [mc,List.size_toArray,yZ hl];omega)]
 rfl
theorem size_u8t:(zP.info? 5).map (·.size)=some 1:=by kernel_rfl
theorem pO (w:World) (g:Nat) (cs:Array Value):w.grownBy (w.setRow g cs) (some g):=⟨rfl,rfl,rfl,by simp [World.setRow],fun k _ h=>Go.setRow_other w g k cs (fun e=>h (by rw [e]))⟩
theorem bv_ones (Y:List UInt8):∀ v∈Y.map bv,v.oneCell'=true:=by
 intro v hv
 obtain ⟨x,_,rfl⟩:=List.mem_map.1 hv
 rfl
attribute [local irreducible] mc mcL over press blocks HK be
set_option maxRecDepth 100000 in
theorem take_any (X l:List UInt8) (S:S8) (Bu:List UInt8) (f g:Nat) (A:Option Addr) (n c:Nat) (w:World) (hT:Tk X S Bu f) (hb:Blk w g 130 (mc S Bu f X.length)) (hl:PS w g A n c l) (hX:X.length+l.length<1152921504606846976) :
  Calls zP 92 #[.pointer (some ⟨g,0,none⟩),.slice A n c] w (TakePost g (X++l) w):=by
 have hln:=hl.len
 have c217:w.cell? ⟨g,217,none⟩=some (.int .u64 (X.length:Int)):=by rw [hb.cell,mc_n S f _ hT.len]
 have z217:=hb.frozen 217
 have hb1:=hb.set_ 217 (.int .u64 ((X.length+n:Nat):Int))
 rw [mc_setn S f _ _ hT.len] at hb1
 have hg1:=gE w g 217 (.int .u64 ((X.length+n:Nat):Int))
 have hl1:=hl.grown hg1
 rw [show ((X.length+n:Nat):Int)=(X.length:Int)+(n:Int) by push_cast;rfl] at hb1 hg1 hl1
 have HB1:=Lib.hid hb1
 have HG1:=Lib.hid hg1
 have HL1:=Lib.hid hl1
 have HT:=Lib.hid hT
 rw [hln] at hX
 have HLN:=Lib.hid hln
 clear hb1 hg1 hl1 hT hl hln
 generalize hXl:X.length=xl at *
 go_enter Tryz.func92,Tryz.ntmps92
 go_wp2_with (fail)
 go_loopw [1] (fun v wr=>∃ (k:Nat) (A':Option Addr),k≤n∧v=.slice A' (n-k) (c-k)∧PS wr g A' (n-k) (c-k) (l.drop k)∧∃ S Bu f,Tk (X++l.take k) S Bu f∧Blk wr g 130 (mc S Bu f (xl+n))∧w.grownBy wr (some g)) (fun v _=>lenV v)
 case atStart=>exact ⟨0,A,by omega,rfl,HL1.out,S,Bu,f,by simpa using HT.out,HB1.out,HG1.out⟩
 case round =>
  clear HT HB1 HG1 HL1 c217 z217 hb
  obtain ⟨k,A',hk,rfl,hP,S,Bu,f,hT,hb,hgr⟩:=hrel
  have hld:(l.drop k).length=n-k:=hP.len
  have hdk:∀ m,l.take (k+m)=l.take k++(l.drop k).take m:=fun m=>List.take_add
  have hdd:∀ m,(l.drop k).drop m=l.drop (k+m):=fun m=>List.drop_drop
  have hn1:∀ m,n-k-m=n-(k+m):=fun m=>by omega
  have hn2:∀ m,c-k-m=c-(k+m):=fun m=>by omega
  have hfin:k=n→X++l.take k=X++l:=fun e=>by rw [List.take_of_length_le (by rw [HLN.out];omega)]
  by_cases hlt:k<n
  ·
   have hf:=hT.lt
   have hq:0<n-k:=by omega
   have hkn:k+(n-k)=n:=by omega
   obtain ⟨m,em⟩:∃ m,m=Nat.min (n-k) (128-f):=⟨_,rfl⟩
   have hm1:0<m:=by rw [em];exact Nat.lt_min.2 ⟨hq,by omega⟩
   have hm2:m≤n-k:=by rw [em];exact Nat.min_le_left _ _
   have hm3:f+m≤128:=by
    have:m≤128-f:=by rw [em];exact Nat.min_le_right _ _
    omega
   obtain ⟨b,o,rfl,hbg,hblt,hcells⟩:=hP.at_ hq
   have hDK:=hdk m
   have hDD:=hdd m
   have hN1:=hn1 m
   have hN2:=hn2 m
   clear hdk hdd hn1 hn2 hfin
   obtain ⟨Y,eY⟩:∃ Y,Y=(l.drop k).take m:=⟨_,rfl⟩
   have hYl:Y.length=m:=by rw [eY,List.length_take];omega
   have hYc:∀ j v,(Y.map bv)[j]?=some v→wr.cell? ((⟨b,o,none⟩:Addr).add j)=some v:=fun j v hv=>by
    rw [List.getElem?_map] at hv
    cases hy:Y[j]? with
    | none=>rw [hy] at hv;cases hv
    | some x =>
     rw [hy] at hv
     injection hv with hv
     rw [Addr.add_mid,←hv]
     refine hcells j x ?_
     rw [eY,List.getElem?_take] at hy
     split at hy
     ·
      exact hy
     ·
      cases hy
   rw [←eY] at hDK
   have hover:=mc_over S (Y:=Y) f (xl+n) hT.len (by omega)
   have hol:=pD (Y:=Y) hT.len (show f+Y.length≤128 by omega)
   have hTl:=hT.less Y
   have hTw:=hT.whole Y
   rw [hYl] at hTl hTw
   have hSo:=hT.ok
   have hBl:=hT.len
   obtain ⟨A2,hsl,hP2⟩:=hP.tail (k:=m) hm2
   rw [hDD,hN1,hN2] at hP2
   have hsl2:=hsl
   rw [hN1,hN2] at hsl2
   have s1:=fun W=>slice_arr_l 128 128 Tryz.underlying128 g 88 f hf W
   have s2:=fun W=>vG 128 128 Tryz.underlying128 g 88 (by omega) W
   have c216:wr.cell? ⟨g,216,none⟩=some (.int .i64 (f:Int)):=by rw [hb.cell,mc_f S f _ hBl]
   have kb2:Blk (wr.drew.setRow g ((mc S Bu f (xl+n)).toList.take (88+f)++Y.map bv++(mc S Bu f (xl+n)).toList.drop (88+f+(Y.map bv).length)).toArray) g 130 (mc S (over Bu f Y) f (xl+n)):=by
    have:=Blk.setRow_same (hb.drew) (((mc S Bu f (xl+n)).toList.take (88+f)++Y.map bv++(mc S Bu f (xl+n)).toList.drop (88+f+(Y.map bv).length)).toArray)
    rw [hover] at this ⊢
    exact this
   have hg2:=eG (gX hgr) (pO wr.drew g (((mc S Bu f (xl+n)).toList.take (88+f)++Y.map bv++(mc S Bu f (xl+n)).toList.drop (88+f+(Y.map bv).length)).toArray))
   have hfit:88+f+(Y.map bv).length≤(mc S Bu f (xl+n)).size:=by
    have:(mc S Bu f (xl+n)).size=218:=by unfold mc;rw [List.size_toArray];exact yZ hBl
    rw [List.length_map,this];omega
   have hYm:(Y.map bv).length=m:=by rw [List.length_map,hYl]
   have hPg:∀ W,wr.drew.grownBy W (some g)→PS W g A2 (n-(k+m)) (c-(k+m)) (l.drop (k+m)):=fun W hW=>hP2.grown (World.grownBy.trans (gX (World.grownBy.refl wr _)) hW)
   have hgw:w.grownBy wr (some g):=hgr
   have HB:=Lib.hid hb
   have KB2:=Lib.hid kb2
   have HG2:=Lib.hid hg2
   have HYC:=Lib.hid hYc
   have HFIT:=Lib.hid hfit
   have HYM:=Lib.hid hYm
   have HPG:=Lib.hid hPg
   have HTL:=Lib.hid hTl
   have HTW:=Lib.hid hTw
   have HDK:=Lib.hid hDK
   have HOL:=Lib.hid hol
   have EM:=Lib.hid em
   clear hb kb2 hg2 hYc hfit hYm hPg hTl hTw hDK hDD hol em eY hover hcells hP hP2 hT hgr hgw hld hN1 hN2 hYl
   go_wp2_with (fail)
   refine wp_region_held_drew (S:=fun W=>W.cell? ⟨g,216,none⟩=some (.int .i64 (f:Int))) (by kernel_rfl) ?_ (fun hHeld=>?_)
   ·
    exact c216
   refine tk 0 hHeld ?_
   try simp only [Act.put,lA,lB,lC,lD,lE,lF]
   refine tk 1 hHeld ?_
   try simp only [Act.put,lA,lB,lC,lD,lE,lF]
   refine tk 2 hHeld ?_
   try simp only [Act.put,lA,lB,lC,lD,lE,lF]
   refine tk 3 hHeld ?_
   try simp only [Act.put,lA,lB,lC,lD,lE,lF]
   refine tk 4 hHeld ?_
   try simp only [Act.put,lA,lB,lC,lD,lE,lF]
   refine tk 5 hHeld ?_
   try simp only [Act.put,lA,lB,lC,lD,lE,lF]
   refine tk 6 hHeld ?_
   try simp only [Act.put,lA,lB,lC,lD,lE,lF]
   refine tk 7 hHeld ?_
   try simp only [Act.put,lA,lB,lC,lD,lE,lF]
   refine tk 8 hHeld ?_
   try simp only [Act.put,lA,lB,lC,lD,lE,lF]
   refine wpAnyH_ready (rs:=[9]) (by kernel_rfl) (by simp) (AllReadyH.cons rfl (fun K hK=>?_) AllReadyH.nil)
   clear hHeld
   try simp only [lA,lB,lC]
   rw [if_pos (by rfl)]
   refine nM (.tmp 25) (.tmp 26) 24 24 rfl 5 Tryz.underlying24 size_u8t (128-f) (128-f) (n-k) (c-k) g (88+f) ⟨b,o,none⟩ rfl rfl (mc S Bu f (xl+n)) 130 HB.out.drew (Y.map bv) (HYM.out.trans EM.out) HYC.out HFIT.out (bv_ones Y) m HYM.out ?_
   have c2:(wr.drew.setRow g ((mc S Bu f (xl+n)).toList.take (88+f)++Y.map bv++(mc S Bu f (xl+n)).toList.drop (88+f+(Y.map bv).length)).toArray).cell? ⟨g,216,none⟩=some (.int .i64 (f:Int)):=by rw [KB2.out.cell,mc_f S f _ HOL.out]
   refine hK.out _ _ c2 (fun hHeld=>?_)
   clear hK K
   try simp only [Act.put,lA,lB,lC,lD,lE,lF]
   obtain ⟨W2,eW2⟩:∃ W,W=wr.drew.setRow g ((mc S Bu f (xl+n)).toList.take (88+f)++Y.map bv++(mc S Bu f (xl+n)).toList.drop (88+f+(Y.map bv).length)).toArray:=⟨_,rfl⟩
   rw [←eW2] at hHeld c2 ⊢
   have kb3:=KB2.out
   have hg3:=HG2.out
   have hP3:=HPG.out W2 (by rw [eW2];exact pO _ _ _)
   rw [←eW2] at kb3 hg3
   clear eW2 KB2 HG2 HPG HB HYC HFIT HYM EM
   refine tk 10 hHeld ?_
   try simp only [Act.put,lA,lB,lC,lD,lE,lF]
   refine wpAnyH_done (by kernel_rfl) ?_ _
   have z2:=kb3.frozen 216
   have kb4:=kb3.set_ 216 (.int .i64 ((f+m:Nat):Int))
   rw [mc_setf S f _ (f+m) HOL.out] at kb4
   have hg4:=eG hg3 (gE W2 g 216 (.int .i64 ((f+m:Nat):Int)))
   have hP4:=hP3.grown (gE W2 g 216 (.int .i64 ((f+m:Nat):Int)))
   rw [show ((f+m:Nat):Int)=(f:Int)+(m:Int) by push_cast;rfl] at kb4 hg4 hP4
   have KB4:=Lib.hid kb4
   have HG4:=Lib.hid hg4
   have HP4:=Lib.hid hP4
   clear kb3 kb4 hg3 hg4 hP3 hP4
   have hwf:IntKind.i64.wrap ((f:Int)+(m:Int))=(f:Int)+(m:Int):=by rw [IntKind.wrap_i64];omega
   go_wp2_with (fail)
   refine wp_region_held_drew (S:=fun W=>True) (by kernel_rfl) ?_ (fun hHeld=>?_)
   ·
    exact trivial
   refine tk 0 hHeld ?_
   try simp only [Act.put,lA,lB,lC,lD,lE,lF]
   refine tk 1 hHeld ?_
   try simp only [Act.put,lA,lB,lC,lD,lE,lF]
   refine tk 2 hHeld ?_
   try simp only [Act.put,lA,lB,lC,lD,lE,lF]
   refine tk 3 hHeld ?_
   try simp only [Act.put,lA,lB,lC,lD,lE,lF]
   refine tk 5 hHeld ?_
   try simp only [Act.put,lA,lB,lC,lD,lE,lF]
   refine tk 7 hHeld ?_
   try simp only [Act.put,lA,lB,lC,lD,lE,lF]
   refine tk 8 hHeld ?_
   try simp only [Act.put,lA,lB,lC,lD,lE,lF]
   refine tk 9 hHeld ?_
   try simp only [Act.put,lA,lB,lC,lD,lE,lF]
   refine wpAnyH_ready (rs:=[4]) (by kernel_rfl) (by simp) (AllReadyH.cons rfl (fun K hK=>?_) AllReadyH.nil)
   have h0:=hHeld
   clear hHeld
   try simp only [lA,lB,lC]
   go_simp
   refine hK.out _ _ (trivial) (fun hHeld=>?_)
   clear hK K h0
   try simp only [Act.put,lA,lB,lC,lD,lE,lF]
   refine tk 6 hHeld ?_
   try simp only [Act.put,lA,lB,lC,lD,lE,lF]
   refine tk 10 hHeld ?_
   try simp only [Act.put,lA,lB,lC,lD,lE,lF]
   refine tk 11 hHeld ?_
   try simp only [Act.put,lA,lB,lC,lD,lE,lF]
   refine wpAnyH_ready (rs:=[12]) (by kernel_rfl) (by simp) (AllReadyH.cons rfl (fun K hK=>?_) AllReadyH.nil)
   have h0:=hHeld
   clear hHeld
   try simp only [lA,lB,lC]
   go_simp
   refine hK.out _ _ (trivial) (fun hHeld=>?_)
   clear hK K h0
   try simp only [Act.put,lA,lB,lC,lD,lE,lF]
   refine tk 13 hHeld ?_
   try simp only [Act.put,lA,lB,lC,lD,lE,lF]
   refine wpAnyH_done (by kernel_rfl) ?_ _
   obtain ⟨W3,eW3⟩:∃ W,W=(W2.setCell ⟨g,216,none⟩ (.int .i64 ((f:Int)+(m:Int)))).drew:=⟨_,rfl⟩
   rw [←eW3]
   have kb:=KB4.out.drew
   have hg:=gX HG4.out
   have hP:=HP4.out.grown (gX (World.grownBy.refl _ (some g)))
   rw [←eW3] at kb hg hP
   clear eW3 KB4 HG4 HP4 c216 c2 hwf z2 hsl hsl2 s1
   have c3:=kb.cell 216
   rw [mc_f _ _ _ HOL.out,show ((f+m:Nat):Int)=(f:Int)+(m:Int) by push_cast;rfl] at c3
   have hbl:=HOL.out
   generalize over Bu f Y=B2 at *
   by_cases h128:f+m=128
   ·
    have hbq:(((f:Int)+(m:Int)) == 128)=true:=by simp;omega
    have hbs:BS W3.drew (g+1) (some ⟨g,88,none⟩) 128 128 B2:=⟨hbl,Nat.le_refl _,(fun e=>by cases e),fun _=>⟨g,88,rfl,Nat.lt_succ_self _,fun j x hx=>by
     have hj:j<128:=by have:=(List.getElem?_eq_some_iff.1 hx).1;omega
     rw [kb.drew.cell,mc_B S _ _ hbl hj,hx]
     rfl⟩⟩
    have hKK:∀ t,t<80→W3.drew.cell? ⟨g,8+t,none⟩=some (.int .u64 ((HK.getD t 0:Nat):Int)):=fun t ht=>by rw [kb.drew.cell];exact mc_K S B2 _ _ ht
    have hpr:=pressed_any S (some ⟨g,88,none⟩) 128 (g+1) B2 g 8 W3.drew hSo hbs (by have:=kb.lt;exact this) kb.lt hKK
    have hTW:=HTW.out h128
    obtain ⟨S',eS⟩:∃ q,q=press (bn B2) S:=⟨_,rfl⟩
    rw [←eS] at hpr hTW
    rw [List.append_assoc,←HDK.out] at hTW
    have HPR:=Lib.hid hpr
    have HT2:=Lib.hid hTW
    clear hpr hTW hbs hKK eS HTW HTL HDK
    have KB:=Lib.hid kb
    have HG:=Lib.hid hg
    have HPP:=Lib.hid hP
    clear kb hg hP
    go_wp2_with (fail)
    refine wp_region_held_drew (S:=fun W=>True) (by kernel_rfl) ?_ (fun hHeld=>?_)
    ·
     exact trivial
    refine tk 0 hHeld ?_
    try simp only [Act.put,lA,lB,lC,lD,lE,lF]
    refine tk 1 hHeld ?_
    try simp only [Act.put,lA,lB,lC,lD,lE,lF]
    refine tk 2 hHeld ?_
    try simp only [Act.put,lA,lB,lC,lD,lE,lF]
    refine tk 3 hHeld ?_
    try simp only [Act.put,lA,lB,lC,lD,lE,lF]
    refine tk 4 hHeld ?_
    try simp only [Act.put,lA,lB,lC,lD,lE,lF]
    refine tk 6 hHeld ?_
    try simp only [Act.put,lA,lB,lC,lD,lE,lF]
    refine tk 7 hHeld ?_
    try simp only [Act.put,lA,lB,lC,lD,lE,lF]
    refine tk 8 hHeld ?_
    try simp only [Act.put,lA,lB,lC,lD,lE,lF]
    refine tk 9 hHeld ?_
    try simp only [Act.put,lA,lB,lC,lD,lE,lF]
    refine tk 10 hHeld ?_
    try simp only [Act.put,lA,lB,lC,lD,lE,lF]
    refine tk 11 hHeld ?_
    try simp only [Act.put,lA,lB,lC,lD,lE,lF]
    refine tk 12 hHeld ?_
    try simp only [Act.put,lA,lB,lC,lD,lE,lF]
    refine wpAnyH_ready (rs:=[5]) (by kernel_rfl) (by simp) (AllReadyH.cons rfl (fun K hK=>?_) AllReadyH.nil)
    clear hHeld
    try simp only [lA,lB,lC]
    rw [if_pos (by rfl)]
    refine wp_load_st (.tmp 49) rfl g rfl KB.out.drew ?_
    refine hK.out _ _ trivial (fun hHeld=>?_)
    clear hK K
    try simp only [Act.put,lA,lB,lC,lD,lE,lF]
    refine wpAnyH_ready (rs:=[13]) (by kernel_rfl) (by simp) (AllReadyH.cons rfl (fun K hK=>?_) AllReadyH.nil)
    clear hHeld
    try simp only [lA,lB,lC]
    go_simp
    go_at_call 116
    refine HPR.out.mono ?_
    rintro e v ⟨rfl,hb⟩
    have kb:=KB.out.drew.below hb KB.out.drew.lt
    have hg:=eG (gX HG.out) (gQ hb (some g))
    have hP:=(HPP.out.grown (gX (World.grownBy.refl _ (some g)))).grown (gQ hb (some g))
    clear hb KB HG HPP HPR
    have KB:=Lib.hid kb
    have kb2:=Blk.setCells (us S'.l).toList 0 _ _ kb
    rw [mc_setS] at kb2
    have hg2:=eG hg (iS g (us S'.l).toList 0 v)
    have hP2:=hP.grown (iS g (us S'.l).toList 0 v)
    have KB2:=Lib.hid kb2
    have HG2:=Lib.hid hg2
    have HP2:=Lib.hid hP2
    clear kb kb2 hg hg2 hP hP2
    go_wp2_with (fail)
    refine hK.out _ _ trivial (fun hHeld=>?_)
    clear hK K
    try simp only [Act.put,lA,lB,lC,lD,lE,lF]
    refine tk 14 hHeld ?_
    try simp only [Act.put,lA,lB,lC,lD,lE,lF]
    refine tk 15 hHeld ?_
    try simp only [Act.put,lA,lB,lC,lD,lE,lF]
    refine wpAnyH_ready (rs:=[16]) (by kernel_rfl) (by simp) (AllReadyH.cons rfl (fun K hK=>?_) AllReadyH.nil)
    clear hHeld
    try simp only [lA,lB,lC]
    rw [if_pos (by rfl)]
    refine wp_store_st (.tmp 60) (.tmp 58) rfl g rfl hbl rfl KB.out ?_
    refine hK.out _ _ trivial (fun hHeld=>?_)
    clear hK K KB
    try simp only [Act.put,lA,lB,lC,lD,lE,lF]
    obtain ⟨W4,eW4⟩:∃ W,W=v.setCells g 0 (us S'.l).toList:=⟨_,rfl⟩
    rw [←eW4]
    have kb:=KB2.out
    have hg:=HG2.out
    have hP:=HP2.out
    rw [←eW4] at kb hg hP
    clear eW4 KB2 HG2 HP2
    have c4:=kb.cell 216
    rw [mc_f _ _ _ hbl] at c4
    have z4:=kb.frozen 216
    have kb5:=kb.set_ 216 (.int .i64 ((0:Nat):Int))
    rw [mc_setf S' _ _ 0 hbl] at kb5
    have hg5:=eG hg (gE W4 g 216 (.int .i64 ((0:Nat):Int)))
    have hP5:=hP.grown (gE W4 g 216 (.int .i64 ((0:Nat):Int)))
    rw [show ((0:Nat):Int)=0 from rfl] at kb5 hg5 hP5
    have HREL:Hid (PS _ g A2 (n-(k+m)) (c-(k+m)) (l.drop (k+m))∧∃ S Bu f,Tk (X++l.take (k+m)) S Bu f∧Blk _ g 130 (mc S Bu f (xl+n))∧w.grownBy _ (some g)):=Lib.hid ⟨hP5,S',B2,0,HT2.out,kb5,hg5⟩
    clear kb kb5 hg hg5 hP hP5
    refine tk 17 hHeld ?_
    try simp only [Act.put,lA,lB,lC,lD,lE,lF]
    refine tk 18 hHeld ?_
    try simp only [Act.put,lA,lB,lC,lD,lE,lF]
    refine wpAnyH_ready (rs:=[19]) (by kernel_rfl) (by simp) (AllReadyH.cons rfl (fun K hK=>?_) AllReadyH.nil)
    have h0:=hHeld
    clear hHeld
    try simp only [lA,lB,lC]
    go_simp
    refine hK.out _ _ (trivial) (fun hHeld=>?_)
    clear hK K h0
    try simp only [Act.put,lA,lB,lC,lD,lE,lF]
    refine wpAnyH_done (by kernel_rfl) ?_ _
    go_wp2_with (fail)
    go_round
    case rel=>exact ⟨k+m,A2,by omega,by rw [Nat.sub_sub,Nat.sub_sub],HREL.out.1,HREL.out.2⟩
    case measure=>simp [lenV];omega
   ·
    have HREL:Hid (PS W3 g A2 (n-(k+m)) (c-(k+m)) (l.drop (k+m))∧∃ S Bu f,Tk (X++l.take (k+m)) S Bu f∧Blk W3 g 130 (mc S Bu f (xl+n))∧w.grownBy W3 (some g)):=Lib.hid ⟨hP,S,B2,f+m,by rw [HDK.out,←List.append_assoc];exact HTL.out (by omega),kb,hg⟩
    have hbq:(((f:Int)+(m:Int)) == 128)=false:=by simp;omega
    clear kb hg hP HTL HTW HDK HOL
    go_wp2_with (fail)
    go_round
    case rel=>exact ⟨k+m,A2,by omega,by rw [Nat.sub_sub,Nat.sub_sub],HREL.out.1,HREL.out.2⟩
    case measure=>simp [lenV];omega
  ·
   have hfi:=hfin (by omega)
   rw [hfi] at hT
   have hxn:(X++l).length=xl+n:=by rw [List.length_append,hXl,HLN.out]
   have hq0:¬ 0<n-k:=by omega
   have HR:Hid (∃ S Bu f,Tk (X++l) S Bu f∧Blk wr g 130 (mc S Bu f (X++l).length)∧w.grownBy wr (some g)):=Lib.hid ⟨S,Bu,f,hT,by rw [hxn];exact hb,hgr⟩
   clear hfi hT hb hgr hfin hxn hdk hdd hn1 hn2
   go_wp2_with (fail)
   go_end0
   exact ⟨rfl,HR.out⟩
end Sha
end
section
namespace Sha
open Go Go.RowKit
def zm:Array Value:=(List.replicate 88 (Value.int .u64 0)++(List.replicate 128 (Value.int .u8 0)++[Value.int .i64 0,Value.int .u64 0])).toArray
theorem zm_size:zm.size=218:=by kernel_rfl
theorem zero_msg (w:World):(zeroValue 130).run zP w=.ok (.agg zm) w:=by kernel_rfl
theorem build_msg (w:World):(Instr.build 130 #[(0,.agg (us HS)),(1,.agg (us HK))]).run zP w=.ok (.agg (mc H0 (List.replicate 128 0) 0 0)) w:=by kernel_rfl
theorem size_msg:(zP.info? 130).map (·.size)=some 218:=by kernel_rfl
theorem mc_size {S:S8} {Bu:List UInt8} {f n:Nat} (h:Bu.length=128):(mc S Bu f n).size=218:=by unfold mc;rw [List.size_toArray];exact yZ h
theorem Tk.start:Tk [] H0 (List.replicate 128 0) 0:=⟨by simp,rfl,rfl,rfl⟩
theorem PS.ofBlk {W:World} {g gp:Nat} {t:TypeId} {P:List Nat} (h:Blk W gp t (ncs .u8 P)) (hne:gp≠g) (hP:∀ x∈P,x<256):PS W g (some ⟨gp,0,none⟩) P.length P.length (P.map UInt8.ofNat) :=
 ⟨by simp,Nat.le_refl _,(fun e=>by cases e),fun hn=>⟨gp,0,rfl,hne,h.lt,fun j x hx=>by
  rw [List.getElem?_map] at hx
  cases hy:P[j]? with
  | none=>rw [hy] at hx;cases hx
  | some y =>
   rw [hy] at hx
   injection hx with hx
   have hy8:=hP y (List.mem_of_getElem? hy)
   rw [h.cell,Nat.zero_add,dW,hy,←hx,UInt8.toNat_ofNat',Nat.mod_eq_of_lt hy8]
   rfl⟩⟩
theorem bn_ofNat {P:List Nat} (h:∀ x∈P,x<256):bn (P.map UInt8.ofNat)=P:=by
 unfold bn
 rw [List.map_map]
 refine Eq.trans (List.map_congr_left (g:=id) fun x hx=>?_) (List.map_id _)
 simp only [Function.comp_def,UInt8.toNat_ofNat',id]
 exact Nat.mod_eq_of_lt (h x hx)
theorem b8_lt (x:Nat):∀ y∈b8 x,y<256:=by
 intro y hy
 simp only [b8,List.mem_cons,List.not_mem_nil,or_false] at hy
 rcases hy with rfl | rfl | rfl | rfl | rfl | rfl | rfl | rfl<;>exact Nat.mod_lt _ (by omega)
theorem pad_lt (n:Nat):∀ y∈pad n,y<256:=by
 intro y hy
 simp only [pad,List.mem_cons,List.mem_append] at hy
 rcases hy with rfl | hy | hy | hy
 ·
  omega
 ·
  rw [(List.mem_replicate.1 hy).2];omega
 ·
  exact b8_lt _ _ hy
 ·
  exact b8_lt _ _ hy
theorem Tk.end_ {X:List UInt8} {S:S8} {Bu:List UInt8} {f:Nat} (h:Tk (X++(pad X.length).map UInt8.ofNat) S Bu f):S=hashS (bn X):=by
 have h3:=h.st
 rw [iM,bn_ofNat (pad_lt _),List.length_append,List.length_map] at h3
 rw [h3,hashS,full,iF,List.length_append,iF]
theorem mc_load {W:World} {g:Nat} {t:TypeId} {S:S8} {Bu:List UInt8} {f n:Nat} (hb:Blk W g t (mc S Bu f n)):W.rangeAt g 0 (us S.l).toList:=fun j v hv=>by
 rw [hb.cell,Nat.zero_add,wP,mcL,List.getElem?_append_left (by have:=(List.getElem?_eq_some_iff.1 hv).1;rw [lY];exact this)]
 exact hv
theorem sE {ops:Array Oper} {rest:List Oper} {op:Oper} {a:Act} {w:World} {Q:Exit→Act→World→Prop} (hgd:op.guard=none) (x:Operand) (ho:op.op=.load 124 x) (g:Nat) (hx:a.eval x=.pointer (some ⟨g,0,none⟩)) {t:TypeId} {S:S8} {Bu:List UInt8} {f n:Nat}
  (hb:Blk w g t (mc S Bu f n)) (h:wpList zP ops Q rest (a.put op.dst (.agg (us S.l))) w):wpList zP ops Q (op::rest) a w :=
 wpList_load_mid hgd 124 x ho g 0 hx (us S.l).toList _ (mc_load hb) Tryz.underlying124 rfl eM h
theorem hash_def (X:List Nat):hashN X=outS (hashS X):=rfl
theorem outS_len (S:S8):(outS S).length=64:=rfl
theorem sD {P:Program} {ops:Array Oper} {rest:List Oper} {op:Oper} {a:Act} {w:World} {Q:Exit→Act→World→Prop} (hgd:op.guard=none) (v:Value) (h:(execOp a.eval op).run P w=.ok (.value v) w)
  (k:wpList P ops Q rest (a.put op.dst v) w):wpList P ops Q (op::rest) a w :=
 wpList_plain hgd fun _ hK=>by
  unfold Oper.wp
  rw [h]
  exact hK _ _ k
theorem build_step {a:Act} {op:Oper} {x y:Operand} (ho:op.op=.build 130 #[(0,x),(1,y)]) (hx:a.eval x=.agg (us HS)) (hy:a.eval y=.agg (us HK)) (w:World):(execOp a.eval op).run zP w=.ok (.value (.agg (mc H0 (List.replicate 128 0) 0 0))) w:=by
 simp [execOp,ho,hx,hy,build_msg,Result.andThen]
attribute [local irreducible] mc mcL over press blocks HK HS be outS pad hashS hashN zm H0
set_option maxRecDepth 100000 in
theorem sum_any (A:Option Addr) (n c B:Nat) (L:List (List UInt8)) (w:World) (hp:PM w) (hl:RS w B A n c L) (hBw:B≤w.heap.size) (hX:L.flatten.length<1000000000) (hnn:n<1000000) :
  Calls zP 44 #[.slice A n c] w (BytesRow (hashN (bn L.flatten)) w):=by
 have hz64:∀ W:World,(zeroValue 40).run zP W=.ok (.agg (ncs .u8 z64)) W:=pY
 have hzm:∀ W:World,(zeroValue 130).run zP W=.ok (.agg zm) W:=zero_msg
 have f0:=(Fr.start w).any (ncs .u8 z64) 40 64 (by rw [dL,xS]) (g:=w.heap.size) rfl
 have F0:=Lib.hid f0
 have HP:=Lib.hid hp
 have HL:=Lib.hid hl
 rw [hash_def]
 obtain ⟨R,hR⟩:∃ R,R=outS (hashS (bn L.flatten)):=⟨_,rfl⟩
 rw [←hR]
 have HR:=Lib.hid hR
 have hln:=hl.len
 have HLN:=Lib.hid hln
 clear f0 hp hl hR hln
 obtain ⟨Z,hZ⟩:∃ Z:List UInt8,Z=List.replicate 128 0:=⟨_,rfl⟩
 have hZl:Z.length=128:=by rw [hZ];simp
 have HT0:=Lib.hid (show Tk [] H0 Z 0 by rw [hZ];exact Tk.start)
 have HZZ:=Lib.hid hZ
 clear hZ
 go_enter Tryz.func44,Tryz.ntmps44
 go_wp2_with (fail)
 refine (starts_any _ (F0.out.pm HP.out)).mono ?_
 rintro e v1 ⟨rfl,hb⟩
 have F1:=Lib.hid (F0.out.ext hb)
 clear hb F0
 go_wp2_with (fail)
 refine (vM _ (F1.out.pm HP.out)).mono ?_
 rintro e v2 ⟨rfl,hb⟩
 have f2:=F1.out.ext hb
 have hv:w.heap.size<v2.heap.size:=by
  obtain ⟨_,_,k⟩:=f2.old (g:=w.heap.size) (t:=40) (n:=64) (by simp)
  exact k.lt
 have f3:=f2.row zm 130 rfl
 generalize hgm:v2.heap.size=gm at *
 have km:=f3.get (g:=gm) (t:=130) (cs:=zm) (by simp)
 have f4:=f3.setRowHead (by simp) (by simp<;>omega) (mc H0 Z 0 0) (by omega)
 have F4:=Lib.hid f4
 have HI:=Lib.hid (show (zP.info? 130).map (·.size)=some (mc H0 Z 0 0).size by rw [mc_size hZl];exact size_msg)
 have HZ:=Lib.hid (show zm.size=(mc H0 Z 0 0).size by rw [mc_size hZl,zm_size])
 clear hb F1 f2 f3 f4
 go_wp2_with (first | (refine sD rfl (.agg (mc H0 Z 0 0)) (by rw [HZZ.out];exact build_step rfl rfl rfl _) ?_) | (refine wpList_store_row rfl 130 (.tmp 3) (.tmp 8) rfl gm (mc H0 Z 0 0) rfl rfl 130 _ km HI.out HZ.out (mc_one _ _ _ _) ?_))
 clear km HI HZ hzm hz64
 go_loopw [11] (fun i wr=>∃ k:Nat,k≤n∧i=.int .i64 k∧∃ S Bu f,Tk (flat L k) S Bu f∧Fr w wr [(gm,130,mc S Bu f (flat L k).length)] [(w.heap.size,40,64)]) (fun i _=>n-(intOf i).toNat)
 case atStart=>exact ⟨0,by omega,rfl,H0,Z,0,HT0.out,F4.out⟩
 case round =>
  clear F4 HT0 HZZ
  obtain ⟨k,hk,rfl,S,Bu,f,hT,hF⟩:=hrel
  have HT:=Lib.hid hT
  have HF:=Lib.hid hF
  have hfl:=flat_le L k
  have HFL:=Lib.hid hfl
  clear hT hF hfl
  by_cases hlt:k<n
  ·
   obtain ⟨b,o,l,Aj,nj,cj,rfl,hbB,hx,hc,hbs⟩:=(HL.out.below (HF.out.below.mono hBw)).at' hlt
   have hst:=flat_step hx
   have hfl2:=flat_le L (k+1)
   rw [hst,List.length_append] at hfl2
   have km:=HF.out.get (g:=gm) (t:=130) (cs:=mc S Bu f (flat L k).length) (by simp)
   have htk:=take_any (flat L k) l S Bu f gm Aj nj cj wr HT.out km (PS.ofBS hbs (by omega) (by have:=HF.out.size;omega)) (by omega)
   rw [←hst] at htk
   have HTK:=Lib.hid htk
   clear hst hfl2 km htk hbs hx
   go_wp2_with (fail)
   refine HTK.out.mono ?_
   rintro e v ⟨rfl,S',Bu',f',hT',hb',hg'⟩
   have f2:=HF.out.grownHead hg' hb' (by omega) (by simp) (by simp<;>omega)
   have F2:=Lib.hid f2
   have HT2:=Lib.hid hT'
   clear f2 hT' hb' hg' HF HT HTK
   go_wp2_with (fail)
   go_round
   case rel=>exact ⟨k+1,by omega,by go_num,S',Bu',f',HT2.out,F2.out⟩
   case measure=>simp [intOf];omega
  ·
   obtain rfl:k=n:=by omega
   have hfa:=flat_all HLN.out
   have hT:=HT.out
   have hF:=HF.out
   rw [hfa] at hT hF
   have hF0:=hF
   have km:=hF.get (g:=gm) (t:=130) (cs:=mc S Bu f L.flatten.length) (by simp)
   have c217:wr.cell? ⟨gm,217,none⟩=some (.int .u64 (L.flatten.length:Int)):=by rw [km.cell,mc_n S f _ hT.len]
   have HT:=Lib.hid hT
   have HF:=Lib.hid hF0
   clear hfa hT hF hF0 km HFL
   generalize hXl:L.flatten.length=xl at *
   have HXL:=Lib.hid hXl
   clear hXl
   go_wp2_with (fail)
   refine (padding_any xl _ (by omega)).mono ?_
   rintro e v1 ⟨rfl,kp,hb⟩
   have f1:=HF.out.ext hb
   have hgr:gm<wr.heap.size:=(HF.out.get (g:=gm) (t:=130) (cs:=mc S Bu f xl) (by simp)).lt
   have k1:=f1.get (g:=gm) (t:=130) (cs:=mc S Bu f xl) (by simp)
   have hpl:=pad_len xl
   have hpp:padL xl≤300:=by rcases fZ xl with h | h<;>omega
   have hps:=PS.ofBlk (g:=gm) kp (by omega) (pad_lt xl)
   rw [←HXL.out] at k1
   have htk:=take_any L.flatten _ S Bu f gm _ _ _ v1 HT.out k1 hps (by rw [List.length_map,HXL.out];omega)
   have HTK:=Lib.hid htk
   have F1:=Lib.hid f1
   clear htk hps k1 f1 hb kp hpl hpp c217 HF HT
   go_wp2_with (fail)
   refine HTK.out.mono ?_
   rintro e v2 ⟨rfl,S',Bu',f',hT',hb',hg'⟩
   have f2:=F1.out.grownHead hg' hb' (by omega) (by simp) (by simp<;>omega)
   have km:=hb'
   rw [←HXL.out] at hT'
   have hS:=hT'.end_
   have hR2:=HR.out
   rw [←hS] at hR2
   have hSo:=hT'.ok
   have HR2:=Lib.hid hR2
   have F2:=Lib.hid f2
   clear f2 hT' hb' hg' hS hR2 F1 HTK HR
   go_wp2_with (first | (refine sE rfl (.tmp 22) rfl gm rfl km ?_))
   refine (hash_any S' _ hSo).mono ?_
   rintro e v3 ⟨rfl,hb⟩
   rw [←HR2.out]
   have f3:=F2.out.ext hb
   have hRl:R.length=64:=by rw [HR2.out];exact outS_len S'
   obtain ⟨old,ho,k0⟩:=f3.old (g:=w.heap.size) (t:=40) (n:=64) (by simp)
   have kS:=k0.setRow_same (ncs .u8 R)
   have hB:=below_setRow f3.below (Nat.le_refl _) (ncs .u8 R)
   have KS:=Lib.hid kS
   have HB:=Lib.hid hB
   have HO:=Lib.hid (show old.size=(ncs .u8 R).size by rw [ho,dL,hRl])
   have HI:=Lib.hid (show (zP.info? 40).map (·.size)=some (ncs .u8 R).size by rw [dL,hRl];exact qH)
   clear f3 kS hB ho hb km F2 HR2
   go_wp2_with (first | (refine wpList_store_row rfl 40 (.tmp 2) (.tmp 24) rfl (w.heap.size) (ncs .u8 R) rfl rfl 40 old k0 HI.out HO.out (iH _ _) ?_))
   exact bodyPost_ret (results_cell_row rfl _ _ (w.heap.size) 40 (ncs .u8 R) (0,0) _ rfl KS.out Tryz.underlying40 rfl HI.out) rfl ⟨rfl,HB.out⟩
end Sha
end
section
open Go Go.RowKit
abbrev Env:=List (Nat × Value)
abbrev Hep:=List (Nat × TypeId × Array Value)
structure St (n:Nat) (w0:World) (a:Act) (w:World) (e:Env) (h:Hep):Prop where
 size:a.tmps.size=n
 defers:a.defers=[]
 env:∀ p∈e,a.tmps[p.1]?=some p.2
 below:Below w0.heap.size w0 w
 heap:∀ p∈h,Blk w p.1 p.2.1 p.2.2
 own:∀ p∈h,w0.heap.size≤p.1
 apart:h.Pairwise (fun p q=>p.1≠q.1)
def look:Env→Nat→Option Value
 | [],_=>none
 | p::r,k=>bif Nat.beq p.1 k then some p.2 else look r k
def sev (e:Env):Operand→Option Value
 | .tmp k=>look e k
 | .const v=>some v
 | .global g=>some (.pointer (some ⟨g,0,none⟩))
 | .func f=>some (.func (.func f) #[] #[])
def sevs (e:Env):List Operand→Option (List Value)
 | []=>some []
 | x::r=>match sev e x,sevs e r with
  | some v,some vs=>some (v::vs)
  | _,_=>none
theorem look_mem {e:Env} {k:Nat} {v:Value} (h:look e k=some v):(k,v)∈e:=by
 induction e with
 | nil=>cases h
 | cons p r ih =>
  unfold look at h
  cases hb:Nat.beq p.1 k with
  | true =>
   rw [hb] at h
   have hk:=Nat.eq_of_beq_eq_true hb
   injection h with h
   subst h
   subst hk
   exact List.mem_cons_self
  | false =>
   rw [hb] at h
   exact List.mem_cons_of_mem _ (ih h)
section
variable {P:Program} {n:Nat} {w0 w w':World} {a:Act} {e:Env} {h:Hep} {Q:Exit→Act→World→Prop} {ops:Array Oper} {rest:List Oper} {o:Oper}
theorem St.slot (H:St n w0 a w e h) {k:Nat} {v:Value} (hv:look e k=some v):a.tmps[k]?=some v:=H.env _ (look_mem hv)
theorem St.ev (H:St n w0 a w e h) {x:Operand} {v:Value} (hv:sev e x=some v):a.eval x=v:=by
 cases x with
 | tmp k =>
  have:=H.slot hv
  simp [Act.eval,this]
 | const u=>exact Option.some.inj hv
 | global g=>exact Option.some.inj hv
 | func f=>exact Option.some.inj hv
theorem St.evs (H:St n w0 a w e h):∀ {xs:List Operand} {vs:List Value},sevs e xs=some vs→xs.map a.eval=vs
 | [],vs,hv=>Option.some.inj hv
 | x::r,vs,hv=>by
  unfold sevs at hv
  cases h1:sev e x with
  | none=>rw [h1] at hv;cases hv
  | some v =>
   cases h2:sevs e r with
   | none=>rw [h1,h2] at hv;cases hv
   | some us =>
    rw [h1,h2] at hv
    injection hv with hv
    rw [List.map_cons,H.ev h1,H.evs h2,hv]
def fills:Nat→List Value→Env
 | _,[]=>[]
 | k,v::r=>(k,v)::fills (k+1) r
theorem fills_get {k:Nat} {vs:List Value} {p:Nat × Value} (hp:p∈fills k vs):∃ j,p.1=k+j∧vs[j]?=some p.2:=by
 induction vs generalizing k with
 | nil=>cases hp
 | cons v r ih =>
  rcases List.mem_cons.1 hp with rfl | hp
  ·
   exact ⟨0,rfl,rfl⟩
  ·
   obtain ⟨j,h1,h2⟩:=ih hp
   exact ⟨j+1,by omega,h2⟩
theorem St.start (vs:List Value) (n:Nat) (w:World) (hn:vs.length≤n):St n w { tmps:=vs.toArray++Array.replicate (n-vs.toArray.size) undef,defers:=[] } w (fills 0 vs) []:=by
 refine ⟨?_,rfl,fun p hp=>?_,Below.refl _ _,(fun p hp=>by cases hp),(fun p hp=>by cases hp),List.Pairwise.nil⟩
 ·
  simp
  omega
 ·
  obtain ⟨j,h1,h2⟩:=fills_get hp
  have hj:j<vs.length:=(List.getElem?_eq_some_iff.1 h2).1
  rw [h1,Nat.zero_add]
  dsimp only
  rw [Array.getElem?_append_left (by simpa using hj)]
  simpa using h2
theorem bN {f:FuncId} {fn:Func} {c:Code} {vs:List Value} {R:Ending→World→Prop} (n:Nat) (hf:P.funcs[f]?=some fn) (hb:fn.body=some c) (hn:fn.ntmps=n) (hl:Nat.ble vs.length n=true)
  (hc:∀ a W,St n w a W (fills 0 vs) []→c.wp P (bodyPost P fn R) a W):Calls P f vs.toArray w R:=by
 subst hn
 exact calls_of_wp hf hb (hc _ _ (St.start vs _ w (Nat.le_of_ble_eq_true hl)))
theorem St.put (H:St n w0 a w e h) {d:Nat} (v:Value) (hd:Nat.blt d n=true) (hf:e.all (fun p=>!Nat.beq p.1 d)=true):St n w0 (a.put (some d) v) w ((d,v)::e) h:=by
 have hd':d<a.tmps.size:=by rw [H.size];simpa [Nat.blt_eq] using hd
 refine ⟨by simp [Act.put,H.size],H.defers,fun p hp=>?_,H.below,H.heap,H.own,H.apart⟩
 rcases List.mem_cons.1 hp with rfl | hp
 ·
  show (a.tmps.setIfInBounds d v)[d]?=some v
  simp [hd']
 ·
  have hne:d≠p.1:=by
   have:=List.all_eq_true.1 hf p hp
   intro e1
   rw [e1,Nat.beq_refl] at this
   cases this
  show (a.tmps.setIfInBounds d v)[p.1]?=some p.2
  rw [Array.getElem?_setIfInBounds_ne hne]
  exact H.env p hp
theorem St.call (H:St n w0 a w e h) (hb:Below w.heap.size w w'):St n w0 a w' e h :=
 ⟨H.size,H.defers,H.env,H.below.trans (hb.mono H.below.size),fun p hp=>(H.heap p hp).below hb (H.heap p hp).lt,H.own,H.apart⟩
theorem St.drew (H:St n w0 a w e h):St n w0 a w.drew e h:=⟨H.size,H.defers,H.env,H.below.drew,H.heap,H.own,H.apart⟩
theorem St.alloc (H:St n w0 a w e h) (cs:Array Value) (t:TypeId):St n w0 a (w.alloc (.cells cs t)) e ((w.heap.size,t,cs)::h):=by
 refine ⟨H.size,H.defers,H.env,H.below.alloc H.below.size _,fun p hp=>?_,fun p hp=>?_,List.pairwise_cons.2 ⟨fun p hp=>?_,H.apart⟩⟩
 ·
  rcases List.mem_cons.1 hp with rfl | hp
  ·
   exact Blk.new _ _ _
  ·
   exact (H.heap p hp).alloc _
 ·
  rcases List.mem_cons.1 hp with rfl | hp
  ·
   exact H.below.size
  ·
   exact H.own p hp
 ·
  exact Nat.ne_of_gt (H.heap p hp).lt
theorem vY {h:Hep} {k:Nat} {x:Nat × TypeId × Array Value} {p:Nat × TypeId × Array Value} (hp:p∈h.set k x):p=x∨∃ j,j≠k∧h[j]?=some p:=by
 obtain ⟨j,hj⟩:=List.mem_iff_getElem?.1 hp
 by_cases e:j=k
 ·
  subst e
  left
  have hl:j<h.length:=by
   have:=(List.getElem?_eq_some_iff.1 hj).1
   simpa using this
  rw [List.getElem?_set_self hl] at hj
  exact (Option.some.inj hj).symm
 ·
  right
  exact ⟨j,e,by rw [List.getElem?_set_ne (Ne.symm e)] at hj;exact hj⟩
theorem pw_ne {h:Hep} (hp:h.Pairwise (fun p q=>p.1≠q.1)) {i j:Nat} (hij:i≠j) {x y:Nat × TypeId × Array Value} (hx:h[i]?=some x) (hy:h[j]?=some y):x.1≠y.1:=by
 obtain ⟨hi,rfl⟩:=List.getElem?_eq_some_iff.1 hx
 obtain ⟨hj,rfl⟩:=List.getElem?_eq_some_iff.1 hy
 rcases Nat.lt_or_ge i j with hl | hl
 ·
  exact List.pairwise_iff_getElem.1 hp i j hi hj hl
 ·
  exact Ne.symm (List.pairwise_iff_getElem.1 hp j i hj hi (by omega))
theorem pw_of {h:Hep} (hp:∀ (i j:Nat) (x y:Nat × TypeId × Array Value),i<j→h[i]?=some x→h[j]?=some y→x.1≠y.1):h.Pairwise (fun p q=>p.1≠q.1) :=
 List.pairwise_iff_getElem.2 fun i j hi hj hl=>hp i j _ _ hl (List.getElem?_eq_getElem hi) (List.getElem?_eq_getElem hj)
theorem St.write (H:St n w0 a w e h) {k g:Nat} {t:TypeId} {cs c:Array Value} (hk:h[k]?=some (g,t,cs)) (hs:Blk w' g t c) (hb:Below w0.heap.size w0 w') (ho:∀ (b:Nat) (t':TypeId) (d:Array Value),b≠g→Blk w b t' d→Blk w' b t' d) :
  St n w0 a w' e (h.set k (g,t,c)):=by
 refine ⟨H.size,H.defers,H.env,hb,fun p hp=>?_,fun p hp=>?_,pw_of fun i j x y hl hx hy=>?_⟩
 ·
  rcases vY hp with rfl | ⟨j,hj,hp⟩
  ·
   exact hs
  ·
   exact ho _ _ _ (pw_ne H.apart hj hp hk) (H.heap p (List.mem_iff_getElem?.2 ⟨j,hp⟩))
 ·
  rcases vY hp with rfl | ⟨j,hj,hp⟩
  ·
   exact H.own (g,t,cs) (List.mem_iff_getElem?.2 ⟨k,hk⟩)
  ·
   exact H.own p (List.mem_iff_getElem?.2 ⟨j,hp⟩)
 ·
  have fst:∀ (m:Nat) (z:Nat × TypeId × Array Value),(h.set k (g,t,c))[m]?=some z→∃ u:Nat × TypeId × Array Value,h[m]?=some u∧u.1=z.1:=by
   intro m z hz
   by_cases e1:m=k
   ·
    subst e1
    have hl:m<h.length:=(List.getElem?_eq_some_iff.1 hk).1
    rw [List.getElem?_set_self hl] at hz
    exact ⟨_,hk,by rw [←Option.some.inj hz]⟩
   ·
    rw [List.getElem?_set_ne (Ne.symm e1)] at hz
    exact ⟨_,hz,rfl⟩
  obtain ⟨u,hu,eu⟩:=fst i x hx
  obtain ⟨v,hv,ev⟩:=fst j y hy
  rw [←eu,←ev]
  exact pw_ne H.apart (by omega) hu hv
theorem St.setRow (H:St n w0 a w e h) {k g:Nat} {t:TypeId} {cs:Array Value} (hk:h[k]?=some (g,t,cs)) (c:Array Value):St n w0 a (w.setRow g c) e (h.set k (g,t,c)):=by
 have hm:(g,t,cs)∈h:=List.mem_iff_getElem?.2 ⟨k,hk⟩
 exact H.write hk ((H.heap _ hm).setRow_same c) (below_setRow H.below (H.own _ hm) c) (fun b t' d hne hb=>hb.setRow_other hne c)
def setV (cs:Array Value) (o:Nat):List Value→Array Value
 | []=>cs
 | v::r=>setV (cs.setIfInBounds o v) (o+1) r
theorem Blk.setV {g:Nat} {t:TypeId}:∀ (vs:List Value) (o:Nat) (cs:Array Value) (W:World),Blk W g t cs→Blk (W.setCells g o vs) g t (setV cs o vs)
 | [],_,_,_,h=>h
 | v::r,o,cs,W,h=>Blk.setV r (o+1) _ _ (h.set_ o v)
theorem Blk.setCells_other {g b:Nat} {t:TypeId} {d:Array Value} (hne:b≠g):∀ (vs:List Value) (o:Nat) (W:World),Blk W b t d→Blk (W.setCells g o vs) b t d
 | [],_,_,h=>h
 | v::r,o,W,h=>Blk.setCells_other hne r (o+1) _ (h.far hne v)
theorem gV {B g:Nat} {w0:World} (hg:B≤g):∀ (vs:List Value) (o:Nat) (W:World),Below B w0 W→Below B w0 (W.setCells g o vs)
 | [],_,_,h=>h
 | v::r,o,W,h=>gV hg r (o+1) _ (h.setCell hg v)
theorem St.setCells (H:St n w0 a w e h) {k g:Nat} {t:TypeId} {cs c:Array Value} (hk:h[k]?=some (g,t,cs)) (o:Nat) (vs:List Value) (hc:setV cs o vs=c):St n w0 a (w.setCells g o vs) e (h.set k (g,t,c)):=by
 have hm:(g,t,cs)∈h:=List.mem_iff_getElem?.2 ⟨k,hk⟩
 subst hc
 exact H.write hk (Blk.setV vs o cs w (H.heap _ hm)) (gV (H.own _ hm) vs o w H.below) (fun b t' d hne hb=>Blk.setCells_other hne vs o w hb)
theorem St.sub (H:St n w0 a w e h) {e':Env} {h':Hep} (he:∀ p∈e',p∈e) (hh:∀ p∈h',p∈h) (hp:h'.Pairwise (fun p q=>p.1≠q.1)):St n w0 a w e' h' :=
 ⟨H.size,H.defers,fun p hp=>H.env p (he p hp),H.below,fun p hp=>H.heap p (hh p hp),fun p hp=>H.own p (hh p hp),hp⟩
def picks {α:Type} (l:List α):List Nat→List α
 | []=>[]
 | k::r=>match l[k]? with
  | some x=>x::picks l r
  | none=>picks l r
theorem kC {α:Type} {l:List α} {ks:List Nat} {x:α} (hx:x∈picks l ks):∃ k∈ks,l[k]?=some x:=by
 induction ks with
 | nil=>cases hx
 | cons k r ih =>
  unfold picks at hx
  cases hk:l[k]? with
  | none =>
   rw [hk] at hx
   obtain ⟨j,hj,e⟩:=ih hx
   exact ⟨j,List.mem_cons_of_mem _ hj,e⟩
  | some y =>
   rw [hk] at hx
   rcases List.mem_cons.1 hx with rfl | hx
   ·
    exact ⟨k,List.mem_cons_self,hk⟩
   ·
    obtain ⟨j,hj,e⟩:=ih hx
    exact ⟨j,List.mem_cons_of_mem _ hj,e⟩
def rises:List Nat→Bool
 | []=>true
 | k::r=>r.all (fun j=>Nat.blt k j)&&rises r
theorem oY {l:Hep} (hl:l.Pairwise (fun p q=>p.1≠q.1)):∀ {ks:List Nat},rises ks=true→(picks l ks).Pairwise (fun p q=>p.1≠q.1)
 | [],_=>List.Pairwise.nil
 | k::r,hr=>by
  unfold rises at hr
  rw [Bool.and_eq_true] at hr
  unfold picks
  cases hk:l[k]? with
  | none=>exact oY hl hr.2
  | some y =>
   refine List.pairwise_cons.2 ⟨fun p hp=>?_,oY hl hr.2⟩
   obtain ⟨j,hj,e⟩:=kC hp
   have:=List.all_eq_true.1 hr.1 j hj
   rw [Nat.blt_eq] at this
   exact pw_ne hl (by omega) hk e
theorem St.pick (H:St n w0 a w e h) (es hs:List Nat) (hr:rises hs=true):St n w0 a w (picks e es) (picks h hs):=by
 refine H.sub (fun p hp=>?_) (fun p hp=>?_) (oY H.apart hr)
 ·
  obtain ⟨k,_,hk⟩:=kC hp
  exact List.mem_iff_getElem?.2 ⟨k,hk⟩
 ·
  obtain ⟨k,_,hk⟩:=kC hp
  exact List.mem_iff_getElem?.2 ⟨k,hk⟩
def Does (P:Program) (Q:Exit→Act→World→Prop) (n:Nat) (w0:World) (e:Env) (h:Hep) (o:Oper) (v:Value):Prop :=
 ∀ a w,St n w0 a w e h→o.wp P a w (fun a' w'=>a'=a.put o.dst v∧Below w.heap.size w w') Q
def Runs (P:Program) (n:Nat) (e:Env) (h:Hep) (o:Oper) (v:Value):Prop:=∀ w0 a w,St n w0 a w e h→(execOp a.eval o).run P w=.ok (.value v) w
theorem Runs.does {v:Value} (hr:Runs P n e h o v):Does P Q n w0 e h o v:=fun a w H=>by
 unfold Oper.wp
 rw [hr w0 a w H]
 exact ⟨rfl,Below.refl _ _⟩
theorem iE {v:Value} (hv:∀ a w,St n w0 a w e h→(execOp a.eval o).run P w=.ok (.value v) w):Does P Q n w0 e h o v:=fun a w H=>by
 unfold Oper.wp
 rw [hv a w H]
 exact ⟨rfl,Below.refl _ _⟩
theorem runs_move {x:Operand} {v:Value} (ho:o.op=.move x) (hx:sev e x=some v):Runs P n e h o v:=fun w0 a w H=>by
 unfold execOp
 simp only [ho,H.ev hx,Sem.run_pure]
theorem aK {x:Operand} {v:Value} (ho:o.op=.move x) (hx:sev e x=some v):Does P Q n w0 e h o v:=(runs_move ho hx).does
theorem runs_assign {x:Operand} {v:Value} (ho:o.op=.assign x) (hx:sev e x=some v):Runs P n e h o v:=fun w0 a w H=>by
 unfold execOp
 simp only [ho,H.ev hx,Sem.run_pure]
theorem aM {x:Operand} {v:Value} (ho:o.op=.assign x) (hx:sev e x=some v):Does P Q n w0 e h o v:=(runs_assign ho hx).does
theorem runs_pick {c x y:Operand} {b:Bool} {v:Value} (ho:o.op=.pick c x y) (hc:sev e c=some (.bool b)) (hx:b=true→sev e x=some v) (hy:b=false→sev e y=some v):Runs P n e h o v:=fun w0 a w H=>by
 unfold execOp
 cases b with
 | true=>simp [ho,H.ev hc,H.ev (hx rfl),asBool]
 | false=>simp [ho,H.ev hc,H.ev (hy rfl),asBool]
theorem cH {c x y:Operand} {b:Bool} {v:Value} (ho:o.op=.pick c x y) (hc:sev e c=some (.bool b)) (hx:b=true→sev e x=some v) (hy:b=false→sev e y=some v):Does P Q n w0 e h o v:=(runs_pick ho hc hx hy).does
theorem yC {x:Operand} {k:Nat} {vs:Array Value} {v:Value} (ho:o.op=.extract x k) (hx:sev e x=some (.tuple vs)) (hv:∀ W,(Instr.extract (.tuple vs) k).run P W=.ok v W):Runs P n e h o v:=fun w0 a w H=>by
 unfold execOp
 simp only [ho,H.ev hx,Sem.run_bind,hv,Result.andThen_ok,Sem.run_pure]
theorem bF {x:Operand} {k:Nat} {vs:Array Value} {v:Value} (ho:o.op=.extract x k) (hx:sev e x=some (.tuple vs)) (hv:∀ W,(Instr.extract (.tuple vs) k).run P W=.ok v W):Does P Q n w0 e h o v:=(yC ho hx hv).does
theorem runs_unOp {op:UnOp} {t:TypeId} {x:Operand} {u v:Value} (ho:o.op=.unOp op t x) (hx:sev e x=some u) (hv:∀ W,(Op.unary op u).run P W=.ok v W):Runs P n e h o v:=fun w0 a w H=>by
 unfold execOp
 simp only [ho,H.ev hx,Sem.run_bind,hv,Result.andThen_ok,Sem.run_pure]
theorem cX {op:UnOp} {t:TypeId} {x:Operand} {u v:Value} (ho:o.op=.unOp op t x) (hx:sev e x=some u) (hv:∀ W,(Op.unary op u).run P W=.ok v W):Does P Q n w0 e h o v:=(runs_unOp ho hx hv).does
theorem aQ {op:BinOp} {t t2:TypeId} {x y:Operand} {u1 u2 v:Value} (ho:o.op=.binOp op t x y t2) (hx:sev e x=some u1) (hy:sev e y=some u2)
  (hv:∀ W,(do eqGuard op t x y u1 u2;binOp op t u1 u2:Sem Value).run P W=.ok v W):Does P Q n w0 e h o v:=iE fun a w H=>by
 unfold execOp
 simp only [ho,H.ev hx,H.ev hy]
 rw [Sem.run_bind,hv w]
 rfl
theorem lI {s t:TypeId} {x:Operand} {u v:Value} (ho:o.op=.convert s t x) (hx:sev e x=some u) (hv:∀ W,(convert s t u).run P W=.ok v W):Does P Q n w0 e h o v:=iE fun a w H=>by
 unfold execOp
 simp only [ho,H.ev hx,Sem.run_bind,hv,Result.andThen_ok,Sem.run_pure]
theorem aP {t:TypeId} {x:Operand} {k:Nat} {u v:Value} (ho:o.op=.fieldAddr t x k) (hx:sev e x=some u) (hv:∀ W,(Instr.fieldAt t u k).run P W=.ok v W):Does P Q n w0 e h o v:=iE fun a w H=>by
 unfold execOp
 simp only [ho,H.ev hx,Sem.run_bind,hv,Result.andThen_ok,Sem.run_pure]
theorem bV {t:TypeId} {x y:Operand} {u1 u2 v:Value} (ho:o.op=.indexAddr t x y) (hx:sev e x=some u1) (hy:sev e y=some u2) (hv:∀ W,(Instr.indexAt t u1 u2).run P W=.ok v W):Does P Q n w0 e h o v:=iE fun a w H=>by
 unfold execOp
 simp only [ho,H.ev hx,H.ev hy,Sem.run_bind,hv,Result.andThen_ok,Sem.run_pure]
def sevp (e:Env):List (Nat × Operand)→Option (List (Nat × Value))
 | []=>some []
 | p::r=>match sev e p.2,sevp e r with
  | some v,some vs=>some ((p.1,v)::vs)
  | _,_=>none
theorem St.evp (H:St n w0 a w e h):∀ {ps:List (Nat × Operand)} {vs:List (Nat × Value)},sevp e ps=some vs→ps.map (fun p=>(p.1,a.eval p.2))=vs
 | [],vs,hv=>Option.some.inj hv
 | p::r,vs,hv=>by
  unfold sevp at hv
  cases h1:sev e p.2 with
  | none=>rw [h1] at hv;cases hv
  | some v =>
   cases h2:sevp e r with
   | none=>rw [h1,h2] at hv;cases hv
   | some us =>
    rw [h1,h2] at hv
    injection hv with hv
    rw [List.map_cons,H.ev h1,H.evp h2,hv]
theorem cD {t:TypeId} {ps:List (Nat × Operand)} {vs:List (Nat × Value)} {v:Value} (ho:o.op=.build t ps.toArray) (hx:sevp e ps=some vs) (hv:∀ W,(Instr.build t vs.toArray).run P W=.ok v W):Does P Q n w0 e h o v:=iE fun a w H=>by
 unfold execOp
 have e1:ps.toArray.map (fun (p:Nat × Operand)=>(p.1,a.eval p.2))=vs.toArray:=by rw [List.map_toArray,H.evp hx]
 simp only [ho]
 show (do let x ←Instr.build t (ps.toArray.map (fun (p:Nat × Operand)=>(p.1,a.eval p.2)));pure (Next.value x):Sem Next).run P w=_
 rw [e1,Sem.run_bind,hv]
 rfl
theorem aC {t:TypeId} {x:Operand} {g k:Nat} {t':TypeId} {cs:Array Value} {d:TypeDesc} (ho:o.op=.load t x) (hx:sev e x=some (.pointer (some ⟨g,0,none⟩))) (hk:h[k]?=some (g,t',cs))
  (hu:P.underlying t=some d) (hd:(match d with | .struct _ | .array _ _=>true | _=>false)=true) (hi:(P.info? t).map (·.size)=some cs.size):Does P Q n w0 e h o (.agg cs):=fun a w H =>
 wp_load_row t x ho g (H.ev hx) t' cs (0,0) d (H.heap _ (List.mem_iff_getElem?.2 ⟨k,hk⟩)) hu hd hi ⟨rfl,Below.refl _ _⟩
theorem aT {t:TypeId} {x:Operand} {g f k:Nat} {t':TypeId} {cs:Array Value} {v:Value} (ho:o.op=.load t x) (hx:sev e x=some (.pointer (some ⟨g,f,none⟩))) (hk:h[k]?=some (g,t',cs))
  (hv:∀ W,Blk W g t' cs→(Instr.loadAt t (.pointer (some ⟨g,f,none⟩))).run P W=.ok v W):Does P Q n w0 e h o v:=iE fun a w H=>by
 unfold execOp
 simp only [ho,H.ev hx,Sem.run_bind,hv w (H.heap _ (List.mem_iff_getElem?.2 ⟨k,hk⟩)),Result.andThen_ok,Sem.run_pure]
def Ours (P:Program) (f:FuncId):Prop:=∃ fn,P.funcs[f]?=some fn∧(fn.name == "runtime.NumGoroutine" || fn.body.isNone)=false
theorem yD {f:FuncId} (hf:Ours P f) (args:Array Value) (W:World):(callFunc f args).run P W=.ok (.enter f args) W:=by
 obtain ⟨fn,h1,h2⟩:=hf
 rw [Bool.or_eq_false_iff] at h2
 unfold callFunc
 have n1:fn.name ≠ "runtime.NumGoroutine":=by simpa using h2.1
 have n2:fn.body≠none:=by
  intro e
  have:=h2.2
  rw [e] at this
  cases this
 simp [Sem.run_bind,h1,n1,n2]
theorem sR {ρ:Operand→Value} {f:FuncId} {args:List Operand} {tys:Array TypeId} (ho:o.op=.call { callee:=.value (.func f),args:=args.toArray,argTypes:=tys }) (hf:Ours P f) (hρ:ρ (.func f)=.func (.func f) #[] #[]) (W:World) :
  (execOp ρ o).run P W=.ok (.enter f (args.map ρ).toArray) W:=by
 unfold execOp
 simp only [ho,resolve,hρ,Deferred.ofValue,List.map_toArray]
 simp [Sem.run_bind,Sem.run_pure,invoke,yD hf]
theorem aF {f:FuncId} {args:List Operand} {tys:Array TypeId} {vs:List Value} {v:Value} (ho:o.op=.call { callee:=.value (.func f),args:=args.toArray,argTypes:=tys }) (hf:Ours P f) (hx:sevs e args=some vs)
  (hc:∀ W,Below w0.heap.size w0 W→Calls P f vs.toArray W (fun r W'=>r=.returned v∧Below W.heap.size W W')):Does P Q n w0 e h o v:=fun a w H=>by
 unfold Oper.wp
 rw [sR ho hf rfl,H.evs hx,Oper.upon_enter]
 refine (hc w H.below).mono ?_
 rintro r W' ⟨rfl,hb⟩
 exact ⟨rfl,hb⟩
theorem aD {d:Nat} {v:Value} (hd:Does P Q n w0 e h o v) (hg:o.guard=none) (hdst:o.dst=some d) (hl:Nat.blt d n=true) (hf:e.all (fun p=>!Nat.beq p.1 d)=true)
  (H:St n w0 a w e h) (next:∀ a w,St n w0 a w ((d,v)::e) h→wpList P ops Q rest a w):wpList P ops Q (o::rest) a w :=
 wpList_plain hg fun K hK=>Oper.wp_mono (fun a' w' hw=>by
  obtain ⟨rfl,hb⟩:=hw
  refine hK _ _ (next _ _ ?_)
  rw [hdst]
  exact (H.call hb).put v hl hf) (hd a w H)
theorem dE {d:Nat} (hw:∀ a w,St n w0 a w e h→Region.wanted o (yielded ops a.tmps)=false) (hdst:o.dst=some d) (hl:Nat.blt d n=true) (hf:e.all (fun p=>!Nat.beq p.1 d)=true)
  (H:St n w0 a w e h) (next:∀ a w,St n w0 a w ((d,undef)::e) h→wpList P ops Q rest a w):wpList P ops Q (o::rest) a w :=
 wpList_step fun K hK=>by
  rw [hw a w H]
  refine hK _ _ (next _ _ ?_)
  rw [hdst]
  exact H.put _ hl hf
theorem cV {d:Nat} {v:Value} (hd:Does P Q n w0 e h o v) (hw:∀ a w,St n w0 a w e h→Region.wanted o (yielded ops a.tmps)=true) (hdst:o.dst=some d) (hl:Nat.blt d n=true) (hf:e.all (fun p=>!Nat.beq p.1 d)=true)
  (H:St n w0 a w e h) (next:∀ a w,St n w0 a w ((d,v)::e) h→wpList P ops Q rest a w):wpList P ops Q (o::rest) a w :=
 wpList_step fun K hK=>by
  rw [hw a w H,if_pos rfl]
  exact Oper.wp_mono (fun a' w' hw=>by
   obtain ⟨rfl,hb⟩:=hw
   refine hK _ _ (next _ _ ?_)
   rw [hdst]
   exact (H.call hb).put v hl hf) (hd a w H)
def News (P:Program) (o:Oper) (t:TypeId) (z:Array Value):Prop:=∀ (a:Act) (w:World),(execOp a.eval o).run P w=.ok (.value (.pointer (some ⟨w.heap.size,0,none⟩))) (w.alloc (.cells z t))
theorem bC {d:Nat} {t:TypeId} {z:Array Value} (hd:News P o t z) (hg:o.guard=none) (hdst:o.dst=some d) (hl:Nat.blt d n=true) (hf:e.all (fun p=>!Nat.beq p.1 d)=true)
  (H:St n w0 a w e h) (next:∀ (g:Nat) a w,St n w0 a w ((d,.pointer (some ⟨g,0,none⟩))::e) ((g,t,z)::h)→wpList P ops Q rest a w):wpList P ops Q (o::rest) a w :=
 wpList_plain hg fun K hK=>by
  unfold Oper.wp
  rw [hd a w]
  refine hK _ _ (next w.heap.size _ _ ?_)
  rw [hdst]
  exact (H.alloc z t).put _ hl hf
theorem bP {d:Nat} {t:TypeId} {x:Operand} {v:Value} {z:Array Value} (ho:o.op=.box t x) (hx:sev e x=some v) (hr:∀ W,(Instr.box t v).run P W=.ok (.pointer (some ⟨W.heap.size,0,none⟩)) (W.alloc (.cells z t)))
  (hg:o.guard=none) (hdst:o.dst=some d) (hl:Nat.blt d n=true) (hf:e.all (fun p=>!Nat.beq p.1 d)=true)
  (H:St n w0 a w e h) (next:∀ (g:Nat) a w,St n w0 a w ((d,.pointer (some ⟨g,0,none⟩))::e) ((g,t,z)::h)→wpList P ops Q rest a w):wpList P ops Q (o::rest) a w :=
 wpList_plain hg fun K hK=>by
  unfold Oper.wp execOp
  simp only [ho,H.ev hx,Sem.run_bind,hr,Result.andThen_ok,Sem.run_pure]
  refine hK _ _ (next w.heap.size _ _ ?_)
  rw [hdst]
  exact (H.alloc z t).put _ hl hf
theorem aO {t:TypeId} {x y:Operand} {g k:Nat} {t':TypeId} {cs c:Array Value} (ho:o.op=.store t x y) (hx:sev e x=some (.pointer (some ⟨g,0,none⟩))) (hy:sev e y=some (.agg c)) (hk:h[k]?=some (g,t',cs))
  (hi:(P.info? t).map (·.size)=some c.size) (hs:cs.size=c.size) (h1:c.all (·.oneCell')=true) (hg:o.guard=none) (hdst:o.dst=none)
  (H:St n w0 a w e h) (next:∀ a w,St n w0 a w e (h.set k (g,t',c))→wpList P ops Q rest a w):wpList P ops Q (o::rest) a w :=
 wpList_plain hg fun K hK=>wp_store_row t x y ho g c (H.ev hx) (H.ev hy) t' cs (H.heap _ (List.mem_iff_getElem?.2 ⟨k,hk⟩)) hi hs h1 (hK _ _ (next _ _ (by
  rw [hdst]
  exact H.setRow hk c)))
theorem fY {t:TypeId} {x y:Operand} {g f k:Nat} {t':TypeId} {cs c:Array Value} {v:Value} {vs:List Value} (ho:o.op=.store t x y) (hx:sev e x=some (.pointer (some ⟨g,f,none⟩))) (hy:sev e y=some v) (hk:h[k]?=some (g,t',cs))
  (hr:∀ W,Blk W g t' cs→(Instr.storeAt t (.pointer (some ⟨g,f,none⟩)) v).run P W=.ok () (W.setCells g f vs)) (hc:setV cs f vs=c) (hg:o.guard=none) (hdst:o.dst=none)
  (H:St n w0 a w e h) (next:∀ a w,St n w0 a w e (h.set k (g,t',c))→wpList P ops Q rest a w):wpList P ops Q (o::rest) a w :=
 wpList_plain hg fun K hK=>by
  unfold Oper.wp execOp
  simp only [ho,H.ev hx,H.ev hy,Sem.run_bind,hr w (H.heap _ (List.mem_iff_getElem?.2 ⟨k,hk⟩)),Result.andThen_ok,Sem.run_pure]
  refine hK _ _ (next _ _ ?_)
  rw [hdst]
  exact H.setCells hk f vs hc
theorem aH (next:Q .normal a w):wpList P ops Q [] a w:=next
theorem aE {id:Nat} {l:List Oper} (h:wpList P l.toArray Q l a w):(Code.region id l.toArray false).wp P Q a w:=wp_region_lit h
end
inductive Item where
 | val (d:Nat) (v:Value) (ps:List Nat)
 | pur (d:Nat) (v:Value) (ps:List Nat)
 | off (d:Nat) (ps:List Nat)
 | new (d:Nat) (t:TypeId) (z:Array Value)
def Item.d:Item→Nat
 | .val d _ _=>d
 | .pur d _ _=>d
 | .off d _=>d
 | .new d _ _=>d
def Item.out (g:Nat):Item→Value
 | .val _ v _=>v
 | .pur _ v _=>v
 | .off _ _=>undef
 | .new _ _ _=>.pointer (some ⟨g,0,none⟩)
def outs (G:Nat→Nat):Nat→List Item→Env
 | _,[]=>[]
 | k,it::r=>(it.d,it.out (G k))::outs G (k+1) r
def newHep (G:Nat→Nat):Nat→List Item→Hep
 | _,[]=>[]
 | k,.new d t z::r=>(G k,t,z)::newHep G (k+1) r
 | k,_::r=>newHep G (k+1) r
def depE (plan:List Item):List Nat→Env
 | []=>[]
 | p::r=>match plan[p]? with
  | some (.val d v _)=>(d,v)::depE plan r
  | some (.pur d v _)=>(d,v)::depE plan r
  | some (.off d _)=>(d,undef)::depE plan r
  | _=>depE plan r
def Item.ps:Item→List Nat
 | .val _ _ ps=>ps
 | .pur _ _ ps=>ps
 | .off _ ps=>ps
 | .new _ _ _=>[]
def Item.ob (P:Program) (ops:Array Oper) (Q:Exit→Act→World→Prop) (n:Nat) (w0:World) (e:Env) (h:Hep) (plan:List Item) (o:Oper):Item→Prop
 | .val d v ps=>Does P Q n w0 (depE plan ps++e) h o v∧∀ a w,St n w0 a w (depE plan ps++e) h→Region.wanted o (yielded ops a.tmps)=true
 | .pur d v ps=>Runs P n (depE plan ps++e) [] o v∧o.guard=none
 | .off d ps=>∀ a w,St n w0 a w (depE plan ps++e) h→Region.wanted o (yielded ops a.tmps)=false
 | .new d t z=>News P o t z∧o.guard=none
def waits (o:Oper):List Nat:=(o.after.toList.filter (fun x=>Region.binds .any x)).map (·.on)
def maskOf:List Nat→Nat
 | []=>0
 | k::r=>Nat.lor (Nat.shiftLeft 1 k) (maskOf r)
def masks (ops:Array Oper):List Nat:=ops.toList.map (fun o=>maskOf (waits o))
def closeM (ms:List Nat):Nat→Nat→Nat
 | 0,S=>S
 | i+1,S=>closeM ms i (bif Nat.testBit S i then Nat.lor S (ms.getD i 0) else S)
def distinct:List Nat→Bool
 | []=>true
 | k::r=>r.all (fun j=>!Nat.beq j k)&&distinct r
def lineUp (ms:List Nat) (m:Nat):Nat→List Nat→Bool
 | _,[]=>true
 | k,x::r=>Nat.beq (Nat.land (closeM ms k x) (Nat.shiftLeft 1 k-Nat.shiftLeft 1 m)) (Nat.shiftLeft 1 k-Nat.shiftLeft 1 m)&&lineUp ms m (k+1) r
def sub2 (a b:Nat):Bool:=Nat.beq (Nat.land a b) a
def downs:Nat→List Nat→Bool
 | _,[]=>true
 | k,m::r=>Nat.blt m (Nat.shiftLeft 1 k)&&downs (k+1) r
end
section
open Go Go.RowKit
theorem eJ {ks:List Nat} {j:Nat}:(maskOf ks).testBit j=true↔j∈ks:=by
 induction ks with
 | nil=>simp [maskOf]
 | cons k r ih =>
  show (Nat.lor (Nat.shiftLeft 1 k) (maskOf r)).testBit j=true↔_
  have e1:Nat.lor (Nat.shiftLeft 1 k) (maskOf r)=(1 <<< k) ||| maskOf r:=rfl
  rw [e1,Nat.testBit_or,Bool.or_eq_true,ih,List.mem_cons]
  have:((1 <<< k).testBit j=true)↔j=k:=by
   rw [Nat.shiftLeft_eq,Nat.one_mul,Nat.testBit_two_pow]
   simp only [decide_eq_true_eq]
   exact eq_comm
  rw [this]
theorem low_bit {k j:Nat}:(Nat.shiftLeft 1 k-1).testBit j=decide (j<k):=by
 have e1:Nat.shiftLeft 1 k=2^k:=by
  show 1 <<< k=_
  rw [Nat.shiftLeft_eq,Nat.one_mul]
 rw [e1,Nat.testBit_two_pow_sub_one]
section
variable {P:Program} {n:Nat} {w0 w w':World} {a:Act} {e:Env} {h:Hep} {Q:Exit→Act→World→Prop} {ops:Array Oper} {plan:List Item} {ms:List Nat}
theorem dS {i:Nat} {o:Oper} (hm:masks ops=ms) (ho:ops[i]?=some o):ms[i]?=some (maskOf (waits o)):=by
 subst hm
 unfold masks
 simp [ho]
theorem fJ {o:Oper} {j:Nat}:j∈waits o↔∃ x∈o.after,Region.binds .any x=true∧x.on=j:=by
 unfold waits
 simp only [List.mem_map,List.mem_filter,Array.mem_toList_iff]
 constructor
 ·
  rintro ⟨x,⟨h1,h2⟩,rfl⟩
  exact ⟨x,h1,h2,rfl⟩
 ·
  rintro ⟨x,h1,h2,rfl⟩
  exact ⟨x,⟨h1,h2⟩,rfl⟩
def Down (ops:Array Oper) (l:Array Bool):Prop:=∀ i o,ops[i]?=some o→l.getD i false=true→∀ x∈o.after,Region.binds .any x=true→l.getD x.on false=true
theorem lZ {l:Array Bool} {i:Nat} (h:l.getD i false=true):i<l.size:=by
 apply Nat.lt_of_not_le
 intro hl
 simp [Array.getElem?_eq_none hl] at h
theorem eL {l:Array Bool} (hm:masks ops=ms) (hd:Down ops l) (hs:l.size=ops.size):∀ (k S:Nat),(∀ j,S.testBit j=true→l.getD j false=true)→∀ j,(closeM ms k S).testBit j=true→l.getD j false=true
 | 0,S,h,j,hj=>h j hj
 | k+1,S,h,j,hj=>by
  unfold closeM at hj
  cases hb:Nat.testBit S k with
  | false =>
   rw [hb] at hj
   exact eL hm hd hs k S h j hj
  | true =>
   rw [hb] at hj
   refine eL hm hd hs k _ (fun i hi=>?_) j hj
   have hi:(S ||| ms.getD k 0).testBit i=true:=hi
   rw [Nat.testBit_or,Bool.or_eq_true] at hi
   rcases hi with hi | hi
   ·
    exact h i hi
   ·
    have hk:=h k hb
    have hlt:=lZ hk
    rw [hs] at hlt
    have ho:ops[k]?=some ops[k]:=Array.getElem?_eq_getElem hlt
    have hg:=dS hm ho
    have e2:ms.getD k 0=maskOf (waits ops[k]):=by simp [hg]
    rw [e2,eJ,fJ] at hi
    obtain ⟨x,hx,hb2,rfl⟩:=hi
    exact hd k _ ho hk x hx hb2
theorem iA {l:Array Bool} {i:Nat} (hm:masks ops=ms) (hr:i∈Region.ready .any ops l):∀ j,(ms.getD i 0).testBit j=true→l.getD j false=true:=by
 obtain ⟨_,o,ho,hall⟩:=mem_ready.1 hr
 intro j hj
 have hg:=dS hm ho
 have e2:ms.getD i 0=maskOf (waits o):=by simp [hg]
 rw [e2,eJ,fJ] at hj
 obtain ⟨x,hx,hb,rfl⟩:=hj
 exact hall x hx hb
theorem low_bits {k m j:Nat} (hm:m≤k):(Nat.shiftLeft 1 k-Nat.shiftLeft 1 m).testBit j=(decide (m≤j)&&decide (j<k)):=by
 have e1:∀ i,Nat.shiftLeft 1 i=2^i:=fun i=>by
  show 1 <<< i=_
  rw [Nat.shiftLeft_eq,Nat.one_mul]
 have e2:2^k-2^m=2^m*(2^(k-m)-1):=by
  rw [Nat.mul_sub,←Nat.pow_add,show m+(k-m)=k by omega,Nat.mul_one]
 rw [e1,e1,e2,Nat.testBit_two_pow_mul,Nat.testBit_two_pow_sub_one,Bool.eq_iff_iff]
 simp only [Bool.and_eq_true,decide_eq_true_eq,ge_iff_le]
 omega
theorem tW {m k:Nat} {l:List Nat} (hmk:m≤k) (hl:lineUp ms m k l=true):∀ j x,l[j]?=some x→∀ i,m≤i→i<k+j→(closeM ms (k+j) x).testBit i=true:=by
 induction l generalizing k with
 | nil=>intro j x hj;cases hj
 | cons x0 r ih =>
  intro j x hj i hmi hi
  unfold lineUp at hl
  rw [Bool.and_eq_true] at hl
  cases j with
  | zero =>
   injection hj with hj
   subst hj
   have e1:=Nat.eq_of_beq_eq_true hl.1
   have e2:(Nat.land (closeM ms k x0) (Nat.shiftLeft 1 k-Nat.shiftLeft 1 m)).testBit i=true:=by
    rw [e1,low_bits hmk,decide_eq_true hmi,decide_eq_true (by omega)]
    rfl
   have e3:Nat.land (closeM ms k x0) (Nat.shiftLeft 1 k-Nat.shiftLeft 1 m)=closeM ms k x0 &&& (Nat.shiftLeft 1 k-Nat.shiftLeft 1 m):=rfl
   rw [e3,Nat.testBit_and,Bool.and_eq_true] at e2
   exact e2.1
  | succ j =>
   have:=ih (by omega) hl.2 j x hj i hmi (by omega)
   rw [show k+(j+1)=k+1+j by omega]
   exact this
theorem sub2_get {a b j:Nat} (h:sub2 a b=true) (hj:a.testBit j=true):b.testBit j=true:=by
 have e1:=Nat.eq_of_beq_eq_true h
 have e2:(Nat.land a b).testBit j=true:=by rw [e1];exact hj
 have e3:Nat.land a b=a &&& b:=rfl
 rw [e3,Nat.testBit_and,Bool.and_eq_true] at e2
 exact e2.2
theorem nH {k:Nat} {l:List Nat} (hl:downs k l=true):∀ j m,l[j]?=some m→∀ i,m.testBit i=true→i<k+j:=by
 induction l generalizing k with
 | nil=>intro j m hj;cases hj
 | cons m0 r ih =>
  intro j m hj i hi
  unfold downs at hl
  rw [Bool.and_eq_true] at hl
  cases j with
  | zero =>
   injection hj with hj
   subst hj
   have h1:m0<2^k:=by
    have:=hl.1
    rw [Nat.blt_eq] at this
    have e1:Nat.shiftLeft 1 k=2^k:=by
     show 1 <<< k=_
     rw [Nat.shiftLeft_eq,Nat.one_mul]
    rwa [e1] at this
   apply Nat.lt_of_not_le
   intro hk
   have h2:m0<2^i:=Nat.lt_of_lt_of_le h1 (Nat.pow_le_pow_right (by omega) hk)
   rw [Nat.testBit_lt_two_pow h2] at hi
   cases hi
  | succ j =>
   have:=ih hl.2 j m hj i hi
   omega
theorem any_tail (hm:masks ops=ms) (hdn:downs 0 ms=true) {m:Nat} (hl:lineUp ms m m (ms.drop m)=true):∀ (fuel k:Nat) (l:Array Bool) (a:Act) (w:World),m≤k→k≤ops.size→ops.size-k≤fuel→l.size=ops.size→(∀ i,i<ops.size→(l.getD i false=true↔i<k))→wpList P ops Q (ops.toList.drop k) a w→wpAny P .any ops Q fuel l a w:=by
 have hmsl:ms.length=ops.size:=by rw [←hm];simp [masks]
 have rdy:∀ (k:Nat) (l:Array Bool),m≤k→l.size=ops.size→(∀ i,i<ops.size→(l.getD i false=true↔i<k))→∀ i∈Region.ready .any ops l,i=k∧i<ops.size:=by
  intro k l hk hs hli i hi
  obtain ⟨h0,o,ho,hall⟩:=mem_ready.1 hi
  have hlt:i<ops.size:=(Array.getElem?_eq_some_iff.1 ho).1
  refine ⟨?_,hlt⟩
  have hge:k≤i:=by
   apply Nat.le_of_not_lt
   intro hik
   have:=(hli i hlt).2 hik
   have hl2:i<l.size:=by omega
   simp [Array.getElem?_eq_getElem hl2] at h0 this
   rw [h0] at this
   cases this
  have hd:Down ops l:=by
   intro j o' ho' hj x hx hb
   have hjl:j<ops.size:=(Array.getElem?_eq_some_iff.1 ho').1
   have hjk:=(hli j hjl).1 hj
   have hg:=dS hm ho'
   have hx2:(maskOf (waits o')).testBit x.on=true:=eJ.2 (fJ.2 ⟨x,hx,hb,rfl⟩)
   have hxl:=nH hdn j _ hg x.on hx2
   exact (hli x.on (by omega)).2 (by omega)
  apply Nat.le_antisymm _ hge
  apply Nat.le_of_not_lt
  intro hki
  have hg:=dS hm ho
  have hg2:(ms.drop m)[i-m]?=some (maskOf (waits o)):=by
   rw [List.getElem?_drop,show m+(i-m)=i by omega]
   exact hg
  have hc:=tW (Nat.le_refl _) hl (i-m) _ hg2 k hk (by omega)
  rw [show m+(i-m)=i by omega] at hc
  have e2:ms.getD i 0=maskOf (waits o):=by simp [hg]
  have hc2:=eL hm hd hs i (maskOf (waits o)) (fun j hj=>iA hm hi j (by rw [e2];exact hj)) k hc
  have:=(hli k (by omega)).1 hc2
  omega
 intro fuel
 induction fuel with
 | zero =>
  intro k l a w hk hk2 hf hs hli hw
  have e:k=ops.size:=by omega
  refine ⟨?_,?_⟩
  ·
   apply List.eq_nil_iff_forall_not_mem.2
   intro i hi
   have:=rdy k l hk hs hli i hi
   omega
  ·
   rw [e,List.drop_of_length_le (by simp)] at hw
   exact hw
 | succ fuel ih =>
  intro k l a w hk hk2 hf hs hli hw
  by_cases e:k=ops.size
  ·
   refine ⟨fun _=>?_,fun i hi=>?_⟩
   ·
    rw [e,List.drop_of_length_le (by simp)] at hw
    exact hw
   ·
    have:=rdy k l hk hs hli i hi
    omega
  ·
   have hlt:k<ops.size:=by omega
   have hin:k∈Region.ready .any ops l:=by
    refine mem_ready.2 ⟨?_,ops[k],Array.getElem?_eq_getElem hlt,fun x hx hb=>?_⟩
    ·
     have hn:¬ l.getD k false=true:=fun h=>by have:=(hli k hlt).1 h;omega
     have hl2:k<l.size:=by omega
     simp [Array.getElem?_eq_getElem hl2] at hn ⊢
     exact hn
    ·
     have hg:=dS hm (Array.getElem?_eq_getElem hlt)
     have hx2:(maskOf (waits ops[k])).testBit x.on=true:=eJ.2 (fJ.2 ⟨x,hx,hb,rfl⟩)
     have hxl:=nH hdn k _ hg x.on hx2
     exact (hli x.on (by omega)).2 (by omega)
   refine ⟨(fun h=>by rw [h] at hin;cases hin),fun i hi=>?_⟩
   obtain ⟨rfl,_⟩:=rdy k l hk hs hli i hi
   have hgo:∀ a w,wpList P ops Q (ops.toList.drop (i+1)) a w→wpAny P .any ops Q fuel (l.setIfInBounds i true) a w:=fun a w hw2=>by
    refine ih (i+1) _ a w (by omega) (by omega) (by omega) (by simpa using hs) (fun j hj=>?_) hw2
    by_cases hij:i=j
    ·
     subst hij
     have:i<l.size:=by omega
     simp [this]
    ·
     rw [getD_set_ne false hij,hli j hj]
     omega
   have hdrop:ops.toList.drop i=ops[i]::ops.toList.drop (i+1):=by
    rw [List.drop_eq_getElem_cons (by simpa using hlt)]
    simp
   rw [hdrop] at hw
   unfold wpList at hw
   unfold wpOp
   rw [Array.getElem?_eq_getElem hlt]
   dsimp only
   split at hw
   ·
    next hwn =>
    rw [if_pos hwn]
    exact hw.imp (Oper.wp_mono hgo) id
   ·
    next hwn =>
    rw [if_neg hwn]
    exact hgo _ _ hw
structure Mid (plan:List Item) (n:Nat) (w0:World) (e:Env) (h:Hep) (l:Array Bool) (G:Nat→Nat) (a:Act) (w:World):Prop where
 base:St n w0 a w e h
 vals:∀ j it,plan[j]?=some it→l.getD j false=true→a.tmps[it.d]?=some (it.out (G j))
 news:∀ j d t z,plan[j]?=some (.new d t z)→l.getD j false=true→Blk w (G j) t z∧w0.heap.size≤G j∧∀ p∈h,p.1≠G j
 dist:∀ j k d t z d' t' z',plan[j]?=some (.new d t z)→plan[k]?=some (.new d' t' z')→l.getD j false=true→l.getD k false=true→j≠k→G j≠G k
theorem outs_mem {G:Nat→Nat} {k:Nat} {r:List Item} {p:Nat × Value} (hp:p∈outs G k r):∃ (j:Nat) (it:Item),r[j]?=some it∧p=(it.d,it.out (G (k+j))):=by
 induction r generalizing k with
 | nil=>cases hp
 | cons it r ih =>
  rcases List.mem_cons.1 hp with rfl | hp
  ·
   exact ⟨0,it,rfl,rfl⟩
  ·
   obtain ⟨j,it',h1,rfl⟩:=ih hp
   exact ⟨j+1,it',h1,by rw [show k+(j+1)=k+1+j by omega]⟩
theorem kV {G:Nat→Nat} {k:Nat} {r:List Item} {p:Nat × TypeId × Array Value} (hp:p∈newHep G k r):∃ (j d:Nat) (t:TypeId) (z:Array Value),r[j]?=some (.new d t z)∧p=(G (k+j),t,z):=by
 induction r generalizing k with
 | nil=>cases hp
 | cons it r ih =>
  have go:p∈newHep G (k+1) r→∃ (j d:Nat) (t:TypeId) (z:Array Value),(it::r)[j]?=some (.new d t z)∧p=(G (k+j),t,z):=fun hp=>by
   obtain ⟨j,d,t,z,h1,rfl⟩:=ih hp
   exact ⟨j+1,d,t,z,h1,by rw [show k+(j+1)=k+1+j by omega]⟩
  cases it with
  | val d v ps=>exact go hp
  | pur d v ps=>exact go hp
  | off d ps=>exact go hp
  | new d t z =>
   rcases List.mem_cons.1 hp with rfl | hp
   ·
    exact ⟨0,d,t,z,rfl,rfl⟩
   ·
    exact go hp
theorem newHep_pw {G:Nat→Nat} {k:Nat} {r:List Item} (hd:∀ (i j d:Nat) (t:TypeId) (z:Array Value) (d':Nat) (t':TypeId) (z':Array Value),r[i]?=some (.new d t z)→r[j]?=some (.new d' t' z')→i≠j→G (k+i)≠G (k+j)):(newHep G k r).Pairwise (fun p q=>p.1≠q.1):=by
 induction r generalizing k with
 | nil=>exact List.Pairwise.nil
 | cons it r ih =>
  have go:(newHep G (k+1) r).Pairwise (fun p q=>p.1≠q.1):=ih fun i j d t z d' t' z' h1 h2 hne=>by
   have:=hd (i+1) (j+1) d t z d' t' z' h1 h2 (by omega)
   rw [show k+1+i=k+(i+1) by omega,show k+1+j=k+(j+1) by omega]
   exact this
  cases it with
  | val d v ps=>exact go
  | pur d v ps=>exact go
  | off d ps=>exact go
  | new d t z =>
   refine List.pairwise_cons.2 ⟨fun p hp=>?_,go⟩
   obtain ⟨j,d',t',z',h1,rfl⟩:=kV hp
   have:=hd 0 (j+1) d t z d' t' z' rfl h1 (by omega)
   rw [show k+1+j=k+(j+1) by omega]
   exact this
theorem Mid.all {l:Array Bool} {G:Nat→Nat} (H:Mid plan n w0 e h l G a w) (hl:∀ i,i<plan.length→l.getD i false=true):St n w0 a w (outs G 0 plan++e) (newHep G 0 plan++h):=by
 have lt:∀ {j:Nat} {it:Item},plan[j]?=some it→l.getD j false=true:=fun hj=>hl _ (List.getElem?_eq_some_iff.1 hj).1
 refine ⟨H.base.size,H.base.defers,fun p hp=>?_,H.base.below,fun p hp=>?_,fun p hp=>?_,List.pairwise_append.2 ⟨newHep_pw fun i j d t z d' t' z' h1 h2 hne=>?_,H.base.apart,fun p hp q hq=>?_⟩⟩
 ·
  rcases List.mem_append.1 hp with hp | hp
  ·
   obtain ⟨j,it,h1,rfl⟩:=outs_mem hp
   rw [Nat.zero_add]
   exact H.vals j it h1 (lt h1)
  ·
   exact H.base.env p hp
 ·
  rcases List.mem_append.1 hp with hp | hp
  ·
   obtain ⟨j,d,t,z,h1,rfl⟩:=kV hp
   rw [Nat.zero_add]
   exact (H.news j d t z h1 (lt h1)).1
  ·
   exact H.base.heap p hp
 ·
  rcases List.mem_append.1 hp with hp | hp
  ·
   obtain ⟨j,d,t,z,h1,rfl⟩:=kV hp
   rw [Nat.zero_add]
   exact (H.news j d t z h1 (lt h1)).2.1
  ·
   exact H.base.own p hp
 ·
  rw [Nat.zero_add,Nat.zero_add]
  exact H.dist i j d t z d' t' z' h1 h2 (lt h1) (lt h2) hne
 ·
  obtain ⟨j,d,t,z,h1,rfl⟩:=kV hp
  rw [Nat.zero_add]
  exact Ne.symm ((H.news j d t z h1 (lt h1)).2.2 q hq)
theorem zG {l:List Nat} (hd:distinct l=true):∀ (i j x y:Nat),l[i]?=some x→l[j]?=some y→i≠j→x≠y:=by
 have key:∀ (l:List Nat),distinct l=true→∀ (i j x y:Nat),l[i]?=some x→l[j]?=some y→i<j→x≠y:=by
  intro l
  induction l with
  | nil=>intro _ i j x y h1;cases h1
  | cons k r ih =>
   intro hd i j x y h1 h2 hij
   unfold distinct at hd
   rw [Bool.and_eq_true] at hd
   obtain ⟨j,rfl⟩:∃ j',j=j'+1:=⟨j-1,by omega⟩
   cases i with
   | zero =>
    injection h1 with h1
    subst h1
    have hy:y∈r:=List.mem_iff_getElem?.2 ⟨j,h2⟩
    have:=List.all_eq_true.1 hd.1 y hy
    intro e
    rw [e,Nat.beq_refl] at this
    cases this
   | succ i=>exact ih hd.2 i j x y h1 h2 (by omega)
 intro i j x y h1 h2 hne
 rcases Nat.lt_or_ge i j with hl | hl
 ·
  exact key l hd i j x y h1 h2 hl
 ·
  exact Ne.symm (key l hd j i y x h2 h1 (by omega))
theorem cO {l:Array Bool} {i j:Nat} (h:(l.setIfInBounds i true).getD j false=true) (hne:j≠i):l.getD j false=true:=by
 rw [getD_set_ne false (Ne.symm hne)] at h
 exact h
theorem Mid.put {l:Array Bool} {G:Nat→Nat} (H:Mid plan n w0 e h l G a w) {i:Nat} {it:Item} {v:Value} (hi:plan[i]?=some it) (hv:∀ g,it.out g=v) (hnew:∀ d t z,it≠.new d t z) (hlt:it.d<n) (he:∀ p∈e,p.1≠it.d)
  (hd:∀ j jt,plan[j]?=some jt→j≠i→jt.d≠it.d) (hb:Below w.heap.size w w'):Mid plan n w0 e h (l.setIfInBounds i true) G (a.put (some it.d) v) w':=by
 have hlt':it.d<a.tmps.size:=by rw [H.base.size];exact hlt
 have keep:∀ k x,k≠it.d→a.tmps[k]?=some x→(a.put (some it.d) v).tmps[k]?=some x:=fun k x hne hx=>by
  show (a.tmps.setIfInBounds it.d v)[k]?=some x
  rw [Array.getElem?_setIfInBounds_ne (Ne.symm hne)]
  exact hx
 refine ⟨⟨by simp [Act.put,H.base.size],H.base.defers,fun p hp=>keep _ _ (he p hp) (H.base.env p hp),H.base.below.trans (hb.mono H.base.below.size),fun p hp=>(H.base.heap p hp).below hb (H.base.heap p hp).lt,H.base.own,H.base.apart⟩,fun j jt hj hl=>?_,fun j d t z hj hl=>?_,fun j k d t z d' t' z' hj hk hlj hlk hne=>?_⟩
 ·
  by_cases hji:j=i
  ·
   subst hji
   rw [hi] at hj
   injection hj with hj
   subst hj
   rw [hv]
   show (a.tmps.setIfInBounds it.d v)[it.d]?=some v
   simp [hlt']
  ·
   exact keep _ _ (hd j jt hj hji) (H.vals j jt hj (cO hl hji))
 ·
  have hji:j≠i:=fun e1=>by
   subst e1
   rw [hi] at hj
   injection hj with hj
   exact hnew d t z hj
  obtain ⟨h1,h2,h3⟩:=H.news j d t z hj (cO hl hji)
  exact ⟨h1.below hb h1.lt,h2,h3⟩
 ·
  have nj:∀ k d t z,plan[k]?=some (.new d t z)→k≠i:=fun k d t z hk e1=>by
   subst e1
   rw [hi] at hk
   injection hk with hk
   exact hnew d t z hk
  exact H.dist j k d t z d' t' z' hj hk (cO hlj (nj j d t z hj)) (cO hlk (nj k d' t' z' hk)) hne
theorem Mid.more {l:Array Bool} {G:Nat→Nat} (H:Mid plan n w0 e h l G a w) {i d:Nat} {t:TypeId} {z:Array Value} (hi:plan[i]?=some (.new d t z)) (hlt:d<n) (he:∀ p∈e,p.1≠d)
  (hd:∀ j jt,plan[j]?=some jt→j≠i→jt.d≠d):Mid plan n w0 e h (l.setIfInBounds i true) (fun j=>if j=i then w.heap.size else G j) (a.put (some d) (.pointer (some ⟨w.heap.size,0,none⟩))) (w.alloc (.cells z t)):=by
 have hlt':d<a.tmps.size:=by rw [H.base.size];exact hlt
 have keep:∀ k x,k≠d→a.tmps[k]?=some x→(a.put (some d) (.pointer (some ⟨w.heap.size,0,none⟩))).tmps[k]?=some x:=fun k x hne hx=>by
  show (a.tmps.setIfInBounds d _)[k]?=some x
  rw [Array.getElem?_setIfInBounds_ne (Ne.symm hne)]
  exact hx
 refine ⟨⟨by simp [Act.put,H.base.size],H.base.defers,fun p hp=>keep _ _ (he p hp) (H.base.env p hp),H.base.below.alloc H.base.below.size _,fun p hp=>(H.base.heap p hp).alloc _,H.base.own,H.base.apart⟩,fun j jt hj hl=>?_,fun j d' t' z' hj hl=>?_,fun j k d1 t1 z1 d2 t2 z2 hj hk hlj hlk hne=>?_⟩
 ·
  by_cases hji:j=i
  ·
   subst hji
   rw [hi] at hj
   injection hj with hj
   subst hj
   rw [if_pos rfl]
   show (a.tmps.setIfInBounds d _)[d]?=some _
   simp [hlt',Item.out]
  ·
   rw [if_neg hji]
   exact keep _ _ (hd j jt hj hji) (H.vals j jt hj (cO hl hji))
 ·
  by_cases hji:j=i
  ·
   subst hji
   rw [hi] at hj
   injection hj with hj
   injection hj with h1 h2 h3
   subst h1 h2 h3
   rw [if_pos rfl]
   exact ⟨Blk.new _ _ _,H.base.below.size,fun p hp=>Nat.ne_of_lt (H.base.heap p hp).lt⟩
  ·
   rw [if_neg hji]
   obtain ⟨h1,h2,h3⟩:=H.news j d' t' z' hj (cO hl hji)
   exact ⟨h1.alloc _,h2,h3⟩
 ·
  by_cases hji:j=i
  ·
   by_cases hki:k=i
   ·
    omega
   ·
    rw [if_pos hji,if_neg hki]
    have:=(H.news k d2 t2 z2 hk (cO hlk hki)).1.lt
    omega
  ·
   by_cases hki:k=i
   ·
    rw [if_neg hji,if_pos hki]
    have:=(H.news j d1 t1 z1 hj (cO hlj hji)).1.lt
    omega
   ·
    rw [if_neg hji,if_neg hki]
    exact H.dist j k d1 t1 z1 d2 t2 z2 hj hk (cO hlj hji) (cO hlk hki) hne
def left (l:Array Bool):Nat→Nat
 | 0=>0
 | m+1=>left l m+(if l.getD m false=true then 0 else 1)
theorem zB (l:Array Bool):∀ m,left l m≤m
 | 0=>Nat.le_refl _
 | m+1=>by
  have:=zB l m
  unfold left
  split<;>omega
theorem qP {l:Array Bool}:∀ {m:Nat},left l m=0→∀ i,i<m→l.getD i false=true
 | 0,_,i,hi=>absurd hi (by omega)
 | m+1,h,i,hi=>by
  unfold left at h
  by_cases hm:l.getD m false=true
  ·
   rw [if_pos hm] at h
   by_cases e1:i=m
   ·
    rw [e1];exact hm
   ·
    exact qP (m:=m) (by omega) i (by omega)
  ·
   rw [if_neg hm] at h
   omega
theorem wS {l:Array Bool} {i:Nat}:∀ m,left (l.setIfInBounds i true) m≤left l m
 | 0=>Nat.le_refl _
 | m+1=>by
  have:=wS (l:=l) (i:=i) m
  unfold left
  by_cases hm:l.getD m false=true
  ·
   rw [if_pos hm,if_pos (getD_set_true hm)]
   omega
  ·
   rw [if_neg hm]
   split<;>omega
theorem tZ {l:Array Bool} {i:Nat} (hs:i<l.size) (hu:¬ l.getD i false=true):∀ m,i<m→left (l.setIfInBounds i true) m+1≤left l m
 | 0,h=>absurd h (by omega)
 | m+1,h=>by
  unfold left
  by_cases e1:i=m
  ·
   subst e1
   have:=wS (l:=l) (i:=i) i
   rw [if_neg hu,if_pos (by simp [hs])]
   omega
  ·
   have:=tZ hs hu m (by omega)
   rw [getD_set_ne false e1]
   omega
theorem oH {l:Array Bool}:∀ m,(∃ i,i<m∧¬ l.getD i false=true)→∃ i,i<m∧¬ l.getD i false=true∧∀ j,j<i→l.getD j false=true
 | 0,⟨i,hi,_⟩=>absurd hi (by omega)
 | m+1,⟨i,hi,hu⟩=>by
  by_cases h:∃ i,i<m∧¬ l.getD i false=true
  ·
   obtain ⟨j,h1,h2,h3⟩:=oH m h
   exact ⟨j,by omega,h2,h3⟩
  ·
   have hall:∀ j,j<m→l.getD j false=true:=fun j hj=>Classical.byContradiction fun hn=>h ⟨j,hj,hn⟩
   have e1:i=m:=by
    apply Nat.le_antisymm (by omega)
    apply Nat.le_of_not_lt
    intro hlt
    exact hu (hall i hlt)
   subst e1
   exact ⟨i,hi,hu,hall⟩
theorem down_set {l:Array Bool} {i:Nat} (hd:Down ops l) (hr:i∈Region.ready .any ops l):Down ops (l.setIfInBounds i true):=by
 intro j o ho hj x hx hb
 by_cases e1:j=i
 ·
  subst e1
  obtain ⟨_,o',ho',hall⟩:=mem_ready.1 hr
  rw [ho] at ho'
  injection ho' with ho'
  subst ho'
  exact getD_set_true (hall x hx hb)
 ·
  exact getD_set_true (hd j o ho (cO hj e1) x hx hb)
theorem nX {l:Array Bool} {i:Nat} (hr:i∈Region.ready .any ops l):¬ l.getD i false=true:=by
 intro hl
 have h0:=(mem_ready.1 hr).1
 have:=lZ hl
 simp [Array.getElem?_eq_getElem this] at h0 hl
 rw [h0] at hl
 cases hl
end
end
section
open Go Go.RowKit
section
variable {P:Program} {n:Nat} {w0 w w':World} {a:Act} {e:Env} {h:Hep} {Q:Exit→Act→World→Prop} {ops:Array Oper} {rest:List Oper} {o:Oper}
theorem aN {t:TypeId} {z:Array Value} (ho:o.op=.alloc t) (hz:∀ W,(Instr.alloc t true (.tuple #[])).run P W=.ok (.pointer (some ⟨W.heap.size,0,none⟩)) (W.alloc (.cells z t))):News P o t z:=fun a w=>by
 unfold execOp
 simp only [ho,Sem.run_bind,hz,Result.andThen_ok,Sem.run_pure]
theorem aA (hg:o.guard=none):∀ a w,St n w0 a w e h→Region.wanted o (yielded ops a.tmps)=true:=fun a w _=>by simp [Region.wanted,hg]
theorem aJ {j d:Nat} {b c:Bool} {oj:Oper} (hg:o.guard=some (j,b)) (hj:ops[j]?=some oj) (hd:oj.dst=some d) (hv:look e d=some (.bool c)) {r:Bool} (hr:(c == b)=r):∀ a w,St n w0 a w e h→Region.wanted o (yielded ops a.tmps)=r:=fun a w H=>by
 have:=H.slot hv
 subst hr
 simp [Region.wanted,hg,yielded,hj,hd,this]
theorem iO {j d:Nat} {b:Bool} {oj:Oper} (hg:o.guard=some (j,b)) (hj:ops[j]?=some oj) (hd:oj.dst=some d) (hv:look e d=some undef):∀ a w,St n w0 a w e h→Region.wanted o (yielded ops a.tmps)=false:=fun a w H=>by
 have:=H.slot hv
 simp [Region.wanted,hg,yielded,hj,hd,this,undef]
theorem cI {fn:Func} {R:Ending→World→Prop} {p:Tmp} {t t':TypeId} {g k:Nat} {cs:Array Value} {d:TypeDesc} (hr:fn.results=#[.cell p t]) (hp:look e p=some (.pointer (some ⟨g,0,none⟩))) (hk:h[k]?=some (g,t',cs))
  (hu:P.underlying t=some d) (hd:(match d with | .struct _ | .array _ _=>true | _=>false)=true) (hi:(P.info? t).map (·.size)=some cs.size) (H:St n w0 a w e h) (hR:Below w0.heap.size w0 w→R (.returned (.agg cs)) w):bodyPost P fn R .ret a w :=
 bodyPost_ret (results_cell_row hr _ _ g t' cs (0,0) d (H.ev (x:=.tmp p) hp) (H.heap _ (List.mem_iff_getElem?.2 ⟨k,hk⟩)) hu hd hi) H.defers (hR H.below)
theorem dX {fn:Func} {R:Ending→World→Prop} {p:Tmp} {v:Value} (hr:fn.results=#[.tmp p]) (hp:look e p=some v) (H:St n w0 a w e h) (hR:Below w0.heap.size w0 w→R (.returned v) w):bodyPost P fn R .ret a w:=by
 refine bodyPost_ret (v:=v) ?_ H.defers (hR H.below)
 rw [results_tmp hr]
 have:=H.ev (x:=.tmp p) hp
 exact congrArg (Result.ok · w) this
theorem bW {fn:Func} {R:Ending→World→Prop} {p q:Tmp} {t t':TypeId} {g k:Nat} {cs:Array Value} {v:Value} {d:TypeDesc} (hr:fn.results=#[.cell p t,.tmp q]) (hp:look e p=some (.pointer (some ⟨g,0,none⟩))) (hq:look e q=some v) (hk:h[k]?=some (g,t',cs))
  (hu:P.underlying t=some d) (hd:(match d with | .struct _ | .array _ _=>true | _=>false)=true) (hi:(P.info? t).map (·.size)=some cs.size) (H:St n w0 a w e h) (hR:Below w0.heap.size w0 w→R (.returned (.tuple #[.agg cs,v])) w):bodyPost P fn R .ret a w :=
 bodyPost_ret (lT hr (H.ev (x:=.tmp p) hp) (H.ev (x:=.tmp q) hq) (H.heap _ (List.mem_iff_getElem?.2 ⟨k,hk⟩)) hu hd hi) H.defers (hR H.below)
theorem run_cell {p:Tmp} {t t':TypeId} {g k:Nat} {cs:Array Value} {d:TypeDesc} (hp:look e p=some (.pointer (some ⟨g,0,none⟩))) (hk:h[k]?=some (g,t',cs))
  (hu:P.underlying t=some d) (hd:(match d with | .struct _ | .array _ _=>true | _=>false)=true) (hi:(P.info? t).map (·.size)=some cs.size) (H:St n w0 a w e h):a.tmps[p]?.getD undef=.pointer (some ⟨g,0,none⟩)∧(loadVar t ⟨g,0,none⟩).run P w=.ok (.agg cs) w:=by
 refine ⟨?_,run_loadVar_row w g t' t cs (0,0) d (H.heap _ (List.mem_iff_getElem?.2 ⟨k,hk⟩)) hu hd hi⟩
 rw [H.slot hp]
 rfl
theorem nG {fn:Func} {R:Ending→World→Prop} {p q:Tmp} {t t' s s':TypeId} {g k g2 k2:Nat} {cs ds:Array Value} {d d2:TypeDesc} (hr:fn.results=#[.cell p t,.cell q s]) (hp:look e p=some (.pointer (some ⟨g,0,none⟩))) (hk:h[k]?=some (g,t',cs))
  (hu:P.underlying t=some d) (hd:(match d with | .struct _ | .array _ _=>true | _=>false)=true) (hi:(P.info? t).map (·.size)=some cs.size) (hq:look e q=some (.pointer (some ⟨g2,0,none⟩))) (hk2:h[k2]?=some (g2,s',ds))
  (hu2:P.underlying s=some d2) (hd2:(match d2 with | .struct _ | .array _ _=>true | _=>false)=true) (hi2:(P.info? s).map (·.size)=some ds.size) (H:St n w0 a w e h) (hR:Below w0.heap.size w0 w→R (.returned (.tuple #[.agg cs,.agg ds])) w):bodyPost P fn R .ret a w:=by
 refine bodyPost_ret ?_ H.defers (hR H.below)
 obtain ⟨h1,h2⟩:=run_cell hp hk hu hd hi H
 obtain ⟨h3,h4⟩:=run_cell hq hk2 hu2 hd2 hi2 H
 simp [results,hr,h1,h3,asAddr,h2,h4]
theorem least {p:Nat→Prop}:∀ m,p m→∃ m,p m∧∀ j,p j→m≤j:=by
 intro m
 induction m using Nat.strongRecOn with
 | _ m ih =>
  intro hm
  by_cases h:∃ j,j<m∧p j
  ·
   obtain ⟨j,hj,hpj⟩:=h
   exact ih j hj hpj
  ·
   exact ⟨m,hm,fun j hj=>Nat.le_of_not_lt fun hl=>h ⟨j,hl,hj⟩⟩
theorem vP {c:Code} (N:Nat) (I:Nat→Act→World→Prop) {k0:Nat} (h0:I k0 a w) (hk:k0≤N)
  (round:∀ k a w,k≤N→I k a w→c.wp P (Exit.then (fun a' w'=>∃ k',k<k'∧k'≤N∧I k' a' w') Q) a w):(Code.loop c).wp P Q a w:=by
 have hex:∀ (q:Act × World),∃ m:Nat,(∃ k,k≤N∧I k q.1 q.2)→(∃ k,k≤N∧I k q.1 q.2∧N-k=m)∧∀ k,k≤N→I k q.1 q.2→m≤N-k:=by
  intro q
  by_cases hq:∃ k,k≤N∧I k q.1 q.2
  ·
   obtain ⟨k,h1,h2⟩:=hq
   obtain ⟨m,⟨j,hj1,hj2,hj3⟩,hmin⟩:=least (p:=fun m=>∃ k,k≤N∧I k q.1 q.2∧N-k=m) (N-k) ⟨k,h1,h2,rfl⟩
   exact ⟨m,fun _=>⟨⟨j,hj1,hj2,hj3⟩,fun i hi1 hi2=>hmin _ ⟨i,hi1,hi2,rfl⟩⟩⟩
  ·
   exact ⟨0,fun h=>absurd h hq⟩
 obtain ⟨μ,hμ⟩:=Classical.axiomOfChoice hex
 refine wp_loop (fun a w=>∃ k,k≤N∧I k a w) (fun a w=>μ (a,w)) ⟨k0,hk,h0⟩ (fun a w hI=>?_)
 obtain ⟨⟨k,hk1,hk2,hk3⟩,_⟩:=hμ (a,w) hI
 refine Code.wp_mono ?_ (round k a w hk1 hk2)
 intro e a' w' hq
 cases e with
 | normal =>
  obtain ⟨k',h1,h2,h3⟩:=hq
  have hI':∃ k,k≤N∧I k a' w':=⟨k',h2,h3⟩
  have:=(hμ (a',w') hI').2 k' h2 h3
  exact ⟨hI',by show μ (a',w')<μ (a,w);omega⟩
 | _=>exact hq
end
section
variable {P:Program} {t:TypeId}
theorem i_lss (k m:Int) (x y:Operand) (W:World):(do eqGuard .lss t x y (.int .i64 k) (.int .i64 m);binOp .lss t (.int .i64 k) (.int .i64 m):Sem Value).run P W=.ok (.bool (decide (k<m))) W:=by go_simp
theorem wW {k m:Nat} (h:k<m) (x y:Operand) (W:World):(do eqGuard .lss t x y (.int .i64 (k:Int)) (.int .i64 (m:Int));binOp .lss t (.int .i64 (k:Int)) (.int .i64 (m:Int)):Sem Value).run P W=.ok (.bool true) W:=by
 rw [i_lss,decide_eq_true (by omega)]
theorem i_lss_no {k m:Nat} (h:¬ k<m) (x y:Operand) (W:World):(do eqGuard .lss t x y (.int .i64 (k:Int)) (.int .i64 (m:Int));binOp .lss t (.int .i64 (k:Int)) (.int .i64 (m:Int)):Sem Value).run P W=.ok (.bool false) W:=by
 rw [i_lss,decide_eq_false (by omega)]
theorem i_geq (k m:Int) (x y:Operand) (W:World):(do eqGuard .geq t x y (.int .i64 k) (.int .i64 m);binOp .geq t (.int .i64 k) (.int .i64 m):Sem Value).run P W=.ok (.bool (decide (k≥m))) W:=by go_simp
theorem i_add (k m:Int) (hl:-9223372036854775808≤k+m∧k+m≤9223372036854775807) (x y:Operand) (W:World):(do eqGuard .add t x y (.int .i64 k) (.int .i64 m);binOp .add t (.int .i64 k) (.int .i64 m):Sem Value).run P W=.ok (.int .i64 (k+m)) W:=by
 go_simp
 exact IntWalk.i64_in _ hl
theorem i_sub (k m:Int) (hl:-9223372036854775808≤k-m∧k-m≤9223372036854775807) (x y:Operand) (W:World):(do eqGuard .sub t x y (.int .i64 k) (.int .i64 m);binOp .sub t (.int .i64 k) (.int .i64 m):Sem Value).run P W=.ok (.int .i64 (k-m)) W:=by
 go_simp
 exact IntWalk.i64_in _ hl
theorem i_inc {k:Nat} (h:k<9223372036854775807) (x y:Operand) (W:World):(do eqGuard .add t x y (.int .i64 (k:Int)) (.int .i64 1);binOp .add t (.int .i64 (k:Int)) (.int .i64 1):Sem Value).run P W=.ok (.int .i64 ((k+1:Nat):Int)) W:=by
 rw [i_add _ _ (by omega)]
 rfl
theorem i_from {k m:Nat} (h:k≤m) (hm:m<9223372036854775807) (x y:Operand) (W:World):(do eqGuard .sub t x y (.int .i64 (m:Int)) (.int .i64 (k:Int));binOp .sub t (.int .i64 (m:Int)) (.int .i64 (k:Int)):Sem Value).run P W=.ok (.int .i64 ((m-k:Nat):Int)) W:=by
 rw [i_sub _ _ (by omega),show (m:Int)-(k:Int)=((m-k:Nat):Int) by omega]
theorem i_quo8 (k:Int) (h:0≤k∧k≤9223372036854775807) (x y:Operand) (W:World):(do eqGuard .quo t x y (.int .i64 k) (.int .i64 8);binOp .quo t (.int .i64 k) (.int .i64 8):Sem Value).run P W=.ok (.int .i64 (k/8)) W:=by
 go_simp
 exact IntWalk.i64_quo _ _ ⟨h.1,h.2,by omega⟩
theorem i_rem8 (k:Int) (h:0≤k∧k≤9223372036854775807) (x y:Operand) (W:World):(do eqGuard .rem t x y (.int .i64 k) (.int .i64 8);binOp .rem t (.int .i64 k) (.int .i64 8):Sem Value).run P W=.ok (.int .i64 (k%8)) W:=by
 go_simp
 exact Int.tmod_eq_emod_of_nonneg h.1
end
section
variable {P:Program} {w:World} {a:Act} {Q:Exit→Act→World→Prop} {K:Act→World→Prop}
theorem bD (h:Q .ret a w):Exit.then K Q .ret a w:=h
theorem bI {id:Nat} (h:Q .ret a w):Exit.inBlock id Q .ret a w:=h
theorem lQ {id:Nat} (h:Q .normal a w):Exit.inBlock id Q .normal a w:=h
theorem vR {id:Nat} (h:Q (.exit id) a w):Exit.then K Q (.exit id) a w:=h
theorem blk_exit {id:Nat} (h:Q .normal a w):Exit.inBlock id Q (.exit id) a w:=by
 show (if id=id then Q .normal a w else Q (.exit id) a w)
 rw [if_pos rfl]
 exact h
end
end
section
open Go Go.RowKit
inductive It where
 | val (d:Nat) (v:Value) (ps hs:List Nat)
 | off (d:Nat) (ps:List Nat)
 | new (d:Nat) (t:TypeId) (z:Array Value)
 | sto (k g:Nat) (t:TypeId) (cs c:Array Value) (ps:List Nat)
 | ston (j d:Nat) (t:TypeId) (z c:Array Value) (ps:List Nat)
def It.dst:It→Option Nat
 | .val d _ _ _=>some d
 | .off d _=>some d
 | .new d _ _=>some d
 | _=>none
def It.out (g:Nat):It→Value
 | .val _ v _ _=>v
 | .new _ _ _=>.pointer (some ⟨g,0,none⟩)
 | _=>undef
def It.ps:It→List Nat
 | .val _ _ ps _=>ps
 | .off _ ps=>ps
 | .new _ _ _=>[]
 | .sto _ _ _ _ _ ps=>ps
 | .ston _ _ _ _ _ ps=>ps
def It.hs:It→List Nat
 | .val _ _ _ hs=>hs
 | _=>[]
def outS (G:Nat→Nat):Nat→List It→Env
 | _,[]=>[]
 | k,it::r=>match it.dst with
  | some d=>(d,it.out (G k))::outS G (k+1) r
  | none=>outS G (k+1) r
def endB:List It→Nat→Array Value→Array Value
 | [],_,cs=>cs
 | .sto k _ _ _ c _::r,j,cs=>bif Nat.beq k j then c else endB r j cs
 | _::r,j,cs=>endB r j cs
def endN:List It→Nat→Array Value→Array Value
 | [],_,cs=>cs
 | .ston k _ _ _ c _::r,j,cs=>bif Nat.beq k j then c else endN r j cs
 | _::r,j,cs=>endN r j cs
def heapS (plan:List It):Nat→Hep→Hep
 | _,[]=>[]
 | k,p::r=>(p.1,p.2.1,endB plan k p.2.2)::heapS plan (k+1) r
def newS (plan:List It) (G:Nat→Nat):Nat→List It→Hep
 | _,[]=>[]
 | k,.new _ t z::r=>(G k,t,endN plan k z)::newS plan G (k+1) r
 | k,_::r=>newS plan G (k+1) r
def depS (plan:List It):List Nat→Env
 | []=>[]
 | p::r=>match plan[p]? with
  | some (.val d v _ _)=>(d,v)::depS plan r
  | some (.off d _)=>(d,undef)::depS plan r
  | _=>depS plan r
def Stores (w w':World) (g:Nat) (t:TypeId) (c:Array Value):Prop :=
 Blk w' g t c∧(∀ (b:Nat) (t':TypeId) (d:Array Value),b≠g→Blk w b t' d→Blk w' b t' d)∧(∀ (B:Nat) (w0:World),B≤g→Below B w0 w→Below B w0 w')∧w.heap.size≤w'.heap.size
section
variable {P:Program} {n:Nat} {w0 w w':World} {a:Act} {e:Env} {h:Hep} {Q:Exit→Act→World→Prop} {ops:Array Oper} {o:Oper}
theorem stores_row {g:Nat} {t:TypeId} {cs:Array Value} (hb:Blk w g t cs) (c:Array Value):Stores w (w.setRow g c) g t c :=
 ⟨hb.setRow_same c,fun b t' d hne h=>h.setRow_other hne c,fun B w0 hB h=>below_setRow h hB c,by have:=(below_setRow (Below.refl 0 w) (Nat.zero_le g) c).size;exact this⟩
theorem xX {g:Nat} {t:TypeId} {cs c:Array Value} (hb:Blk w g t cs) (o:Nat) (vs:List Value) (hc:setV cs o vs=c):Stores w (w.setCells g o vs) g t c:=by
 subst hc
 exact ⟨Blk.setV vs o cs w hb,fun b t' d hne h=>Blk.setCells_other hne vs o w h,fun B w0 hB h=>gV hB vs o w h,(gV (Nat.zero_le g) vs o w (Below.refl 0 w)).size⟩
def Sto (P:Program) (Q:Exit→Act→World→Prop) (n:Nat) (w0:World) (e:Env) (o:Oper) (g:Nat) (t:TypeId) (cs c:Array Value):Prop :=
 ∀ a w,St n w0 a w e [(g,t,cs)]→o.wp P a w (fun a' w'=>a'=a.put o.dst undef∧Stores w w' g t c) Q
theorem bQ {ty:TypeId} {x y:Operand} {g:Nat} {t:TypeId} {cs c:Array Value} (ho:o.op=.store ty x y) (hx:sev e x=some (.pointer (some ⟨g,0,none⟩))) (hy:sev e y=some (.agg c))
  (hi:(P.info? ty).map (·.size)=some c.size) (hs:cs.size=c.size) (h1:c.all (·.oneCell')=true):Sto P Q n w0 e o g t cs c:=fun a w H=>by
 have hb:Blk w g t cs:=H.heap _ List.mem_cons_self
 exact wp_store_row ty x y ho g c (H.ev hx) (H.ev hy) t cs hb hi hs h1 ⟨rfl,stores_row hb c⟩
theorem sto_at {ty:TypeId} {x y:Operand} {g f:Nat} {t:TypeId} {cs c:Array Value} {v:Value} {vs:List Value} (ho:o.op=.store ty x y) (hx:sev e x=some (.pointer (some ⟨g,f,none⟩))) (hy:sev e y=some v)
  (hr:∀ W,Blk W g t cs→(Instr.storeAt ty (.pointer (some ⟨g,f,none⟩)) v).run P W=.ok () (W.setCells g f vs)) (hc:setV cs f vs=c):Sto P Q n w0 e o g t cs c:=fun a w H=>by
 have hb:Blk w g t cs:=H.heap _ List.mem_cons_self
 unfold Oper.wp execOp
 simp only [ho,H.ev hx,H.ev hy,Sem.run_bind,hr w hb,Result.andThen_ok,Sem.run_pure]
 exact ⟨rfl,xX hb f vs hc⟩
def It.ob (P:Program) (ops:Array Oper) (Q:Exit→Act→World→Prop) (n:Nat) (w0:World) (e:Env) (h:Hep) (plan:List It) (o:Oper):It→Prop
 | .val d v ps hs=>Does P Q n w0 (depS plan ps++e) (picks h hs) o v∧∀ a w,St n w0 a w (depS plan ps++e) []→Region.wanted o (yielded ops a.tmps)=true
 | .off d ps=>∀ a w,St n w0 a w (depS plan ps++e) []→Region.wanted o (yielded ops a.tmps)=false
 | .new d t z=>News P o t z∧o.guard=none
 | .sto k g t cs c ps=>h[k]?=some (g,t,cs)∧o.guard=none∧Sto P Q n w0 (depS plan ps++e) o g t cs c
 | .ston j d t z c ps=>plan[j]?=some (.new d t z)∧o.guard=none∧∀ g,Sto P Q n w0 ((d,.pointer (some ⟨g,0,none⟩))::(depS plan ps++e)) o g t z c
def ObsS (P:Program) (ops:Array Oper) (Q:Exit→Act→World→Prop) (n:Nat) (w0:World) (e:Env) (h:Hep) (plan:List It):List Oper→List It→Prop
 | o::os,it::r=>it.ob P ops Q n w0 e h plan o∧ObsS P ops Q n w0 e h plan os r
 | _,_=>True
end
def ends:List It→List Nat
 | []=>[]
 | it::r=>match it.dst with
  | some d=>d::ends r
  | none=>ends r
def tgtB:List It→List Nat
 | []=>[]
 | .sto k _ _ _ _ _::r=>k::tgtB r
 | _::r=>tgtB r
def tgtN:List It→List Nat
 | []=>[]
 | .ston k _ _ _ _ _::r=>k::tgtN r
 | _::r=>tgtN r
def psOkS:List Nat→List It→Bool
 | m::ms,it::r=>it.ps.all (fun j=>Nat.testBit m j)&&(match it with | .ston j _ _ _ _ _=>Nat.testBit m j | _=>true)&&rises it.hs&&psOkS ms r
 | _,[]=>true
 | [],_::_=>false
def dstOkS:List Oper→List It→Bool
 | o::os,it::r=>(match o.dst,it.dst with | some d,some d'=>Nat.beq d d' | none,none=>true | _,_=>false)&&dstOkS os r
 | _,[]=>true
 | [],_::_=>false
def readOk (ms:List Nat) (plan:List It):Bool :=
 (List.range plan.length).all fun j=>match plan[j]? with
  | some (.sto k _ _ _ _ _)=>(List.range plan.length).all fun i=>match plan[i]? with
   | some (.val _ _ _ hs)=>!hs.contains k || Nat.testBit (closeM ms j (ms.getD j 0)) i
   | _=>true
  | _=>true
def planOkS (ops:Array Oper) (n:Nat) (e:Env) (plan:List It) (ms:List Nat):Bool :=
 Nat.beq plan.length ops.size&&downs 0 ms&&psOkS ms plan&&dstOkS ops.toList plan&&distinct (ends plan)&&(ends plan).all (fun d=>Nat.blt d n&&e.all (fun p=>!Nat.beq p.1 d))&&distinct (tgtB plan)&&distinct (tgtN plan)&&readOk ms plan
end
end Go.Proofs.YtpagiffbjofihaaGreatDoor
