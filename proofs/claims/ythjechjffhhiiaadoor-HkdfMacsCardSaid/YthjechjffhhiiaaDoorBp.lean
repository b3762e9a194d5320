/- Package blake: a block that is pressed; the hash's bytes. -/
import Derived.Test.YthjechjffhhiiaaDoorBn
namespace Go.Proofs.YthjechjffhhiiaaDoor
set_option linter.unusedVariables false
set_option linter.unusedSimpArgs false
set_option maxRecDepth 100000
open Go Go.RowKit

theorem mixI_0 (M : Wd) (r : Nat) (f : Wd) : mixI M r f 0 = f := rfl
theorem mixI_succ (M : Wd) (r : Nat) (f : Wd) (i : Nat) : mixI M r f (i + 1) = mixB (mixI M r f i) (plc i 0) (plc i 1) (plc i 2) (plc i 3) (M (ord r (2 * i))) (M (ord r (2 * i + 1))) := rfl
theorem mixR_0 (M f : Wd) : mixR M f 0 = f := rfl
theorem mixR_succ (M f : Wd) (r : Nat) : mixI M r (mixR M f r) 8 = mixR M f (r + 1) := rfl
theorem wrK_0 (B : Nat → UInt8) : wrK B (4 * 0) = w0s := rfl
attribute [local irreducible] wv wc bvs bv iv wn rorW mixB halfB leW ivB postB preB blW vB tB pK outB wrK wordsB mixR mixI msg un
theorem start_range {w : World} (hpg : PG w) : w.rangeAt 0 0 (wn 8 ivB).toList := fun j v hv => by
  have hj : j < 8 := by have := (List.getElem?_eq_some_iff.1 hv).1; rwa [wn_len] at this
  rw [Array.getElem?_toList, wn_get hj] at hv
  rw [Nat.zero_add, hpg.start j hj, hv]
theorem order_range {w : World} (hpg : PG w) {r : Nat} (hr : r < 10) : w.rangeAt 1 (16 * r) (iv 16 (ord r)).toList := fun j v hv => by
  have hj : j < 16 := by have := (List.getElem?_eq_some_iff.1 hv).1; rw [Array.length_toList, iv_sizeB] at this; exact this
  rw [Array.getElem?_toList, iv_get hj] at hv
  rw [hpg.orders r hr j hj, hv]
section
variable {P : Program} {n : Nat} {w0 w w' : World} {a : Act} {e : Env} {h : Hep} {Q : Exit → Act → World → Prop} {ops : Array Oper} {rest : List Oper} {o : Oper}
theorem does_makeFunc3 {x y z : Operand} {f : FuncId} {u1 u2 u3 : Value} (ho : o.op = .makeFunc (.func f) #[] #[x, y, z]) (hx : sev e x = some u1) (hy : sev e y = some u2) (hz : sev e z = some u3) : Does P Q n w0 e h o (.func (.func f) #[] #[u1, u2, u3]) := does_run fun a w H => by
  unfold execOp
  simp [ho, H.ev hx, H.ev hy, H.ev hz, Instr.makeFunc, Result.andThen]
end
set_option maxHeartbeats 4000000 in
theorem half_any {w0 w : World} {go gf gw gv g2 g1 r : Nat} {c1 c2 : Array Value} {M f : Wd} {ja jb jc jd r1 s1 : Nat} {x : UInt32} (ha : ja < 16) (hb : jb < 16) (hc : jc < 16) (hd : jd < 16) (hr1 : TurnB r1) (hs1 : TurnB s1) (K : Kn w0 w [(go, 69, iv 16 (ord r)), (gf, 68, #[.func (.func 28) #[] #[.pointer (some ⟨gv, 0, none⟩)]]), (gw, 51, wv M), (gv, 51, wv f), (g2, 58, c2), (g1, 58, c1)]) : Calls Tryd.prog 28 #[.int .i64 ((ja : Nat) : Int), .int .i64 ((jb : Nat) : Int), .int .i64 ((jc : Nat) : Int), .int .i64 ((jd : Nat) : Int), wc x, .int .i64 ((r1 : Nat) : Int), .int .i64 ((s1 : Nat) : Int), .pointer (some ⟨gv, 0, none⟩)] w (fun rr w' => rr = .returned (.tuple #[]) ∧ Kn w0 w' [(go, 69, iv 16 (ord r)), (gf, 68, #[.func (.func 28) #[] #[.pointer (some ⟨gv, 0, none⟩)]]), (gw, 51, wv M), (gv, 51, wv (halfB f ja jb jc jd x r1 s1)), (g2, 58, c2), (g1, 58, c1)]) := by
  have hr1_ : r1 ≤ 32 := by rcases hr1 with rfl | rfl | rfl | rfl <;> decide
  have hs1_ : s1 ≤ 32 := by rcases hs1 with rfl | rfl | rfl | rfl <;> decide
  refine calls_kn (vs := [.int .i64 ((ja : Nat) : Int), .int .i64 ((jb : Nat) : Int), .int .i64 ((jc : Nat) : Int), .int .i64 ((jd : Nat) : Int), wc x, .int .i64 ((r1 : Nat) : Int), .int .i64 ((s1 : Nat) : Int), .pointer (some ⟨gv, 0, none⟩)]) 57 Tryd.func28 rfl Tryd.ntmps28 rfl K (fun a W H => ?_)
  replace H : St 57 w0 a W [(0, .int .i64 ((ja : Nat) : Int)), (1, .int .i64 ((jb : Nat) : Int)), (2, .int .i64 ((jc : Nat) : Int)), (3, .int .i64 ((jd : Nat) : Int)), (4, wc x), (5, .int .i64 ((r1 : Nat) : Int)), (6, .int .i64 ((s1 : Nat) : Int)), (7, .pointer (some ⟨gv, 0, none⟩))] [(go, 69, iv 16 (ord r)), (gf, 68, #[.func (.func 28) #[] #[.pointer (some ⟨gv, 0, none⟩)]]), (gw, 51, wv M), (gv, 51, wv f), (g2, 58, c2), (g1, 58, c1)] := H
  refine sqD [.v 15 _ [], .v 16 _ [0], .v 17 _ [1], .v 18 _ [], .v 19 _ [3], .v 20 _ [4], .v 21 _ [], .v 22 _ [5, 6], .v 23 _ [2, 7], .v 24 _ [0]] (by kernel_rfl) (by kernel_rfl) H gs0 (fun _ => ⟨oS rfl rfl, oV rfl (does_indexAddr rfl rfl rfl (ia_w16 (j := ja) ha)), oV rfl (does_loadAt (v := wc (f ja)) rfl rfl (k := 3) rfl (ld_word ha)), oS rfl rfl, oV rfl (does_indexAddr rfl rfl rfl (ia_w16 (j := jb) hb)), oV rfl (does_loadAt (v := wc (f jb)) rfl rfl (k := 3) rfl (ld_word hb)), oS rfl rfl, oV rfl (does_binOp rfl rfl rfl (w_add _ _ _ _)), oV rfl (does_binOp rfl rfl rfl (w_add _ _ _ _)), oV rfl (does_indexAddr rfl rfl rfl (ia_w16 (j := ja) ha)), trivial⟩) fun Z_ z_ => rX [0, 0, 0, 1] (c := wv (upd f ja ((f ja) + ((f jb) + x)))) ⟨rfl, rfl⟩ rfl rfl rfl (st_word ha) (sv_word rfl) <| rK [0, 0, 0, 0, 0, 0, 0, 0, 0, 0, 1, 1, 1, 1, 0] [] [] <| rN0 z_ ?_
  try clear H a W
  intro a W H
  obtain ⟨f1, hf1⟩ : ∃ z_, upd f ja ((f ja) + ((f jb) + x)) = z_ := ⟨_, rfl⟩
  rw [hf1] at H
  refine sqD [.v 25 _ [], .v 26 _ [], .v 27 _ [1], .v 28 _ [2], .v 29 _ [], .v 30 _ [4], .v 31 _ [5], .v 32 _ [3, 6], .v 33 _ [], .v 34 _ [8], .v 35 _ [7, 9], .v 36 _ [0]] (by kernel_rfl) (by kernel_rfl) H gs0 (fun _ => ⟨oS rfl rfl, oS rfl rfl, oV rfl (does_indexAddr rfl rfl rfl (ia_w16 (j := jd) hd)), oV rfl (does_loadAt (v := wc (f1 jd)) rfl rfl (k := 3) rfl (ld_word hd)), oS rfl rfl, oV rfl (does_indexAddr rfl rfl rfl (ia_w16 (j := ja) ha)), oV rfl (does_loadAt (v := wc (f1 ja)) rfl rfl (k := 3) rfl (ld_word ha)), oV rfl (does_binOp rfl rfl rfl (w_xor _ _ _ _)), oS rfl rfl, oV rfl (does_unOp rfl rfl (i_negB (by omega))), oV rfl (does_call rfl ⟨_, Tryd.func29, by kernel_rfl⟩ rfl (fun W hb => rot_any _ _ hr1 W)), oV rfl (does_indexAddr rfl rfl rfl (ia_w16 (j := jd) hd)), trivial⟩) fun Z_ z_ => rX [0, 0, 0, 1] (c := wv (upd f1 jd (rorW ((f1 jd) ^^^ (f1 ja)) r1))) ⟨rfl, rfl⟩ rfl rfl rfl (st_word hd) (sv_word rfl) <| rK [0, 0, 0, 0, 0, 0, 0, 0, 0, 0, 0, 0, 0, 1, 1, 1, 0] [] [] <| rN0 z_ ?_
  try clear H a W
  intro a W H
  obtain ⟨f2, hf2⟩ : ∃ z_, upd f1 jd (rorW ((f1 jd) ^^^ (f1 ja)) r1) = z_ := ⟨_, rfl⟩
  rw [hf2] at H
  refine sqD [.v 37 _ [], .v 38 _ [0], .v 39 _ [1], .v 40 _ [], .v 41 _ [3], .v 42 _ [4], .v 43 _ [2, 5], .v 44 _ [0]] (by kernel_rfl) (by kernel_rfl) H gs0 (fun _ => ⟨oS rfl rfl, oV rfl (does_indexAddr rfl rfl rfl (ia_w16 (j := jc) hc)), oV rfl (does_loadAt (v := wc (f2 jc)) rfl rfl (k := 3) rfl (ld_word hc)), oS rfl rfl, oV rfl (does_indexAddr rfl rfl rfl (ia_w16 (j := jd) hd)), oV rfl (does_loadAt (v := wc (f2 jd)) rfl rfl (k := 3) rfl (ld_word hd)), oV rfl (does_binOp rfl rfl rfl (w_add _ _ _ _)), oV rfl (does_indexAddr rfl rfl rfl (ia_w16 (j := jc) hc)), trivial⟩) fun Z_ z_ => rX [0, 0, 0, 1] (c := wv (upd f2 jc ((f2 jc) + (f2 jd)))) ⟨rfl, rfl⟩ rfl rfl rfl (st_word hc) (sv_word rfl) <| rK [0, 0, 0, 0, 0, 0, 0, 0, 1, 1, 0] [] [] <| rN0 z_ ?_
  try clear H a W
  intro a W H
  obtain ⟨f3, hf3⟩ : ∃ z_, upd f2 jc ((f2 jc) + (f2 jd)) = z_ := ⟨_, rfl⟩
  rw [hf3] at H
  refine d2 [.v 45 _ [], .v 46 _ [], .v 47 _ [1], .v 48 _ [2], .v 49 _ [], .v 50 _ [4], .v 51 _ [5], .v 52 _ [3, 6], .v 53 _ [], .v 54 _ [8], .v 55 _ [7, 9], .v 56 _ [0]] (by kernel_rfl) (by kernel_rfl) H gs0 ⟨oS rfl rfl, oS rfl rfl, oV rfl (does_indexAddr rfl rfl rfl (ia_w16 (j := jb) hb)), oV rfl (does_loadAt (v := wc (f3 jb)) rfl rfl (k := 3) rfl (ld_word hb)), oS rfl rfl, oV rfl (does_indexAddr rfl rfl rfl (ia_w16 (j := jc) hc)), oV rfl (does_loadAt (v := wc (f3 jc)) rfl rfl (k := 3) rfl (ld_word hc)), oV rfl (does_binOp rfl rfl rfl (w_xor _ _ _ _)), oS rfl rfl, oV rfl (does_unOp rfl rfl (i_negB (by omega))), oV rfl (does_call rfl ⟨_, Tryd.func29, by kernel_rfl⟩ rfl (fun W hb => rot_any _ _ hs1 W)), oV rfl (does_indexAddr rfl rfl rfl (ia_w16 (j := jb) hb)), trivial⟩ (rX [0, 0, 0, 1] (c := wv (upd f3 jb (rorW ((f3 jb) ^^^ (f3 jc)) s1))) ⟨rfl, rfl⟩ rfl rfl rfl (st_word hb) (sv_word rfl) <| rK [0, 0, 0, 0, 0, 0, 0, 0, 0, 0, 0, 0, 0, 0, 0, 0] [] [] <| rZ0 ?_)
  try clear H a W
  intro a W H
  obtain ⟨f4, hf4⟩ : ∃ z_, upd f3 jb (rorW ((f3 jb) ^^^ (f3 jc)) s1) = z_ := ⟨_, rfl⟩
  rw [hf4] at H
  refine end_none rfl H (fun hk => ?_)
  have e_ : halfB f ja jb jc jd x r1 s1 = f4 := by rw [← hf4, ← hf3, ← hf2, ← hf1]; unfold halfB; rfl
  rw [e_]
  exact ⟨rfl, hk⟩
set_option maxHeartbeats 4000000 in
theorem mix_any {w0 w : World} {go gf gw gv g2 g1 r : Nat} {c1 c2 : Array Value} {M f : Wd} {i ja jb jc jd : Nat} (hi : i < 8) (ha : ja < 16) (hb : jb < 16) (hc : jc < 16) (hd : jd < 16) (K : Kn w0 w [(go, 69, iv 16 (ord r)), (gf, 68, #[.func (.func 28) #[] #[.pointer (some ⟨gv, 0, none⟩)]]), (gw, 51, wv M), (gv, 51, wv f), (g2, 58, c2), (g1, 58, c1)]) : Calls Tryd.prog 30 #[.int .i64 ((i : Nat) : Int), .int .i64 ((ja : Nat) : Int), .int .i64 ((jb : Nat) : Int), .int .i64 ((jc : Nat) : Int), .int .i64 ((jd : Nat) : Int), .pointer (some ⟨gf, 0, none⟩), .pointer (some ⟨gw, 0, none⟩), .pointer (some ⟨go, 0, none⟩)] w (fun rr w' => rr = .returned (.tuple #[]) ∧ Kn w0 w' [(go, 69, iv 16 (ord r)), (gf, 68, #[.func (.func 28) #[] #[.pointer (some ⟨gv, 0, none⟩)]]), (gw, 51, wv M), (gv, 51, wv (mixB f ja jb jc jd (M (ord r (2 * i))) (M (ord r (2 * i + 1))))), (g2, 58, c2), (g1, 58, c1)]) := by
  refine calls_kn (vs := [.int .i64 ((i : Nat) : Int), .int .i64 ((ja : Nat) : Int), .int .i64 ((jb : Nat) : Int), .int .i64 ((jc : Nat) : Int), .int .i64 ((jd : Nat) : Int), .pointer (some ⟨gf, 0, none⟩), .pointer (some ⟨gw, 0, none⟩), .pointer (some ⟨go, 0, none⟩)]) 38 Tryd.func30 rfl Tryd.ntmps30 rfl K (fun a W H => ?_)
  replace H : St 38 w0 a W [(0, .int .i64 ((i : Nat) : Int)), (1, .int .i64 ((ja : Nat) : Int)), (2, .int .i64 ((jb : Nat) : Int)), (3, .int .i64 ((jc : Nat) : Int)), (4, .int .i64 ((jd : Nat) : Int)), (5, .pointer (some ⟨gf, 0, none⟩)), (6, .pointer (some ⟨gw, 0, none⟩)), (7, .pointer (some ⟨go, 0, none⟩))] [(go, 69, iv 16 (ord r)), (gf, 68, #[.func (.func 28) #[] #[.pointer (some ⟨gv, 0, none⟩)]]), (gw, 51, wv M), (gv, 51, wv f), (g2, 58, c2), (g1, 58, c1)] := H
  refine wp_seq_k (fun K1 hK1 => ?_)
  refine d2 [.v 13 _ [], .v 14 _ [], .v 15 _ [], .v 16 _ [], .v 17 _ [], .v 18 _ [], .v 19 _ [5], .v 20 _ [6], .v 21 _ [7], .v 22 _ [8], .v 23 _ [9]] (by kernel_rfl) (by kernel_rfl) H gs0 ⟨oV rfl (does_loadAt (v := .func (.func 28) #[] #[.pointer (some ⟨gv, 0, none⟩)]) rfl rfl (k := 1) rfl (ld_fn7)), oS rfl rfl, oS rfl rfl, oS rfl rfl, oS rfl rfl, oS rfl rfl, oV rfl (does_binOp rfl rfl rfl (i_mul (k := 2) (m := i) (by omega) _ _)), oV rfl (does_indexAddr rfl rfl rfl (ia_a16B (j := (2 * i)) (by omega))), oV rfl (does_loadAt rfl rfl (k := 0) rfl (ld_ivB (j := (2 * i)) (m := 16) (f := (ord r)) (by omega))), oV rfl (does_indexAddr rfl rfl rfl (ia_w16 (j := (ord r (2 * i))) (ord_lt _ _))), oV rfl (does_loadAt (v := wc (M (ord r (2 * i)))) rfl rfl (k := 2) rfl (ld_word (ord_lt _ _))), trivial⟩ (rI0 ?_)
  try clear H a W
  intro a W H
  refine pl_callK (f := 28) (caps := #[.pointer (some ⟨gv, 0, none⟩)]) (vs' := [.int .i64 ((ja : Nat) : Int), .int .i64 ((jb : Nat) : Int), .int .i64 ((jc : Nat) : Int), .int .i64 ((jd : Nat) : Int), wc (M (ord r (2 * i))), .int .i64 ((16 : Nat) : Int), .int .i64 ((12 : Nat) : Int), .pointer (some ⟨gv, 0, none⟩)]) rfl ⟨_, Tryd.func28, by kernel_rfl⟩ rfl rfl rfl (fun K_ => half_any (by omega) (by omega) (by omega) (by omega) (by decide) (by decide) K_) rfl rfl rfl rfl H ?_
  try clear H a W
  intro a W H
  replace H : St 38 w0 a W [(24, .tuple #[]), (23, wc (M (ord r (2 * i)))), (22, .pointer (some ⟨gw, ord r (2 * i), none⟩)), (21, .int .i64 ((ord r (2 * i) : Nat) : Int)), (20, .pointer (some ⟨go, 2 * i, none⟩)), (19, .int .i64 ((2 * i : Nat) : Int)), (18, .int .i64 ((i : Nat) : Int)), (17, .int .i64 ((jd : Nat) : Int)), (16, .int .i64 ((jc : Nat) : Int)), (15, .int .i64 ((jb : Nat) : Int)), (14, .int .i64 ((ja : Nat) : Int)), (13, .func (.func 28) #[] #[.pointer (some ⟨gv, 0, none⟩)]), (0, .int .i64 ((i : Nat) : Int)), (1, .int .i64 ((ja : Nat) : Int)), (2, .int .i64 ((jb : Nat) : Int)), (3, .int .i64 ((jc : Nat) : Int)), (4, .int .i64 ((jd : Nat) : Int)), (5, .pointer (some ⟨gf, 0, none⟩)), (6, .pointer (some ⟨gw, 0, none⟩)), (7, .pointer (some ⟨go, 0, none⟩))] [(go, 69, iv 16 (ord r)), (gf, 68, #[.func (.func 28) #[] #[.pointer (some ⟨gv, 0, none⟩)]]), (gw, 51, wv M), (gv, 51, wv (halfB f ja jb jc jd (M (ord r (2 * i))) 16 12)), (g2, 58, c2), (g1, 58, c1)] := H
  refine rgO H gs0 (rK [0, 0, 0, 0, 0, 0, 0, 0, 0, 0, 0, 0] [] [] <| rZ0 ?_)
  try clear H a W
  intro a W H
  refine hK1 _ _ ?_
  clear hK1
  refine d2 [.v 25 _ [], .v 26 _ [], .v 27 _ [], .v 28 _ [], .v 29 _ [], .v 30 _ [], .v 31 _ [5], .v 32 _ [6], .v 33 _ [7], .v 34 _ [8], .v 35 _ [9], .v 36 _ [10]] (by kernel_rfl) (by kernel_rfl) H gs0 ⟨oV rfl (does_loadAt (v := .func (.func 28) #[] #[.pointer (some ⟨gv, 0, none⟩)]) rfl rfl (k := 1) rfl (ld_fn7)), oS rfl rfl, oS rfl rfl, oS rfl rfl, oS rfl rfl, oS rfl rfl, oV rfl (does_binOp rfl rfl rfl (i_mul (k := 2) (m := i) (by omega) _ _)), oV rfl (does_binOp rfl rfl rfl (i_inc (by omega) _ _)), oV rfl (does_indexAddr rfl rfl rfl (ia_a16B (j := (2 * i + 1)) (by omega))), oV rfl (does_loadAt rfl rfl (k := 0) rfl (ld_ivB (j := (2 * i + 1)) (m := 16) (f := (ord r)) (by omega))), oV rfl (does_indexAddr rfl rfl rfl (ia_w16 (j := (ord r (2 * i + 1))) (ord_lt _ _))), oV rfl (does_loadAt (v := wc (M (ord r (2 * i + 1)))) rfl rfl (k := 2) rfl (ld_word (ord_lt _ _))), trivial⟩ (rI0 ?_)
  try clear H a W
  intro a W H
  refine pl_callK (f := 28) (caps := #[.pointer (some ⟨gv, 0, none⟩)]) (vs' := [.int .i64 ((ja : Nat) : Int), .int .i64 ((jb : Nat) : Int), .int .i64 ((jc : Nat) : Int), .int .i64 ((jd : Nat) : Int), wc (M (ord r (2 * i + 1))), .int .i64 ((8 : Nat) : Int), .int .i64 ((7 : Nat) : Int), .pointer (some ⟨gv, 0, none⟩)]) rfl ⟨_, Tryd.func28, by kernel_rfl⟩ rfl rfl rfl (fun K_ => half_any (by omega) (by omega) (by omega) (by omega) (by decide) (by decide) K_) rfl rfl rfl rfl H ?_
  try clear H a W
  intro a W H
  replace H : St 38 w0 a W [(37, .tuple #[]), (36, wc (M (ord r (2 * i + 1)))), (35, .pointer (some ⟨gw, ord r (2 * i + 1), none⟩)), (34, .int .i64 ((ord r (2 * i + 1) : Nat) : Int)), (33, .pointer (some ⟨go, 2 * i + 1, none⟩)), (32, .int .i64 ((2 * i + 1 : Nat) : Int)), (31, .int .i64 ((2 * i : Nat) : Int)), (30, .int .i64 ((i : Nat) : Int)), (29, .int .i64 ((jd : Nat) : Int)), (28, .int .i64 ((jc : Nat) : Int)), (27, .int .i64 ((jb : Nat) : Int)), (26, .int .i64 ((ja : Nat) : Int)), (25, .func (.func 28) #[] #[.pointer (some ⟨gv, 0, none⟩)]), (0, .int .i64 ((i : Nat) : Int)), (1, .int .i64 ((ja : Nat) : Int)), (2, .int .i64 ((jb : Nat) : Int)), (3, .int .i64 ((jc : Nat) : Int)), (4, .int .i64 ((jd : Nat) : Int)), (5, .pointer (some ⟨gf, 0, none⟩)), (6, .pointer (some ⟨gw, 0, none⟩)), (7, .pointer (some ⟨go, 0, none⟩))] [(go, 69, iv 16 (ord r)), (gf, 68, #[.func (.func 28) #[] #[.pointer (some ⟨gv, 0, none⟩)]]), (gw, 51, wv M), (gv, 51, wv (halfB (halfB f ja jb jc jd (M (ord r (2 * i))) 16 12) ja jb jc jd (M (ord r (2 * i + 1))) 8 7)), (g2, 58, c2), (g1, 58, c1)] := H
  refine rgO H gs0 (rK [0, 0, 0, 0, 0, 0, 0, 0, 0, 0, 0, 0, 0, 0, 0, 0, 0, 0, 0, 0, 0] [] [] <| rZ0 ?_)
  try clear H a W
  intro a W H
  refine end_none rfl H (fun hk => ?_)
  rw [half_half] at hk
  exact ⟨rfl, hk⟩
theorem mix_at {w0 w : World} {go gf gw gv g2 g1 r : Nat} {c1 c2 : Array Value} {M f : Wd} {i ja jb jc jd : Nat} (hi : i < 8) (e : plc i 0 = ja ∧ plc i 1 = jb ∧ plc i 2 = jc ∧ plc i 3 = jd) (K : Kn w0 w [(go, 69, iv 16 (ord r)), (gf, 68, #[.func (.func 28) #[] #[.pointer (some ⟨gv, 0, none⟩)]]), (gw, 51, wv M), (gv, 51, wv (mixI M r f i)), (g2, 58, c2), (g1, 58, c1)]) : Calls Tryd.prog 30 #[.int .i64 ((i : Nat) : Int), .int .i64 ((ja : Nat) : Int), .int .i64 ((jb : Nat) : Int), .int .i64 ((jc : Nat) : Int), .int .i64 ((jd : Nat) : Int), .pointer (some ⟨gf, 0, none⟩), .pointer (some ⟨gw, 0, none⟩), .pointer (some ⟨go, 0, none⟩)] w (fun rr w' => rr = .returned (.tuple #[]) ∧ Kn w0 w' [(go, 69, iv 16 (ord r)), (gf, 68, #[.func (.func 28) #[] #[.pointer (some ⟨gv, 0, none⟩)]]), (gw, 51, wv M), (gv, 51, wv (mixI M r f (i + 1))), (g2, 58, c2), (g1, 58, c1)]) := by
  have ha := plc_all i hi 0 (by decide)
  have hb := plc_all i hi 1 (by decide)
  have hc := plc_all i hi 2 (by decide)
  have hd := plc_all i hi 3 (by decide)
  have hstep : mixI M r f (i + 1) = mixB (mixI M r f i) (plc i 0) (plc i 1) (plc i 2) (plc i 3) (M (ord r (2 * i))) (M (ord r (2 * i + 1))) := mixI_succ M r f i
  rw [hstep]
  obtain ⟨rfl, rfl, rfl, rfl⟩ := e
  exact mix_any hi ha hb hc hd K
set_option maxHeartbeats 4000000 in
theorem words_any {v : Value} (B : Nat → UInt8) (w : World) (hv : BF (rb 64 B) v w) : Calls Tryd.prog 27 #[v] w (fun rr w' => rr = .returned (.agg (wv (wordsB B))) ∧ Below w.heap.size w w') := by
  obtain ⟨A, n, cap, rfl, hbs⟩ := hv
  obtain rfl : 64 = n := by rw [← hbs.len, rb_len]
  have hcap := hbs.cap
  obtain ⟨gb, ob, rfl, hgb, hc_⟩ := hbs.at_ (by omega)
  have hcells : ∀ k, k < 64 → w.cell? ⟨gb, ob + k, none⟩ = some (bv (B k)) := fun k hk => by rw [bv_def]; exact hc_ k (B k) (rb_get hk B)
  clear hc_ hbs
  refine calls_st (vs := [.slice (some ⟨gb, ob, none⟩) 64 cap]) 36 Tryd.func27 rfl Tryd.ntmps27 rfl (fun a W H => ?_)
  replace H : St 36 w a W [(0, .slice (some ⟨gb, ob, none⟩) 64 cap)] [] := H
  refine sqR H gs0 fun Z_ z_ => rA rfl rfl al_w16 fun g1 => rN0 z_ ?_
  try clear H a W
  intro a W H
  refine sqR H gs0 fun Z_ z_ => rA rfl rfl al_w16 fun g2 => rN0 z_ ?_
  try clear H a W
  intro a W H
  refine wp_seq_k (fun K3 hK3 => ?_)
  refine sqR H gs0 fun Z_ z_ => rS 1 rfl <| rN0 z_ ?_
  try clear H a W
  intro a W H
  replace H : St 36 w a W [(7, .int .i64 0), (3, .pointer (some ⟨g2, 0, none⟩)), (2, .pointer (some ⟨g1, 0, none⟩)), (0, .slice (some ⟨gb, ob, none⟩) 64 cap)] [(g2, 51, wv (wrK B (4 * 0))), (g1, 51, wv w0s)] := by rw [wrK_0]; exact H
  refine wp_block ?_
  replace H : St 36 w a W [(7, .int .i64 ((0 : Nat) : Int)), (3, .pointer (some ⟨g2, 0, none⟩)), (2, .pointer (some ⟨g1, 0, none⟩)), (0, .slice (some ⟨gb, ob, none⟩) 64 cap)] [(g2, 51, wv (wrK B (4 * 0))), (g1, 51, wv w0s)] := H.pick [0, 1, 2, 3] [0, 1] rfl
  refine wp_rounds 16 (fun i a W => St 36 w a W [(7, .int .i64 ((i : Nat) : Int)), (3, .pointer (some ⟨g2, 0, none⟩)), (2, .pointer (some ⟨g1, 0, none⟩)), (0, .slice (some ⟨gb, ob, none⟩) 64 cap)] [(g2, 51, wv (wrK B (4 * i))), (g1, 51, wv w0s)]) (k0 := 0) H (by omega) ?_
  try clear H a W
  intro i a W hi H
  by_cases hi2 : i < 16
  · replace H : St 36 w a W [(7, .int .i64 ((i : Nat) : Int)), (3, .pointer (some ⟨g2, 0, none⟩)), (2, .pointer (some ⟨g1, 0, none⟩)), (0, .slice (some ⟨gb, ob, none⟩) 64 cap)] [(g2, 51, wv (wrK B (4 * i + 0))), (g1, 51, wv w0s)] := H
    refine sqR H gs0 fun Z_ z_ => rV rfl (does_binOp rfl rfl rfl (i_lss_yes (k := i) (m := 16) (by omega) _ _)) <| rN0 z_ ?_
    try clear H a W
    intro a W H
    refine cdT H rfl ?_
    refine wp_seq_k (fun K6 hK6 => ?_)
    refine wp_block ?_
    refine sqR H gs0 fun Z_ z_ => rS 2 rfl <| rN0 z_ ?_
    try clear H a W
    intro a W H
    refine sqR H gs0 fun Z_ z_ => rS 2 rfl <| rV rfl (does_binOp rfl rfl rfl (i_mul (k := i) (m := 4) (by omega) _ _)) <| rS 1 rfl <| rV rfl (does_binOp rfl rfl rfl (i_inc (by omega) _ _)) <| rV rfl (does_binOp rfl rfl rfl (i_mul (k := (i + 1)) (m := 4) (by omega) _ _)) <| rV rfl (does_slice rfl rfl (vl := some (.int .i64 (((i * 4 : Nat)) : Int))) (vh := some (.int .i64 ((((i + 1) * 4 : Nat)) : Int))) rfl rfl (sl_four (i := i) (by omega) (by omega))) <| rV rfl (does_len Tryd.underlying22 rfl rfl) <| rS 1 rfl <| rN0 z_ ?_
    try clear H a W
    intro a W H
    refine wp_block ?_
    replace H : St 36 w a W [(18, .int .i64 ((0 : Nat) : Int)), (17, .int .i64 ((4 : Nat) : Int)), (16, .slice (some ⟨gb, ob + 4 * i, none⟩) 4 (cap - 4 * i)), (4, .int .i64 ((i : Nat) : Int)), (7, .int .i64 ((i : Nat) : Int)), (3, .pointer (some ⟨g2, 0, none⟩)), (2, .pointer (some ⟨g1, 0, none⟩)), (0, .slice (some ⟨gb, ob, none⟩) 64 cap)] [(g2, 51, wv (wrK B (4 * i + 0))), (g1, 51, wv w0s)] := H.pick [0, 1, 2, 9, 12, 13, 14, 15] [0, 1] rfl
    refine wp_rounds 4 (fun j a W => St 36 w a W [(18, .int .i64 ((j : Nat) : Int)), (17, .int .i64 ((4 : Nat) : Int)), (16, .slice (some ⟨gb, ob + 4 * i, none⟩) 4 (cap - 4 * i)), (4, .int .i64 ((i : Nat) : Int)), (7, .int .i64 ((i : Nat) : Int)), (3, .pointer (some ⟨g2, 0, none⟩)), (2, .pointer (some ⟨g1, 0, none⟩)), (0, .slice (some ⟨gb, ob, none⟩) 64 cap)] [(g2, 51, wv (wrK B (4 * i + j))), (g1, 51, wv w0s)]) (k0 := 0) H (by omega) ?_
    try clear H a W
    intro j a W hj H
    by_cases hj2 : j < 4
    · have hcell := hcells (4 * i + j) (by omega)
      have hstep := wrK_step B (i := i) (show j < 4 by omega)
      rw [← Nat.add_assoc] at hcell
      refine sqR H gs0 fun Z_ z_ => rV rfl (does_binOp rfl rfl rfl (i_lss_yes (k := j) (m := 4) (by omega) _ _)) <| rN0 z_ ?_
      try clear H a W
      intro a W H
      refine cdT H rfl ?_
      refine wp_seq_k (fun K10 hK10 => ?_)
      refine wp_block ?_
      refine sqR H gs0 fun Z_ z_ => rS 1 rfl <| rV rfl (does_indexAddr rfl rfl rfl (ia_bytes (j := j) (by omega))) <| rV rfl (does_loadCell (v := bv (B (4 * i + j))) rfl rfl hcell hgb ld_cellB) <| rS 2 rfl <| rN0 z_ ?_
      try clear H a W
      intro a W H
      refine d2 [.v 23 _ [], .v 24 _ [0], .v 25 _ [1], .v 26 _ [], .v 27 _ [3], .v 28 _ [], .v 29 _ [5], .v 30 _ [4, 6], .v 31 _ [2, 7], .v 32 _ [0]] (by kernel_rfl) (by kernel_rfl) H gs0 ⟨oS rfl rfl, oV rfl (does_indexAddr rfl rfl rfl (ia_w16 (j := i) (by omega))), oV rfl (does_loadAt (v := wc ((wrK B (4 * i + j)) i)) rfl rfl (k := 0) rfl (ld_word (by omega))), oS rfl rfl, oV rfl (does_convert rfl rfl (cv_bw _)), oS rfl rfl, oV rfl (does_binOp rfl rfl rfl (i_mul (k := 8) (m := j) (by omega) _ _)), oV rfl (does_binOp rfl rfl rfl (w_shl (s := (8 * j)) (by omega) _ _)), oV rfl (does_binOp rfl rfl rfl (w_or _ _ _ _)), oV rfl (does_indexAddr rfl rfl rfl (ia_w16 (j := i) (by omega))), trivial⟩ (rX [1] (c := wv (wrK B (4 * i + (j + 1)))) ⟨rfl, rfl⟩ rfl rfl rfl (st_word (by omega)) (sv_word hstep) <| rZ0 ?_)
      try clear H a W
      intro a W H
      refine blk_normal ?_
      refine hK10 _ _ ?_
      clear hK10
      refine rgP H gs0 (rV rfl (does_binOp rfl rfl rfl (i_inc (by omega) _ _)) <| rK [1, 1, 1, 1, 1, 1, 1, 1, 1, 1, 1, 1, 1, 1, 1, 1, 1, 0] [] [] <| rS 1 rfl <| rZ0 ?_)
      try clear H a W
      intro a W H
      refine ⟨j + 1, by omega, by omega, ?_⟩
      show St 36 w a W [(18, .int .i64 ((j + 1 : Nat) : Int)), (17, .int .i64 ((4 : Nat) : Int)), (16, .slice (some ⟨gb, ob + 4 * i, none⟩) 4 (cap - 4 * i)), (4, .int .i64 ((i : Nat) : Int)), (7, .int .i64 ((i : Nat) : Int)), (3, .pointer (some ⟨g2, 0, none⟩)), (2, .pointer (some ⟨g1, 0, none⟩)), (0, .slice (some ⟨gb, ob, none⟩) 64 cap)] [(g2, 51, wv (wrK B (4 * i + (j + 1)))), (g1, 51, wv w0s)]
      exact H.pick [0, 18, 19, 20, 21, 22, 23, 24] [0, 1] rfl
    · obtain rfl : 4 = j := by omega
      refine sqR H gs0 fun Z_ z_ => rV rfl (does_binOp rfl rfl rfl (i_lss_no (k := 4) (m := 4) (by omega) _ _)) <| rN0 z_ ?_
      try clear H a W
      intro a W H
      refine wp_seq_k (fun K13 hK13 => ?_)
      refine wp_cond_false (H.ev rfl) ?_
      refine wp_exit ?_
      repeat (with_reducible refine then_exit ?_)
      refine blk_exit ?_
      have e4 : 4 * i + 4 = 4 * (i + 1) := by omega
      rw [e4] at H
      refine blk_normal ?_
      refine hK6 _ _ ?_
      clear hK6
      refine rgP H gs0 (rV rfl (does_binOp rfl rfl rfl (i_inc (by omega) _ _)) <| rK [1, 1, 1, 1, 1, 1, 0] [] [] <| rS 1 rfl <| rZ0 ?_)
      try clear H a W
      intro a W H
      refine ⟨i + 1, by omega, by omega, ?_⟩
      show St 36 w a W [(7, .int .i64 ((i + 1 : Nat) : Int)), (3, .pointer (some ⟨g2, 0, none⟩)), (2, .pointer (some ⟨g1, 0, none⟩)), (0, .slice (some ⟨gb, ob, none⟩) 64 cap)] [(g2, 51, wv (wrK B (4 * (i + 1)))), (g1, 51, wv w0s)]
      exact H.pick [0, 7, 8, 9] [0, 1] rfl
  · obtain rfl : 16 = i := by omega
    refine sqR H gs0 fun Z_ z_ => rV rfl (does_binOp rfl rfl rfl (i_lss_no (k := 16) (m := 16) (by omega) _ _)) <| rN0 z_ ?_
    try clear H a W
    intro a W H
    refine wp_seq_k (fun K15 hK15 => ?_)
    refine wp_cond_false (H.ev rfl) ?_
    refine wp_exit ?_
    repeat (with_reducible refine then_exit ?_)
    refine blk_exit ?_
    rw [show 4 * 16 = 64 from rfl, wrK_all] at H
    refine hK3 _ _ ?_
    clear hK3
    refine sqR H gs0 fun Z_ z_ => rV rfl (does_load rfl rfl (k := 0) rfl Tryd.underlying51 rfl (info_w16 _)) <| rW [0, 1] ⟨rfl, rfl⟩ rfl rfl rfl (info_w16 _) (size_wv _ _) (wv_one _) <| rK [0, 0, 0, 0, 1, 0] [] [] <| rN0 z_ ?_
    try clear H a W
    intro a W H
    refine wp_ret ?_
    repeat (first | (with_reducible refine then_ret ?_) | (with_reducible refine blk_ret ?_))
    refine end_cell (p := 2) rfl rfl (k := 1) rfl Tryd.underlying51 rfl (info_w16 _) H (fun hb => ?_)
    exact ⟨rfl, hb⟩
set_option maxHeartbeats 4000000 in
theorem spread_any (h : Wd) {t : Nat} (b : Bool) (ht : t < 18446744073709551616) (w : World) (hpg : PG w) : Calls Tryd.prog 26 #[.agg (wn 8 h), un t, .bool b] w (fun rr w' => rr = .returned (.agg (wv (preB h t b))) ∧ Below w.heap.size w w') := by
  refine calls_st (vs := [.agg (wn 8 h), un t, .bool b]) 43 Tryd.func26 rfl Tryd.ntmps26 rfl (fun a W H => ?_)
  replace H : St 43 w a W [(0, .agg (wn 8 h)), (1, un t), (2, .bool b)] [] := H
  refine sqR H gs0 fun Z_ z_ => rB rfl rfl rfl (bx_bst h) fun g1 => rA rfl rfl al_w16 fun g2 => rK [1, 1, 0] [] [] <| rN0 z_ ?_
  try clear H a W
  intro a W H
  refine sqR H gs0 fun Z_ z_ => rA rfl rfl al_w16 fun g3 => rN0 z_ ?_
  try clear H a W
  intro a W H
  refine wp_seq_k (fun K3 hK3 => ?_)
  refine sqR H gs0 fun Z_ z_ => rS 1 rfl <| rN0 z_ ?_
  try clear H a W
  intro a W H
  replace H : St 43 w a W [(9, .int .i64 0), (7, .pointer (some ⟨g3, 0, none⟩)), (6, .pointer (some ⟨g2, 0, none⟩)), (3, .pointer (some ⟨g1, 0, none⟩)), (1, un t), (2, .bool b)] [(g3, 51, wv (pK h 0)), (g2, 51, wv w0s), (g1, 58, wn 8 h)] := by rw [← pK_0]; exact H
  refine wp_block ?_
  replace H : St 43 w a W [(9, .int .i64 ((0 : Nat) : Int)), (7, .pointer (some ⟨g3, 0, none⟩)), (6, .pointer (some ⟨g2, 0, none⟩)), (3, .pointer (some ⟨g1, 0, none⟩)), (1, un t), (2, .bool b)] [(g3, 51, wv (pK h 0)), (g2, 51, wv w0s), (g1, 58, wn 8 h)] := H.pick [0, 1, 2, 3, 4, 5] [0, 1, 2] rfl
  refine wp_rounds 8 (fun k a W => St 43 w a W [(9, .int .i64 ((k : Nat) : Int)), (7, .pointer (some ⟨g3, 0, none⟩)), (6, .pointer (some ⟨g2, 0, none⟩)), (3, .pointer (some ⟨g1, 0, none⟩)), (1, un t), (2, .bool b)] [(g3, 51, wv (pK h k)), (g2, 51, wv w0s), (g1, 58, wn 8 h)]) (k0 := 0) H (by omega) ?_
  try clear H a W
  intro k a W hk H
  by_cases hk2 : k < 8
  · refine sqR H gs0 fun Z_ z_ => rV rfl (does_binOp rfl rfl rfl (i_lss_yes (k := k) (m := 8) (by omega) _ _)) <| rN0 z_ ?_
    try clear H a W
    intro a W H
    refine cdT H rfl ?_
    refine wp_seq_k (fun K6 hK6 => ?_)
    refine wp_block ?_
    refine sqR H gs0 fun Z_ z_ => rS 2 rfl <| rN0 z_ ?_
    try clear H a W
    intro a W H
    refine drawnT [.val 12 (.int .i64 ((k : Nat) : Int)) [] [], .val 13 (.int .i64 ((k : Nat) : Int)) [] [], .val 14 (.int .i64 ((k + 8 : Nat) : Int)) [1] [], .val 15 (.int .i64 ((k : Nat) : Int)) [] [], .val 16 (.pointer (some ⟨g1, k, none⟩)) [3] [], .val 17 (wc (h k)) [4] [2], .val 18 (.int .i64 ((k : Nat) : Int)) [] [], .val 19 (.pointer (some ⟨0, k, none⟩)) [6] [], .val 20 (wc (ivB k)) [7] [], .val 21 (.pointer (some ⟨g3, k, none⟩)) [0] [], .sto 0 g3 51 (wv (pK h k)) (wv (upd (pK h k) k (h k))) [9, 5]] [0, 0, 2, 0, 8, 16, 0, 64, 128, 57, 569, 2047, 4095] (by kernel_rfl) (by kernel_rfl) (by kernel_rfl) H ⟨⟨does_move rfl rfl, wanted_none rfl⟩, ⟨does_move rfl rfl, wanted_none rfl⟩, ⟨does_binOp rfl rfl rfl (z_add (k := k) (m := 8) (by omega) _ _), wanted_none rfl⟩, ⟨does_move rfl rfl, wanted_none rfl⟩, ⟨does_indexAddr rfl rfl rfl (ia_bst (j := k) (by omega)), wanted_none rfl⟩, ⟨does_loadAt (v := wc (h k)) rfl rfl (k := 0) rfl (ld_wn (by omega) (rfl)), wanted_none rfl⟩, ⟨does_move rfl rfl, wanted_none rfl⟩, ⟨does_indexAddr rfl rfl rfl (ia_bst (j := k) (by omega)), wanted_none rfl⟩, ⟨does_loadCell (v := wc (ivB k)) rfl rfl (hpg.start k (by omega)) hpg.lt0 ld_cellW, wanted_none rfl⟩, ⟨does_indexAddr rfl rfl rfl (ia_w16 (j := k) (by omega)), wanted_none rfl⟩, ⟨rfl, rfl, sto_at rfl rfl rfl (st_word (by omega)) (sv_word rfl)⟩, trivial⟩ ?_
    try clear H a W
    intro G4 a W H
    replace H : St 43 w a W [(12, .int .i64 ((k : Nat) : Int)), (13, .int .i64 ((k : Nat) : Int)), (14, .int .i64 ((k + 8 : Nat) : Int)), (15, .int .i64 ((k : Nat) : Int)), (16, .pointer (some ⟨g1, k, none⟩)), (17, wc (h k)), (18, .int .i64 ((k : Nat) : Int)), (19, .pointer (some ⟨0, k, none⟩)), (20, wc (ivB k)), (21, .pointer (some ⟨g3, k, none⟩)), (8, .int .i64 ((k : Nat) : Int)), (11, .int .i64 ((k : Nat) : Int)), (10, .bool true), (9, .int .i64 ((k : Nat) : Int)), (7, .pointer (some ⟨g3, 0, none⟩)), (6, .pointer (some ⟨g2, 0, none⟩)), (3, .pointer (some ⟨g1, 0, none⟩)), (1, un t), (2, .bool b)] [(g3, 51, wv (upd (pK h k) k (h k))), (g2, 51, wv w0s), (g1, 58, wn 8 h)] := H
    refine rgO H gs0 (rV rfl (does_indexAddr rfl rfl rfl (ia_w16 (j := (k + 8)) (by omega))) <| rX [1] (c := wv (upd (upd (pK h k) k (h k)) (k + 8) (ivB k))) ⟨rfl, rfl⟩ rfl rfl rfl (st_word (by omega)) (sv_word rfl) <| rZ0 ?_)
    try clear H a W
    intro a W H
    refine blk_normal ?_
    refine hK6 _ _ ?_
    clear hK6
    refine rgP H gs0 (rV rfl (does_binOp rfl rfl rfl (i_inc (by omega) _ _)) <| rK [1, 1, 1, 1, 1, 1, 1, 1, 1, 1, 1, 1, 1, 1, 1, 0] [] [] <| rS 1 rfl <| rZ0 ?_)
    try clear H a W
    intro a W H
    refine ⟨k + 1, by omega, by omega, ?_⟩
    show St 43 w a W [(9, .int .i64 ((k + 1 : Nat) : Int)), (7, .pointer (some ⟨g3, 0, none⟩)), (6, .pointer (some ⟨g2, 0, none⟩)), (3, .pointer (some ⟨g1, 0, none⟩)), (1, un t), (2, .bool b)] [(g3, 51, wv (pK h (k + 1))), (g2, 51, wv w0s), (g1, 58, wn 8 h)]
    rw [pK_step8 h (by omega)] at H
    exact H.pick [0, 16, 17, 18, 19, 20] [0, 1, 2] rfl
  · obtain rfl : 8 = k := by omega
    refine sqR H gs0 fun Z_ z_ => rV rfl (does_binOp rfl rfl rfl (i_lss_no (k := 8) (m := 8) (by omega) _ _)) <| rN0 z_ ?_
    try clear H a W
    intro a W H
    refine wp_seq_k (fun K9 hK9 => ?_)
    refine wp_cond_false (H.ev rfl) ?_
    refine wp_exit ?_
    repeat (with_reducible refine then_exit ?_)
    refine blk_exit ?_
    rw [pK_all] at H
    refine hK3 _ _ ?_
    clear hK3
    refine sqR H gs0 fun Z_ z_ => rV rfl (does_indexAddr rfl rfl rfl (ia_w16 (j := 12) (by omega))) <| rV rfl (does_loadAt (v := wc ((vB h) 12)) rfl rfl (k := 0) rfl (ld_word (by omega))) <| rS 1 rfl <| rV rfl (does_convert rfl rfl (cv_nw _)) <| rV rfl (does_binOp rfl rfl rfl (w_xor _ _ _ _)) <| rV rfl (does_indexAddr rfl rfl rfl (ia_w16 (j := 12) (by omega))) <| rX [1] (c := wv (upd (vB h) 12 (((vB h) 12) ^^^ (UInt32.ofNat t)))) ⟨rfl, rfl⟩ rfl rfl rfl (st_word (by omega)) (sv_word rfl) <| rK [0, 0, 0, 0, 0, 0, 0, 0, 1, 1, 0] [] [] <| rN0 z_ ?_
    try clear H a W
    intro a W H
    refine sqR H gs0 fun Z_ z_ => rV rfl (does_indexAddr rfl rfl rfl (ia_w16 (j := 13) (by omega))) <| rV rfl (does_loadAt (v := wc ((upd (vB h) 12 (((vB h) 12) ^^^ (UInt32.ofNat t))) 13)) rfl rfl (k := 0) rfl (ld_word (by omega))) <| rS 1 rfl <| rV rfl (does_binOp rfl rfl rfl (un_shr (x := t) (s := 32) rfl (by omega) _ _)) <| rV rfl (does_convert rfl rfl (cv_nw _)) <| rV rfl (does_binOp rfl rfl rfl (w_xor _ _ _ _)) <| rV rfl (does_indexAddr rfl rfl rfl (ia_w16 (j := 13) (by omega))) <| rX [1] (c := wv (upd (upd (vB h) 12 (((vB h) 12) ^^^ (UInt32.ofNat t))) 13 (((upd (vB h) 12 (((vB h) 12) ^^^ (UInt32.ofNat t))) 13) ^^^ (UInt32.ofNat (t / 4294967296))))) ⟨rfl, rfl⟩ rfl rfl rfl (st_word (by omega)) (sv_word rfl) <| rK [0, 0, 0, 0, 0, 0, 0, 1, 1, 0] [] [] <| rN0 z_ ?_
    try clear H a W
    intro a W H
    obtain ⟨f1, hf1⟩ : ∃ x, tB h t = x := ⟨_, rfl⟩
    replace H : St 43 w a W [(7, .pointer (some ⟨g3, 0, none⟩)), (6, .pointer (some ⟨g2, 0, none⟩)), (2, .bool b)] [(g3, 51, wv f1), (g2, 51, wv w0s), (g1, 58, wn 8 h)] := by rw [← hf1]; unfold tB; exact H
    refine wp_seq_k (fun K12 hK12 => ?_)
    refine sqR H gs0 fun Z_ z_ => rS 1 rfl <| rK [1, 1, 1, 0] [] [] <| rN0 z_ ?_
    try clear H a W
    intro a W H
    cases b with
    | true =>
      refine wp_cond_true (H.ev rfl) ?_
      refine rgP H gs0 (rV rfl (does_indexAddr rfl rfl rfl (ia_w16 (j := 14) (by omega))) <| rV rfl (does_loadAt (v := wc (f1 14)) rfl rfl (k := 0) rfl (ld_word (by omega))) <| rV rfl (does_unOp rfl rfl (w_notB _)) <| rV rfl (does_indexAddr rfl rfl rfl (ia_w16 (j := 14) (by omega))) <| rX [1] (c := wv (upd f1 14 (~~~ (f1 14)))) ⟨rfl, rfl⟩ rfl rfl rfl (st_word (by omega)) (sv_word rfl) <| rK [0, 0, 0, 0, 0] [] [] <| rZ0 ?_)
      try clear H a W
      intro a W H
      refine hK12 _ _ ?_
      clear hK12
      refine sqR H gs0 fun Z_ z_ => rV rfl (does_load rfl rfl (k := 0) rfl Tryd.underlying51 rfl (info_w16 _)) <| rW [0, 1] ⟨rfl, rfl⟩ rfl rfl rfl (info_w16 _) (size_wv _ _) (wv_one _) <| rK [0, 0] [] [] <| rN0 z_ ?_
      try clear H a W
      intro a W H
      refine wp_ret ?_
      repeat (first | (with_reducible refine then_ret ?_) | (with_reducible refine blk_ret ?_))
      refine end_cell (p := 6) rfl rfl (k := 1) rfl Tryd.underlying51 rfl (info_w16 _) H (fun hb => ?_)
      refine ⟨?_, hb⟩
      rw [← tB_true, hf1]
    | false =>
      refine wp_cond_false (H.ev rfl) ?_
      refine wp_skip ?_
      refine hK12 _ _ ?_
      clear hK12
      refine sqR H gs0 fun Z_ z_ => rV rfl (does_load rfl rfl (k := 0) rfl Tryd.underlying51 rfl (info_w16 _)) <| rW [0, 1] ⟨rfl, rfl⟩ rfl rfl rfl (info_w16 _) (size_wv _ _) (wv_one _) <| rK [0, 0, 0] [] [] <| rN0 z_ ?_
      try clear H a W
      intro a W H
      refine wp_ret ?_
      repeat (first | (with_reducible refine then_ret ?_) | (with_reducible refine blk_ret ?_))
      refine end_cell (p := 6) rfl rfl (k := 1) rfl Tryd.underlying51 rfl (info_w16 _) H (fun hb => ?_)
      refine ⟨?_, hb⟩
      rw [← tB_false, hf1]
set_option maxHeartbeats 4000000 in
theorem pressed_any (h : Wd) {u : Value} (B : Nat → UInt8) {t : Nat} (b : Bool) (ht : t < 18446744073709551616) (w : World) (hpg : PG w) (hv : BF (rb 64 B) u w) : Calls Tryd.prog 24 #[.agg (wn 8 h), u, un t, .bool b] w (fun rr w' => rr = .returned (.agg (wn 8 (postB h (mixR (wordsB B) (preB h t b) 10)))) ∧ Below w.heap.size w w') := by
  refine calls_st (vs := [.agg (wn 8 h), u, un t, .bool b]) 65 Tryd.func24 rfl Tryd.ntmps24 rfl (fun a W H => ?_)
  replace H : St 65 w a W [(0, .agg (wn 8 h)), (1, u), (2, un t), (3, .bool b)] [] := H
  refine sqR H gs0 fun Z_ z_ => rB rfl rfl rfl (bx_bst h) fun g1 => rA rfl rfl al_bst fun g2 => rK [1, 1, 0] [] [] <| rN0 z_ ?_
  try clear H a W
  intro a W H
  refine sqR H gs0 fun Z_ z_ => rV rfl (does_load rfl rfl (k := 1) rfl Tryd.underlying58 rfl (info_bst _)) <| rS 2 rfl <| rV rfl (does_call rfl ⟨_, Tryd.func26, by kernel_rfl⟩ rfl (fun W hb => spread_any h b ht W (hpg.ext hb))) <| rA rfl rfl al_w16 fun g3 => rW [1] ⟨rfl, rfl⟩ rfl rfl rfl (info_w16 _) (size_wv _ _) (wv_one _) <| rK [1, 0, 0, 0, 0, 1, 1, 1, 0, 0] [] [] <| rN0 z_ ?_
  try clear H a W
  intro a W H
  refine sqR H gs0 fun Z_ z_ => rS 1 rfl <| rV rfl (does_call rfl ⟨_, Tryd.func27, by kernel_rfl⟩ rfl (fun W hb => words_any B W (hv.below hb))) <| rA rfl rfl al_w16 fun g4 => rW [1] ⟨rfl, rfl⟩ rfl rfl rfl (info_w16 _) (size_wv _ _) (wv_one _) <| rK [1, 0, 0, 1, 1, 1, 0] [] [] <| rN0 z_ ?_
  try clear H a W
  intro a W H
  obtain ⟨v0, hv0⟩ : ∃ z_, preB h t b = z_ := ⟨_, rfl⟩
  rw [hv0] at H
  obtain ⟨M, hM⟩ : ∃ z_, wordsB B = z_ := ⟨_, rfl⟩
  rw [hM] at H
  refine sqR H gs0 fun Z_ z_ => rV rfl (does_makeFunc rfl rfl) <| rA rfl rfl al_fn7 fun g5 => rX [1] (c := #[.func (.func 28) #[] #[.pointer (some ⟨g3, 0, none⟩)]]) ⟨rfl, rfl⟩ rfl rfl rfl st_fn7 rfl <| rK [1, 0] [] [] <| rN0 z_ ?_
  try clear H a W
  intro a W H
  refine wp_seq_k (fun K5 hK5 => ?_)
  refine sqR H gs0 fun Z_ z_ => rS 1 rfl <| rN0 z_ ?_
  try clear H a W
  intro a W H
  replace H : St 65 w a W [(23, .int .i64 0), (11, .pointer (some ⟨g5, 0, none⟩)), (10, .pointer (some ⟨g4, 0, none⟩)), (9, .pointer (some ⟨g3, 0, none⟩)), (8, .pointer (some ⟨g2, 0, none⟩)), (4, .pointer (some ⟨g1, 0, none⟩))] [(g5, 68, #[.func (.func 28) #[] #[.pointer (some ⟨g3, 0, none⟩)]]), (g4, 51, wv M), (g3, 51, wv (mixR M v0 0)), (g2, 58, wn 8 w0s), (g1, 58, wn 8 h)] := by rw [mixR_0]; exact H
  refine wp_block ?_
  replace H : St 65 w a W [(23, .int .i64 ((0 : Nat) : Int)), (11, .pointer (some ⟨g5, 0, none⟩)), (10, .pointer (some ⟨g4, 0, none⟩)), (9, .pointer (some ⟨g3, 0, none⟩)), (8, .pointer (some ⟨g2, 0, none⟩)), (4, .pointer (some ⟨g1, 0, none⟩))] [(g5, 68, #[.func (.func 28) #[] #[.pointer (some ⟨g3, 0, none⟩)]]), (g4, 51, wv M), (g3, 51, wv (mixR M v0 0)), (g2, 58, wn 8 w0s), (g1, 58, wn 8 h)] := H.pick [0, 1, 2, 3, 4, 5] [0, 1, 2, 3, 4] rfl
  refine wp_rounds 10 (fun k a W => St 65 w a W [(23, .int .i64 ((k : Nat) : Int)), (11, .pointer (some ⟨g5, 0, none⟩)), (10, .pointer (some ⟨g4, 0, none⟩)), (9, .pointer (some ⟨g3, 0, none⟩)), (8, .pointer (some ⟨g2, 0, none⟩)), (4, .pointer (some ⟨g1, 0, none⟩))] [(g5, 68, #[.func (.func 28) #[] #[.pointer (some ⟨g3, 0, none⟩)]]), (g4, 51, wv M), (g3, 51, wv (mixR M v0 k)), (g2, 58, wn 8 w0s), (g1, 58, wn 8 h)]) (k0 := 0) H (by omega) ?_
  try clear H a W
  intro k a W hk H
  by_cases hk2 : k < 10
  · obtain ⟨F, hF⟩ : ∃ x, mixR M v0 k = x := ⟨_, rfl⟩
    rw [hF] at H
    replace H : St 65 w a W [(23, .int .i64 ((k : Nat) : Int)), (11, .pointer (some ⟨g5, 0, none⟩)), (10, .pointer (some ⟨g4, 0, none⟩)), (9, .pointer (some ⟨g3, 0, none⟩)), (8, .pointer (some ⟨g2, 0, none⟩)), (4, .pointer (some ⟨g1, 0, none⟩))] [(g5, 68, #[.func (.func 28) #[] #[.pointer (some ⟨g3, 0, none⟩)]]), (g4, 51, wv M), (g3, 51, wv (mixI M k F 0)), (g2, 58, wn 8 w0s), (g1, 58, wn 8 h)] := by rw [mixI_0]; exact H
    refine sqR H gs0 fun Z_ z_ => rV rfl (does_binOp rfl rfl rfl (i_lss_yes (k := k) (m := 10) (by omega) _ _)) <| rN0 z_ ?_
    try clear H a W
    intro a W H
    refine cdT H rfl ?_
    refine wp_seq_k (fun K8 hK8 => ?_)
    refine wp_block ?_
    refine sqR H gs0 fun Z_ z_ => rS 2 rfl <| rN0 z_ ?_
    try clear H a W
    intro a W H
    refine sqR H gs0 fun Z_ z_ => rS 1 rfl <| rV rfl (does_indexAddr rfl rfl rfl (ia_ord10 (r := k) (by omega))) <| rV rfl (does_loadR rfl rfl (order_range hpg (by omega)) hpg.lt Tryd.underlying69 rfl (info_a16B _)) <| rA rfl rfl al_a16B fun g6 => rW [1] ⟨rfl, rfl⟩ rfl rfl rfl (info_a16B _) (size_ivB _ _) (iv_oneB _ _) <| rN0 z_ ?_
    try clear H a W
    intro a W H
    refine sqR H gs0 fun Z_ z_ => rV rfl (does_makeFunc3 rfl rfl rfl rfl) <| rS 1 rfl <| rN0 z_ ?_
    try clear H a W
    intro a W H
    refine wp_seq_k (fun K12 hK12 => ?_)
    refine rgP H gs0 (rS 1 rfl <| rI0 ?_)
    try clear H a W
    intro a W H
    refine pl_callK (f := 30) (caps := #[.pointer (some ⟨g5, 0, none⟩), .pointer (some ⟨g4, 0, none⟩), .pointer (some ⟨g6, 0, none⟩)]) (vs' := [.int .i64 ((0 : Nat) : Int), .int .i64 ((0 : Nat) : Int), .int .i64 ((4 : Nat) : Int), .int .i64 ((8 : Nat) : Int), .int .i64 ((12 : Nat) : Int), .pointer (some ⟨g5, 0, none⟩), .pointer (some ⟨g4, 0, none⟩), .pointer (some ⟨g6, 0, none⟩)]) rfl ⟨_, Tryd.func30, by kernel_rfl⟩ rfl rfl rfl (fun K_ => mix_at (i := 0) (by decide) (by decide) K_) rfl rfl rfl rfl H ?_
    try clear H a W
    intro a W H
    replace H : St 65 w a W [(31, .tuple #[]), (30, .func (.func 30) #[] #[.pointer (some ⟨g5, 0, none⟩), .pointer (some ⟨g4, 0, none⟩), .pointer (some ⟨g6, 0, none⟩)]), (14, .func (.func 30) #[] #[.pointer (some ⟨g5, 0, none⟩), .pointer (some ⟨g4, 0, none⟩), .pointer (some ⟨g6, 0, none⟩)]), (29, .func (.func 30) #[] #[.pointer (some ⟨g5, 0, none⟩), .pointer (some ⟨g4, 0, none⟩), .pointer (some ⟨g6, 0, none⟩)]), (13, .pointer (some ⟨g6, 0, none⟩)), (28, .agg (iv 16 (ord k))), (27, .pointer (some ⟨1, 16 * k, none⟩)), (26, .int .i64 ((k : Nat) : Int)), (12, .int .i64 ((k : Nat) : Int)), (25, .int .i64 ((k : Nat) : Int)), (24, .bool true), (23, .int .i64 ((k : Nat) : Int)), (11, .pointer (some ⟨g5, 0, none⟩)), (10, .pointer (some ⟨g4, 0, none⟩)), (9, .pointer (some ⟨g3, 0, none⟩)), (8, .pointer (some ⟨g2, 0, none⟩)), (4, .pointer (some ⟨g1, 0, none⟩))] [(g6, 69, iv 16 (ord k)), (g5, 68, #[.func (.func 28) #[] #[.pointer (some ⟨g3, 0, none⟩)]]), (g4, 51, wv M), (g3, 51, wv (mixI M k F 1)), (g2, 58, wn 8 w0s), (g1, 58, wn 8 h)] := H
    refine rgO H gs0 (rK [0, 0] [] [] <| rZ0 ?_)
    try clear H a W
    intro a W H
    refine hK12 _ _ ?_
    clear hK12
    refine wp_seq_k (fun K13 hK13 => ?_)
    refine rgP H gs0 (rS 1 rfl <| rI0 ?_)
    try clear H a W
    intro a W H
    refine pl_callK (f := 30) (caps := #[.pointer (some ⟨g5, 0, none⟩), .pointer (some ⟨g4, 0, none⟩), .pointer (some ⟨g6, 0, none⟩)]) (vs' := [.int .i64 ((1 : Nat) : Int), .int .i64 ((1 : Nat) : Int), .int .i64 ((5 : Nat) : Int), .int .i64 ((9 : Nat) : Int), .int .i64 ((13 : Nat) : Int), .pointer (some ⟨g5, 0, none⟩), .pointer (some ⟨g4, 0, none⟩), .pointer (some ⟨g6, 0, none⟩)]) rfl ⟨_, Tryd.func30, by kernel_rfl⟩ rfl rfl rfl (fun K_ => mix_at (i := 1) (by decide) (by decide) K_) rfl rfl rfl rfl H ?_
    try clear H a W
    intro a W H
    replace H : St 65 w a W [(33, .tuple #[]), (32, .func (.func 30) #[] #[.pointer (some ⟨g5, 0, none⟩), .pointer (some ⟨g4, 0, none⟩), .pointer (some ⟨g6, 0, none⟩)]), (14, .func (.func 30) #[] #[.pointer (some ⟨g5, 0, none⟩), .pointer (some ⟨g4, 0, none⟩), .pointer (some ⟨g6, 0, none⟩)]), (29, .func (.func 30) #[] #[.pointer (some ⟨g5, 0, none⟩), .pointer (some ⟨g4, 0, none⟩), .pointer (some ⟨g6, 0, none⟩)]), (13, .pointer (some ⟨g6, 0, none⟩)), (28, .agg (iv 16 (ord k))), (27, .pointer (some ⟨1, 16 * k, none⟩)), (26, .int .i64 ((k : Nat) : Int)), (12, .int .i64 ((k : Nat) : Int)), (25, .int .i64 ((k : Nat) : Int)), (24, .bool true), (23, .int .i64 ((k : Nat) : Int)), (11, .pointer (some ⟨g5, 0, none⟩)), (10, .pointer (some ⟨g4, 0, none⟩)), (9, .pointer (some ⟨g3, 0, none⟩)), (8, .pointer (some ⟨g2, 0, none⟩)), (4, .pointer (some ⟨g1, 0, none⟩))] [(g6, 69, iv 16 (ord k)), (g5, 68, #[.func (.func 28) #[] #[.pointer (some ⟨g3, 0, none⟩)]]), (g4, 51, wv M), (g3, 51, wv (mixI M k F 2)), (g2, 58, wn 8 w0s), (g1, 58, wn 8 h)] := H
    refine rgO H gs0 (rK [0, 0] [] [] <| rZ0 ?_)
    try clear H a W
    intro a W H
    refine hK13 _ _ ?_
    clear hK13
    refine wp_seq_k (fun K14 hK14 => ?_)
    refine rgP H gs0 (rS 1 rfl <| rI0 ?_)
    try clear H a W
    intro a W H
    refine pl_callK (f := 30) (caps := #[.pointer (some ⟨g5, 0, none⟩), .pointer (some ⟨g4, 0, none⟩), .pointer (some ⟨g6, 0, none⟩)]) (vs' := [.int .i64 ((2 : Nat) : Int), .int .i64 ((2 : Nat) : Int), .int .i64 ((6 : Nat) : Int), .int .i64 ((10 : Nat) : Int), .int .i64 ((14 : Nat) : Int), .pointer (some ⟨g5, 0, none⟩), .pointer (some ⟨g4, 0, none⟩), .pointer (some ⟨g6, 0, none⟩)]) rfl ⟨_, Tryd.func30, by kernel_rfl⟩ rfl rfl rfl (fun K_ => mix_at (i := 2) (by decide) (by decide) K_) rfl rfl rfl rfl H ?_
    try clear H a W
    intro a W H
    replace H : St 65 w a W [(35, .tuple #[]), (34, .func (.func 30) #[] #[.pointer (some ⟨g5, 0, none⟩), .pointer (some ⟨g4, 0, none⟩), .pointer (some ⟨g6, 0, none⟩)]), (14, .func (.func 30) #[] #[.pointer (some ⟨g5, 0, none⟩), .pointer (some ⟨g4, 0, none⟩), .pointer (some ⟨g6, 0, none⟩)]), (29, .func (.func 30) #[] #[.pointer (some ⟨g5, 0, none⟩), .pointer (some ⟨g4, 0, none⟩), .pointer (some ⟨g6, 0, none⟩)]), (13, .pointer (some ⟨g6, 0, none⟩)), (28, .agg (iv 16 (ord k))), (27, .pointer (some ⟨1, 16 * k, none⟩)), (26, .int .i64 ((k : Nat) : Int)), (12, .int .i64 ((k : Nat) : Int)), (25, .int .i64 ((k : Nat) : Int)), (24, .bool true), (23, .int .i64 ((k : Nat) : Int)), (11, .pointer (some ⟨g5, 0, none⟩)), (10, .pointer (some ⟨g4, 0, none⟩)), (9, .pointer (some ⟨g3, 0, none⟩)), (8, .pointer (some ⟨g2, 0, none⟩)), (4, .pointer (some ⟨g1, 0, none⟩))] [(g6, 69, iv 16 (ord k)), (g5, 68, #[.func (.func 28) #[] #[.pointer (some ⟨g3, 0, none⟩)]]), (g4, 51, wv M), (g3, 51, wv (mixI M k F 3)), (g2, 58, wn 8 w0s), (g1, 58, wn 8 h)] := H
    refine rgO H gs0 (rK [0, 0] [] [] <| rZ0 ?_)
    try clear H a W
    intro a W H
    refine hK14 _ _ ?_
    clear hK14
    refine wp_seq_k (fun K15 hK15 => ?_)
    refine rgP H gs0 (rS 1 rfl <| rI0 ?_)
    try clear H a W
    intro a W H
    refine pl_callK (f := 30) (caps := #[.pointer (some ⟨g5, 0, none⟩), .pointer (some ⟨g4, 0, none⟩), .pointer (some ⟨g6, 0, none⟩)]) (vs' := [.int .i64 ((3 : Nat) : Int), .int .i64 ((3 : Nat) : Int), .int .i64 ((7 : Nat) : Int), .int .i64 ((11 : Nat) : Int), .int .i64 ((15 : Nat) : Int), .pointer (some ⟨g5, 0, none⟩), .pointer (some ⟨g4, 0, none⟩), .pointer (some ⟨g6, 0, none⟩)]) rfl ⟨_, Tryd.func30, by kernel_rfl⟩ rfl rfl rfl (fun K_ => mix_at (i := 3) (by decide) (by decide) K_) rfl rfl rfl rfl H ?_
    try clear H a W
    intro a W H
    replace H : St 65 w a W [(37, .tuple #[]), (36, .func (.func 30) #[] #[.pointer (some ⟨g5, 0, none⟩), .pointer (some ⟨g4, 0, none⟩), .pointer (some ⟨g6, 0, none⟩)]), (14, .func (.func 30) #[] #[.pointer (some ⟨g5, 0, none⟩), .pointer (some ⟨g4, 0, none⟩), .pointer (some ⟨g6, 0, none⟩)]), (29, .func (.func 30) #[] #[.pointer (some ⟨g5, 0, none⟩), .pointer (some ⟨g4, 0, none⟩), .pointer (some ⟨g6, 0, none⟩)]), (13, .pointer (some ⟨g6, 0, none⟩)), (28, .agg (iv 16 (ord k))), (27, .pointer (some ⟨1, 16 * k, none⟩)), (26, .int .i64 ((k : Nat) : Int)), (12, .int .i64 ((k : Nat) : Int)), (25, .int .i64 ((k : Nat) : Int)), (24, .bool true), (23, .int .i64 ((k : Nat) : Int)), (11, .pointer (some ⟨g5, 0, none⟩)), (10, .pointer (some ⟨g4, 0, none⟩)), (9, .pointer (some ⟨g3, 0, none⟩)), (8, .pointer (some ⟨g2, 0, none⟩)), (4, .pointer (some ⟨g1, 0, none⟩))] [(g6, 69, iv 16 (ord k)), (g5, 68, #[.func (.func 28) #[] #[.pointer (some ⟨g3, 0, none⟩)]]), (g4, 51, wv M), (g3, 51, wv (mixI M k F 4)), (g2, 58, wn 8 w0s), (g1, 58, wn 8 h)] := H
    refine rgO H gs0 (rK [0, 0] [] [] <| rZ0 ?_)
    try clear H a W
    intro a W H
    refine hK15 _ _ ?_
    clear hK15
    refine wp_seq_k (fun K16 hK16 => ?_)
    refine rgP H gs0 (rS 1 rfl <| rI0 ?_)
    try clear H a W
    intro a W H
    refine pl_callK (f := 30) (caps := #[.pointer (some ⟨g5, 0, none⟩), .pointer (some ⟨g4, 0, none⟩), .pointer (some ⟨g6, 0, none⟩)]) (vs' := [.int .i64 ((4 : Nat) : Int), .int .i64 ((0 : Nat) : Int), .int .i64 ((5 : Nat) : Int), .int .i64 ((10 : Nat) : Int), .int .i64 ((15 : Nat) : Int), .pointer (some ⟨g5, 0, none⟩), .pointer (some ⟨g4, 0, none⟩), .pointer (some ⟨g6, 0, none⟩)]) rfl ⟨_, Tryd.func30, by kernel_rfl⟩ rfl rfl rfl (fun K_ => mix_at (i := 4) (by decide) (by decide) K_) rfl rfl rfl rfl H ?_
    try clear H a W
    intro a W H
    replace H : St 65 w a W [(39, .tuple #[]), (38, .func (.func 30) #[] #[.pointer (some ⟨g5, 0, none⟩), .pointer (some ⟨g4, 0, none⟩), .pointer (some ⟨g6, 0, none⟩)]), (14, .func (.func 30) #[] #[.pointer (some ⟨g5, 0, none⟩), .pointer (some ⟨g4, 0, none⟩), .pointer (some ⟨g6, 0, none⟩)]), (29, .func (.func 30) #[] #[.pointer (some ⟨g5, 0, none⟩), .pointer (some ⟨g4, 0, none⟩), .pointer (some ⟨g6, 0, none⟩)]), (13, .pointer (some ⟨g6, 0, none⟩)), (28, .agg (iv 16 (ord k))), (27, .pointer (some ⟨1, 16 * k, none⟩)), (26, .int .i64 ((k : Nat) : Int)), (12, .int .i64 ((k : Nat) : Int)), (25, .int .i64 ((k : Nat) : Int)), (24, .bool true), (23, .int .i64 ((k : Nat) : Int)), (11, .pointer (some ⟨g5, 0, none⟩)), (10, .pointer (some ⟨g4, 0, none⟩)), (9, .pointer (some ⟨g3, 0, none⟩)), (8, .pointer (some ⟨g2, 0, none⟩)), (4, .pointer (some ⟨g1, 0, none⟩))] [(g6, 69, iv 16 (ord k)), (g5, 68, #[.func (.func 28) #[] #[.pointer (some ⟨g3, 0, none⟩)]]), (g4, 51, wv M), (g3, 51, wv (mixI M k F 5)), (g2, 58, wn 8 w0s), (g1, 58, wn 8 h)] := H
    refine rgO H gs0 (rK [0, 0] [] [] <| rZ0 ?_)
    try clear H a W
    intro a W H
    refine hK16 _ _ ?_
    clear hK16
    refine wp_seq_k (fun K17 hK17 => ?_)
    refine rgP H gs0 (rS 1 rfl <| rI0 ?_)
    try clear H a W
    intro a W H
    refine pl_callK (f := 30) (caps := #[.pointer (some ⟨g5, 0, none⟩), .pointer (some ⟨g4, 0, none⟩), .pointer (some ⟨g6, 0, none⟩)]) (vs' := [.int .i64 ((5 : Nat) : Int), .int .i64 ((1 : Nat) : Int), .int .i64 ((6 : Nat) : Int), .int .i64 ((11 : Nat) : Int), .int .i64 ((12 : Nat) : Int), .pointer (some ⟨g5, 0, none⟩), .pointer (some ⟨g4, 0, none⟩), .pointer (some ⟨g6, 0, none⟩)]) rfl ⟨_, Tryd.func30, by kernel_rfl⟩ rfl rfl rfl (fun K_ => mix_at (i := 5) (by decide) (by decide) K_) rfl rfl rfl rfl H ?_
    try clear H a W
    intro a W H
    replace H : St 65 w a W [(41, .tuple #[]), (40, .func (.func 30) #[] #[.pointer (some ⟨g5, 0, none⟩), .pointer (some ⟨g4, 0, none⟩), .pointer (some ⟨g6, 0, none⟩)]), (14, .func (.func 30) #[] #[.pointer (some ⟨g5, 0, none⟩), .pointer (some ⟨g4, 0, none⟩), .pointer (some ⟨g6, 0, none⟩)]), (29, .func (.func 30) #[] #[.pointer (some ⟨g5, 0, none⟩), .pointer (some ⟨g4, 0, none⟩), .pointer (some ⟨g6, 0, none⟩)]), (13, .pointer (some ⟨g6, 0, none⟩)), (28, .agg (iv 16 (ord k))), (27, .pointer (some ⟨1, 16 * k, none⟩)), (26, .int .i64 ((k : Nat) : Int)), (12, .int .i64 ((k : Nat) : Int)), (25, .int .i64 ((k : Nat) : Int)), (24, .bool true), (23, .int .i64 ((k : Nat) : Int)), (11, .pointer (some ⟨g5, 0, none⟩)), (10, .pointer (some ⟨g4, 0, none⟩)), (9, .pointer (some ⟨g3, 0, none⟩)), (8, .pointer (some ⟨g2, 0, none⟩)), (4, .pointer (some ⟨g1, 0, none⟩))] [(g6, 69, iv 16 (ord k)), (g5, 68, #[.func (.func 28) #[] #[.pointer (some ⟨g3, 0, none⟩)]]), (g4, 51, wv M), (g3, 51, wv (mixI M k F 6)), (g2, 58, wn 8 w0s), (g1, 58, wn 8 h)] := H
    refine rgO H gs0 (rK [0, 0] [] [] <| rZ0 ?_)
    try clear H a W
    intro a W H
    refine hK17 _ _ ?_
    clear hK17
    refine wp_seq_k (fun K18 hK18 => ?_)
    refine rgP H gs0 (rS 1 rfl <| rI0 ?_)
    try clear H a W
    intro a W H
    refine pl_callK (f := 30) (caps := #[.pointer (some ⟨g5, 0, none⟩), .pointer (some ⟨g4, 0, none⟩), .pointer (some ⟨g6, 0, none⟩)]) (vs' := [.int .i64 ((6 : Nat) : Int), .int .i64 ((2 : Nat) : Int), .int .i64 ((7 : Nat) : Int), .int .i64 ((8 : Nat) : Int), .int .i64 ((13 : Nat) : Int), .pointer (some ⟨g5, 0, none⟩), .pointer (some ⟨g4, 0, none⟩), .pointer (some ⟨g6, 0, none⟩)]) rfl ⟨_, Tryd.func30, by kernel_rfl⟩ rfl rfl rfl (fun K_ => mix_at (i := 6) (by decide) (by decide) K_) rfl rfl rfl rfl H ?_
    try clear H a W
    intro a W H
    replace H : St 65 w a W [(43, .tuple #[]), (42, .func (.func 30) #[] #[.pointer (some ⟨g5, 0, none⟩), .pointer (some ⟨g4, 0, none⟩), .pointer (some ⟨g6, 0, none⟩)]), (14, .func (.func 30) #[] #[.pointer (some ⟨g5, 0, none⟩), .pointer (some ⟨g4, 0, none⟩), .pointer (some ⟨g6, 0, none⟩)]), (29, .func (.func 30) #[] #[.pointer (some ⟨g5, 0, none⟩), .pointer (some ⟨g4, 0, none⟩), .pointer (some ⟨g6, 0, none⟩)]), (13, .pointer (some ⟨g6, 0, none⟩)), (28, .agg (iv 16 (ord k))), (27, .pointer (some ⟨1, 16 * k, none⟩)), (26, .int .i64 ((k : Nat) : Int)), (12, .int .i64 ((k : Nat) : Int)), (25, .int .i64 ((k : Nat) : Int)), (24, .bool true), (23, .int .i64 ((k : Nat) : Int)), (11, .pointer (some ⟨g5, 0, none⟩)), (10, .pointer (some ⟨g4, 0, none⟩)), (9, .pointer (some ⟨g3, 0, none⟩)), (8, .pointer (some ⟨g2, 0, none⟩)), (4, .pointer (some ⟨g1, 0, none⟩))] [(g6, 69, iv 16 (ord k)), (g5, 68, #[.func (.func 28) #[] #[.pointer (some ⟨g3, 0, none⟩)]]), (g4, 51, wv M), (g3, 51, wv (mixI M k F 7)), (g2, 58, wn 8 w0s), (g1, 58, wn 8 h)] := H
    refine rgO H gs0 (rK [0, 0] [] [] <| rZ0 ?_)
    try clear H a W
    intro a W H
    refine hK18 _ _ ?_
    clear hK18
    refine rgP H gs0 (rS 1 rfl <| rI0 ?_)
    try clear H a W
    intro a W H
    refine pl_callK (f := 30) (caps := #[.pointer (some ⟨g5, 0, none⟩), .pointer (some ⟨g4, 0, none⟩), .pointer (some ⟨g6, 0, none⟩)]) (vs' := [.int .i64 ((7 : Nat) : Int), .int .i64 ((3 : Nat) : Int), .int .i64 ((4 : Nat) : Int), .int .i64 ((9 : Nat) : Int), .int .i64 ((14 : Nat) : Int), .pointer (some ⟨g5, 0, none⟩), .pointer (some ⟨g4, 0, none⟩), .pointer (some ⟨g6, 0, none⟩)]) rfl ⟨_, Tryd.func30, by kernel_rfl⟩ rfl rfl rfl (fun K_ => mix_at (i := 7) (by decide) (by decide) K_) rfl rfl rfl rfl H ?_
    try clear H a W
    intro a W H
    replace H : St 65 w a W [(45, .tuple #[]), (44, .func (.func 30) #[] #[.pointer (some ⟨g5, 0, none⟩), .pointer (some ⟨g4, 0, none⟩), .pointer (some ⟨g6, 0, none⟩)]), (14, .func (.func 30) #[] #[.pointer (some ⟨g5, 0, none⟩), .pointer (some ⟨g4, 0, none⟩), .pointer (some ⟨g6, 0, none⟩)]), (29, .func (.func 30) #[] #[.pointer (some ⟨g5, 0, none⟩), .pointer (some ⟨g4, 0, none⟩), .pointer (some ⟨g6, 0, none⟩)]), (13, .pointer (some ⟨g6, 0, none⟩)), (28, .agg (iv 16 (ord k))), (27, .pointer (some ⟨1, 16 * k, none⟩)), (26, .int .i64 ((k : Nat) : Int)), (12, .int .i64 ((k : Nat) : Int)), (25, .int .i64 ((k : Nat) : Int)), (24, .bool true), (23, .int .i64 ((k : Nat) : Int)), (11, .pointer (some ⟨g5, 0, none⟩)), (10, .pointer (some ⟨g4, 0, none⟩)), (9, .pointer (some ⟨g3, 0, none⟩)), (8, .pointer (some ⟨g2, 0, none⟩)), (4, .pointer (some ⟨g1, 0, none⟩))] [(g6, 69, iv 16 (ord k)), (g5, 68, #[.func (.func 28) #[] #[.pointer (some ⟨g3, 0, none⟩)]]), (g4, 51, wv M), (g3, 51, wv (mixI M k F 8)), (g2, 58, wn 8 w0s), (g1, 58, wn 8 h)] := H
    refine rgO H gs0 (rK [0, 0] [] [] <| rZ0 ?_)
    try clear H a W
    intro a W H
    refine blk_normal ?_
    refine hK8 _ _ ?_
    clear hK8
    refine rgP H gs0 (rV rfl (does_binOp rfl rfl rfl (i_inc (by omega) _ _)) <| rK [1, 1, 1, 1, 1, 1, 1, 1, 1, 1, 0] [] [] <| rS 1 rfl <| rZ0 ?_)
    try clear H a W
    intro a W H
    refine ⟨k + 1, by omega, by omega, ?_⟩
    show St 65 w a W [(23, .int .i64 ((k + 1 : Nat) : Int)), (11, .pointer (some ⟨g5, 0, none⟩)), (10, .pointer (some ⟨g4, 0, none⟩)), (9, .pointer (some ⟨g3, 0, none⟩)), (8, .pointer (some ⟨g2, 0, none⟩)), (4, .pointer (some ⟨g1, 0, none⟩))] [(g5, 68, #[.func (.func 28) #[] #[.pointer (some ⟨g3, 0, none⟩)]]), (g4, 51, wv M), (g3, 51, wv (mixR M v0 (k + 1))), (g2, 58, wn 8 w0s), (g1, 58, wn 8 h)]
    have hmr : mixI M k F 8 = mixR M v0 (k + 1) := by rw [← hF]; exact mixR_succ _ _ _
    rw [hmr] at H
    exact H.pick [0, 11, 12, 13, 14, 15] [1, 2, 3, 4, 5] rfl
  · obtain rfl : 10 = k := by omega
    refine sqR H gs0 fun Z_ z_ => rV rfl (does_binOp rfl rfl rfl (i_lss_no (k := 10) (m := 10) (by omega) _ _)) <| rN0 z_ ?_
    try clear H a W
    intro a W H
    refine wp_seq_k (fun K20 hK20 => ?_)
    refine wp_cond_false (H.ev rfl) ?_
    refine wp_exit ?_
    repeat (with_reducible refine then_exit ?_)
    refine blk_exit ?_
    obtain ⟨v, hv2⟩ : ∃ x, mixR M v0 10 = x := ⟨_, rfl⟩
    rw [hv2] at H
    refine hK5 _ _ ?_
    clear hK5
    refine wp_seq_k (fun K21 hK21 => ?_)
    refine sqR H gs0 fun Z_ z_ => rS 1 rfl <| rK [1, 0, 0, 0, 0] [] [] <| rN0 z_ ?_
    try clear H a W
    intro a W H
    rw [← mapU_0 (postB h v) h] at H
    refine wp_block ?_
    replace H : St 65 w a W [(47, .int .i64 ((0 : Nat) : Int)), (9, .pointer (some ⟨g3, 0, none⟩)), (8, .pointer (some ⟨g2, 0, none⟩)), (4, .pointer (some ⟨g1, 0, none⟩))] [(g5, 68, #[.func (.func 28) #[] #[.pointer (some ⟨g3, 0, none⟩)]]), (g4, 51, wv M), (g3, 51, wv v), (g2, 58, wn 8 w0s), (g1, 58, wn 8 (mapU (postB h v) h 0))] := H.pick [0, 1, 2, 3] [0, 1, 2, 3, 4] rfl
    refine wp_rounds 8 (fun k a W => St 65 w a W [(47, .int .i64 ((k : Nat) : Int)), (9, .pointer (some ⟨g3, 0, none⟩)), (8, .pointer (some ⟨g2, 0, none⟩)), (4, .pointer (some ⟨g1, 0, none⟩))] [(g5, 68, #[.func (.func 28) #[] #[.pointer (some ⟨g3, 0, none⟩)]]), (g4, 51, wv M), (g3, 51, wv v), (g2, 58, wn 8 w0s), (g1, 58, wn 8 (mapU (postB h v) h k))]) (k0 := 0) H (by omega) ?_
    try clear H a W
    intro k a W hk H
    by_cases hk2 : k < 8
    · have hpost := post_at8 h v k
      refine sqR H gs0 fun Z_ z_ => rV rfl (does_binOp rfl rfl rfl (i_lss_yes (k := k) (m := 8) (by omega) _ _)) <| rN0 z_ ?_
      try clear H a W
      intro a W H
      refine cdT H rfl ?_
      refine wp_seq_k (fun K24 hK24 => ?_)
      refine wp_block ?_
      refine sqR H gs0 fun Z_ z_ => rS 2 rfl <| rN0 z_ ?_
      try clear H a W
      intro a W H
      refine d2 [.v 50 _ [], .v 51 _ [0], .v 52 _ [1], .v 53 _ [], .v 54 _ [3], .v 55 _ [4], .v 56 _ [], .v 57 _ [6], .v 58 _ [7], .v 59 _ [8], .v 60 _ [5, 9], .v 61 _ [2, 10], .v 62 _ [0]] (by kernel_rfl) (by kernel_rfl) H gs0 ⟨oS rfl rfl, oV rfl (does_indexAddr rfl rfl rfl (ia_bst (j := k) (by omega))), oV rfl (does_loadAt (v := wc (h k)) rfl rfl (k := 4) rfl (ld_wn (by omega) (mapU_ge (by omega)))), oS rfl rfl, oV rfl (does_indexAddr rfl rfl rfl (ia_w16 (j := k) (by omega))), oV rfl (does_loadAt (v := wc (v k)) rfl rfl (k := 2) rfl (ld_word (by omega))), oS rfl rfl, oV rfl (does_binOp rfl rfl rfl (z_add (k := k) (m := 8) (by omega) _ _)), oV rfl (does_indexAddr rfl rfl rfl (ia_w16 (j := (k + 8)) (by omega))), oV rfl (does_loadAt (v := wc (v (k + 8))) rfl rfl (k := 2) rfl (ld_word (by omega))), oV rfl (does_binOp rfl rfl rfl (w_xor _ _ _ _)), oV rfl (does_binOp rfl rfl rfl (w_xor _ _ _ _)), oV rfl (does_indexAddr rfl rfl rfl (ia_bst (j := k) (by omega))), trivial⟩ (rX [0, 0, 0, 0, 1] (c := wn 8 (mapU (postB h v) h (k + 1))) ⟨rfl, rfl⟩ rfl rfl rfl (st_wn (by omega)) (sv_wn (mapU_step hpost)) <| rZ0 ?_)
      try clear H a W
      intro a W H
      refine blk_normal ?_
      refine hK24 _ _ ?_
      clear hK24
      refine rgP H gs0 (rV rfl (does_binOp rfl rfl rfl (i_inc (by omega) _ _)) <| rK [1, 1, 1, 1, 1, 1, 1, 1, 1, 1, 1, 1, 1, 1, 1, 1, 1, 0] [] [] <| rS 1 rfl <| rZ0 ?_)
      try clear H a W
      intro a W H
      refine ⟨k + 1, by omega, by omega, ?_⟩
      show St 65 w a W [(47, .int .i64 ((k + 1 : Nat) : Int)), (9, .pointer (some ⟨g3, 0, none⟩)), (8, .pointer (some ⟨g2, 0, none⟩)), (4, .pointer (some ⟨g1, 0, none⟩))] [(g5, 68, #[.func (.func 28) #[] #[.pointer (some ⟨g3, 0, none⟩)]]), (g4, 51, wv M), (g3, 51, wv v), (g2, 58, wn 8 w0s), (g1, 58, wn 8 (mapU (postB h v) h (k + 1)))]
      exact H.pick [0, 18, 19, 20] [0, 1, 2, 3, 4] rfl
    · obtain rfl : 8 = k := by omega
      refine sqR H gs0 fun Z_ z_ => rV rfl (does_binOp rfl rfl rfl (i_lss_no (k := 8) (m := 8) (by omega) _ _)) <| rN0 z_ ?_
      try clear H a W
      intro a W H
      refine wp_seq_k (fun K27 hK27 => ?_)
      refine wp_cond_false (H.ev rfl) ?_
      refine wp_exit ?_
      repeat (with_reducible refine then_exit ?_)
      refine blk_exit ?_
      rw [mapU_all] at H
      refine hK21 _ _ ?_
      clear hK21
      refine sqR H gs0 fun Z_ z_ => rV rfl (does_load rfl rfl (k := 4) rfl Tryd.underlying58 rfl (info_bst _)) <| rW [0, 0, 0, 1] ⟨rfl, rfl⟩ rfl rfl rfl (info_bst _) (size_wn _ _ _) (wn_one _ _) <| rK [0, 0, 0, 0, 1, 0] [] [] <| rN0 z_ ?_
      try clear H a W
      intro a W H
      refine wp_ret ?_
      repeat (first | (with_reducible refine then_ret ?_) | (with_reducible refine blk_ret ?_))
      refine end_cell (p := 8) rfl rfl (k := 3) rfl Tryd.underlying58 rfl (info_bst _) H (fun hb => ?_)
      exact ⟨by rw [← hv2, ← hM, ← hv0], hb⟩
set_option maxHeartbeats 4000000 in
theorem hash_any (f : Wd) (w : World) : Calls Tryd.prog 25 #[.agg (wn 8 f)] w (fun rr w' => rr = .returned (.agg (bvs (rb 32 (outB f)))) ∧ Below w.heap.size w w') := by
  refine calls_st (vs := [.agg (wn 8 f)]) 21 Tryd.func25 rfl Tryd.ntmps25 rfl (fun a W H => ?_)
  replace H : St 21 w a W [(0, .agg (wn 8 f))] [] := H
  refine sqR H gs0 fun Z_ z_ => rB rfl rfl rfl (bx_bst f) fun g1 => rA rfl rfl al_keyB fun g2 => rK [1, 1, 0] [] [] <| rN0 z_ ?_
  try clear H a W
  intro a W H
  refine sqR H gs0 fun Z_ z_ => rA rfl rfl al_keyB fun g3 => rN0 z_ ?_
  try clear H a W
  intro a W H
  refine wp_seq_k (fun K3 hK3 => ?_)
  refine sqR H gs0 fun Z_ z_ => rS 1 rfl <| rN0 z_ ?_
  try clear H a W
  intro a W H
  replace H : St 21 w a W [(5, .int .i64 0), (3, .pointer (some ⟨g3, 0, none⟩)), (2, .pointer (some ⟨g2, 0, none⟩)), (1, .pointer (some ⟨g1, 0, none⟩))] [(g3, 25, bvs (rb 32 (mapY (outB f) b0s 0))), (g2, 25, bvs (rb 32 b0s)), (g1, 58, wn 8 f)] := by rw [mapY_0]; exact H
  refine wp_block ?_
  replace H : St 21 w a W [(5, .int .i64 ((0 : Nat) : Int)), (3, .pointer (some ⟨g3, 0, none⟩)), (2, .pointer (some ⟨g2, 0, none⟩)), (1, .pointer (some ⟨g1, 0, none⟩))] [(g3, 25, bvs (rb 32 (mapY (outB f) b0s 0))), (g2, 25, bvs (rb 32 b0s)), (g1, 58, wn 8 f)] := H.pick [0, 1, 2, 3] [0, 1, 2] rfl
  refine wp_rounds 32 (fun k a W => St 21 w a W [(5, .int .i64 ((k : Nat) : Int)), (3, .pointer (some ⟨g3, 0, none⟩)), (2, .pointer (some ⟨g2, 0, none⟩)), (1, .pointer (some ⟨g1, 0, none⟩))] [(g3, 25, bvs (rb 32 (mapY (outB f) b0s k))), (g2, 25, bvs (rb 32 b0s)), (g1, 58, wn 8 f)]) (k0 := 0) H (by omega) ?_
  try clear H a W
  intro k a W hk H
  by_cases hk2 : k < 32
  · have hout : outB f k = lowB (shrW (f (k / 4)) (8 * (k % 4))) := out_at _ _
    refine sqR H gs0 fun Z_ z_ => rV rfl (does_binOp rfl rfl rfl (i_lss_yes (k := k) (m := 32) (by omega) _ _)) <| rN0 z_ ?_
    try clear H a W
    intro a W H
    refine cdT H rfl ?_
    refine wp_seq_k (fun K6 hK6 => ?_)
    refine wp_block ?_
    refine sqR H gs0 fun Z_ z_ => rS 2 rfl <| rN0 z_ ?_
    try clear H a W
    intro a W H
    refine rgP H gs0 (rS 2 rfl <| rV rfl (does_binOp rfl rfl rfl (i_quo (k := k) (m := 4) (by omega) (by omega) (by omega) _ _)) <| rV rfl (does_indexAddr rfl rfl rfl (ia_bst (j := (k / 4)) (by omega))) <| rV rfl (does_loadAt (v := wc (f (k / 4))) rfl rfl (k := 2) rfl (ld_wn (by omega) (rfl))) <| rS 1 rfl <| rV rfl (does_binOp rfl rfl rfl (i_rem (k := k) (m := 4) (by omega) _ _)) <| rV rfl (does_binOp rfl rfl rfl (i_mul (k := 8) (m := (k % 4)) (by omega) _ _)) <| rV rfl (does_binOp rfl rfl rfl (w_shr (s := (8 * (k % 4))) (by omega) _ _)) <| rV rfl (does_convert rfl rfl (cv_wb _)) <| rV rfl (does_indexAddr rfl rfl rfl (ia_keyB (j := k) (by omega))) <| rX [1] (c := bvs (rb 32 (mapY (outB f) b0s (k + 1)))) ⟨rfl, rfl⟩ rfl rfl rfl (st_byte (by omega)) (sv_byte (mapY_step hout)) <| rZ0 ?_)
    try clear H a W
    intro a W H
    refine blk_normal ?_
    refine hK6 _ _ ?_
    clear hK6
    refine rgP H gs0 (rV rfl (does_binOp rfl rfl rfl (i_inc (by omega) _ _)) <| rK [1, 1, 1, 1, 1, 1, 1, 1, 1, 1, 1, 1, 1, 1, 1, 0] [] [] <| rS 1 rfl <| rZ0 ?_)
    try clear H a W
    intro a W H
    refine ⟨k + 1, by omega, by omega, ?_⟩
    show St 21 w a W [(5, .int .i64 ((k + 1 : Nat) : Int)), (3, .pointer (some ⟨g3, 0, none⟩)), (2, .pointer (some ⟨g2, 0, none⟩)), (1, .pointer (some ⟨g1, 0, none⟩))] [(g3, 25, bvs (rb 32 (mapY (outB f) b0s (k + 1)))), (g2, 25, bvs (rb 32 b0s)), (g1, 58, wn 8 f)]
    exact H.pick [0, 16, 17, 18] [0, 1, 2] rfl
  · obtain rfl : 32 = k := by omega
    refine sqR H gs0 fun Z_ z_ => rV rfl (does_binOp rfl rfl rfl (i_lss_no (k := 32) (m := 32) (by omega) _ _)) <| rN0 z_ ?_
    try clear H a W
    intro a W H
    refine wp_seq_k (fun K9 hK9 => ?_)
    refine wp_cond_false (H.ev rfl) ?_
    refine wp_exit ?_
    repeat (with_reducible refine then_exit ?_)
    refine blk_exit ?_
    rw [mapY_all] at H
    refine hK3 _ _ ?_
    clear hK3
    refine sqR H gs0 fun Z_ z_ => rV rfl (does_load rfl rfl (k := 0) rfl Tryd.underlying25 rfl (info_key _)) <| rW [0, 1] ⟨rfl, rfl⟩ rfl rfl rfl (info_key _) (size_rb _ _ _) (bvs_one _) <| rK [0, 0, 0, 0, 1, 0] [] [] <| rN0 z_ ?_
    try clear H a W
    intro a W H
    refine wp_ret ?_
    repeat (first | (with_reducible refine then_ret ?_) | (with_reducible refine blk_ret ?_))
    refine end_cell (p := 2) rfl rfl (k := 1) rfl Tryd.underlying25 rfl (info_key _) H (fun hb => ?_)
    exact ⟨rfl, hb⟩
end Go.Proofs.YthjechjffhhiiaaDoor
