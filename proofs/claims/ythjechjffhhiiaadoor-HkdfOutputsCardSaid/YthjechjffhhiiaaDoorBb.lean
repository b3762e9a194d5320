/- The document's layer 11: words turned right, the mix. -/
import Derived.Test.YthjechjffhhiiaaDoorIc
import Derived.Test.YthjechjffhhiiaaDoorBa
namespace Go.Proofs.YthjechjffhhiiaaDoor
set_option linter.unusedVariables false
set_option linter.unusedSimpArgs false
set_option maxRecDepth 100000
open Go Go.RowKit

theorem ror_val (x : UInt32) (s : Nat) : bits .or .u32 ((x.toNat : Int) / 2 ^ s) (IntKind.u32.wrap ((x.toNat : Int) * 2 ^ (32 - s))) = ((rorW x s).toNat : Int) := by
  rw [w_shl_int, w_shr_int, w_or_int]
  rfl
abbrev Ror (s : Nat) : Prop := s = 16 ∨ s = 12 ∨ s = 8 ∨ s = 7
theorem ror_any (x : UInt32) (s : Nat) (hs : Ror s) (w : World) : Calls Tryd.prog 22 #[wc x, .int .u64 (s : Int)] w (fun rr w' => rr = .returned (wc (rorW x s)) ∧ Below w.heap.size w w') := by
  have hx := w_lt x
  unfold wc
  have h := ror_val x s
  rcases hs with rfl | rfl | rfl | rfl <;>
  · go_enter Tryd.func22, Tryd.ntmps22
    go_wp2
    go_ret
    refine ⟨?_, Below.refl _ _⟩
    rw [← h]
    rfl
attribute [local irreducible] wv wc bvs bv rorW
set_option maxHeartbeats 4000000 in
theorem rmix_any (f : Wd) {ja jb jc jd : Nat} (x y : UInt32) (ha : ja < 16) (hb_ : jb < 16) (hc : jc < 16) (hd : jd < 16) (w : World) : Calls Tryd.prog 20 #[.agg (wv f), .int .i64 ((ja : Nat) : Int), .int .i64 ((jb : Nat) : Int), .int .i64 ((jc : Nat) : Int), .int .i64 ((jd : Nat) : Int), wc x, wc y] w (fun rr w' => rr = .returned (.agg (wv (mixB f ja jb jc jd x y))) ∧ Below w.heap.size w w') := by
  refine calls_st (vs := [.agg (wv f), .int .i64 ((ja : Nat) : Int), .int .i64 ((jb : Nat) : Int), .int .i64 ((jc : Nat) : Int), .int .i64 ((jd : Nat) : Int), wc x, wc y]) 96 Tryd.func20 rfl Tryd.ntmps20 rfl (fun a W H => ?_)
  replace H : St 96 w a W [(0, .agg (wv f)), (1, .int .i64 ((ja : Nat) : Int)), (2, .int .i64 ((jb : Nat) : Int)), (3, .int .i64 ((jc : Nat) : Int)), (4, .int .i64 ((jd : Nat) : Int)), (5, wc x), (6, wc y)] [] := H
  refine sqR H gs0 fun Z_ z_ => rB rfl rfl rfl (bx_w16 f) fun g1 => rA rfl rfl al_w16 fun g2 => rK [1, 1, 0] [] [] <| rN0 z_ ?_
  try clear H a W
  intro a W H
  refine sqD [.v 15 _ [], .v 16 _ [], .v 17 _ [1], .v 18 _ [2], .v 19 _ [], .v 20 _ [4], .v 21 _ [5], .v 22 _ [3, 6], .v 23 _ [], .v 24 _ [7, 8], .v 25 _ [0]] (by kernel_rfl) (by kernel_rfl) H gs0 (fun _ => ⟨oS rfl rfl, oS rfl rfl, oV rfl (does_indexAddr rfl rfl rfl (ia_w16 (j := ja) ha)), oV rfl (does_loadAt (v := wc (f ja)) rfl rfl (k := 1) rfl (ld_word ha)), oS rfl rfl, oV rfl (does_indexAddr rfl rfl rfl (ia_w16 (j := jb) hb_)), oV rfl (does_loadAt (v := wc (f jb)) rfl rfl (k := 1) rfl (ld_word hb_)), oV rfl (does_binOp rfl rfl rfl (w_add _ _ _ _)), oS rfl rfl, oV rfl (does_binOp rfl rfl rfl (w_add _ _ _ _)), oV rfl (does_indexAddr rfl rfl rfl (ia_w16 (j := ja) ha)), trivial⟩) fun Z_ z_ => rX [0, 1] (c := wv (upd f ja (((f ja) + (f jb)) + x))) ⟨rfl, rfl⟩ rfl rfl rfl (st_word ha) (sv_word rfl) <| rK [0, 0, 0, 0, 0, 0, 0, 0, 0, 0, 0, 1, 1, 1, 1, 1, 1, 0] [] [] <| rN0 z_ ?_
  try clear H a W
  intro a W H
  obtain ⟨f1, hf1⟩ : ∃ q_ : Wd, (upd f ja (((f ja) + (f jb)) + x)) = q_ := ⟨_, rfl⟩
  rw [hf1] at H
  refine sqD [.v 26 _ [], .v 27 _ [], .v 28 _ [1], .v 29 _ [2], .v 30 _ [], .v 31 _ [4], .v 32 _ [5], .v 33 _ [3, 6], .v 34 _ [7], .v 35 _ [0]] (by kernel_rfl) (by kernel_rfl) H gs0 (fun _ => ⟨oS rfl rfl, oS rfl rfl, oV rfl (does_indexAddr rfl rfl rfl (ia_w16 (j := jd) hd)), oV rfl (does_loadAt (v := wc (f1 jd)) rfl rfl (k := 1) rfl (ld_word hd)), oS rfl rfl, oV rfl (does_indexAddr rfl rfl rfl (ia_w16 (j := ja) ha)), oV rfl (does_loadAt (v := wc (f1 ja)) rfl rfl (k := 1) rfl (ld_word ha)), oV rfl (does_binOp rfl rfl rfl (w_xor _ _ _ _)), oV rfl (does_call rfl ⟨_, Tryd.func22, by kernel_rfl⟩ rfl (fun W hb => ror_any _ 16 (by decide) W)), oV rfl (does_indexAddr rfl rfl rfl (ia_w16 (j := jd) hd)), trivial⟩) fun Z_ z_ => rX [0, 1] (c := wv (upd f1 jd (rorW ((f1 jd) ^^^ (f1 ja)) 16))) ⟨rfl, rfl⟩ rfl rfl rfl (st_word hd) (sv_word rfl) <| rK [0, 0, 0, 0, 0, 0, 0, 0, 0, 0] [] [] <| rN0 z_ ?_
  try clear H a W
  intro a W H
  obtain ⟨f2, hf2⟩ : ∃ q_ : Wd, (upd f1 jd (rorW ((f1 jd) ^^^ (f1 ja)) 16)) = q_ := ⟨_, rfl⟩
  rw [hf2] at H
  refine sqD [.v 36 _ [], .v 37 _ [], .v 38 _ [1], .v 39 _ [2], .v 40 _ [], .v 41 _ [4], .v 42 _ [5], .v 43 _ [3, 6], .v 44 _ [0]] (by kernel_rfl) (by kernel_rfl) H gs0 (fun _ => ⟨oS rfl rfl, oS rfl rfl, oV rfl (does_indexAddr rfl rfl rfl (ia_w16 (j := jc) hc)), oV rfl (does_loadAt (v := wc (f2 jc)) rfl rfl (k := 1) rfl (ld_word hc)), oS rfl rfl, oV rfl (does_indexAddr rfl rfl rfl (ia_w16 (j := jd) hd)), oV rfl (does_loadAt (v := wc (f2 jd)) rfl rfl (k := 1) rfl (ld_word hd)), oV rfl (does_binOp rfl rfl rfl (w_add _ _ _ _)), oV rfl (does_indexAddr rfl rfl rfl (ia_w16 (j := jc) hc)), trivial⟩) fun Z_ z_ => rX [0, 1] (c := wv (upd f2 jc ((f2 jc) + (f2 jd)))) ⟨rfl, rfl⟩ rfl rfl rfl (st_word hc) (sv_word rfl) <| rK [0, 0, 0, 0, 0, 0, 0, 0, 0] [] [] <| rN0 z_ ?_
  try clear H a W
  intro a W H
  obtain ⟨f3, hf3⟩ : ∃ q_ : Wd, (upd f2 jc ((f2 jc) + (f2 jd))) = q_ := ⟨_, rfl⟩
  rw [hf3] at H
  refine sqD [.v 45 _ [], .v 46 _ [], .v 47 _ [1], .v 48 _ [2], .v 49 _ [], .v 50 _ [4], .v 51 _ [5], .v 52 _ [3, 6], .v 53 _ [7], .v 54 _ [0]] (by kernel_rfl) (by kernel_rfl) H gs0 (fun _ => ⟨oS rfl rfl, oS rfl rfl, oV rfl (does_indexAddr rfl rfl rfl (ia_w16 (j := jb) hb_)), oV rfl (does_loadAt (v := wc (f3 jb)) rfl rfl (k := 1) rfl (ld_word hb_)), oS rfl rfl, oV rfl (does_indexAddr rfl rfl rfl (ia_w16 (j := jc) hc)), oV rfl (does_loadAt (v := wc (f3 jc)) rfl rfl (k := 1) rfl (ld_word hc)), oV rfl (does_binOp rfl rfl rfl (w_xor _ _ _ _)), oV rfl (does_call rfl ⟨_, Tryd.func22, by kernel_rfl⟩ rfl (fun W hb => ror_any _ 12 (by decide) W)), oV rfl (does_indexAddr rfl rfl rfl (ia_w16 (j := jb) hb_)), trivial⟩) fun Z_ z_ => rX [0, 1] (c := wv (upd f3 jb (rorW ((f3 jb) ^^^ (f3 jc)) 12))) ⟨rfl, rfl⟩ rfl rfl rfl (st_word hb_) (sv_word rfl) <| rK [0, 0, 0, 0, 0, 0, 0, 0, 0, 0] [] [] <| rN0 z_ ?_
  try clear H a W
  intro a W H
  obtain ⟨f4, hf4⟩ : ∃ q_ : Wd, (upd f3 jb (rorW ((f3 jb) ^^^ (f3 jc)) 12)) = q_ := ⟨_, rfl⟩
  rw [hf4] at H
  refine sqD [.v 55 _ [], .v 56 _ [], .v 57 _ [1], .v 58 _ [2], .v 59 _ [], .v 60 _ [4], .v 61 _ [5], .v 62 _ [3, 6], .v 63 _ [], .v 64 _ [7, 8], .v 65 _ [0]] (by kernel_rfl) (by kernel_rfl) H gs0 (fun _ => ⟨oS rfl rfl, oS rfl rfl, oV rfl (does_indexAddr rfl rfl rfl (ia_w16 (j := ja) ha)), oV rfl (does_loadAt (v := wc (f4 ja)) rfl rfl (k := 1) rfl (ld_word ha)), oS rfl rfl, oV rfl (does_indexAddr rfl rfl rfl (ia_w16 (j := jb) hb_)), oV rfl (does_loadAt (v := wc (f4 jb)) rfl rfl (k := 1) rfl (ld_word hb_)), oV rfl (does_binOp rfl rfl rfl (w_add _ _ _ _)), oS rfl rfl, oV rfl (does_binOp rfl rfl rfl (w_add _ _ _ _)), oV rfl (does_indexAddr rfl rfl rfl (ia_w16 (j := ja) ha)), trivial⟩) fun Z_ z_ => rX [0, 1] (c := wv (upd f4 ja (((f4 ja) + (f4 jb)) + y))) ⟨rfl, rfl⟩ rfl rfl rfl (st_word ha) (sv_word rfl) <| rK [0, 0, 0, 0, 0, 0, 0, 0, 0, 0, 0, 1, 1, 1, 1, 1, 1, 0] [] [] <| rN0 z_ ?_
  try clear H a W
  intro a W H
  obtain ⟨f5, hf5⟩ : ∃ q_ : Wd, (upd f4 ja (((f4 ja) + (f4 jb)) + y)) = q_ := ⟨_, rfl⟩
  rw [hf5] at H
  refine sqD [.v 66 _ [], .v 67 _ [], .v 68 _ [1], .v 69 _ [2], .v 70 _ [], .v 71 _ [4], .v 72 _ [5], .v 73 _ [3, 6], .v 74 _ [7], .v 75 _ [0]] (by kernel_rfl) (by kernel_rfl) H gs0 (fun _ => ⟨oS rfl rfl, oS rfl rfl, oV rfl (does_indexAddr rfl rfl rfl (ia_w16 (j := jd) hd)), oV rfl (does_loadAt (v := wc (f5 jd)) rfl rfl (k := 1) rfl (ld_word hd)), oS rfl rfl, oV rfl (does_indexAddr rfl rfl rfl (ia_w16 (j := ja) ha)), oV rfl (does_loadAt (v := wc (f5 ja)) rfl rfl (k := 1) rfl (ld_word ha)), oV rfl (does_binOp rfl rfl rfl (w_xor _ _ _ _)), oV rfl (does_call rfl ⟨_, Tryd.func22, by kernel_rfl⟩ rfl (fun W hb => ror_any _ 8 (by decide) W)), oV rfl (does_indexAddr rfl rfl rfl (ia_w16 (j := jd) hd)), trivial⟩) fun Z_ z_ => rX [0, 1] (c := wv (upd f5 jd (rorW ((f5 jd) ^^^ (f5 ja)) 8))) ⟨rfl, rfl⟩ rfl rfl rfl (st_word hd) (sv_word rfl) <| rK [0, 0, 0, 0, 0, 0, 0, 0, 0, 0, 1, 1, 0] [] [] <| rN0 z_ ?_
  try clear H a W
  intro a W H
  obtain ⟨f6, hf6⟩ : ∃ q_ : Wd, (upd f5 jd (rorW ((f5 jd) ^^^ (f5 ja)) 8)) = q_ := ⟨_, rfl⟩
  rw [hf6] at H
  refine sqD [.v 76 _ [], .v 77 _ [], .v 78 _ [1], .v 79 _ [2], .v 80 _ [], .v 81 _ [4], .v 82 _ [5], .v 83 _ [3, 6], .v 84 _ [0]] (by kernel_rfl) (by kernel_rfl) H gs0 (fun _ => ⟨oS rfl rfl, oS rfl rfl, oV rfl (does_indexAddr rfl rfl rfl (ia_w16 (j := jc) hc)), oV rfl (does_loadAt (v := wc (f6 jc)) rfl rfl (k := 1) rfl (ld_word hc)), oS rfl rfl, oV rfl (does_indexAddr rfl rfl rfl (ia_w16 (j := jd) hd)), oV rfl (does_loadAt (v := wc (f6 jd)) rfl rfl (k := 1) rfl (ld_word hd)), oV rfl (does_binOp rfl rfl rfl (w_add _ _ _ _)), oV rfl (does_indexAddr rfl rfl rfl (ia_w16 (j := jc) hc)), trivial⟩) fun Z_ z_ => rX [0, 1] (c := wv (upd f6 jc ((f6 jc) + (f6 jd)))) ⟨rfl, rfl⟩ rfl rfl rfl (st_word hc) (sv_word rfl) <| rK [0, 0, 0, 0, 0, 0, 0, 0, 0, 1, 1, 1, 1, 0] [] [] <| rN0 z_ ?_
  try clear H a W
  intro a W H
  obtain ⟨f7, hf7⟩ : ∃ q_ : Wd, (upd f6 jc ((f6 jc) + (f6 jd))) = q_ := ⟨_, rfl⟩
  rw [hf7] at H
  refine sqD [.v 85 _ [], .v 86 _ [], .v 87 _ [1], .v 88 _ [2], .v 89 _ [], .v 90 _ [4], .v 91 _ [5], .v 92 _ [3, 6], .v 93 _ [7], .v 94 _ [0]] (by kernel_rfl) (by kernel_rfl) H gs0 (fun _ => ⟨oS rfl rfl, oS rfl rfl, oV rfl (does_indexAddr rfl rfl rfl (ia_w16 (j := jb) hb_)), oV rfl (does_loadAt (v := wc (f7 jb)) rfl rfl (k := 1) rfl (ld_word hb_)), oS rfl rfl, oV rfl (does_indexAddr rfl rfl rfl (ia_w16 (j := jc) hc)), oV rfl (does_loadAt (v := wc (f7 jc)) rfl rfl (k := 1) rfl (ld_word hc)), oV rfl (does_binOp rfl rfl rfl (w_xor _ _ _ _)), oV rfl (does_call rfl ⟨_, Tryd.func22, by kernel_rfl⟩ rfl (fun W hb => ror_any _ 7 (by decide) W)), oV rfl (does_indexAddr rfl rfl rfl (ia_w16 (j := jb) hb_)), trivial⟩) fun Z_ z_ => rX [0, 1] (c := wv (upd f7 jb (rorW ((f7 jb) ^^^ (f7 jc)) 7))) ⟨rfl, rfl⟩ rfl rfl rfl (st_word hb_) (sv_word rfl) <| rK [0, 0, 0, 0, 0, 0, 0, 0, 0, 0, 1, 1, 0, 0] [] [] <| rN0 z_ ?_
  try clear H a W
  intro a W H
  obtain ⟨f8, hf8⟩ : ∃ q_ : Wd, (upd f7 jb (rorW ((f7 jb) ^^^ (f7 jc)) 7)) = q_ := ⟨_, rfl⟩
  rw [hf8] at H
  refine sqR H gs0 fun Z_ z_ => rV rfl (does_load rfl rfl (k := 1) rfl Tryd.underlying51 rfl (info_w16 _)) <| rW [1] ⟨rfl, rfl⟩ rfl rfl rfl (info_w16 _) (size_wv _ _) (wv_one _) <| rK [0, 1, 0] [] [] <| rN0 z_ ?_
  try clear H a W
  intro a W H
  refine wp_ret ?_
  repeat (first | (with_reducible refine then_ret ?_) | (with_reducible refine blk_ret ?_))
  refine end_cell (p := 14) rfl rfl (k := 0) rfl Tryd.underlying51 rfl (info_w16 _) H (fun hb => ?_)
  subst hf1 hf2 hf3 hf4 hf5 hf6 hf7 hf8
  exact ⟨rfl, hb⟩
end Go.Proofs.YthjechjffhhiiaaDoor
