/- Walks of Key and the document's Key. -/
import Derived.Test.YtfjjpepnadcaaaaRead
import Derived.Deep.RegionWith
import Derived.Laws.CopyOwn
import Derived.Stop.BytesEq
namespace Go.Proofs.Ytfjjpepnadcaaaa
open Go.RowKit

def keyV (st : Option (List UInt8)) : List UInt8 := cutV st 32 ++ zeros (32 - (cutV st 32).length)
def keyS (st : Option (List UInt8)) : Option (List UInt8) := cutS st 32
theorem cut32 (st : Option (List UInt8)) : (cutV st 32).length ≤ 32 := by
  rcases cutV_len st 32 with ⟨h, _⟩ | h
  · rw [h]; simp
  · omega
theorem keyV_len (st : Option (List UInt8)) : (keyV st).length = 32 := by
  have := cut32 st
  simp [keyV, zeros]; omega
theorem info_key : (Try.prog.info? 57).map (·.size) = some 32 := by kernel_rfl
theorem bvs_one (l : List UInt8) : (bvs l).all (·.oneCell') = true := by
  rw [Array.all_eq_true_iff_forall_mem]
  intro x hx
  exact bv_all l x (by simpa [bvs] using hx)

theorem copied (l : List UInt8) (m : Nat) : ((bvs (zeros m)).toList.take 0 ++ l.map bv ++ (bvs (zeros m)).toList.drop (0 + (l.map bv).length)).toArray = bvs (l ++ zeros (m - l.length)) := by
  apply Array.toList_inj.1
  simp [bvs, zeros, List.drop_replicate]
/-- 'copy' of bytes onto the head of a block of 32. -/
theorem run_copy32 (w1 : World) (g2 g n c : Nat) (A : Option Addr) (l : List UInt8) (hl : BS w1 g A n c l) (hn : n ≤ 32) (t : TypeId) (hb : Blk w1 g2 t (bvs (zeros 32))) (ty : TypeId) :
    ∃ w2, (Builtin.copy_ #[23, 23] ty #[.slice (some ⟨g2, 0, none⟩) 32 32, .slice A n c]).run Try.prog w1 = .ok (.int .i64 n) w2 ∧ Blk w2 g2 t (bvs (l ++ zeros (32 - l.length))) ∧ w1.grownBy w2 (some g2) := by
  obtain ⟨i, hi, hz, hs, hby⟩ := info_parts info_u8
  have hln := hl.len
  have hsz : (Try.prog.info? 5).map (·.size) = some 1 := by rw [hi]; simp [hs]
  rcases Nat.eq_zero_or_pos n with h0 | h0
  · subst h0
    obtain rfl : l = [] := List.eq_nil_of_length_eq_zero hln
    exact ⟨w1, run_copy_none (P := Try.prog) w1 23 23 ty 5 _ A 32 32 0 c Try.underlying23 hsz (by simp), by simpa using hb, World.grownBy.refl _ _⟩
  · obtain ⟨b, o, rfl, hbb, hc⟩ := hl.at_ h0
    have hrun := run_copy_row (P := Try.prog) w1 23 23 ty 5 g2 0 32 32 ⟨b, o, none⟩ n c (bvs (zeros 32)) t (l.map bv) Try.underlying23 hsz hb (by rw [List.length_map, hln]; exact (Nat.min_eq_left hn).symm) (bs_cells hl _ rfl) (by rw [bvs_size, zeros_len]; simp [hln]; omega) (bv_all l)
    rw [copied l 32] at hrun
    refine ⟨w1.setRow g2 (bvs (l ++ zeros (32 - l.length))), ?_, setRow_heap w1 g2 (bvs (zeros 32)) _ t (0, 0) hb, ⟨rfl, rfl, rfl, by simp, fun k _ hk => setRow_other w1 g2 k _ (fun h => hk (by rw [h]))⟩⟩
    rw [hrun]
    simp [goInt, hln]

def KeyPost (w : World) (g : Nat) (st : Option (List UInt8)) (e : Ending) (w' : World) : Prop :=
  e = .returned (.agg (bvs (keyV st))) ∧ Rd w' g (keyS st) ∧ w.grownBy w' (some g)

set_option maxHeartbeats 400000 in
theorem key_any (g : Nat) (st : Option (List UInt8)) (w : World) (h : Rd w g st) :
    Calls Try.prog 30 #[.pointer (some ⟨g, 0, none⟩)] w (KeyPost w g st) := by
  have hlt := h.lt
  obtain ⟨Z, hZ⟩ : ∃ Z : Array Value, Z = bvs (zeros 32) := ⟨_, rfl⟩
  have hnext : ∀ (w1 : World) (A : Option Addr) (n c : Nat), BS w1 g A n c (cutV st 32) → Rd w1 g (keyS st) → ((w.alloc (.cells (bvs (zeros 32)) 57)).alloc (.cells (bvs (zeros 32)) 57)).drew.grownBy w1 (some g) →
      ∃ w2, (∀ ty, (Builtin.copy_ #[23, 23] ty #[.slice (some ⟨w.heap.size + 1, 0, none⟩) 32 32, .slice A n c]).run Try.prog w1 = .ok (.int .i64 n) w2) ∧ Blk w2 (w.heap.size + 1) 57 (bvs (keyV st)) ∧ Blk w2 w.heap.size 57 (bvs (zeros 32)) ∧
        Rd w2 g (keyS st) ∧ w.grownBy w2 (some g) := by
    intro w1 A n c hbs hrd hg
    have b0 : Blk ((w.alloc (.cells (bvs (zeros 32)) 57)).alloc (.cells (bvs (zeros 32)) 57)).drew w.heap.size 57 (bvs (zeros 32)) := ((Blk.new w 57 (bvs (zeros 32))).alloc _).drew
    have b1 : Blk ((w.alloc (.cells (bvs (zeros 32)) 57)).alloc (.cells (bvs (zeros 32)) 57)).drew (w.heap.size + 1) 57 (bvs (zeros 32)) := (Blk.new' _ _ _ _ (by simp)).drew
    have c0 := b0.row hg (by omega)
    have c1 := b1.row hg (by omega)
    have hn : n ≤ 32 := by rw [← hbs.len]; exact cut32 st
    obtain ⟨w2, r1, r2, r3⟩ := run_copy32 w1 (w.heap.size + 1) g n c A _ hbs hn 57 c1 3
    refine ⟨w2, fun ty => ?_, r2, c0.row r3 (by omega), hrd.other r3 (by omega), ?_⟩
    · obtain ⟨w3, q1, _⟩ := run_copy32 w1 (w.heap.size + 1) g n c A _ hbs hn 57 c1 ty
      have : (Builtin.copy_ #[23, 23] ty #[.slice (some ⟨w.heap.size + 1, 0, none⟩) 32 32, .slice A n c]) = (Builtin.copy_ #[23, 23] 3 #[.slice (some ⟨w.heap.size + 1, 0, none⟩) 32 32, .slice A n c]) := rfl
      rw [this]
      exact r1
    · have h1 : w.grownBy ((w.alloc (.cells (bvs (zeros 32)) 57)).alloc (.cells (bvs (zeros 32)) 57)).drew (some g) :=
        grown_drew (World.grownBy.trans (World.grownBy_alloc w _ _) (World.grownBy_alloc _ _ _))
      have h2 := World.grownBy.trans h1 hg
      exact ⟨r3.os.trans h2.os, r3.tape.trans h2.tape, r3.output.trans h2.output, Nat.le_trans h2.size r3.size, fun i hi hne => (r3.block i (by have := h2.size; omega) (by intro e; injection e with e; omega)).trans (h2.block i hi hne)⟩
  have HN := Lib.hid hnext
  have HH := Lib.hid h
  clear hnext h
  go_enter Try.func30, Try.ntmps30
  go_wp2_with (fail)
  go_region_with (go_at_call 26; refine (bytes_any g st 32 _ (Rd.drew ((HH.out.below (Below.refl _ _) hlt).below (((Below.refl w.heap.size w).alloc (Nat.le_refl _) _).alloc (by simp) _) hlt))).mono ?_; rintro e w1 ⟨A, n, c, rfl, hbs, hrd, hg⟩; obtain ⟨w2, hr, k1, k2, k3, k4⟩ := HN.out w1 A n c hbs hrd hg; clear hbs hrd hg)
  have hsz : (Try.prog.info? 57).map (·.size) = some (bvs (keyV st)).size := by rw [bvs_size, keyV_len]; exact info_key
  have h32 : (bvs (zeros 32)).size = (bvs (keyV st)).size := by rw [bvs_size, bvs_size, keyV_len, zeros_len]
  have h3 : w.grownBy (w2.setRow w.heap.size (bvs (keyV st))) (some g) :=
    ⟨k4.os, k4.tape, k4.output, by simpa using k4.size, fun i hi hne => (setRow_other w2 w.heap.size i _ (by omega)).trans (k4.block i hi hne)⟩
  have h4 : Rd (w2.setRow w.heap.size (bvs (keyV st))) g (keyS st) :=
    k3.other (r := w.heap.size) ⟨rfl, rfl, rfl, by simp, fun k _ hk => setRow_other w2 w.heap.size k _ (fun h => hk (by rw [h]))⟩ hlt
  have h5 := setRow_heap w2 w.heap.size (bvs (zeros 32)) (bvs (keyV st)) 57 (0, 0) k2
  have H1 := Lib.hid hsz
  have H2 := Lib.hid h32
  have H5 := Lib.hid h5
  clear hsz h32 h5 hr
  go_wp2_with (first
    | (refine wpList_load_row rfl 57 (.tmp 3) rfl (w.heap.size + 1) rfl 57 (bvs (keyV st)) (0, 0) _ k1 Try.underlying57 rfl H1.out ?_)
    | (refine wpList_store_row rfl 57 (.tmp 2) (.tmp 8) rfl w.heap.size (bvs (keyV st)) rfl rfl 57 (bvs (zeros 32)) k2 H1.out H2.out (bvs_one _) ?_))
  exact bodyPost_ret (results_cell_row rfl _ _ w.heap.size 57 (bvs (keyV st)) (0, 0) _ rfl H5.out Try.underlying57 rfl H1.out) rfl ⟨rfl, h4, h3⟩

/-- '==' of two keys. -/
theorem key_eq (k1 k2 : List UInt8) (h1 : k1.length = 32) (h2 : k2.length = 32) (w : World) : (Op.equalIn 10000 57 (.agg (bvs k1)) (.agg (bvs k2))).run Try.prog w = .ok (k1 == k2) w :=
  run_equalIn_bytes w 9998 57 5 32 Try.underlying57 Try.underlying5 (fun W => size_u8 info_u8 W) k1 k2 h1 h2
theorem key_zero (w : World) : (Op.equalIn 10000 57 (.agg (bvs (zeros 32))) (.agg #[.int .u8 0, .int .u8 0, .int .u8 0, .int .u8 0, .int .u8 0, .int .u8 0, .int .u8 0, .int .u8 0, .int .u8 0, .int .u8 0, .int .u8 0, .int .u8 0, .int .u8 0, .int .u8 0, .int .u8 0, .int .u8 0, .int .u8 0, .int .u8 0, .int .u8 0, .int .u8 0, .int .u8 0, .int .u8 0, .int .u8 0, .int .u8 0, .int .u8 0, .int .u8 0, .int .u8 0, .int .u8 0, .int .u8 0, .int .u8 0, .int .u8 0, .int .u8 0])).run Try.prog w = .ok true w := by
  have := key_eq (zeros 32) (zeros 32) (zeros_len 32) (zeros_len 32) w
  rw [beq_self_eq_true] at this
  exact this

set_option maxHeartbeats 400000 in
theorem key_nil (w : World) :
    Calls Try.prog 30 #[.pointer none] w fun e w' => e = .returned (.agg (bvs (zeros 32))) ∧ Below w.heap.size w w' := by
  have hnext : ∀ w1 : World, ((w.alloc (.cells (bvs (zeros 32)) 57)).alloc (.cells (bvs (zeros 32)) 57)).drew = w1 → ∃ w2, (∀ ty, (Builtin.copy_ #[23, 23] ty #[.slice (some ⟨w.heap.size + 1, 0, none⟩) 32 32, .slice none 0 0]).run Try.prog w1 = .ok (.int .i64 0) w2) ∧
      Blk w2 (w.heap.size + 1) 57 (bvs (zeros 32)) ∧ Blk w2 w.heap.size 57 (bvs (zeros 32)) ∧ Below w.heap.size w w2 := by
    rintro w1 rfl
    have b0 : Blk ((w.alloc (.cells (bvs (zeros 32)) 57)).alloc (.cells (bvs (zeros 32)) 57)).drew w.heap.size 57 (bvs (zeros 32)) := ((Blk.new w 57 (bvs (zeros 32))).alloc _).drew
    have b1 : Blk ((w.alloc (.cells (bvs (zeros 32)) 57)).alloc (.cells (bvs (zeros 32)) 57)).drew (w.heap.size + 1) 57 (bvs (zeros 32)) := (Blk.new' _ _ _ _ (by simp)).drew
    have hb : Below w.heap.size w ((w.alloc (.cells (bvs (zeros 32)) 57)).alloc (.cells (bvs (zeros 32)) 57)).drew := (((Below.refl _ _).alloc (Nat.le_refl _) _).alloc (by simp) _).drew
    obtain ⟨w2, r1, r2, r3⟩ := run_copy32 _ (w.heap.size + 1) 0 0 0 none [] (BS.nil _ _) (by omega) 57 b1 3
    exact ⟨w2, fun _ => r1, by simpa using r2, b0.row r3 (by omega), hb.grown r3 hb.size (by rintro k hk; cases hk; omega)⟩
  have HN := Lib.hid hnext
  clear hnext
  go_enter Try.func30, Try.ntmps30
  go_wp2_with (fail)
  go_region_with (go_at_call 26; refine (bytes_nil 32 _).mono ?_; rintro e w1 ⟨rfl, hw⟩; obtain ⟨w2, hr, r2, r3, r4⟩ := HN.out w1 hw; clear hw)
  have hsz : (Try.prog.info? 57).map (·.size) = some (bvs (zeros 32)).size := by rw [bvs_size, zeros_len]; exact info_key
  have h5 := setRow_heap w2 w.heap.size (bvs (zeros 32)) (bvs (zeros 32)) 57 (0, 0) r3
  have h6 : Below w.heap.size w (w2.setRow w.heap.size (bvs (zeros 32))) := below_setRow r4 (Nat.le_refl _) _
  have H1 := Lib.hid hsz
  have H5 := Lib.hid h5
  clear hsz h5 hr
  go_wp2_with (first
    | (refine wpList_load_row rfl 57 (.tmp 3) rfl (w.heap.size + 1) rfl 57 (bvs (zeros 32)) (0, 0) _ r2 Try.underlying57 rfl H1.out ?_)
    | (refine wpList_store_row rfl 57 (.tmp 2) (.tmp 8) rfl w.heap.size (bvs (zeros 32)) rfl rfl 57 (bvs (zeros 32)) r3 H1.out rfl (bvs_one _) ?_))
  exact bodyPost_ret (results_cell_row rfl _ _ w.heap.size 57 (bvs (zeros 32)) (0, 0) _ rfl H5.out Try.underlying57 rfl H1.out) rfl ⟨rfl, h6⟩
end Go.Proofs.Ytfjjpepnadcaaaa
