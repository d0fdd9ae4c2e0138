/- DERIVED. The walks of lengths. -/
import Derived.Test.YtkmnpechhdendaaGreatDoorFm
import Derived.Deep.RegionHeld3
import Derived.Deep.DeepCutAuto
namespace Go.Proofs.YtkmnpechhdendaaGreatDoor
open Go.RowKit L3

/-- a writer behind all that it was told -/
structure Ewr (W : World) (lo x : Nat) (l : List Et) (u : World) : Prop where
  ex : ∃ O, Cd u lo x O (evl l (wS true)) ∧ Below W.heap.size W u
def EwrA (W : World) (lo x : Nat) (l : List Et) (e : Ending) (w' : World) : Prop := ∃ b : Int, e = .returned (.tuple #[.int .i64 b, .int .i64 0]) ∧ Ewr W lo x l w'
theorem ewr_sym {W : World} {lo x : Nat} {l : List Et} {u : World} (h : Ewr W lo x l u) (hsh : ∀ u, Below W.heap.size W u → Sh u ∧ L10.Nt u) (hlo : W.heap.size ≤ lo) {kk cx v : Nat} (hok : (Et.sy kk cx v).ok = true) (hn : evn l ≤ 1000) {zk zc zv : Int} (ek : (kk : Int) = zk) (ec : (cx : Int) = zc) (ev : (v : Int) = zv) :
    Calls Tryz.prog 60 #[.pointer (some ⟨x, 0, none⟩), .int .i64 zk, .int .i64 zc, .int .i64 zv] u fun e w' => EwrA W lo x (l ++ [.sy kk cx v]) e w' := by
  subst ek ec ev
  obtain ⟨O, hc, hb⟩ := h
  obtain ⟨h1, h2, h3⟩ := Et.sy_ok hok
  have hW : (evl l (wS true)).W = true := (evl_n l (wS true)).2
  have hnn : (evl l (wS true)).n ≤ 1000 := by rw [(evl_n l (wS true)).1]; show 0 + _ ≤ _; omega
  refine (symbol_cd hc (hsh u hb).1 (kk := kk) (cx := cx) (z := (v : Int)) ⟨h1, h2, by omega, fun _ => ⟨by omega, by omega⟩⟩).mono ?_
  rintro e w' ⟨rfl, O', g1, g2, g3⟩
  rw [syA_w hW] at g1 ⊢
  exact ⟨_, rfl, ⟨O', by rw [evl_append]; exact g1, hb.trans (g3.mono hlo)⟩⟩
theorem ewr_bits {W : World} {lo x : Nat} {l : List Et} {u : World} (h : Ewr W lo x l u) (hlo : W.heap.size ≤ lo) {n v : Nat} (hok : (Et.bi n v).ok = true) (hn : evn l ≤ 1000) {zn zv : Int} (en : (n : Int) = zn) (ev : (v : Int) = zv) :
    Calls Tryz.prog 38 #[.pointer (some ⟨x, 0, none⟩), .int .i64 zn, .int .i64 zv] u fun e w' => EwrA W lo x (l ++ [.bi n v]) e w' := by
  subst en ev
  obtain ⟨O, hc, hb⟩ := h
  obtain ⟨h1, h2⟩ := Et.bi_ok hok
  have hW : (evl l (wS true)).W = true := (evl_n l (wS true)).2
  have hnn : (evl l (wS true)).n ≤ 1000 := by rw [(evl_n l (wS true)).1]; show 0 + _ ≤ _; omega
  refine (bits_cd hc (n := n) (z := (v : Int)) ⟨h1, by omega, fun _ => ⟨by omega, pow_cast h2⟩⟩).mono ?_
  rintro e w' ⟨rfl, O', g1, g2, g3⟩
  rw [biA_w hW] at g1 ⊢
  exact ⟨_, rfl, ⟨O', by rw [evl_append]; exact g1, hb.trans (g3.mono hlo)⟩⟩
def len3 : List Et := [.sy 22 0 0, .sy 23 0 0, .sy 27 0 2]
def lenF (n : Nat) : List Et := ((((len3 ++ List.replicate 4 (.sy 29 0 3)) ++ List.replicate n (.bi 1 0)) ++ [.bi 1 1]) ++ [.bi n 5]) ++ [.sy 30 0 1]
theorem len_evl (n : Nat) (s : Cs) : evl (lenA n ++ lenB n) s = evl (lenF n) s := by
  simp only [lenF, len3, lenA, lenB, evl_append]
  simp only [evl, List.replicate, biN_zero]
theorem rep_snoc (l : List Et) (i : Nat) (e : Et) : (l ++ List.replicate i e) ++ [e] = l ++ List.replicate (i + 1) e := by rw [List.append_assoc, ← List.replicate_succ']
theorem evn_rep (i : Nat) (e : Et) : evn (List.replicate i e) = i * evn [e] := by
  induction i with
  | zero => simp [evn]
  | succ i ih => rw [List.replicate_succ', evn_append, ih, Nat.succ_mul]
theorem len_some {n : Nat} {K : List Int} (h : ans (lenA n ++ lenB n) (cr 4 4 0 0) = some (some K)) {zs : List Nat} (hz : ∀ i, zs.getD i 0 < 256) (hp : L2.pre zs ((evl (lenF n) (wS true)).c + 4) = (evl (lenF n) (wS true)).a) : ((cr 4 4 0 0).run (rS true zs)).1 = some K := by
  rw [← len_evl] at hp
  exact (follow (l2 := []) h rfl hz (by rw [List.append_nil]; exact hp)).1
theorem len_none {n : Nat} {l2 : List Et} (h : lenA n ++ lenB n = lenA 21 ++ l2) (h2 : l2.all Et.ok = true) {zs : List Nat} (hz : ∀ i, zs.getD i 0 < 256) (hp : L2.pre zs ((evl (lenF n) (wS true)).c + 4) = (evl (lenF n) (wS true)).a) : ((cr 4 4 0 0).run (rS true zs)).1 = none ∧ ((cr 4 4 0 0).run (rS true zs)).2.n = 28 := by
  rw [← len_evl, h] at hp
  exact follow len21 h2 hz hp
structure Lpr (W : World) (lo x : Nat) (l : List Et) (e : Et) (m : Nat) (kv : Value) (u : World) : Prop where
  ex : ∃ i : Nat, i ≤ m ∧ kv = .int .i64 i ∧ Ewr W lo x (l ++ List.replicate i e) u

set_option maxRecDepth 100000 in
set_option maxHeartbeats 4000000 in
theorem lengths19 (hcl : CodeLaw) {W : World} (hsh : Sh W) (hnt : L10.Nt W) : Calls Tryz.prog 25 #[.int .i64 19] W fun e w' => e = .returned (.bool true) ∧ Below W.heap.size W w' := by
  have HCL : Hid CodeLaw := hcl
  have HSh : Hid (∀ u, Below W.heap.size W u → Sh u ∧ L10.Nt u) := fun u hu => ⟨hsh.to hu, hnt.to hu⟩
  have HW2 : Hid (1 < W.heap.size) := hnt.low
  have hdf := default_hs hsh
  clear hcl hsh hnt
  go_enter Tryz.func25, Tryz.ntmps25
  go_wp2_with fail
  refine hdf.mono ?_
  rintro e w1 ⟨bt1, B1, rfl, hs1, hb1⟩
  have HRd : Hid (Calls Tryz.prog 6 #[.agg #[.slice (some ⟨bt1, 0, none⟩) 32 32], .bool true] w1 fun e w' => ∃ x O, e = .returned (.tuple #[.pointer (some ⟨x, 0, none⟩), .int .i64 0]) ∧ Cd w' w1.heap.size x O (wS true) ∧ (∀ y, O y → w1.heap.size ≤ y) ∧ Below w1.heap.size w1 w') := writer_cd (HSh.out _ hb1).1 hs1
  have HB1 : Hid (Below W.heap.size W w1) := hb1
  clear hs1 hb1 hdf
  go_wp2_with fail
  refine HRd.out.mono ?_
  rintro e w2 ⟨x, O, rfl, hc2, -, hb2⟩
  have HLo : Hid (W.heap.size ≤ w1.heap.size) := HB1.out.size
  have HE : Hid (Ewr W w1.heap.size x [] w2) := ⟨⟨O, hc2, L10.below_to HB1.out hb2⟩⟩
  generalize w1.heap.size = lo at *
  clear hc2 hb2 HRd HB1
  go_wp2_with fail
  refine (ewr_sym HE.out HSh.out HLo.out (kk := 22) (cx := 0) (v := 0) (by kernel_rfl) (by decide) rfl rfl rfl).mono ?_
  rintro e w3 ⟨b3, rfl, hw3⟩
  have HE3 : Hid (Ewr W lo x [.sy 22 0 0] w3) := hw3
  clear hw3 HE
  go_wp2_with fail
  refine (ewr_sym HE3.out HSh.out HLo.out (kk := 23) (cx := 0) (v := 0) (by kernel_rfl) (by decide) rfl rfl rfl).mono ?_
  rintro e w4 ⟨b4, rfl, hw4⟩
  have HE4 : Hid (Ewr W lo x [.sy 22 0 0, .sy 23 0 0] w4) := hw4
  clear hw4 HE3
  go_wp2_with fail
  refine (ewr_sym HE4.out HSh.out HLo.out (kk := 27) (cx := 0) (v := 2) (by kernel_rfl) (by decide) rfl rfl rfl).mono ?_
  rintro e w5 ⟨b5, rfl, hw5⟩
  have HE5 : Hid (Ewr W lo x len3 w5) := hw5
  clear hw5 HE4
  go_wp2_with fail
  go_loopw [5] (fun kv wr => Lpr W lo x len3 (.sy 29 0 3) 4 kv wr) (fun kv _ => 4 - (intOf kv).toNat)
  case atStart => exact ⟨⟨0, by omega, rfl, by rw [List.replicate_zero, List.append_nil]; exact HE5.out⟩⟩
  case round =>
    obtain ⟨i, hi, rfl, hE⟩ := hrel
    have HEi : Hid (Ewr W lo x (len3 ++ List.replicate i (.sy 29 0 3)) wr) := hE
    have HI : Hid (i ≤ 4) := hi
    clear hE HE5
    by_cases hlt : i < 4
    · have l1 : (i : Int) < 4 := by omega
      clear hi
      go_wp2_with fail
      refine (ewr_sym HEi.out HSh.out HLo.out (kk := 29) (cx := 0) (v := 3) (by kernel_rfl) (by have h1 := HI.out; rw [evn_append, evn_rep]; simp only [len3, evn]; omega) rfl rfl rfl).mono ?_
      rintro e w6 ⟨b6, rfl, hw6⟩
      rw [rep_snoc] at hw6
      have HE6 : Hid (Ewr W lo x (len3 ++ List.replicate (i + 1) (.sy 29 0 3)) w6) := hw6
      clear hw6
      go_wp2_with fail
      go_roundw
      case rel => exact ⟨⟨i + 1, by omega, by go_num, HE6.out⟩⟩
      case measure => simp [intOf]; omega
    · have l1 : ¬ (i : Int) < 4 := by omega
      have e4 : i = 4 := by omega
      have HE6 : Hid (Ewr W lo x (len3 ++ List.replicate 4 (.sy 29 0 3)) wr) := by have := HEi.out; rw [e4] at this; exact this
      clear hi e4 hlt HEi HI
      go_wp2_with fail
      generalize wr = wv at *
      go_loopw [6] (fun kv wr => Lpr W lo x (len3 ++ List.replicate 4 (.sy 29 0 3)) (.bi 1 0) 19 kv wr) (fun kv _ => 19 - (intOf kv).toNat)
      case atStart => exact ⟨⟨0, by omega, rfl, by rw [List.replicate_zero, List.append_nil]; exact HE6.out⟩⟩
      case round =>
        clear HE6
        obtain ⟨j, hj, rfl, hE⟩ := hrel
        have HEj : Hid (Ewr W lo x ((len3 ++ List.replicate 4 (.sy 29 0 3)) ++ List.replicate j (.bi 1 0)) wr) := hE
        have HJ : Hid (j ≤ 19) := hj
        clear hE
        by_cases hlt : j < 19
        · have l2 : (j : Int) < 19 := by omega
          clear hj
          go_wp2_with fail
          refine (ewr_bits HEj.out HLo.out (n := 1) (v := 0) (by kernel_rfl) (by have h1 := HJ.out; rw [evn_append, evn_rep]; simp only [len3, evn_append, evn, List.replicate]; omega) rfl rfl).mono ?_
          rintro e w7 ⟨b7, rfl, hw7⟩
          rw [rep_snoc] at hw7
          have HE7 : Hid (Ewr W lo x ((len3 ++ List.replicate 4 (.sy 29 0 3)) ++ List.replicate (j + 1) (.bi 1 0)) w7) := hw7
          clear hw7
          go_wp2_with fail
          go_roundw
          case rel => exact ⟨⟨j + 1, by omega, by go_num, HE7.out⟩⟩
          case measure => simp [intOf]; omega
        · have l2 : ¬ (j : Int) < 19 := by omega
          have e4 : j = 19 := by omega
          have HE7 : Hid (Ewr W lo x ((len3 ++ List.replicate 4 (.sy 29 0 3)) ++ List.replicate 19 (.bi 1 0)) wr) := by have := HEj.out; rw [e4] at this; exact this
          clear hj e4 hlt HEj HJ
          generalize wr = wx at *
          go_wp2_with fail
          refine (ewr_bits HE7.out HLo.out (n := 1) (v := 1) (by kernel_rfl) (by decide) rfl rfl).mono ?_
          rintro e w8 ⟨b8, rfl, hw8⟩
          have HE8 : Hid (Ewr W lo x (((len3 ++ List.replicate 4 (.sy 29 0 3)) ++ List.replicate 19 (.bi 1 0)) ++ [.bi 1 1]) w8) := hw8
          clear hw8 HE7
          go_wp2_with fail
          refine (ewr_bits HE8.out HLo.out (n := 19) (v := 5) (by kernel_rfl) (by decide) rfl rfl).mono ?_
          rintro e w9 ⟨b9, rfl, hw9⟩
          have HE9 : Hid (Ewr W lo x ((((len3 ++ List.replicate 4 (.sy 29 0 3)) ++ List.replicate 19 (.bi 1 0)) ++ [.bi 1 1]) ++ [.bi 19 5]) w9) := hw9
          clear hw9 HE8
          go_wp2_with fail
          refine (ewr_sym HE9.out HSh.out HLo.out (kk := 30) (cx := 0) (v := 1) (by kernel_rfl) (by decide) rfl rfl rfl).mono ?_
          rintro e w10 ⟨b10, rfl, hw10⟩
          have HE10 : Hid (Ewr W lo x (lenF 19) w10) := hw10
          clear hw10 HE9
          have HBy : Hid (Calls Tryz.prog 17 #[.pointer (some ⟨x, 0, none⟩)] w10 fun e w' => ∃ v, e = .returned (.tuple #[v, .int .i64 0]) ∧ ∃ zs, L2.SrcOf w' v zs ∧ (∀ i, zs.getD i 0 < 256) ∧ zs.length ≤ 140737488355328 ∧ L2.pre zs ((evl (lenF 19) (wS true)).c + 4) = (evl (lenF 19) (wS true)).a ∧ Below w10.heap.size w10 w') := by
            obtain ⟨O, hc, -⟩ := HE10.out
            have hnn : (evl (lenF 19) (wS true)).n = 47 := (evl_n _ _).1
            exact bytes_cd hc ((evl_n _ _).2) (by rw [hnn]; omega)
          go_wp2_with fail
          refine HBy.out.mono ?_
          rintro e w11 ⟨vb, rfl, zs, hsrc, hzb, hzl, hpre, hb11⟩
          have HB11 : Hid (Below W.heap.size W w11) := by obtain ⟨_, _, h⟩ := HE10.out; exact L10.below_to h hb11
          have HSr : Hid (L2.SrcOf w11 vb zs) := hsrc
          have HZ : Hid ((∀ i, zs.getD i 0 < 256) ∧ zs.length ≤ 140737488355328) := ⟨hzb, hzl⟩
          have HK : Hid (((cr 4 4 0 0).run (rS true zs)).1 = some (-524307 :: List.replicate 15 0)) := len_some len19 hzb hpre
          clear hsrc hzb hzl hpre hb11 HBy HE10
          go_wp2_with fail
          refine (default_hs (HSh.out _ HB11.out).1).mono ?_
          rintro e w12 ⟨bt6, B6, rfl, hs6, hb6⟩
          have HB12 : Hid (Below W.heap.size W w12) := L10.below_to HB11.out hb6
          have HRd : Hid (Calls Tryz.prog 23 #[vb, .agg #[.slice (some ⟨bt6, 0, none⟩) 32 32], .bool true] w12 fun e w' => ∃ x O, e = .returned (.tuple #[.pointer (some ⟨x, 0, none⟩), .int .i64 0]) ∧ Cd w' w12.heap.size x O (rS true zs) ∧ (∀ y, O y → y = 0 ∨ w12.heap.size ≤ y) ∧ Below w12.heap.size w12 w') := reader_cd (HSh.out _ HB12.out).1 hs6 (src_to HSr.out hb6) HZ.out.1 HZ.out.2
          clear hs6 hb6 HSr HB11
          go_wp2_with fail
          refine HRd.out.mono ?_
          rintro e w13 ⟨r, Or, rfl, hc13, -, hb13⟩
          have HB13 : Hid (Below W.heap.size W w13) := L10.below_to HB12.out hb13
          have HLr : Hid (1 < w12.heap.size ∧ W.heap.size ≤ w12.heap.size) := ⟨by have h1 := HB12.out.size; have h2 := HW2.out; show 1 < _; omega, HB12.out.size⟩
          have HKc : Hid (Calls Tryz.prog 11 #[.pointer (some ⟨r, 0, none⟩), .int .i64 4, .int .i64 ((0 : Nat) : Int), .int .i64 ((0 : Nat) : Int), .slice none 0 0] w13 fun en w' => Kc w13 w' w12.heap.size r Or (4 * 4) ((cr 4 4 0 0).run (rS true zs)) en) := kcode_r HCL.out hc13 (HSh.out _ HB13.out).1 (HSh.out _ HB13.out).2 HLr.out.1 (by show (0 : Nat) ≤ _; omega) wk_sz (by omega) (by omega) rfl
          generalize w12.heap.size = lr at *
          clear hc13 hb13 HRd HB12
          go_wp2_with fail
          refine HKc.out.mono ?_
          rintro e w14 ⟨O14, hc14, ht14, hb14, hy14, hn14⟩
          have HB14 : Hid (Below W.heap.size W w14) := HB13.out.trans (hb14.mono HLr.out.2)
          obtain ⟨g14, rfl, hr14, -, -⟩ := hy14 _ HK.out
          have c0 := hr14.cell 0 (by simp)
          have c1 : w14.drew.cell? ⟨g14, 0, none⟩ = some (.int .i64 (-524307)) := c0
          have c2 : w14.cell? ⟨g14, 0, none⟩ = some (.int .i64 (-524307)) := c0
          clear hc14 ht14 hb14 hy14 hn14 hr14 HKc c0
          go_wp2_with fail
          go_region_held3 (fun u => u.cell? ⟨g14, 0, none⟩ = some (.int .i64 (-524307)))
            ((first | exact c1 | exact c2))
            ((fail))
          all_goals
            go_wp2_with fail
            exact bodyPost_ret (v := .bool true) (by simp [results, Tryz.results25, go_sem]; kernel_rfl) rfl ⟨rfl, by first | exact HB14.out | exact L10.below_drew HB14.out⟩

set_option maxRecDepth 100000 in
set_option maxHeartbeats 4000000 in
theorem lengths20 (hcl : CodeLaw) {W : World} (hsh : Sh W) (hnt : L10.Nt W) : Calls Tryz.prog 25 #[.int .i64 20] W fun e w' => e = .returned (.bool true) ∧ Below W.heap.size W w' := by
  have HCL : Hid CodeLaw := hcl
  have HSh : Hid (∀ u, Below W.heap.size W u → Sh u ∧ L10.Nt u) := fun u hu => ⟨hsh.to hu, hnt.to hu⟩
  have HW2 : Hid (1 < W.heap.size) := hnt.low
  have hdf := default_hs hsh
  clear hcl hsh hnt
  go_enter Tryz.func25, Tryz.ntmps25
  go_wp2_with fail
  refine hdf.mono ?_
  rintro e w1 ⟨bt1, B1, rfl, hs1, hb1⟩
  have HRd : Hid (Calls Tryz.prog 6 #[.agg #[.slice (some ⟨bt1, 0, none⟩) 32 32], .bool true] w1 fun e w' => ∃ x O, e = .returned (.tuple #[.pointer (some ⟨x, 0, none⟩), .int .i64 0]) ∧ Cd w' w1.heap.size x O (wS true) ∧ (∀ y, O y → w1.heap.size ≤ y) ∧ Below w1.heap.size w1 w') := writer_cd (HSh.out _ hb1).1 hs1
  have HB1 : Hid (Below W.heap.size W w1) := hb1
  clear hs1 hb1 hdf
  go_wp2_with fail
  refine HRd.out.mono ?_
  rintro e w2 ⟨x, O, rfl, hc2, -, hb2⟩
  have HLo : Hid (W.heap.size ≤ w1.heap.size) := HB1.out.size
  have HE : Hid (Ewr W w1.heap.size x [] w2) := ⟨⟨O, hc2, L10.below_to HB1.out hb2⟩⟩
  generalize w1.heap.size = lo at *
  clear hc2 hb2 HRd HB1
  go_wp2_with fail
  refine (ewr_sym HE.out HSh.out HLo.out (kk := 22) (cx := 0) (v := 0) (by kernel_rfl) (by decide) rfl rfl rfl).mono ?_
  rintro e w3 ⟨b3, rfl, hw3⟩
  have HE3 : Hid (Ewr W lo x [.sy 22 0 0] w3) := hw3
  clear hw3 HE
  go_wp2_with fail
  refine (ewr_sym HE3.out HSh.out HLo.out (kk := 23) (cx := 0) (v := 0) (by kernel_rfl) (by decide) rfl rfl rfl).mono ?_
  rintro e w4 ⟨b4, rfl, hw4⟩
  have HE4 : Hid (Ewr W lo x [.sy 22 0 0, .sy 23 0 0] w4) := hw4
  clear hw4 HE3
  go_wp2_with fail
  refine (ewr_sym HE4.out HSh.out HLo.out (kk := 27) (cx := 0) (v := 2) (by kernel_rfl) (by decide) rfl rfl rfl).mono ?_
  rintro e w5 ⟨b5, rfl, hw5⟩
  have HE5 : Hid (Ewr W lo x len3 w5) := hw5
  clear hw5 HE4
  go_wp2_with fail
  go_loopw [5] (fun kv wr => Lpr W lo x len3 (.sy 29 0 3) 4 kv wr) (fun kv _ => 4 - (intOf kv).toNat)
  case atStart => exact ⟨⟨0, by omega, rfl, by rw [List.replicate_zero, List.append_nil]; exact HE5.out⟩⟩
  case round =>
    obtain ⟨i, hi, rfl, hE⟩ := hrel
    have HEi : Hid (Ewr W lo x (len3 ++ List.replicate i (.sy 29 0 3)) wr) := hE
    have HI : Hid (i ≤ 4) := hi
    clear hE HE5
    by_cases hlt : i < 4
    · have l1 : (i : Int) < 4 := by omega
      clear hi
      go_wp2_with fail
      refine (ewr_sym HEi.out HSh.out HLo.out (kk := 29) (cx := 0) (v := 3) (by kernel_rfl) (by have h1 := HI.out; rw [evn_append, evn_rep]; simp only [len3, evn]; omega) rfl rfl rfl).mono ?_
      rintro e w6 ⟨b6, rfl, hw6⟩
      rw [rep_snoc] at hw6
      have HE6 : Hid (Ewr W lo x (len3 ++ List.replicate (i + 1) (.sy 29 0 3)) w6) := hw6
      clear hw6
      go_wp2_with fail
      go_roundw
      case rel => exact ⟨⟨i + 1, by omega, by go_num, HE6.out⟩⟩
      case measure => simp [intOf]; omega
    · have l1 : ¬ (i : Int) < 4 := by omega
      have e4 : i = 4 := by omega
      have HE6 : Hid (Ewr W lo x (len3 ++ List.replicate 4 (.sy 29 0 3)) wr) := by have := HEi.out; rw [e4] at this; exact this
      clear hi e4 hlt HEi HI
      go_wp2_with fail
      generalize wr = wv at *
      go_loopw [6] (fun kv wr => Lpr W lo x (len3 ++ List.replicate 4 (.sy 29 0 3)) (.bi 1 0) 20 kv wr) (fun kv _ => 20 - (intOf kv).toNat)
      case atStart => exact ⟨⟨0, by omega, rfl, by rw [List.replicate_zero, List.append_nil]; exact HE6.out⟩⟩
      case round =>
        clear HE6
        obtain ⟨j, hj, rfl, hE⟩ := hrel
        have HEj : Hid (Ewr W lo x ((len3 ++ List.replicate 4 (.sy 29 0 3)) ++ List.replicate j (.bi 1 0)) wr) := hE
        have HJ : Hid (j ≤ 20) := hj
        clear hE
        by_cases hlt : j < 20
        · have l2 : (j : Int) < 20 := by omega
          clear hj
          go_wp2_with fail
          refine (ewr_bits HEj.out HLo.out (n := 1) (v := 0) (by kernel_rfl) (by have h1 := HJ.out; rw [evn_append, evn_rep]; simp only [len3, evn_append, evn, List.replicate]; omega) rfl rfl).mono ?_
          rintro e w7 ⟨b7, rfl, hw7⟩
          rw [rep_snoc] at hw7
          have HE7 : Hid (Ewr W lo x ((len3 ++ List.replicate 4 (.sy 29 0 3)) ++ List.replicate (j + 1) (.bi 1 0)) w7) := hw7
          clear hw7
          go_wp2_with fail
          go_roundw
          case rel => exact ⟨⟨j + 1, by omega, by go_num, HE7.out⟩⟩
          case measure => simp [intOf]; omega
        · have l2 : ¬ (j : Int) < 20 := by omega
          have e4 : j = 20 := by omega
          have HE7 : Hid (Ewr W lo x ((len3 ++ List.replicate 4 (.sy 29 0 3)) ++ List.replicate 20 (.bi 1 0)) wr) := by have := HEj.out; rw [e4] at this; exact this
          clear hj e4 hlt HEj HJ
          generalize wr = wx at *
          go_wp2_with fail
          refine (ewr_bits HE7.out HLo.out (n := 1) (v := 1) (by kernel_rfl) (by decide) rfl rfl).mono ?_
          rintro e w8 ⟨b8, rfl, hw8⟩
          have HE8 : Hid (Ewr W lo x (((len3 ++ List.replicate 4 (.sy 29 0 3)) ++ List.replicate 20 (.bi 1 0)) ++ [.bi 1 1]) w8) := hw8
          clear hw8 HE7
          go_wp2_with fail
          refine (ewr_bits HE8.out HLo.out (n := 20) (v := 5) (by kernel_rfl) (by decide) rfl rfl).mono ?_
          rintro e w9 ⟨b9, rfl, hw9⟩
          have HE9 : Hid (Ewr W lo x ((((len3 ++ List.replicate 4 (.sy 29 0 3)) ++ List.replicate 20 (.bi 1 0)) ++ [.bi 1 1]) ++ [.bi 20 5]) w9) := hw9
          clear hw9 HE8
          go_wp2_with fail
          refine (ewr_sym HE9.out HSh.out HLo.out (kk := 30) (cx := 0) (v := 1) (by kernel_rfl) (by decide) rfl rfl rfl).mono ?_
          rintro e w10 ⟨b10, rfl, hw10⟩
          have HE10 : Hid (Ewr W lo x (lenF 20) w10) := hw10
          clear hw10 HE9
          have HBy : Hid (Calls Tryz.prog 17 #[.pointer (some ⟨x, 0, none⟩)] w10 fun e w' => ∃ v, e = .returned (.tuple #[v, .int .i64 0]) ∧ ∃ zs, L2.SrcOf w' v zs ∧ (∀ i, zs.getD i 0 < 256) ∧ zs.length ≤ 140737488355328 ∧ L2.pre zs ((evl (lenF 20) (wS true)).c + 4) = (evl (lenF 20) (wS true)).a ∧ Below w10.heap.size w10 w') := by
            obtain ⟨O, hc, -⟩ := HE10.out
            have hnn : (evl (lenF 20) (wS true)).n = 49 := (evl_n _ _).1
            exact bytes_cd hc ((evl_n _ _).2) (by rw [hnn]; omega)
          go_wp2_with fail
          refine HBy.out.mono ?_
          rintro e w11 ⟨vb, rfl, zs, hsrc, hzb, hzl, hpre, hb11⟩
          have HB11 : Hid (Below W.heap.size W w11) := by obtain ⟨_, _, h⟩ := HE10.out; exact L10.below_to h hb11
          have HSr : Hid (L2.SrcOf w11 vb zs) := hsrc
          have HZ : Hid ((∀ i, zs.getD i 0 < 256) ∧ zs.length ≤ 140737488355328) := ⟨hzb, hzl⟩
          have HK : Hid (((cr 4 4 0 0).run (rS true zs)).1 = some (-1048595 :: List.replicate 15 0)) := len_some len20 hzb hpre
          clear hsrc hzb hzl hpre hb11 HBy HE10
          go_wp2_with fail
          refine (default_hs (HSh.out _ HB11.out).1).mono ?_
          rintro e w12 ⟨bt6, B6, rfl, hs6, hb6⟩
          have HB12 : Hid (Below W.heap.size W w12) := L10.below_to HB11.out hb6
          have HRd : Hid (Calls Tryz.prog 23 #[vb, .agg #[.slice (some ⟨bt6, 0, none⟩) 32 32], .bool true] w12 fun e w' => ∃ x O, e = .returned (.tuple #[.pointer (some ⟨x, 0, none⟩), .int .i64 0]) ∧ Cd w' w12.heap.size x O (rS true zs) ∧ (∀ y, O y → y = 0 ∨ w12.heap.size ≤ y) ∧ Below w12.heap.size w12 w') := reader_cd (HSh.out _ HB12.out).1 hs6 (src_to HSr.out hb6) HZ.out.1 HZ.out.2
          clear hs6 hb6 HSr HB11
          go_wp2_with fail
          refine HRd.out.mono ?_
          rintro e w13 ⟨r, Or, rfl, hc13, -, hb13⟩
          have HB13 : Hid (Below W.heap.size W w13) := L10.below_to HB12.out hb13
          have HLr : Hid (1 < w12.heap.size ∧ W.heap.size ≤ w12.heap.size) := ⟨by have h1 := HB12.out.size; have h2 := HW2.out; show 1 < _; omega, HB12.out.size⟩
          have HKc : Hid (Calls Tryz.prog 11 #[.pointer (some ⟨r, 0, none⟩), .int .i64 4, .int .i64 ((0 : Nat) : Int), .int .i64 ((0 : Nat) : Int), .slice none 0 0] w13 fun en w' => Kc w13 w' w12.heap.size r Or (4 * 4) ((cr 4 4 0 0).run (rS true zs)) en) := kcode_r HCL.out hc13 (HSh.out _ HB13.out).1 (HSh.out _ HB13.out).2 HLr.out.1 (by show (0 : Nat) ≤ _; omega) wk_sz (by omega) (by omega) rfl
          generalize w12.heap.size = lr at *
          clear hc13 hb13 HRd HB12
          go_wp2_with fail
          refine HKc.out.mono ?_
          rintro e w14 ⟨O14, hc14, ht14, hb14, hy14, hn14⟩
          have HB14 : Hid (Below W.heap.size W w14) := HB13.out.trans (hb14.mono HLr.out.2)
          obtain ⟨g14, rfl, hr14, -, -⟩ := hy14 _ HK.out
          have c0 := hr14.cell 0 (by simp)
          have c1 : w14.drew.cell? ⟨g14, 0, none⟩ = some (.int .i64 (-1048595)) := c0
          have c2 : w14.cell? ⟨g14, 0, none⟩ = some (.int .i64 (-1048595)) := c0
          clear hc14 ht14 hb14 hy14 hn14 hr14 HKc c0
          go_wp2_with fail
          go_region_held3 (fun u => u.cell? ⟨g14, 0, none⟩ = some (.int .i64 (-1048595)))
            ((first | exact c1 | exact c2))
            ((fail))
          all_goals
            go_wp2_with fail
            exact bodyPost_ret (v := .bool true) (by simp [results, Tryz.results25, go_sem]; kernel_rfl) rfl ⟨rfl, by first | exact HB14.out | exact L10.below_drew HB14.out⟩

set_option maxRecDepth 100000 in
set_option maxHeartbeats 4000000 in
theorem lengths21 (hcl : CodeLaw) {W : World} (hsh : Sh W) (hnt : L10.Nt W) : Calls Tryz.prog 25 #[.int .i64 21] W fun e w' => e = .returned (.bool true) ∧ Below W.heap.size W w' := by
  have HCL : Hid CodeLaw := hcl
  have HSh : Hid (∀ u, Below W.heap.size W u → Sh u ∧ L10.Nt u) := fun u hu => ⟨hsh.to hu, hnt.to hu⟩
  have HW2 : Hid (1 < W.heap.size) := hnt.low
  have hdf := default_hs hsh
  clear hcl hsh hnt
  go_enter Tryz.func25, Tryz.ntmps25
  go_wp2_with fail
  refine hdf.mono ?_
  rintro e w1 ⟨bt1, B1, rfl, hs1, hb1⟩
  have HRd : Hid (Calls Tryz.prog 6 #[.agg #[.slice (some ⟨bt1, 0, none⟩) 32 32], .bool true] w1 fun e w' => ∃ x O, e = .returned (.tuple #[.pointer (some ⟨x, 0, none⟩), .int .i64 0]) ∧ Cd w' w1.heap.size x O (wS true) ∧ (∀ y, O y → w1.heap.size ≤ y) ∧ Below w1.heap.size w1 w') := writer_cd (HSh.out _ hb1).1 hs1
  have HB1 : Hid (Below W.heap.size W w1) := hb1
  clear hs1 hb1 hdf
  go_wp2_with fail
  refine HRd.out.mono ?_
  rintro e w2 ⟨x, O, rfl, hc2, -, hb2⟩
  have HLo : Hid (W.heap.size ≤ w1.heap.size) := HB1.out.size
  have HE : Hid (Ewr W w1.heap.size x [] w2) := ⟨⟨O, hc2, L10.below_to HB1.out hb2⟩⟩
  generalize w1.heap.size = lo at *
  clear hc2 hb2 HRd HB1
  go_wp2_with fail
  refine (ewr_sym HE.out HSh.out HLo.out (kk := 22) (cx := 0) (v := 0) (by kernel_rfl) (by decide) rfl rfl rfl).mono ?_
  rintro e w3 ⟨b3, rfl, hw3⟩
  have HE3 : Hid (Ewr W lo x [.sy 22 0 0] w3) := hw3
  clear hw3 HE
  go_wp2_with fail
  refine (ewr_sym HE3.out HSh.out HLo.out (kk := 23) (cx := 0) (v := 0) (by kernel_rfl) (by decide) rfl rfl rfl).mono ?_
  rintro e w4 ⟨b4, rfl, hw4⟩
  have HE4 : Hid (Ewr W lo x [.sy 22 0 0, .sy 23 0 0] w4) := hw4
  clear hw4 HE3
  go_wp2_with fail
  refine (ewr_sym HE4.out HSh.out HLo.out (kk := 27) (cx := 0) (v := 2) (by kernel_rfl) (by decide) rfl rfl rfl).mono ?_
  rintro e w5 ⟨b5, rfl, hw5⟩
  have HE5 : Hid (Ewr W lo x len3 w5) := hw5
  clear hw5 HE4
  go_wp2_with fail
  go_loopw [5] (fun kv wr => Lpr W lo x len3 (.sy 29 0 3) 4 kv wr) (fun kv _ => 4 - (intOf kv).toNat)
  case atStart => exact ⟨⟨0, by omega, rfl, by rw [List.replicate_zero, List.append_nil]; exact HE5.out⟩⟩
  case round =>
    obtain ⟨i, hi, rfl, hE⟩ := hrel
    have HEi : Hid (Ewr W lo x (len3 ++ List.replicate i (.sy 29 0 3)) wr) := hE
    have HI : Hid (i ≤ 4) := hi
    clear hE HE5
    by_cases hlt : i < 4
    · have l1 : (i : Int) < 4 := by omega
      clear hi
      go_wp2_with fail
      refine (ewr_sym HEi.out HSh.out HLo.out (kk := 29) (cx := 0) (v := 3) (by kernel_rfl) (by have h1 := HI.out; rw [evn_append, evn_rep]; simp only [len3, evn]; omega) rfl rfl rfl).mono ?_
      rintro e w6 ⟨b6, rfl, hw6⟩
      rw [rep_snoc] at hw6
      have HE6 : Hid (Ewr W lo x (len3 ++ List.replicate (i + 1) (.sy 29 0 3)) w6) := hw6
      clear hw6
      go_wp2_with fail
      go_roundw
      case rel => exact ⟨⟨i + 1, by omega, by go_num, HE6.out⟩⟩
      case measure => simp [intOf]; omega
    · have l1 : ¬ (i : Int) < 4 := by omega
      have e4 : i = 4 := by omega
      have HE6 : Hid (Ewr W lo x (len3 ++ List.replicate 4 (.sy 29 0 3)) wr) := by have := HEi.out; rw [e4] at this; exact this
      clear hi e4 hlt HEi HI
      go_wp2_with fail
      generalize wr = wv at *
      go_loopw [6] (fun kv wr => Lpr W lo x (len3 ++ List.replicate 4 (.sy 29 0 3)) (.bi 1 0) 21 kv wr) (fun kv _ => 21 - (intOf kv).toNat)
      case atStart => exact ⟨⟨0, by omega, rfl, by rw [List.replicate_zero, List.append_nil]; exact HE6.out⟩⟩
      case round =>
        clear HE6
        obtain ⟨j, hj, rfl, hE⟩ := hrel
        have HEj : Hid (Ewr W lo x ((len3 ++ List.replicate 4 (.sy 29 0 3)) ++ List.replicate j (.bi 1 0)) wr) := hE
        have HJ : Hid (j ≤ 21) := hj
        clear hE
        by_cases hlt : j < 21
        · have l2 : (j : Int) < 21 := by omega
          clear hj
          go_wp2_with fail
          refine (ewr_bits HEj.out HLo.out (n := 1) (v := 0) (by kernel_rfl) (by have h1 := HJ.out; rw [evn_append, evn_rep]; simp only [len3, evn_append, evn, List.replicate]; omega) rfl rfl).mono ?_
          rintro e w7 ⟨b7, rfl, hw7⟩
          rw [rep_snoc] at hw7
          have HE7 : Hid (Ewr W lo x ((len3 ++ List.replicate 4 (.sy 29 0 3)) ++ List.replicate (j + 1) (.bi 1 0)) w7) := hw7
          clear hw7
          go_wp2_with fail
          go_roundw
          case rel => exact ⟨⟨j + 1, by omega, by go_num, HE7.out⟩⟩
          case measure => simp [intOf]; omega
        · have l2 : ¬ (j : Int) < 21 := by omega
          have e4 : j = 21 := by omega
          have HE7 : Hid (Ewr W lo x ((len3 ++ List.replicate 4 (.sy 29 0 3)) ++ List.replicate 21 (.bi 1 0)) wr) := by have := HEj.out; rw [e4] at this; exact this
          clear hj e4 hlt HEj HJ
          generalize wr = wx at *
          go_wp2_with fail
          refine (ewr_bits HE7.out HLo.out (n := 1) (v := 1) (by kernel_rfl) (by decide) rfl rfl).mono ?_
          rintro e w8 ⟨b8, rfl, hw8⟩
          have HE8 : Hid (Ewr W lo x (((len3 ++ List.replicate 4 (.sy 29 0 3)) ++ List.replicate 21 (.bi 1 0)) ++ [.bi 1 1]) w8) := hw8
          clear hw8 HE7
          go_wp2_with fail
          refine (ewr_bits HE8.out HLo.out (n := 21) (v := 5) (by kernel_rfl) (by decide) rfl rfl).mono ?_
          rintro e w9 ⟨b9, rfl, hw9⟩
          have HE9 : Hid (Ewr W lo x ((((len3 ++ List.replicate 4 (.sy 29 0 3)) ++ List.replicate 21 (.bi 1 0)) ++ [.bi 1 1]) ++ [.bi 21 5]) w9) := hw9
          clear hw9 HE8
          go_wp2_with fail
          refine (ewr_sym HE9.out HSh.out HLo.out (kk := 30) (cx := 0) (v := 1) (by kernel_rfl) (by decide) rfl rfl rfl).mono ?_
          rintro e w10 ⟨b10, rfl, hw10⟩
          have HE10 : Hid (Ewr W lo x (lenF 21) w10) := hw10
          clear hw10 HE9
          have HBy : Hid (Calls Tryz.prog 17 #[.pointer (some ⟨x, 0, none⟩)] w10 fun e w' => ∃ v, e = .returned (.tuple #[v, .int .i64 0]) ∧ ∃ zs, L2.SrcOf w' v zs ∧ (∀ i, zs.getD i 0 < 256) ∧ zs.length ≤ 140737488355328 ∧ L2.pre zs ((evl (lenF 21) (wS true)).c + 4) = (evl (lenF 21) (wS true)).a ∧ Below w10.heap.size w10 w') := by
            obtain ⟨O, hc, -⟩ := HE10.out
            have hnn : (evl (lenF 21) (wS true)).n = 51 := (evl_n _ _).1
            exact bytes_cd hc ((evl_n _ _).2) (by rw [hnn]; omega)
          go_wp2_with fail
          refine HBy.out.mono ?_
          rintro e w11 ⟨vb, rfl, zs, hsrc, hzb, hzl, hpre, hb11⟩
          have HB11 : Hid (Below W.heap.size W w11) := by obtain ⟨_, _, h⟩ := HE10.out; exact L10.below_to h hb11
          have HSr : Hid (L2.SrcOf w11 vb zs) := hsrc
          have HZ : Hid ((∀ i, zs.getD i 0 < 256) ∧ zs.length ≤ 140737488355328) := ⟨hzb, hzl⟩
          have HK : Hid (((cr 4 4 0 0).run (rS true zs)).1 = none ∧ ((cr 4 4 0 0).run (rS true zs)).2.n = 28) := len_none (n := 21) (l2 := lenB 21) (by kernel_rfl) (by kernel_rfl) hzb hpre
          clear hsrc hzb hzl hpre hb11 HBy HE10
          go_wp2_with fail
          refine (default_hs (HSh.out _ HB11.out).1).mono ?_
          rintro e w12 ⟨bt6, B6, rfl, hs6, hb6⟩
          have HB12 : Hid (Below W.heap.size W w12) := L10.below_to HB11.out hb6
          have HRd : Hid (Calls Tryz.prog 23 #[vb, .agg #[.slice (some ⟨bt6, 0, none⟩) 32 32], .bool true] w12 fun e w' => ∃ x O, e = .returned (.tuple #[.pointer (some ⟨x, 0, none⟩), .int .i64 0]) ∧ Cd w' w12.heap.size x O (rS true zs) ∧ (∀ y, O y → y = 0 ∨ w12.heap.size ≤ y) ∧ Below w12.heap.size w12 w') := reader_cd (HSh.out _ HB12.out).1 hs6 (src_to HSr.out hb6) HZ.out.1 HZ.out.2
          clear hs6 hb6 HSr HB11
          go_wp2_with fail
          refine HRd.out.mono ?_
          rintro e w13 ⟨r, Or, rfl, hc13, -, hb13⟩
          have HB13 : Hid (Below W.heap.size W w13) := L10.below_to HB12.out hb13
          have HLr : Hid (1 < w12.heap.size ∧ W.heap.size ≤ w12.heap.size) := ⟨by have h1 := HB12.out.size; have h2 := HW2.out; show 1 < _; omega, HB12.out.size⟩
          have HKc : Hid (Calls Tryz.prog 11 #[.pointer (some ⟨r, 0, none⟩), .int .i64 4, .int .i64 ((0 : Nat) : Int), .int .i64 ((0 : Nat) : Int), .slice none 0 0] w13 fun en w' => Kc w13 w' w12.heap.size r Or (4 * 4) ((cr 4 4 0 0).run (rS true zs)) en) := kcode_r HCL.out hc13 (HSh.out _ HB13.out).1 (HSh.out _ HB13.out).2 HLr.out.1 (by show (0 : Nat) ≤ _; omega) wk_sz (by omega) (by omega) rfl
          generalize w12.heap.size = lr at *
          clear hc13 hb13 HRd HB12
          go_wp2_with fail
          refine HKc.out.mono ?_
          rintro e w14 ⟨O14, hc14, ht14, hb14, hy14, hn14⟩
          have HB14 : Hid (Below W.heap.size W w14) := HB13.out.trans (hb14.mono HLr.out.2)
          obtain rfl := hn14 HK.out.1
          have HCt : Hid (Calls Tryz.prog 14 #[.pointer (some ⟨r, 0, none⟩)] w14 fun e w' => e = .returned (.int .i64 28) ∧ w' = w14) := by have := count_cd hc14; rw [HK.out.2] at this; exact this
          clear hc14 ht14 hb14 hy14 hn14 HKc
          go_wp2_with fail
          refine HCt.out.mono ?_
          rintro e w15 ⟨rfl, hw15⟩
          obtain rfl : w14 = w15 := hw15.symm
          clear hw15
          go_wp2_with fail
          exact bodyPost_ret (v := .bool true) (by simp [results, Tryz.results25, go_sem]) rfl ⟨rfl, HB14.out⟩

set_option maxRecDepth 100000 in
set_option maxHeartbeats 4000000 in
theorem lengths22 (hcl : CodeLaw) {W : World} (hsh : Sh W) (hnt : L10.Nt W) : Calls Tryz.prog 25 #[.int .i64 22] W fun e w' => e = .returned (.bool true) ∧ Below W.heap.size W w' := by
  have HCL : Hid CodeLaw := hcl
  have HSh : Hid (∀ u, Below W.heap.size W u → Sh u ∧ L10.Nt u) := fun u hu => ⟨hsh.to hu, hnt.to hu⟩
  have HW2 : Hid (1 < W.heap.size) := hnt.low
  have hdf := default_hs hsh
  clear hcl hsh hnt
  go_enter Tryz.func25, Tryz.ntmps25
  go_wp2_with fail
  refine hdf.mono ?_
  rintro e w1 ⟨bt1, B1, rfl, hs1, hb1⟩
  have HRd : Hid (Calls Tryz.prog 6 #[.agg #[.slice (some ⟨bt1, 0, none⟩) 32 32], .bool true] w1 fun e w' => ∃ x O, e = .returned (.tuple #[.pointer (some ⟨x, 0, none⟩), .int .i64 0]) ∧ Cd w' w1.heap.size x O (wS true) ∧ (∀ y, O y → w1.heap.size ≤ y) ∧ Below w1.heap.size w1 w') := writer_cd (HSh.out _ hb1).1 hs1
  have HB1 : Hid (Below W.heap.size W w1) := hb1
  clear hs1 hb1 hdf
  go_wp2_with fail
  refine HRd.out.mono ?_
  rintro e w2 ⟨x, O, rfl, hc2, -, hb2⟩
  have HLo : Hid (W.heap.size ≤ w1.heap.size) := HB1.out.size
  have HE : Hid (Ewr W w1.heap.size x [] w2) := ⟨⟨O, hc2, L10.below_to HB1.out hb2⟩⟩
  generalize w1.heap.size = lo at *
  clear hc2 hb2 HRd HB1
  go_wp2_with fail
  refine (ewr_sym HE.out HSh.out HLo.out (kk := 22) (cx := 0) (v := 0) (by kernel_rfl) (by decide) rfl rfl rfl).mono ?_
  rintro e w3 ⟨b3, rfl, hw3⟩
  have HE3 : Hid (Ewr W lo x [.sy 22 0 0] w3) := hw3
  clear hw3 HE
  go_wp2_with fail
  refine (ewr_sym HE3.out HSh.out HLo.out (kk := 23) (cx := 0) (v := 0) (by kernel_rfl) (by decide) rfl rfl rfl).mono ?_
  rintro e w4 ⟨b4, rfl, hw4⟩
  have HE4 : Hid (Ewr W lo x [.sy 22 0 0, .sy 23 0 0] w4) := hw4
  clear hw4 HE3
  go_wp2_with fail
  refine (ewr_sym HE4.out HSh.out HLo.out (kk := 27) (cx := 0) (v := 2) (by kernel_rfl) (by decide) rfl rfl rfl).mono ?_
  rintro e w5 ⟨b5, rfl, hw5⟩
  have HE5 : Hid (Ewr W lo x len3 w5) := hw5
  clear hw5 HE4
  go_wp2_with fail
  go_loopw [5] (fun kv wr => Lpr W lo x len3 (.sy 29 0 3) 4 kv wr) (fun kv _ => 4 - (intOf kv).toNat)
  case atStart => exact ⟨⟨0, by omega, rfl, by rw [List.replicate_zero, List.append_nil]; exact HE5.out⟩⟩
  case round =>
    obtain ⟨i, hi, rfl, hE⟩ := hrel
    have HEi : Hid (Ewr W lo x (len3 ++ List.replicate i (.sy 29 0 3)) wr) := hE
    have HI : Hid (i ≤ 4) := hi
    clear hE HE5
    by_cases hlt : i < 4
    · have l1 : (i : Int) < 4 := by omega
      clear hi
      go_wp2_with fail
      refine (ewr_sym HEi.out HSh.out HLo.out (kk := 29) (cx := 0) (v := 3) (by kernel_rfl) (by have h1 := HI.out; rw [evn_append, evn_rep]; simp only [len3, evn]; omega) rfl rfl rfl).mono ?_
      rintro e w6 ⟨b6, rfl, hw6⟩
      rw [rep_snoc] at hw6
      have HE6 : Hid (Ewr W lo x (len3 ++ List.replicate (i + 1) (.sy 29 0 3)) w6) := hw6
      clear hw6
      go_wp2_with fail
      go_roundw
      case rel => exact ⟨⟨i + 1, by omega, by go_num, HE6.out⟩⟩
      case measure => simp [intOf]; omega
    · have l1 : ¬ (i : Int) < 4 := by omega
      have e4 : i = 4 := by omega
      have HE6 : Hid (Ewr W lo x (len3 ++ List.replicate 4 (.sy 29 0 3)) wr) := by have := HEi.out; rw [e4] at this; exact this
      clear hi e4 hlt HEi HI
      go_wp2_with fail
      generalize wr = wv at *
      go_loopw [6] (fun kv wr => Lpr W lo x (len3 ++ List.replicate 4 (.sy 29 0 3)) (.bi 1 0) 22 kv wr) (fun kv _ => 22 - (intOf kv).toNat)
      case atStart => exact ⟨⟨0, by omega, rfl, by rw [List.replicate_zero, List.append_nil]; exact HE6.out⟩⟩
      case round =>
        clear HE6
        obtain ⟨j, hj, rfl, hE⟩ := hrel
        have HEj : Hid (Ewr W lo x ((len3 ++ List.replicate 4 (.sy 29 0 3)) ++ List.replicate j (.bi 1 0)) wr) := hE
        have HJ : Hid (j ≤ 22) := hj
        clear hE
        by_cases hlt : j < 22
        · have l2 : (j : Int) < 22 := by omega
          clear hj
          go_wp2_with fail
          refine (ewr_bits HEj.out HLo.out (n := 1) (v := 0) (by kernel_rfl) (by have h1 := HJ.out; rw [evn_append, evn_rep]; simp only [len3, evn_append, evn, List.replicate]; omega) rfl rfl).mono ?_
          rintro e w7 ⟨b7, rfl, hw7⟩
          rw [rep_snoc] at hw7
          have HE7 : Hid (Ewr W lo x ((len3 ++ List.replicate 4 (.sy 29 0 3)) ++ List.replicate (j + 1) (.bi 1 0)) w7) := hw7
          clear hw7
          go_wp2_with fail
          go_roundw
          case rel => exact ⟨⟨j + 1, by omega, by go_num, HE7.out⟩⟩
          case measure => simp [intOf]; omega
        · have l2 : ¬ (j : Int) < 22 := by omega
          have e4 : j = 22 := by omega
          have HE7 : Hid (Ewr W lo x ((len3 ++ List.replicate 4 (.sy 29 0 3)) ++ List.replicate 22 (.bi 1 0)) wr) := by have := HEj.out; rw [e4] at this; exact this
          clear hj e4 hlt HEj HJ
          generalize wr = wx at *
          go_wp2_with fail
          refine (ewr_bits HE7.out HLo.out (n := 1) (v := 1) (by kernel_rfl) (by decide) rfl rfl).mono ?_
          rintro e w8 ⟨b8, rfl, hw8⟩
          have HE8 : Hid (Ewr W lo x (((len3 ++ List.replicate 4 (.sy 29 0 3)) ++ List.replicate 22 (.bi 1 0)) ++ [.bi 1 1]) w8) := hw8
          clear hw8 HE7
          go_wp2_with fail
          refine (ewr_bits HE8.out HLo.out (n := 22) (v := 5) (by kernel_rfl) (by decide) rfl rfl).mono ?_
          rintro e w9 ⟨b9, rfl, hw9⟩
          have HE9 : Hid (Ewr W lo x ((((len3 ++ List.replicate 4 (.sy 29 0 3)) ++ List.replicate 22 (.bi 1 0)) ++ [.bi 1 1]) ++ [.bi 22 5]) w9) := hw9
          clear hw9 HE8
          go_wp2_with fail
          refine (ewr_sym HE9.out HSh.out HLo.out (kk := 30) (cx := 0) (v := 1) (by kernel_rfl) (by decide) rfl rfl rfl).mono ?_
          rintro e w10 ⟨b10, rfl, hw10⟩
          have HE10 : Hid (Ewr W lo x (lenF 22) w10) := hw10
          clear hw10 HE9
          have HBy : Hid (Calls Tryz.prog 17 #[.pointer (some ⟨x, 0, none⟩)] w10 fun e w' => ∃ v, e = .returned (.tuple #[v, .int .i64 0]) ∧ ∃ zs, L2.SrcOf w' v zs ∧ (∀ i, zs.getD i 0 < 256) ∧ zs.length ≤ 140737488355328 ∧ L2.pre zs ((evl (lenF 22) (wS true)).c + 4) = (evl (lenF 22) (wS true)).a ∧ Below w10.heap.size w10 w') := by
            obtain ⟨O, hc, -⟩ := HE10.out
            have hnn : (evl (lenF 22) (wS true)).n = 53 := (evl_n _ _).1
            exact bytes_cd hc ((evl_n _ _).2) (by rw [hnn]; omega)
          go_wp2_with fail
          refine HBy.out.mono ?_
          rintro e w11 ⟨vb, rfl, zs, hsrc, hzb, hzl, hpre, hb11⟩
          have HB11 : Hid (Below W.heap.size W w11) := by obtain ⟨_, _, h⟩ := HE10.out; exact L10.below_to h hb11
          have HSr : Hid (L2.SrcOf w11 vb zs) := hsrc
          have HZ : Hid ((∀ i, zs.getD i 0 < 256) ∧ zs.length ≤ 140737488355328) := ⟨hzb, hzl⟩
          have HK : Hid (((cr 4 4 0 0).run (rS true zs)).1 = none ∧ ((cr 4 4 0 0).run (rS true zs)).2.n = 28) := len_none (n := 22) (l2 := [.bi 1 0] ++ lenB 22) (by kernel_rfl) (by kernel_rfl) hzb hpre
          clear hsrc hzb hzl hpre hb11 HBy HE10
          go_wp2_with fail
          refine (default_hs (HSh.out _ HB11.out).1).mono ?_
          rintro e w12 ⟨bt6, B6, rfl, hs6, hb6⟩
          have HB12 : Hid (Below W.heap.size W w12) := L10.below_to HB11.out hb6
          have HRd : Hid (Calls Tryz.prog 23 #[vb, .agg #[.slice (some ⟨bt6, 0, none⟩) 32 32], .bool true] w12 fun e w' => ∃ x O, e = .returned (.tuple #[.pointer (some ⟨x, 0, none⟩), .int .i64 0]) ∧ Cd w' w12.heap.size x O (rS true zs) ∧ (∀ y, O y → y = 0 ∨ w12.heap.size ≤ y) ∧ Below w12.heap.size w12 w') := reader_cd (HSh.out _ HB12.out).1 hs6 (src_to HSr.out hb6) HZ.out.1 HZ.out.2
          clear hs6 hb6 HSr HB11
          go_wp2_with fail
          refine HRd.out.mono ?_
          rintro e w13 ⟨r, Or, rfl, hc13, -, hb13⟩
          have HB13 : Hid (Below W.heap.size W w13) := L10.below_to HB12.out hb13
          have HLr : Hid (1 < w12.heap.size ∧ W.heap.size ≤ w12.heap.size) := ⟨by have h1 := HB12.out.size; have h2 := HW2.out; show 1 < _; omega, HB12.out.size⟩
          have HKc : Hid (Calls Tryz.prog 11 #[.pointer (some ⟨r, 0, none⟩), .int .i64 4, .int .i64 ((0 : Nat) : Int), .int .i64 ((0 : Nat) : Int), .slice none 0 0] w13 fun en w' => Kc w13 w' w12.heap.size r Or (4 * 4) ((cr 4 4 0 0).run (rS true zs)) en) := kcode_r HCL.out hc13 (HSh.out _ HB13.out).1 (HSh.out _ HB13.out).2 HLr.out.1 (by show (0 : Nat) ≤ _; omega) wk_sz (by omega) (by omega) rfl
          generalize w12.heap.size = lr at *
          clear hc13 hb13 HRd HB12
          go_wp2_with fail
          refine HKc.out.mono ?_
          rintro e w14 ⟨O14, hc14, ht14, hb14, hy14, hn14⟩
          have HB14 : Hid (Below W.heap.size W w14) := HB13.out.trans (hb14.mono HLr.out.2)
          obtain rfl := hn14 HK.out.1
          have HCt : Hid (Calls Tryz.prog 14 #[.pointer (some ⟨r, 0, none⟩)] w14 fun e w' => e = .returned (.int .i64 28) ∧ w' = w14) := by have := count_cd hc14; rw [HK.out.2] at this; exact this
          clear hc14 ht14 hb14 hy14 hn14 HKc
          go_wp2_with fail
          refine HCt.out.mono ?_
          rintro e w15 ⟨rfl, hw15⟩
          obtain rfl : w14 = w15 := hw15.symm
          clear hw15
          go_wp2_with fail
          exact bodyPost_ret (v := .bool true) (by simp [results, Tryz.results25, go_sem]) rfl ⟨rfl, HB14.out⟩

end Go.Proofs.YtkmnpechhdendaaGreatDoor
