/- DERIVED. The walk of SymsAny. -/
import Derived.Test.YtppanogpeengnaaDoorSr
import Derived.Test.YtppanogpeengnaaDoorSv
namespace Go.Proofs.YtppanogpeengnaaDoor
open Go.RowKit L3

/-- something to code -/
structure Dx where
  b : Bool
  n : Int
  k : Int
  c : Int
  v : Int
def dz : Dx := ⟨false, 0, 0, 0, 0⟩
/-- a list of things to code that lies in memory -/
def DoAt (w : World) (a : Option Addr) (L : List Dx) : Prop :=
  L = [] ∨ ∃ b off, a = some ⟨b, off, none⟩ ∧ b < w.heap.size ∧
    ∀ j, j < L.length → w.cell? ⟨b, off + j * 5, none⟩ = some (.bool (L.getD j dz).b) ∧ w.cell? ⟨b, off + j * 5 + 1, none⟩ = some (.int .i64 (L.getD j dz).n) ∧ w.cell? ⟨b, off + j * 5 + 2, none⟩ = some (.int .i64 (L.getD j dz).k) ∧ w.cell? ⟨b, off + j * 5 + 3, none⟩ = some (.int .i64 (L.getD j dz).c) ∧ w.cell? ⟨b, off + j * 5 + 4, none⟩ = some (.int .i64 (L.getD j dz).v)
theorem DoAt.cells {w : World} {a : Option Addr} {L : List Dx} (h : DoAt w a L) {j : Nat} (hj : j < L.length) : ∃ b off, a = some ⟨b, off, none⟩ ∧
    ∀ v, Below w.heap.size w v → v.cell? ⟨b, off + j * 5, none⟩ = some (.bool (L.getD j dz).b) ∧ v.cell? ⟨b, off + j * 5 + 1, none⟩ = some (.int .i64 (L.getD j dz).n) ∧ v.cell? ⟨b, off + j * 5 + 2, none⟩ = some (.int .i64 (L.getD j dz).k) ∧ v.cell? ⟨b, off + j * 5 + 3, none⟩ = some (.int .i64 (L.getD j dz).c) ∧ v.cell? ⟨b, off + j * 5 + 4, none⟩ = some (.int .i64 (L.getD j dz).v) := by
  rcases h with rfl | ⟨b, off, h1, h2, h3⟩
  · simp at hj
  · exact ⟨b, off, h1, fun v hv => by rw [newCell hv _ _ h2, newCell hv _ _ h2, newCell hv _ _ h2, newCell hv _ _ h2, newCell hv _ _ h2]; exact h3 j hj⟩

structure AnI (W : World) (lo x bt xd b : Nat) (zs : List Nat) (len : Nat) (nv iv : Value) (wr : World) : Prop where
  ex : ∃ (Z : Nat → Option Obj) (i : Nat) (cnt : Int) (K : List (Nat × List Tb)) (q c g : Nat), i ≤ len ∧ i ≤ 300 ∧ iv = .int .i64 i ∧ nv = .int .i64 cnt ∧ 0 ≤ cnt ∧ cnt ≤ 16 * i ∧ CR Z wr lo x bt K true cnt xd b zs q c g ∧ Below lo W wr

set_option maxRecDepth 100000 in
set_option maxHeartbeats 8000000 in
theorem any_walk (W : World) (vb : Value) (zs : List Nat) (a : Option Addr) (cp : Nat) (L : List Dx) (hsh : Sh W) (hb : L2.SrcOf W vb zs) (hz : ∀ i, zs.getD i 0 < 256) (hzl : zs.length ≤ 140737488355328) (hL : DoAt W a L) (hLl : L.length ≤ 140737488355328) :
    Calls Tryd.prog 7 #[vb, .slice a L.length cp] W fun e w' => e = .returned (.bool true) ∧ Below W.heap.size W w' := by
  have HSh : Hid (∀ v, Below W.heap.size W v → Sh v) := fun v hv => hsh.to hv
  have H0 : Hid (0 < W.heap.size) := hsh.low
  have HSr : Hid (L2.SrcOf W vb zs) := hb
  have HZ : Hid (∀ i, zs.getD i 0 < 256) := hz
  have HZl : Hid (zs.length ≤ 140737488355328) := hzl
  have HD : Hid (∀ j, j < L.length → ∃ b off, a = some ⟨b, off, none⟩ ∧
    ∀ v, Below W.heap.size W v → v.cell? ⟨b, off + j * 5, none⟩ = some (.bool (L.getD j dz).b) ∧ v.cell? ⟨b, off + j * 5 + 1, none⟩ = some (.int .i64 (L.getD j dz).n) ∧ v.cell? ⟨b, off + j * 5 + 2, none⟩ = some (.int .i64 (L.getD j dz).k) ∧ v.cell? ⟨b, off + j * 5 + 3, none⟩ = some (.int .i64 (L.getD j dz).c) ∧ v.cell? ⟨b, off + j * 5 + 4, none⟩ = some (.int .i64 (L.getD j dz).v)) := fun j hj => hL.cells hj
  clear hsh hb hz hzl hL
  go_enter Tryd.func7, Tryd.ntmps7
  go_wp2_with fail
  refine (awake_ok (HSh.out W (Below.refl _ _))).mono ?_
  rintro e w1 ⟨rfl, hb1⟩
  have HB1 : Hid (Below W.heap.size W w1) := hb1
  clear hb1
  go_wp2_with fail
  refine (default_any (HSh.out _ HB1.out)).mono ?_
  rintro e w2 ⟨bt2, K2, rfl, hst, hkl, hdq, hdk, hb2⟩
  have HB2 : Hid (Below W.heap.size W w2) := below_to HB1.out hb2
  have HR : Hid (Calls Tryd.prog 24 #[vb, .agg #[.slice (some ⟨bt2, 0, none⟩) 32 32], .bool true] w2 fun e w' => RdN w2 w' e K2 true zs) := reader_ok (HSh.out _ HB2.out) (Nat.lt_of_lt_of_le H0.out HB2.out.size) hst (okk_default hkl hdq) (src_to HSr.out HB2.out) HZ.out HZl.out
  clear hst hkl hdq hdk hb2 HB1
  go_wp2_with fail
  refine HR.out.mono ?_
  rintro e w3 ⟨x, bt, K3, xd, b, rfl, hcr, hal, hb3⟩
  have HC3 : Hid (CR zn w3 w2.heap.size x bt K3 true 0 xd b zs 4 (L2.dFirst zs) 4294967295) := hcr
  have HL : Hid (W.heap.size ≤ w2.heap.size) := HB2.out.size
  have HB3 : Hid (Below w2.heap.size w2 w3) := hb3
  have HUp : Hid (∀ v, Below w2.heap.size w2 v → Below W.heap.size W v) := fun v hv => below_to HB2.out hv
  clear hcr hal hb3 HR
  go_wp2_with fail
  go_loopw [7, 8] (fun nv iv wr => AnI w2 w2.heap.size x bt xd b zs L.length nv iv wr) (fun _ iv _ => 300 - (intOf iv).toNat)
  case atStart => exact ⟨⟨zn, 0, 0, K3, 4, _, _, by omega, by omega, rfl, rfl, by omega, by omega, HC3.out, HB3.out⟩⟩
  case round =>
    obtain ⟨Z, i, cnt, K, q, c, g, hi1, hi2, rfl, rfl, hc0, hc1, hcr, hbw⟩ := hrel
    have HC : Hid (CR Z wr w2.heap.size x bt K true cnt xd b zs q c g) := hcr
    have HB : Hid (Below w2.heap.size w2 wr) := hbw
    clear hcr hbw HC3 HB3
    have i0 : (0 : Int) ≤ (i : Int) := by omega
    by_cases hlt : i < L.length ∧ i < 300
    · obtain ⟨hlt1, hlt2⟩ := hlt
      have i1 : (i : Int) < (L.length : Int) := by omega
      have i2 : (i : Int) < 300 := by omega
      obtain ⟨bd, off, ha, hcell⟩ := HD.out i hlt1
      subst ha
      obtain ⟨d0, d1, d2, d3, d4⟩ := hcell wr (HUp.out _ HB.out)
      generalize L.getD i dz = dd at *
      obtain ⟨db, dn, dk, dc, dv⟩ := dd
      simp only at d0 d1 d2 d3 d4
      clear hcell
      cases db
      · have HM : Hid (Calls Tryd.prog 33 #[.agg #[.bool false, .int .i64 dn, .int .i64 dk, .int .i64 dc, .int .i64 dv]] wr fun e w' => e = .returned (.agg #[.bool false, .int .i64 dn, .int .i64 (mK dk : Nat), .int .i64 (mC dk dc : Nat), .int .i64 (mW dk dv : Nat)]) ∧ Below wr.heap.size wr w') := may_s (HSh.out _ (HUp.out _ HB.out))
        have HK : Hid (mK dk < 32) := mK_lt dk
        have HKc : Hid (mC dk dc < sC (mK dk)) := mC_lt dk dc
        generalize mK dk = kk at *
        generalize mC dk dc = cc at *
        generalize mW dk dv = vv at *
        go_wp2_with fail
        refine HM.out.mono ?_
        rintro e w4 ⟨rfl, hb4⟩
        have HB5 : Hid (Below wr.heap.size wr (w4.alloc (.cells #[.bool false, .int .i64 dn, .int .i64 kk, .int .i64 cc, .int .i64 vv] 43))) := to_alloc hb4 _
        have HX : Hid (∀ v, Below (w4.heap.size + 1) (w4.alloc (.cells #[.bool false, .int .i64 dn, .int .i64 kk, .int .i64 cc, .int .i64 vv] 43)) v → v.cell? ⟨w4.heap.size, 2, none⟩ = some (.int .i64 kk) ∧ v.cell? ⟨w4.heap.size, 3, none⟩ = some (.int .i64 cc)) := fun v hv => by
          rw [newCell hv _ _ (by omega), newCell hv _ _ (by omega)]; simp [go_sem]
        have HXs : Hid ((w4.alloc (.cells #[.bool false, .int .i64 dn, .int .i64 kk, .int .i64 cc, .int .i64 vv] 43)).heap.size = w4.heap.size + 1) := by show _ = _; simp
        clear hb4 d0 d1 d2 d3 d4 HM
        go_wp2_with fail
        generalize w4.alloc (.cells #[.bool false, .int .i64 dn, .int .i64 kk, .int .i64 cc, .int .i64 vv] 43) = w5 at *
        refine (shape_ok (HSh.out _ (HUp.out _ (HB.out.trans (HB5.out.mono HB.out.size)))) HK.out).mono ?_
        rintro e w6 ⟨rfl, hb6⟩
        have HB6 : Hid (Below wr.heap.size wr w6) := below_to HB5.out hb6
        obtain ⟨x2, x3⟩ := HX.out w6 (by rw [← HXs.out]; exact hb6)
        have HC6 : Hid (CR Z w6 w2.heap.size x bt K true cnt xd b zs q c g) := HC.out.to HB6.out
        have HSy : Hid (Calls Tryd.prog 35 #[.pointer (some ⟨x, 0, none⟩), .int .i64 kk, .int .i64 cc, .int .i64 0] w6 fun e w' => ∃ v : Nat, e = .returned (.tuple #[.int .i64 v, .int .i64 0]) ∧ v < sV kk ∧ ∃ K' q' c' g', CR Z w' w2.heap.size x bt K' true (cnt + 1) xd b zs q' c' g' ∧ Below w2.heap.size w6 w') := by
          obtain ⟨p, s, hp, hs, _, hsv, _⟩ := HC6.out.co.at HK.out HKc.out
          refine Calls.mono (symbol_r HC6.out (HSh.out _ (HUp.out _ (HB.out.trans (HB6.out.mono HB.out.size)))) hc0 (by omega) (z := 0) HK.out HKc.out hp hs) ?_
          rintro e w' ⟨v, rfl, hf, K', h1, _, h3⟩
          exact ⟨v, rfl, by rw [← hsv]; exact hf.1, K', _, _, _, h1, h3⟩
        clear hb6 HB5 HX HXs HC6
        go_wp2_with fail
        refine HSy.out.mono ?_
        rintro e w7 ⟨v, rfl, hv, K', q', c', g', hc7, hb7⟩
        have HC7 : Hid (CR Z w7 w2.heap.size x bt K' true (cnt + 1) xd b zs q' c' g') := hc7
        have HB7 : Hid (Below w2.heap.size w2 w7) := (HB.out.trans (HB6.out.mono HB.out.size)).trans hb7
        have v0 : ¬ ((v : Nat) : Int) < 0 := by omega
        have v1 : ¬ ((sV kk : Nat) : Int) ≤ ((v : Nat) : Int) := by omega
        clear hc7 hb7 hv HSy x2 x3 HB6
        go_wp2_with fail
        go_roundw
        case rel => exact ⟨⟨Z, i + 1, cnt + 1, K', q', c', g', by omega, by omega, by go_num, rfl, by omega, by omega, HC7.out, HB7.out⟩⟩
        case measure => simp [intOf]; omega
      · have HM : Hid (Calls Tryd.prog 33 #[.agg #[.bool true, .int .i64 dn, .int .i64 dk, .int .i64 dc, .int .i64 dv]] wr fun e w' => e = .returned (.agg #[.bool true, .int .i64 (mN dn : Nat), .int .i64 dk, .int .i64 dc, .int .i64 (mV dn dv : Nat)]) ∧ Below wr.heap.size wr w') := may_b
        have hN := mN_lt dn
        generalize mV dn dv = vv at *
        generalize mN dn = N at *
        obtain ⟨P, hP⟩ : ∃ P, P = 2 ^ N := ⟨_, rfl⟩
        have HP : Hid (P = 2 ^ N) := hP
        have hP0 : P ≤ 2 ^ 15 := by rw [hP]; exact Nat.pow_le_pow_right (by omega) (by omega)
        have hP1 : (1 : Int) * 2 ^ N = (P : Int) := by rw [hP]; simp
        have hP2 : (P : Int) ≤ 32768 := by omega
        have hP3 : (0 : Int) ≤ (P : Int) := by omega
        have n0 : (0 : Int) ≤ (N : Int) := by omega
        have n1 : (N : Int) < 16 := by omega
        clear hP hP0
        go_wp2_with fail
        refine HM.out.mono ?_
        rintro e w4 ⟨rfl, hb4⟩
        have HB5 : Hid (Below wr.heap.size wr (w4.alloc (.cells #[.bool true, .int .i64 N, .int .i64 dk, .int .i64 dc, .int .i64 vv] 43))) := to_alloc hb4 _
        have HC5 : Hid (CR (one w4.heap.size (.cells #[.bool true, .int .i64 N, .int .i64 dk, .int .i64 dc, .int .i64 vv] 43)) (w4.alloc (.cells #[.bool true, .int .i64 N, .int .i64 dk, .int .i64 dc, .int .i64 vv] 43)) w2.heap.size x bt K true cnt xd b zs q c g) := (HC.out.to hb4).local _
        have x0 : (w4.alloc (.cells #[.bool true, .int .i64 N, .int .i64 dk, .int .i64 dc, .int .i64 vv] 43)).cell? ⟨w4.heap.size, 1, none⟩ = some (.int .i64 N) := by simp [go_sem]
        clear hb4 d0 d1 d2 d3 d4 HM
        go_wp2_with fail
        generalize w4.alloc (.cells #[.bool true, .int .i64 N, .int .i64 dk, .int .i64 dc, .int .i64 vv] 43) = w5 at *
        have HSy : Hid (Calls Tryd.prog 34 #[.pointer (some ⟨x, 0, none⟩), .int .i64 N, .int .i64 0] w5 fun e w' => ∃ v : Nat, e = .returned (.tuple #[.int .i64 v, .int .i64 0]) ∧ v < P ∧ ∃ q' c' g', CR (one w4.heap.size (.cells #[.bool true, .int .i64 N, .int .i64 dk, .int .i64 dc, .int .i64 vv] 43)) w' w2.heap.size x bt K true (cnt + N) xd b zs q' c' g' ∧ Below w2.heap.size w5 w') := by
          refine Calls.mono (bits_r HC5.out hc0 (by omega) (n := N) (z := 0) (by omega)) ?_
          rintro e w' ⟨rfl, h1, h3⟩
          exact ⟨_, rfl, by rw [HP.out]; exact dBs_lt _ _ _ _ _, _, _, _, h1, h3⟩
        clear HC5 x0
        refine HSy.out.mono ?_
        rintro e w7 ⟨v, rfl, hv, q', c', g', hc7, hb7⟩
        have x1 : w7.cell? ⟨w4.heap.size, 1, none⟩ = some (.int .i64 N) := by rw [cell_of (hc7.co.fr _ _ (one_at _ _)).1]; rfl
        have HC7 : Hid (CR (one w4.heap.size (.cells #[.bool true, .int .i64 N, .int .i64 dk, .int .i64 dc, .int .i64 vv] 43)) w7 w2.heap.size x bt K true (cnt + N) xd b zs q' c' g') := hc7
        have HB7 : Hid (Below w2.heap.size w2 w7) := (HB.out.trans (HB5.out.mono HB.out.size)).trans hb7
        have v0 : ¬ ((v : Nat) : Int) < 0 := by omega
        have v1 : ¬ (P : Int) ≤ ((v : Nat) : Int) := by omega
        clear hc7 hb7 hv HSy HB5
        go_wp2_with fail
        go_roundw
        case rel => exact ⟨⟨_, i + 1, cnt + N, K, q', c', g', by omega, by omega, by go_num, rfl, by omega, by omega, HC7.out, HB7.out⟩⟩
        case measure => simp [intOf]; omega
    · have hno : ¬ ((i : Int) < (L.length : Int) ∧ (i : Int) < 300) := by omega
      have HF : Hid (∀ u, Below wr.heap.size wr u → Below W.heap.size W u) := fun u hu => HUp.out _ (HB.out.trans (hu.mono HB.out.size))
      have HE : Hid (Calls Tryd.prog 16 #[.pointer (some ⟨x, 0, none⟩)] wr fun e w' => SetN wr w' e K) := set_r HC.out (HSh.out _ (HUp.out _ HB.out))
      by_cases h1 : i < L.length
      · have i1 : (i : Int) < (L.length : Int) := by omega
        have i2 : ¬ (i : Int) < 300 := by omega
        go_wp2_with fail
        refine HE.out.mono ?_
        rintro e w8 ⟨bt8, L8, rfl, hst, hal, hdk, hb8⟩
        have HB9 : Hid (Below wr.heap.size wr (w8.alloc (.cells #[.slice (some ⟨bt8, 0, none⟩) 32 32] 25))) := to_alloc hb8 _
        have HCk : Hid (Calls Tryd.prog 27 #[.agg #[.slice (some ⟨bt8, 0, none⟩) 32 32]] (w8.alloc (.cells #[.slice (some ⟨bt8, 0, none⟩) 32 32] 25)) fun e w' => e = .returned (.int .i64 0) ∧ Below (w8.alloc (.cells #[.slice (some ⟨bt8, 0, none⟩) 32 32] 25)).heap.size (w8.alloc (.cells #[.slice (some ⟨bt8, 0, none⟩) 32 32] 25)) w') := scheck_ok (HSh.out _ (HF.out _ HB9.out)) (hst.to (from_alloc _ _)) (HC.out.co.ok.als hal)
        clear hst hal hdk hb8 HE
        go_wp2_with fail
        refine HCk.out.mono ?_
        rintro e w10 ⟨rfl, hb10⟩
        have HB10 : Hid (Below wr.heap.size wr w10) := below_to HB9.out hb10
        clear hb10 HB9 HCk
        go_wp2_with fail
        refine (count_r (HC.out.to HB10.out)).mono ?_
        rintro e w11 ⟨rfl, rfl⟩
        have e0 : (cnt == cnt) = true := by simp
        go_wp2_with fail
        exact bodyPost_ret (v := .bool true) (by simp [results, Tryd.results7, go_sem]) rfl ⟨rfl, HF.out _ HB10.out⟩
      · have i1 : ¬ (i : Int) < (L.length : Int) := by omega
        go_wp2_with fail
        refine HE.out.mono ?_
        rintro e w8 ⟨bt8, L8, rfl, hst, hal, hdk, hb8⟩
        have HB9 : Hid (Below wr.heap.size wr (w8.alloc (.cells #[.slice (some ⟨bt8, 0, none⟩) 32 32] 25))) := to_alloc hb8 _
        have HCk : Hid (Calls Tryd.prog 27 #[.agg #[.slice (some ⟨bt8, 0, none⟩) 32 32]] (w8.alloc (.cells #[.slice (some ⟨bt8, 0, none⟩) 32 32] 25)) fun e w' => e = .returned (.int .i64 0) ∧ Below (w8.alloc (.cells #[.slice (some ⟨bt8, 0, none⟩) 32 32] 25)).heap.size (w8.alloc (.cells #[.slice (some ⟨bt8, 0, none⟩) 32 32] 25)) w') := scheck_ok (HSh.out _ (HF.out _ HB9.out)) (hst.to (from_alloc _ _)) (HC.out.co.ok.als hal)
        clear hst hal hdk hb8 HE
        go_wp2_with fail
        refine HCk.out.mono ?_
        rintro e w10 ⟨rfl, hb10⟩
        have HB10 : Hid (Below wr.heap.size wr w10) := below_to HB9.out hb10
        clear hb10 HB9 HCk
        go_wp2_with fail
        refine (count_r (HC.out.to HB10.out)).mono ?_
        rintro e w11 ⟨rfl, rfl⟩
        have e0 : (cnt == cnt) = true := by simp
        go_wp2_with fail
        exact bodyPost_ret (v := .bool true) (by simp [results, Tryd.results7, go_sem]) rfl ⟨rfl, HF.out _ HB10.out⟩
end Go.Proofs.YtppanogpeengnaaDoor
