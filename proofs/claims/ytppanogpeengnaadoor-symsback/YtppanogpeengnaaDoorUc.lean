/- DERIVED. One step of a coder that writes and of one that reads, by what may makes of something to code. -/
import Derived.Test.YtppanogpeengnaaDoorSz
namespace Go.Proofs.YtppanogpeengnaaDoor
open Go.RowKit L3

theorem may_mx {w : World} (hsh : Sh w) (d : Dx) : Calls Tryd.prog 33 #[.agg #[.bool d.b, .int .i64 d.n, .int .i64 d.k, .int .i64 d.c, .int .i64 d.v]] w fun e w' => e = .returned (.agg #[.bool (mx d).b, .int .i64 (mx d).n, .int .i64 (mx d).k, .int .i64 (mx d).c, .int .i64 (mx d).v]) ∧ Below w.heap.size w w' := by
  obtain ⟨b, n, k, c, v⟩ := d
  cases b
  · exact may_s hsh
  · exact may_b
theorem stp_s (ad : Bool) (e : Es) {d : Dx} (hb : d.b = false) : stp ad e d = ⟨upd e.S ad (mK d.k) (mC d.k d.c) (mW d.k d.v), (L2.ePut e.T e.g e.k (eb (tb e.S (mK d.k) (mC d.k d.c)).1 (mW d.k d.v)) (ee (tb e.S (mK d.k) (mC d.k d.c)).1 (mW d.k d.v))).1, (L2.ePut e.T e.g e.k (eb (tb e.S (mK d.k) (mC d.k d.c)).1 (mW d.k d.v)) (ee (tb e.S (mK d.k) (mC d.k d.c)).1 (mW d.k d.v))).2.1, (L2.ePut e.T e.g e.k (eb (tb e.S (mK d.k) (mC d.k d.c)).1 (mW d.k d.v)) (ee (tb e.S (mK d.k) (mC d.k d.c)).1 (mW d.k d.v))).2.2, e.n + 1⟩ := by
  unfold stp; rw [if_neg (by rw [hb]; decide)]
theorem stp_b (ad : Bool) (e : Es) {d : Dx} (hb : d.b = true) : stp ad e d = ⟨e.S, (eBs e.T e.g e.k (mV d.n d.v) (mN d.n) (mN d.n)).1, (eBs e.T e.g e.k (mV d.n d.v) (mN d.n) (mN d.n)).2.1, (eBs e.T e.g e.k (mV d.n d.v) (mN d.n) (mN d.n)).2.2, e.n + mN d.n⟩ := by
  unfold stp; rw [if_pos hb]
def WcE (w : World) (lo x : Nat) (O : Nat → Prop) (ad : Bool) (e : Es) : Prop := Wc w lo x O e.S ad (e.n : Int) e.T e.g e.k
def RcE (w : World) (lo x : Nat) (O : Nat → Prop) (ad : Bool) (e : Es) (zs : List Nat) (q c g : Nat) : Prop := Rc w lo x O e.S ad (e.n : Int) zs q c g
def StW (w w' : World) (lo x : Nat) (O : Nat → Prop) (ad : Bool) (e : Es) : Prop := ∃ O', WcE w' lo x O' ad e ∧ Trn O O' w w' ∧ Below lo w w'
def StR (w w' : World) (lo x : Nat) (O : Nat → Prop) (ad : Bool) (e : Es) (zs : List Nat) : Prop := ∃ O' q c g, RcE w' lo x O' ad e zs q c g ∧ Dw zs e.T e.g e.k q c g ∧ Trn O O' w w' ∧ Below lo w w'
theorem step_ws {w : World} {lo x : Nat} {O : Nat → Prop} {ad : Bool} {e : Es} (h : WcE w lo x O ad e) (hsh : Sh w) (hk : e.k ≤ 100000) (hn : e.n ≤ 100000) {d : Dx} (hb : d.b = false) :
    Calls Tryd.prog 35 #[.pointer (some ⟨x, 0, none⟩), .int .i64 (mK d.k : Nat), .int .i64 (mC d.k d.c : Nat), .int .i64 (mW d.k d.v : Nat)] w fun r w' => r = .returned (.tuple #[.int .i64 (mW d.k d.v : Nat), .int .i64 0]) ∧ StW w w' lo x O ad (stp ad e d) := by
  refine (symbol_wc h hsh (by omega) (by omega) (by omega) (mK_lt d.k) (mC_lt d.k d.c) (mW_lt d.k d.v)).mono ?_
  rintro r w' ⟨rfl, O', h1, h2, h3⟩
  refine ⟨rfl, O', ?_, h2, h3⟩
  rw [stp_s ad e hb]
  exact h1
theorem step_wb {w : World} {lo x : Nat} {O : Nat → Prop} {ad : Bool} {e : Es} (h : WcE w lo x O ad e) (hk : e.k ≤ 100000) (hn : e.n ≤ 100000) {d : Dx} (hb : d.b = true) :
    Calls Tryd.prog 34 #[.pointer (some ⟨x, 0, none⟩), .int .i64 (mN d.n : Nat), .int .i64 (mV d.n d.v : Nat)] w fun r w' => r = .returned (.tuple #[.int .i64 (mV d.n d.v : Nat), .int .i64 0]) ∧ StW w w' lo x O ad (stp ad e d) := by
  refine (bits_wc h (by omega) (by omega) (by omega) (n := mN d.n) (v := mV d.n d.v) (by have := mN_lt d.n; omega) rfl (mV_lt d.n d.v)).mono ?_
  rintro r w' ⟨rfl, O', h1, h2, h3⟩
  refine ⟨rfl, O', ?_, h2, h3⟩
  rw [stp_b ad e hb]
  have : (((e.n + mN d.n : Nat)) : Int) = (e.n : Int) + (mN d.n : Int) := by omega
  unfold WcE
  simp only
  rw [this]
  exact h1
theorem step_rs {w : World} {lo x : Nat} {O : Nat → Prop} {ad : Bool} {e : Es} {zs : List Nat} {q c g T' G' k' : Nat} (h : RcE w lo x O ad e zs q c g) (hE : EOk e) (hD : Dw zs e.T e.g e.k q c g) (hz : ∀ i, zs.getD i 0 < 256) (hsh : Sh w) (hn : e.n ≤ 100000) {d : Dx} (hb : d.b = false)
    (hI : L2.Inc (stp ad e d).T (stp ad e d).g (stp ad e d).k T' G' k') (hg : 0 < G') (hp : L2.pre zs (k' + 4) = T') {z : Int} :
    Calls Tryd.prog 35 #[.pointer (some ⟨x, 0, none⟩), .int .i64 (mK d.k : Nat), .int .i64 (mC d.k d.c : Nat), .int .i64 z] w fun r w' => r = .returned (.tuple #[.int .i64 (mW d.k d.v : Nat), .int .i64 0]) ∧ StR w w' lo x O ad (stp ad e d) zs := by
  have he := sym_ends hE d
  rw [stp_s ad e hb] at hI ⊢
  obtain ⟨f1, f2⟩ := hD.found hz hE.ev he.1 he.2 hI hg hp
  obtain ⟨t1, t2⟩ := hE.ok.at (mK_lt d.k) (mC_lt d.k d.c)
  refine (symbol_rc h hsh (by omega) (by omega) (z := z) (mK_lt d.k) (mC_lt d.k d.c)).mono ?_
  rintro r w' ⟨v, rfl, hf, O', h1, h2, h3⟩
  obtain rfl := fd_found t2 (v0 := mW d.k d.v) (by rw [t1]; exact mW_lt d.k d.v) f1 hf
  exact ⟨rfl, O', _, _, _, h1, f2, h2, h3⟩
theorem step_rb {w : World} {lo x : Nat} {O : Nat → Prop} {ad : Bool} {e : Es} {zs : List Nat} {q c g T' G' k' : Nat} (h : RcE w lo x O ad e zs q c g) (hE : EOk e) (hD : Dw zs e.T e.g e.k q c g) (hz : ∀ i, zs.getD i 0 < 256) (hn : e.n ≤ 100000) {d : Dx} (hb : d.b = true)
    (hI : L2.Inc (stp ad e d).T (stp ad e d).g (stp ad e d).k T' G' k') (hg : 0 < G') (hp : L2.pre zs (k' + 4) = T') {z : Int} :
    Calls Tryd.prog 34 #[.pointer (some ⟨x, 0, none⟩), .int .i64 (mN d.n : Nat), .int .i64 z] w fun r w' => r = .returned (.tuple #[.int .i64 (mV d.n d.v : Nat), .int .i64 0]) ∧ StR w w' lo x O ad (stp ad e d) zs := by
  rw [stp_b ad e hb] at hI ⊢
  obtain ⟨f1, f2⟩ := hD.bits hz hE.ev (mV_lt d.n d.v) hI hg hp (mN d.n) (Nat.le_refl _)
  rw [Nat.sub_self, Nat.pow_zero, Nat.div_one] at f1
  refine (bits_rc h (by omega) (by omega) (z := z) (n := mN d.n) (by have := mN_lt d.n; omega)).mono ?_
  rintro r w' ⟨rfl, O', h1, h2, h3⟩
  refine ⟨by rw [f1], O', _, _, _, ?_, f2, h2, h3⟩
  have : (((e.n + mN d.n : Nat)) : Int) = (e.n : Int) + (mN d.n : Int) := by omega
  unfold RcE
  simp only
  rw [this]
  exact h1
theorem bytes_wc {w : World} {lo x : Nat} {O : Nat → Prop} {S : Sx} {ad : Bool} {cn : Int} {T g k : Nat} (h : Wc w lo x O S ad cn T g k) (hkb : k ≤ 1099511626000) :
    Calls Tryd.prog 18 #[.pointer (some ⟨x, 0, none⟩)] w fun e w' => ∃ v, e = .returned (.tuple #[v, .int .i64 0]) ∧ L2.ByNew w w' v T k := by
  obtain ⟨bt, K, xe, d, h, _⟩ := h; exact bytes_w h hkb
theorem WcE.to {w w' : World} {lo x : Nat} {O : Nat → Prop} {ad : Bool} {e : Es} (h : WcE w lo x O ad e) (hb : Below w.heap.size w w') : WcE w' lo x O ad e := Wc.to h hb
theorem RcE.to {w w' : World} {lo x : Nat} {O : Nat → Prop} {ad : Bool} {e : Es} {zs : List Nat} {q c g : Nat} (h : RcE w lo x O ad e zs q c g) (hb : Below w.heap.size w w') : RcE w' lo x O ad e zs q c g := Rc.to h hb
theorem WcE.lt {w : World} {lo x : Nat} {O : Nat → Prop} {ad : Bool} {e : Es} (h : WcE w lo x O ad e) {y : Nat} (hy : O y) : y < w.heap.size := Wc.lt h hy
theorem RcE.lt {w : World} {lo x : Nat} {O : Nat → Prop} {ad : Bool} {e : Es} {zs : List Nat} {q c g : Nat} (h : RcE w lo x O ad e zs q c g) {y : Nat} (hy : O y) : y < w.heap.size := Rc.lt h hy

theorem evo_still (ad : Bool) (L : List Dx) (i : Nat) : ad = false → (evo ad L i).S = dS := by
  intro h
  induction i with
  | zero => rfl
  | succ i ih =>
    rw [evo_succ]
    by_cases hb : (L.getD i dz).b = true
    · rw [stp_b ad _ hb]; exact ih
    · rw [stp_s ad _ (by simpa using hb)]
      subst h
      exact ih
/-- what the writing loop keeps -/
structure BkI (W : World) (lo x N : Nat) (ad : Bool) (L : List Dx) (sl iv : Value) (wr : World) : Prop where
  ex : ∃ (i : Nat) (O D : Nat → Prop), i ≤ N ∧ iv = .int .i64 i ∧ WcE wr lo x O ad (evo ad L i) ∧ Ls wr lo sl (rs ad L i) D ∧ (∀ y, D y → ¬ O y) ∧ Below lo W wr
/-- a step on, no set is taken -/
theorem BkI.skip {W w5 w7 : World} {lo x N i : Nat} {ad : Bool} {L : List Dx} {sl : Value} {O D : Nat → Prop} (hi : i < N) (h16 : ¬ i % 16 = 0) (hs : StW w5 w7 lo x O ad (evo ad L (i + 1))) (hl : Ls w5 lo sl (rs ad L i) D) (hd : ∀ y, D y → ¬ O y) (hb : Below lo W w5) : BkI W lo x N ad L sl (.int .i64 ((i + 1 : Nat) : Int)) w7 := by
  obtain ⟨O', h1, h2, h3⟩ := hs
  refine ⟨i + 1, O', D, by omega, rfl, h1, by rw [rs_same ad L h16]; exact hl.ke h2.ke (fun y e hy => hd y hy e), fun y hy e => ?_, hb.trans h3⟩
  rcases h2.new y e with e2 | e2
  · exact hd y hy e2
  · have := (hl.lt hy).2; omega
/-- a step on, a set is taken -/
theorem BkI.take {W w7 w9 w10 : World} {lo x N i bt : Nat} {ad : Bool} {L : List Dx} {sl sl' : Value} {O D D' B : Nat → Prop} (hi : i < N) (h16 : i % 16 = 0) (hw : WcE w7 lo x O ad (evo ad L (i + 1))) (hl : Ls w7 lo sl (rs ad L i) D) (hd : ∀ y, D y → ¬ O y) (hb : Below lo W w7) (h9 : Below w7.heap.size w7 w9) (hB : Hs w9 w7.heap.size bt B (evo ad L (i + 1)).S)
    (hl' : Ls w10 lo sl' (rs ad L i ++ [(evo ad L (i + 1)).S]) D') (hd' : ∀ y, D' y → D y ∨ B y ∨ w9.heap.size ≤ y) (hk : Ke D w9 w10) : BkI W lo x N ad L sl' (.int .i64 ((i + 1 : Nat) : Int)) w10 := by
  have hlo : lo ≤ w9.heap.size := Nat.le_trans (Nat.le_trans (by obtain ⟨_, _, _, _, h, _⟩ := hw; exact h.co.xlo) (Nat.le_of_lt (by obtain ⟨_, _, _, _, h, _⟩ := hw; exact h.co.low))) h9.size
  refine ⟨i + 1, O, D', by omega, rfl, (WcE.to hw h9).ke hk hd, by rw [rs_more ad L h16]; exact hl', fun y hy e => ?_, ?_⟩
  · have hO := hw.lt e
    rcases hd' y hy with e2 | e2 | e2
    · exact hd y e2 e
    · have := hB.ge e2; omega
    · have := h9.size; omega
  · refine (hb.trans (h9.mono ?_)).trans (hk.below (fun k e => (hl.lt e).1) hlo)
    obtain ⟨_, _, _, _, h, _⟩ := hw
    exact Nat.le_trans h.co.xlo (Nat.le_of_lt h.co.low)
/-- what the reading loop keeps -/
structure BrJ (W : World) (lo x lo2 r N : Nat) (ad : Bool) (L : List Dx) (zs : List Nat) (sl iv : Value) (wr : World) : Prop where
  ex : ∃ (i : Nat) (O Ow D : Nat → Prop) (q c g : Nat), i ≤ N ∧ iv = .int .i64 i ∧ RcE wr lo2 r O ad (evo ad L i) zs q c g ∧ Dw zs (evo ad L i).T (evo ad L i).g (evo ad L i).k q c g ∧ WcE wr lo x Ow ad (evo ad L N) ∧ Ls wr lo sl (rs ad L N) D ∧ (∀ y, O y → ¬ Ow y ∧ ¬ D y) ∧ lo ≤ lo2 ∧ Below lo W wr
theorem BrJ.next {W w5 w7 w8 : World} {lo x lo2 r N i : Nat} {ad : Bool} {L : List Dx} {zs : List Nat} {sl : Value} {O Ow D : Nat → Prop} (hi : i < N) (hs : StR w5 w7 lo2 r O ad (evo ad L (i + 1)) zs) (hw : WcE w5 lo x Ow ad (evo ad L N)) (hl : Ls w5 lo sl (rs ad L N) D) (hd : ∀ y, O y → ¬ Ow y ∧ ¬ D y) (hlo : lo ≤ lo2) (hb : Below lo W w5) (h8 : Below w7.heap.size w7 w8) : BrJ W lo x lo2 r N ad L zs sl (.int .i64 ((i + 1 : Nat) : Int)) w8 := by
  obtain ⟨O', q, c, g, h1, h2, h3, h4⟩ := hs
  refine ⟨i + 1, O', Ow, D, q, c, g, by omega, rfl, h1.to h8, h2, (Wc.ke hw h3.ke (fun y e => (hd y e).1)).to h8, (hl.ke h3.ke (fun y e => (hd y e).2)).to h8, fun y e => ?_, hlo, (hb.trans (h4.mono hlo)).trans (h8.mono ?_)⟩
  · rcases h3.new y e with e2 | e2
    · exact hd y e2
    · exact ⟨fun e3 => by have := hw.lt e3; omega, fun e3 => by have := (hl.lt e3).2; omega⟩
  · have hx : lo ≤ w5.heap.size := by obtain ⟨_, _, _, _, h, _⟩ := hw; exact Nat.le_trans h.co.xlo (Nat.le_of_lt h.co.low)
    exact Nat.le_trans hx h4.size

end Go.Proofs.YtppanogpeengnaaDoor
