/- The specification of layer 11: Points. No condition. -/
import Derived.Test.YtpinncjnfbebkaaFaMaps
import Derived.Laws.AppendOwnNone
namespace Go.Proofs.Ytpinncjnfbebkaa
open Go.RowKit
set_option linter.unusedVariables false
set_option linter.unusedSimpArgs false
attribute [local go_sem] y_undef
/-- A slice that is nil has neither elements nor room. -/
def Snd (v : Value) : Prop := ∀ n c, v = .slice none n c → n = 0 ∧ c = 0
/-- Lists of numbers in memory, none of them odd. -/
def LstsS (w : World) (v : Value) (l : List (List Int)) : Prop :=
  ∃ (A : Option Addr) (c : Nat), v = .slice A l.length c ∧ ∀ i, i < l.length → ∃ b off u, A = some ⟨b, off, none⟩ ∧ b < w.heap.size ∧ w.cell? ⟨b, off + i, none⟩ = some u ∧ NumsIn w u (l.getD i []) ∧ Snd u
theorem LstsS.below {w w' : World} {v : Value} {l : List (List Int)} (h : LstsS w v l) (hb : Below w.heap.size w w') : LstsS w' v l := by
  obtain ⟨A, c, e, ho⟩ := h
  refine ⟨A, c, e, fun i hi => ?_⟩
  obtain ⟨b, off, u, eA, hlt, hc, hq, hs⟩ := ho i hi
  exact ⟨b, off, u, eA, Nat.lt_of_lt_of_le hlt hb.size, (hb.cell (p := ⟨b, off + i, none⟩) hlt).trans hc, hq.below hb, hs⟩
theorem LstsS.lsts {w : World} {v : Value} {l : List (List Int)} (h : LstsS w v l) : LstsIn w v l := by
  obtain ⟨A, c, e, ho⟩ := h
  refine ⟨A, c, e, fun i hi => ?_⟩
  obtain ⟨b, off, u, eA, hlt, hc, hq, _⟩ := ho i hi
  exact ⟨b, off, u, eA, hlt, hc, hq⟩
theorem own_snd {u : World} {base : Nat} {e : TypeId} {size n : Nat} {v : Value} {xs : List Value} (h : u.ownsRow base e size v n xs) : Snd v := by
  intro k c e
  rcases h.2 with ⟨rfl, h0⟩ | ⟨g, cap, cur, rfl, _⟩
  · injection e with _ e1 e2
    exact ⟨e1.symm, e2.symm⟩
  · injection e with e1
    exact absurd e1 (by simp)
section
variable {u u' : World} {base D : Nat} {y x : Value} {us : List Value} {ts : List (List Int)} {q : List Int}
theorem Mps.lstsS (h : Mps base u y us ts) : LstsS u y ts := by
  have hl := h.len
  rcases h.1.2 with ⟨rfl, h0⟩ | ⟨g, cap, cur, rfl, hB, hg, hcap, _⟩
  · exact ⟨none, 0, by rw [h0], fun i hi => by omega⟩
  · refine ⟨_, cap, rfl, fun i hi => ?_⟩
    have hi' : i < us.length := by omega
    have hx : us[i]? = some us[i] := List.getElem?_eq_getElem hi'
    have hc := h.1.cells (g := g) rfl i _ hx
    have hadd : (⟨g, 0, none⟩ : Addr).add i = ⟨g, 0 + i, none⟩ := by unfold Addr.add; split <;> simp_all
    rw [hadd] at hc
    have hN : NumsIn u us[i] (ts.getD i []) := by
      have := RowIn.own (h.2.1 i _ hx)
      exact this
    exact ⟨g, 0, us[i], rfl, (h.1.lt g rfl).2, hc, hN, own_snd (h.2.1 i _ hx)⟩
theorem Mps.blk (h : Mps base u y us ts) {z : Value} (hz : z ∈ us) {k : Nat} (hk : z.ownBlock = some k) : k < u.heap.size := by
  obtain ⟨i, hi, rfl⟩ := List.getElem_of_mem hz
  exact own_block_lt (h.2.1 i _ (List.getElem?_eq_getElem hi)) hk
theorem ap_new {x x' z : Value} (hv : x'.ownBlock = x.ownBlock ∨ x'.ownBlock = some u.heap.size) (ha : Ap x z) (hl : ∀ k, z.ownBlock = some k → k < u.heap.size) : Ap x' z := fun k hk e => by
  rcases hv with e2 | e2
  · exact ha k (e2 ▸ hk) e
  · rw [e2] at hk; injection hk with hk; have := hl k e; omega
/-- A row beside them has grown. -/
theorem Mps.appx (h : Mps base u y us ts) (hy : Ap x y) (hz : ∀ z ∈ us, Ap x z) {x' : Value} (hg : u.grownBy u' x.ownBlock) (hv : x'.ownBlock = x.ownBlock ∨ x'.ownBlock = some u.heap.size) : Mps base u' y us ts ∧ Ap x' y ∧ ∀ z ∈ us, Ap x' z :=
  ⟨⟨h.1.kept hg hy.kept, fun i z hzi => (h.2.1 i z hzi).kept hg (hz z (List.mem_of_getElem? hzi)).kept, h.2.2⟩, ap_new hv hy (fun k hk => own_block_lt h.1 hk), fun z hzm => ap_new hv (hz z hzm) (fun k hk => h.blk hzm hk)⟩
/-- A row is taken among them. -/
theorem Mps.pushx (h : Mps base u y us ts) (hO : u.ownsRow base 3 1 x q.length (q.map (Value.int .i64))) (hy : Ap x y) (hz : ∀ z ∈ us, Ap x z) {y' : Value} (hown : u'.ownsRow base 22 1 y' (ts.length + 1) (us ++ [x])) (hg : u.grownBy u' y.ownBlock)
    (hv : y'.ownBlock = y.ownBlock ∨ y'.ownBlock = some u.heap.size) : Mps base u' y' (us ++ [x]) (ts ++ [q]) := by
  have hlen : us.length = ts.length := h.len
  refine ⟨by simpa using hown, fun i z hzi => ?_, ?_, fun z hzm => ?_⟩
  · by_cases hi : i < us.length
    · rw [List.getElem?_append_left hi] at hzi
      have e : (ts ++ [q]).getD i [] = ts.getD i [] := by simp [List.getD, List.getElem?_append_left (show i < ts.length by omega)]
      rw [e]
      exact (h.2.1 i z hzi).kept hg (h.2.2.2 z (List.mem_of_getElem? hzi)).kept
    · rw [List.getElem?_append_right (by omega)] at hzi
      have hi0 : i - us.length = 0 := by
        have := (List.getElem?_eq_some_iff.1 hzi).1
        simp at this
        omega
      rw [hi0] at hzi
      obtain rfl : x = z := by simpa using hzi
      have e : (ts ++ [q]).getD i [] = q := by
        have : i = ts.length := by omega
        subst this
        simp [List.getD]
      rw [e]
      exact hO.kept hg hy.symm.kept
  · rw [List.pairwise_append]
    exact ⟨h.2.2.1, by simp, fun a ha b hb => by
      obtain rfl : b = x := by simpa using hb
      exact (hz a ha).symm⟩
  · rcases List.mem_append.1 hzm with hm | hm
    · exact ap_new hv (h.2.2.2 z hm) fun k hk => h.blk hm hk
    · obtain rfl : z = x := by simpa using hm
      exact ap_new hv hy.symm fun k hk => own_block_lt hO hk
end
/-- append onto a row of the call's own, of a slice that is nil or lies at an address. -/
theorem wpList_append_both {P : Program} {w : World} {ops : Array Oper} {rest : List Oper} {o : Oper} {a : Act} {Q : Exit → Act → World → Prop} (hgd : o.guard = none) (s x : Operand) (t : TypeId)
    (ho : o.op = .call { callee := .builtin .append, args := #[s, x], argTypes := #[t, t] })
    (base : Nat) (e : TypeId) (i : TypeInfo) (z : Value) (size bytes : Nat) (ht : P.underlying t = some (.slice e)) (hi : P.info? e = some i) (hz : i.zero = some z)
    (hsize : i.size = size) (hby : i.bytes = bytes) (hzs : z.cells.size = size) (hsz : 0 < size)
    (v : Value) (n : Nat) (xs : List Value) (hs : a.eval s = v) (hown : w.ownsRow base e size v n xs)
    (A : Option Addr) (m c : Nat) (news : List Value) (hx : a.eval x = .slice A m c) (hl : news.length = m * size) (hA : A = none → m = 0 ∧ c = 0) (hc : ∀ ad, A = some ad → ∀ j u, news[j]? = some u → w.cell? (ad.add j) = some u) (h1 : ∀ u ∈ news, u.oneCell' = true)
    (h63 : n + m ≤ maxLen) (hbytes : (n + m) * bytes ≤ 140737488355328) (hbase : base ≤ w.heap.size)
    (h : ∀ v' w', w'.ownsRow base e size v' (n + m) (xs ++ news) → w.grownBy w' v.ownBlock → (v'.ownBlock = v.ownBlock ∨ v'.ownBlock = some w.heap.size) → wpList P ops Q rest (a.put o.dst v') w') : wpList P ops Q (o :: rest) a w := by
  cases A with
  | none =>
    obtain ⟨rfl, rfl⟩ := hA rfl
    have hn : news = [] := List.eq_nil_of_length_eq_zero (by rw [hl, Nat.zero_mul])
    subst hn
    exact wpList_append_own_none hgd s x t ho base e i size ht hi v n xs hs hown hx (h v w (by simpa using hown) (World.grownBy.refl w _) (.inl rfl))
  | some ad => exact wpList_append_own_at _ hgd s x t ho base e i z size bytes ht hi hz hsize hby hzs hsz v n xs hs hown ad m c news hx hl (hc ad rfl) h1 h63 hbytes hbase fun v' w' h2 h3 _ h4 => h v' w' h2 h3 h4
/-- Lists of lists in the making. -/
def Mo (w : World) (y : Value) (us : List Value) (os : List (List Int)) (u : World) : Prop := Below w.heap.size w u ∧ Mps w.heap.size u y us os
def My (w : World) (y : Value) (us : List Value) (os : List (List Int)) (x : Value) (q : List Int) (u : World) : Prop :=
  Mo w y us os u ∧ u.ownsRow w.heap.size 3 1 x q.length (q.map (Value.int .i64)) ∧ Ap x y ∧ ∀ z ∈ us, Ap x z
section
variable {w u u' : World} {y x : Value} {us : List Value} {os : List (List Int)} {q : List Int}
theorem Mo.below (h : Mo w y us os u) (hb : Below u.heap.size u u') : Mo w y us os u' := ⟨h.1.trans (hb.mono h.1.size), h.2.below hb⟩
theorem My.below (h : My w y us os x q u) (hb : Below u.heap.size u u') : My w y us os x q u' := ⟨h.1.below hb, own_below h.2.1 hb, h.2.2⟩
theorem My.alloc (h : My w y us os x q u) (o : Obj) : My w y us os x q (u.alloc o) := h.below ((Below.refl _ _).alloc (Nat.le_refl _) o)
theorem Mo.start (h : Mo w y us os u) : My w y us os (.slice none 0 0) [] u := ⟨h, World.ownsRow_nil _ _ _ _, Ap.nil _, fun z _ => Ap.nil _⟩
theorem My.app (h : My w y us os x q u) {x' : Value} {r : List Int} (hown : u'.ownsRow w.heap.size 3 1 x' (q.length + r.length) (q.map (Value.int .i64) ++ r.map (Value.int .i64))) (hg : u.grownBy u' x.ownBlock) (hv : x'.ownBlock = x.ownBlock ∨ x'.ownBlock = some u.heap.size) :
    My w y us os x' (q ++ r) u' := by
  obtain ⟨⟨hb, hM⟩, hO, hy, hz⟩ := h
  obtain ⟨h1, h2, h3⟩ := hM.appx hy hz hg hv
  exact ⟨⟨hb.grown hg hb.size (fun k hk => (hO.lt k hk).1), h1⟩, by rw [List.map_append, List.length_append]; exact hown, h2, h3⟩
theorem My.push (h : My w y us os x q u) {y' : Value} (hown : u'.ownsRow w.heap.size 22 1 y' (os.length + 1) (us ++ [x])) (hg : u.grownBy u' y.ownBlock) (hv : y'.ownBlock = y.ownBlock ∨ y'.ownBlock = some u.heap.size) : Mo w y' (us ++ [x]) (os ++ [q]) u' := by
  obtain ⟨⟨hb, hM⟩, hO, hy, hz⟩ := h
  exact ⟨hb.grown hg hb.size (fun k hk => (hM.1.lt k hk).1), hM.pushx hO hy hz hown hg hv⟩
end
/-- What Points answers. -/
def PtsPost (r : List (List Int) × Int) (w : World) (e : Ending) (u : World) : Prop := ∃ y, e = .returned (.tuple #[y, .int .i64 r.2]) ∧ LstsS u y r.1 ∧ Below w.heap.size w u
namespace Fa
theorem getD_in {α : Type} {l : List α} {j : Nat} (hj : j < l.length) (d : α) : l.getD j d ∈ l := by
  rw [List.getD_eq_getElem?_getD, List.getElem?_eq_getElem hj]
  exact List.getElem_mem hj
theorem thr_step {ts : List (List Int)} {q : List Int} (j : Nat) (hj : j < q.length) : thr ts (q.take (j + 1)) = thr ts (q.take j) ++ ts.getD (q.getD j 0).toNat [] := by
  unfold thr
  rw [List.take_add_one, List.flatMap_append]
  simp [List.getElem?_eq_getElem hj, List.getD]
theorem thr_le {ts : List (List Int)} (h : isMapB ts = true) (q : List Int) (hq : ∀ x ∈ q, 0 ≤ x ∧ x < (ts.length : Int)) : (thr ts q).length ≤ 256 * q.length := by
  induction q with
  | nil => simp [thr]
  | cons x q ih =>
    have e : thr ts (x :: q) = ts.getD x.toNat [] ++ thr ts q := rfl
    have hx := hq x (by simp)
    have := map_row h (i := x.toNat) (by omega)
    have := ih (fun z hz => hq z (by simp [hz]))
    rw [e, List.length_append, List.length_cons, Nat.mul_add]
    omega
theorem map_len {ts : List (List Int)} (h : isMapB ts = true) : ts.length ≤ 256 := by
  unfold isMapB at h
  rw [Bool.and_eq_true] at h
  simpa using h.1
theorem map_mem {ts : List (List Int)} (h : isMapB ts = true) {i j : Nat} (hi : i < ts.length) (hj : j < (ts.getD i []).length) : 0 ≤ (ts.getD i []).getD j 0 ∧ (ts.getD i []).getD j 0 ≤ 255 := by
  unfold isMapB at h
  rw [Bool.and_eq_true, List.all_eq_true] at h
  have hm : ts.getD i [] ∈ ts := by simp [List.getD, List.getElem?_eq_getElem hi]
  have h2 := h.2 _ hm
  unfold rowOk at h2
  rw [Bool.and_eq_true, List.all_eq_true] at h2
  have hx : (ts.getD i []).getD j 0 ∈ ts.getD i [] := getD_in hj 0
  have h3 := h2.2 _ hx
  unfold eOk at h3
  simp only [Bool.and_eq_true, decide_eq_true_eq] at h3
  exact h3
variable {ps ts : List (List Int)}
theorem pt_form (h : isMapB ps = false ∨ isMapB ts = false) : pointsR ps ts = ([], 10) := if_pos h
theorem pt_block (h : isMapB ps = true) (h2 : isMapB ts = true) {i j : Nat} (hi : i < ps.length) (hj : j < (ps.getD i []).length) (hx : (ts.length : Int) ≤ (ps.getD i []).getD j 0) : pointsR ps ts = ([], 11) := by
  unfold pointsR
  rw [if_neg (by simp [h, h2]), if_pos]
  exact ⟨ps.getD i [], getD_in hi [], (ps.getD i []).getD j 0, getD_in hj 0, hx⟩
theorem pt_rest (h : isMapB ps = true) (h2 : isMapB ts = true) (hx : ∀ q ∈ ps, ∀ x ∈ q, x < (ts.length : Int)) : pointsR ps ts = if ∃ q ∈ ps, 256 < (thr ts q).length then ([], 4) else (ps.map (thr ts), 0) := by
  unfold pointsR
  rw [if_neg (by simp [h, h2]), if_neg]
  rintro ⟨q, hq, x, hxq, hle⟩
  have := hx q hq x hxq
  omega
/-- Whether one of the first k lists gets too long. -/
def lim (ps ts : List (List Int)) : Nat → Bool
  | 0 => false
  | k + 1 => lim ps ts k || decide (256 < (thr ts (ps.getD k [])).length)
theorem lim_iff : ∀ k, k ≤ ps.length → (lim ps ts k = true ↔ ∃ q ∈ ps.take k, 256 < (thr ts q).length)
  | 0, _ => by simp [lim]
  | k + 1, hk => by
    have hk' : k < ps.length := by omega
    simp only [lim, Bool.or_eq_true, decide_eq_true_eq]
    rw [lim_iff k (by omega), List.take_add_one]
    have e : ps.getD k [] = ps[k] := by simp [List.getD, List.getElem?_eq_getElem hk']
    rw [e]
    simp only [List.getElem?_eq_getElem hk', Option.toList_some, List.mem_append, List.mem_singleton]
    constructor
    · rintro (⟨q, h1, h2⟩ | h)
      · exact ⟨q, .inl h1, h2⟩
      · exact ⟨_, .inr rfl, h⟩
    · rintro ⟨q, h1 | rfl, h2⟩
      · exact .inl ⟨q, h1, h2⟩
      · exact .inr h2
end Fa
set_option maxRecDepth 100000 in
set_option maxHeartbeats 16000000 in
theorem rpoints_any (ps : List (List Int)) (vp : Value) (ts : List (List Int)) (vt : Value) (r : List (List Int) × Int) (w : World) (hp : LstsS w vp ps) (hmp : ps.length ≤ maxLen) (hmp2 : ∀ q ∈ ps, q.length ≤ maxLen) (ht : LstsS w vt ts) (hmt : ts.length ≤ maxLen) (hmt2 : ∀ q ∈ ts, q.length ≤ maxLen)
    (hr : Fa.pointsR ps ts = r) : Calls Try.prog 31 #[vp, vt] w (PtsPost r w) := by
  obtain ⟨bp, hbp⟩ : ∃ x, Fa.isMapB ps = x := ⟨_, rfl⟩
  obtain ⟨bt, hbt⟩ : ∃ x, Fa.isMapB ts = x := ⟨_, rfl⟩
  have HCp := Lib.hid (rmap_any ps vp bp w hp.lsts hmp hmp2 hbp)
  have HCt := Lib.hid fun (u : World) (hb : Below w.heap.size w u) => rmap_any ts vt bt u (ht.lsts.below hb) hmt hmt2 hbt
  obtain ⟨A, c, rfl, hop⟩ := hp
  obtain ⟨C, d, rfl, hot⟩ := ht
  have HOp := Lib.hid hop
  have HOt := Lib.hid hot
  have HBp := Lib.hid hbp
  have HBt := Lib.hid hbt
  have HR := Lib.hid hr
  unfold maxLen at hmp hmt
  obtain ⟨n, hn⟩ : ∃ n, ps.length = n := ⟨_, rfl⟩
  obtain ⟨m, hm⟩ : ∃ m, ts.length = m := ⟨_, rfl⟩
  have HN := Lib.hid hn
  have HM := Lib.hid hm
  rw [hn] at hmp HOp HCp
  rw [hm] at hmt HOt HCt
  rw [hn, hm]
  clear hop hot hbp hbt hr hn hm hmp2 hmt2
  obtain ⟨iI, hi0, hz0, hz1, hz2⟩ := info_parts Try.infoInt
  have HII := Lib.hid (And.intro hi0 (And.intro hz0 (And.intro hz1 hz2)))
  clear hi0 hz0 hz1 hz2
  obtain ⟨iL, hi0, hz0, hz1, hz2⟩ := info_parts Try.infoLi
  have HIL := Lib.hid (And.intro hi0 (And.intro hz0 (And.intro hz1 hz2)))
  clear hi0 hz0 hz1 hz2
  go_enter Try.func31, Try.ntmps31
  go_wp2_with fail
  refine HCp.out.mono ?_
  rintro e w1 ⟨rfl, hb1⟩
  have HB1 := Lib.hid hb1
  clear hb1 HCp
  cases hp1 : bp
  · have HE := Lib.hid (HR.out.symm.trans (Fa.pt_form (.inl (HBp.out.trans hp1))))
    go_wp2
    go_ret2
    exact ⟨.slice none 0 0, by rw [HE.out]; rfl, by rw [HE.out]; exact ⟨none, 0, rfl, fun i hi => by simp at hi⟩, HB1.out⟩
  · go_wp2_with fail
    refine (HCt.out _ HB1.out).mono ?_
    rintro e w2 ⟨rfl, hb2⟩
    have HB2 := Lib.hid (HB1.out.trans (hb2.mono HB1.out.size))
    clear hb2 HCt HB1
    cases ht1 : bt
    · have HE := Lib.hid (HR.out.symm.trans (Fa.pt_form (.inr (HBt.out.trans ht1))))
      go_wp2
      go_ret2
      exact ⟨.slice none 0 0, by rw [HE.out]; rfl, by rw [HE.out]; exact ⟨none, 0, rfl, fun i hi => by simp at hi⟩, HB2.out⟩
    · have HP1 := Lib.hid (HBp.out.trans hp1)
      have HT1 := Lib.hid (HBt.out.trans ht1)
      have hn256 := Fa.map_len HP1.out
      have hm256 := Fa.map_len HT1.out
      rw [HN.out] at hn256
      rw [HM.out] at hm256
      have HO := Lib.hid (show Mo w (.slice none 0 0) [] ((ps.take 0).map (Fa.thr ts)) w2 from ⟨HB2.out, Mps.nil _ _⟩)
      clear HB2
      go_wp2
      go_loopw [6, 7, 8] (fun y lm i wr => ∃ (k : Nat) (us : List Value), k ≤ n ∧ i = .int .i64 k ∧ lm = .bool (Fa.lim ps ts k) ∧ Hid ((∀ q ∈ ps.take k, ∀ x ∈ q, x < (m : Int)) ∧ Mo w y us ((ps.take k).map (Fa.thr ts)) wr)) (fun _ _ i _ => n - (intOf i).toNat)
      case atStart => exact ⟨0, [], Nat.zero_le _, rfl, rfl, Lib.hid ⟨fun q hq => by simp at hq, HO.out⟩⟩
      case round =>
        clear HO
        obtain ⟨k, us, hk, rfl, rfl, HK⟩ := hrel
        by_cases hlt : k < n
        · have hlt' : (k : Int) < n := by omega
          obtain ⟨b, off, vq, rfl, hbb, hc, hq, hsq⟩ := HOp.out k hlt
          obtain ⟨q, hqe⟩ : ∃ q, ps.getD k [] = q := ⟨_, rfl⟩
          have HQ := Lib.hid hqe
          have hq256 := Fa.map_row HP1.out (i := k) (by have := HN.out; omega)
          rw [hqe] at hq hq256
          clear hqe hsq
          obtain ⟨E, e, rfl, hoq⟩ := hq.opened
          have HC := Lib.hid (And.intro hbb hc)
          have HOq := Lib.hid hoq
          obtain ⟨l, hl⟩ : ∃ l, q.length = l := ⟨_, rfl⟩
          have HL := Lib.hid hl
          rw [hl] at hq256 HC HOq
          clear hbb hc hq hoq hl
          have HS := Lib.hid HK.out.2.start
          have HF := Lib.hid HK.out.1
          clear HK
          go_wp2
          go_loopw [9, 10] (fun x i wr => ∃ j : Nat, j ≤ l ∧ i = .int .i64 j ∧ Hid ((∀ x ∈ q.take j, x < (m : Int)) ∧ My w u6 us ((ps.take k).map (Fa.thr ts)) x (Fa.thr ts (q.take j)) wr)) (fun _ i _ => l - (intOf i).toNat)
          case atStart => exact ⟨0, Nat.zero_le _, rfl, Lib.hid ⟨fun x hx => by simp at hx, HS.out⟩⟩
          case round =>
            clear HS
            obtain ⟨j, hj, rfl, HJ⟩ := hrel
            have hc := (HJ.out.2.1.1.cell (p := ⟨b, off + k, none⟩) HC.out.1).trans HC.out.2
            by_cases hlj : j < l
            · have hlj' : (j : Int) < l := by omega
              obtain ⟨b3, off3, rfl, hb3, hz⟩ := HOq.out j hlj
              replace hz := (HJ.out.2.1.1.cell (p := ⟨b3, off3 + j, none⟩) hb3).trans hz
              have hz0 := (Fa.map_mem HP1.out (i := k) (j := j) (by have := HN.out; omega) (by rw [HQ.out, HL.out]; exact hlj)).1
              have hst := Fa.thr_step (ts := ts) (q := q) j (by rw [HL.out]; exact hlj)
              rw [HQ.out] at hz0
              obtain ⟨z, hze⟩ : ∃ z, q.getD j 0 = z := ⟨_, rfl⟩
              have HZ := Lib.hid hze
              rw [hze] at hz hz0 hst
              clear hze
              obtain ⟨zn, rfl⟩ := Int.eq_ofNat_of_zero_le hz0
              by_cases hg : (m : Int) ≤ (zn : Int)
              · have HE := Lib.hid (HR.out.symm.trans (Fa.pt_block HP1.out HT1.out (i := k) (j := j) (by have := HN.out; omega) (by rw [HQ.out, HL.out]; exact hlj) (by rw [HQ.out, HM.out, HZ.out]; exact hg)))
                go_wp2
                go_ret2
                exact ⟨.slice none 0 0, by rw [HE.out]; rfl, by rw [HE.out]; exact ⟨none, 0, rfl, fun i hi => by simp at hi⟩, HJ.out.2.1.1⟩
              · have hzm : zn < m := by omega
                have hzm' : (0 : Int) ≤ zn ∧ (zn : Int) < m := by omega
                obtain ⟨b4, off4, vr, rfl, hb4, hcr, hr4, hs4⟩ := HOt.out zn hzm
                replace hcr := (HJ.out.2.1.1.cell (p := ⟨b4, off4 + zn, none⟩) hb4).trans hcr
                have hr256 := Fa.map_row HT1.out (i := zn) (by have := HM.out; omega)
                have e4 : ((zn : Nat) : Int).toNat = zn := by omega
                rw [e4] at hst
                obtain ⟨R, hRe⟩ : ∃ R, ts.getD zn [] = R := ⟨_, rfl⟩
                rw [hRe] at hr4 hr256 hst
                clear hRe
                have HST := Lib.hid hst
                have hT := Fa.thr_le HT1.out (q.take j) (fun x hx => by
                  refine ⟨?_, by rw [HM.out]; exact HJ.out.1 x hx⟩
                  obtain ⟨i, hi, rfl⟩ := List.getElem_of_mem hx
                  have := (Fa.map_mem HP1.out (i := k) (j := i) (by have := HN.out; omega) (by rw [HQ.out]; simp at hi; omega)).1
                  rw [HQ.out] at this
                  simp at hi
                  simpa [List.getD, List.getElem?_eq_getElem (show i < q.length by omega)] using this)
                have hTl : (Fa.thr ts (q.take j)).length ≤ 65536 := by simp at hT; omega
                clear hst hT
                generalize Fa.thr ts (q.take j) = T at HJ HST hTl
                obtain ⟨G, g, rfl, hGr⟩ := hr4
                have HN4 := Lib.hid (show ∀ ad, G = some ad → ∀ i u, (R.map (Value.int .i64))[i]? = some u → wr.cell? (ad.add i) = some u from by
                  intro ad hG i u hu
                  rcases hGr.2 with h0 | ⟨b5, o5, hA5, hb5, hc5⟩
                  · have : R = [] := List.eq_nil_of_length_eq_zero h0
                    subst this
                    simp at hu
                  · rw [hG] at hA5
                    injection hA5 with hA5
                    subst hA5
                    have hadd : (⟨b5, o5, none⟩ : Addr).add i = ⟨b5, o5 + i, none⟩ := by unfold Addr.add; split <;> simp_all
                    rw [hadd]
                    exact (HJ.out.2.1.1.cell (p := ⟨b5, o5 + i, none⟩) hb5).trans (hc5 i u hu))
                have HG4 := Lib.hid (show G = none → R.length = 0 ∧ g = 0 from fun hG => by subst hG; exact hs4 _ _ rfl)
                have HB4 := Lib.hid (show w.heap.size ≤ wr.heap.size from HJ.out.2.1.1.size)
                have HL4 := Lib.hid (show (R.map (Value.int .i64)).length = R.length * 1 by simp)
                clear hGr hs4
                go_wp2_with (at_builtin; refine wpList_append_both rfl (.tmp 44) (.tmp 54) 22 rfl w.heap.size 3 iI _ 1 8 Try.underlying22 HII.out.1 HII.out.2.1 HII.out.2.2.1 HII.out.2.2.2 rfl (by decide) u9 T.length (T.map (Value.int .i64)) rfl HJ.out.2.2.1 G R.length g (R.map (Value.int .i64)) rfl HL4.out HG4.out HN4.out (by intro u hu; obtain ⟨x, _, rfl⟩ := List.mem_map.1 hu; rfl) (by unfold maxLen; omega) (by omega) HB4.out ?_; intro v' w' hown hgr hvo; have HX := Lib.hid (HJ.out.2.app hown hgr hvo); clear hown hgr hvo)
                go_roundw
                case rel => exact ⟨j + 1, by omega, by first | rfl | go_num, Lib.hid ⟨fun x hx => by
                  rw [List.take_add_one] at hx
                  rcases List.mem_append.1 hx with h | h
                  · exact HJ.out.1 x h
                  · have e : q[j]? = some (zn : Int) := by
                      have := HZ.out
                      rw [List.getD_eq_getElem?_getD, List.getElem?_eq_getElem (by rw [HL.out]; exact hlj)] at this
                      rw [List.getElem?_eq_getElem (by rw [HL.out]; exact hlj), ← this]
                      rfl
                    rw [e] at h
                    obtain rfl : x = (zn : Int) := by simpa using h
                    omega, by rw [HST.out]; exact HX.out⟩⟩
                case measure => simp [intOf]; omega
            · have hlj' : ¬ (j : Int) < l := by omega
              have hjl : q.take j = q := List.take_of_length_le (by have := HL.out; omega)
              obtain ⟨T, hT⟩ : ∃ T, Fa.thr ts q = T := ⟨_, rfl⟩
              have HTe := Lib.hid hT
              have hmy := HJ.out.2
              rw [hjl, hT] at hmy
              have hin : ∀ x ∈ q, x < (m : Int) := by have h := HJ.out.1; rw [hjl] at h; exact h
              have HI2 := Lib.hid hin
              have hTl := Fa.thr_le HT1.out q (fun x hx => by
                refine ⟨?_, by rw [HM.out]; exact hin x hx⟩
                obtain ⟨i, hi, rfl⟩ := List.getElem_of_mem hx
                have := (Fa.map_mem HP1.out (i := k) (j := i) (by have := HN.out; omega) (by rw [HQ.out]; exact hi)).1
                rw [HQ.out] at this
                simpa [List.getD, List.getElem?_eq_getElem hi] using this)
              rw [hT, HL.out] at hTl
              obtain ⟨A8, d8, hx8, _⟩ := RowIn.own hmy.2.1
              subst hx8
              have HY := Lib.hid hmy
              have hpl : ((ps.take k).map (Fa.thr ts)).length = k := by have := HN.out; simp; omega
              have HPL := Lib.hid hpl
              have htk : ps.take (k + 1) = ps.take k ++ [q] := by
                rw [List.take_add_one, List.getElem?_eq_getElem (by have := HN.out; omega : k < ps.length)]
                have := HQ.out
                rw [List.getD_eq_getElem?_getD, List.getElem?_eq_getElem (by have := HN.out; omega : k < ps.length)] at this
                simp at this
                rw [this]
                rfl
              have HTk := Lib.hid htk
              have HNc := Lib.hid (show ∀ i u, ([Value.slice A8 T.length d8])[i]? = some u → (wr.alloc (.cells #[Value.slice A8 T.length d8] 22)).cell? ((⟨wr.heap.size, 0, none⟩ : Addr).add i) = some u from World.news_of_block (cs := #[Value.slice A8 T.length d8]) (heap_alloc_new wr _))
              have HBc := Lib.hid (show w.heap.size ≤ (wr.alloc (.cells #[Value.slice A8 T.length d8] 22)).heap.size by have := hmy.1.1.size; simp; omega)
              have HOc := Lib.hid (show ∀ u ∈ [Value.slice A8 T.length d8], u.oneCell' = true by intro u hu; obtain rfl : u = Value.slice A8 T.length d8 := (by simpa using hu); rfl)
              have hlk : Fa.lim ps ts (k + 1) = (Fa.lim ps ts k || decide (256 < T.length)) := by
                show (Fa.lim ps ts k || decide (256 < (Fa.thr ts (ps.getD k [])).length)) = _
                rw [HQ.out, hT]
              have HLk := Lib.hid hlk
              clear hjl hT hmy hin hpl htk hlk HJ
              cases hlm : Fa.lim ps ts k
              · by_cases hT2 : 256 < T.length
                · have hT3 : (256 : Int) < T.length := by omega
                  have HV := Lib.hid (show Fa.lim ps ts (k + 1) = true by rw [HLk.out, hlm]; simp [hT2])
                  go_wp2_with (at_builtin; refine wpList_append_own_at _ rfl (.tmp 62) (.tmp 64) 32 rfl w.heap.size 22 iL _ 1 24 Try.underlying32 HIL.out.1 HIL.out.2.1 HIL.out.2.2.1 HIL.out.2.2.2 rfl (by decide) u6 ((ps.take k).map (Fa.thr ts)).length us rfl (HY.out.alloc _).1.2.1 ⟨wr.heap.size, 0, none⟩ 1 1 [Value.slice A8 T.length d8] rfl rfl HNc.out HOc.out (by rw [HPL.out]; unfold maxLen; omega) (by rw [HPL.out]; omega) HBc.out ?_; intro v' w' hown hgr _ hvo; have HZ := Lib.hid ((HY.out.alloc _).push hown hgr hvo); clear hown hgr hvo)
                  go_roundw
                  case rel => exact ⟨k + 1, us ++ [Value.slice A8 T.length d8], by omega, by first | rfl | go_num, by rw [HV.out], Lib.hid ⟨fun q0 hq0 x hx => by
                    rw [HTk.out] at hq0
                    rcases List.mem_append.1 hq0 with h | h
                    · exact HF.out q0 h x hx
                    · obtain rfl : q0 = q := by simpa using h
                      exact HI2.out x hx, by rw [HTk.out, List.map_append]; show Mo w _ _ (_ ++ [Fa.thr ts q]) _; rw [HTe.out]; exact HZ.out⟩⟩
                  case measure => simp [intOf]; omega
                · have hT3 : ¬ (256 : Int) < T.length := by omega
                  have HV := Lib.hid (show Fa.lim ps ts (k + 1) = false by rw [HLk.out, hlm]; simp [hT2])
                  go_wp2_with (at_builtin; refine wpList_append_own_at _ rfl (.tmp 62) (.tmp 64) 32 rfl w.heap.size 22 iL _ 1 24 Try.underlying32 HIL.out.1 HIL.out.2.1 HIL.out.2.2.1 HIL.out.2.2.2 rfl (by decide) u6 ((ps.take k).map (Fa.thr ts)).length us rfl (HY.out.alloc _).1.2.1 ⟨wr.heap.size, 0, none⟩ 1 1 [Value.slice A8 T.length d8] rfl rfl HNc.out HOc.out (by rw [HPL.out]; unfold maxLen; omega) (by rw [HPL.out]; omega) HBc.out ?_; intro v' w' hown hgr _ hvo; have HZ := Lib.hid ((HY.out.alloc _).push hown hgr hvo); clear hown hgr hvo)
                  go_roundw
                  case rel => exact ⟨k + 1, us ++ [Value.slice A8 T.length d8], by omega, by first | rfl | go_num, by rw [HV.out], Lib.hid ⟨fun q0 hq0 x hx => by
                    rw [HTk.out] at hq0
                    rcases List.mem_append.1 hq0 with h | h
                    · exact HF.out q0 h x hx
                    · obtain rfl : q0 = q := by simpa using h
                      exact HI2.out x hx, by rw [HTk.out, List.map_append]; show Mo w _ _ (_ ++ [Fa.thr ts q]) _; rw [HTe.out]; exact HZ.out⟩⟩
                  case measure => simp [intOf]; omega
              · have HV := Lib.hid (show Fa.lim ps ts (k + 1) = true by rw [HLk.out, hlm]; rfl)
                go_wp2_with (at_builtin; refine wpList_append_own_at _ rfl (.tmp 62) (.tmp 64) 32 rfl w.heap.size 22 iL _ 1 24 Try.underlying32 HIL.out.1 HIL.out.2.1 HIL.out.2.2.1 HIL.out.2.2.2 rfl (by decide) u6 ((ps.take k).map (Fa.thr ts)).length us rfl (HY.out.alloc _).1.2.1 ⟨wr.heap.size, 0, none⟩ 1 1 [Value.slice A8 T.length d8] rfl rfl HNc.out HOc.out (by rw [HPL.out]; unfold maxLen; omega) (by rw [HPL.out]; omega) HBc.out ?_; intro v' w' hown hgr _ hvo; have HZ := Lib.hid ((HY.out.alloc _).push hown hgr hvo); clear hown hgr hvo)
                go_roundw
                case rel => exact ⟨k + 1, us ++ [Value.slice A8 T.length d8], by omega, by first | rfl | go_num, by rw [HV.out], Lib.hid ⟨fun q0 hq0 x hx => by
                  rw [HTk.out] at hq0
                  rcases List.mem_append.1 hq0 with h | h
                  · exact HF.out q0 h x hx
                  · obtain rfl : q0 = q := by simpa using h
                    exact HI2.out x hx, by rw [HTk.out, List.map_append]; show Mo w _ _ (_ ++ [Fa.thr ts q]) _; rw [HTe.out]; exact HZ.out⟩⟩
                case measure => simp [intOf]; omega
        · have hlt' : ¬ (k : Int) < n := by omega
          have hkn : ps.take k = ps := List.take_of_length_le (by have := HN.out; omega)
          have hF := HK.out.1
          have hMo := HK.out.2
          rw [hkn] at hF hMo
          have hrest := Fa.pt_rest HP1.out HT1.out (fun q hq x hx => by rw [HM.out]; exact hF q hq x hx)
          have hli := Fa.lim_iff (ps := ps) (ts := ts) k (by have := HN.out; omega)
          rw [hkn] at hli
          have HMo := Lib.hid hMo
          cases hlm : Fa.lim ps ts k
          · have HE := Lib.hid (HR.out.symm.trans (hrest.trans (if_neg (fun h => by have := hli.2 h; rw [hlm] at this; exact absurd this (by decide)))))
            clear hrest hli hF hMo hkn HK
            go_wp2
            go_ret2
            exact ⟨u6, by rw [HE.out]; rfl, by rw [HE.out]; exact HMo.out.2.lstsS, HMo.out.1⟩
          · have HE := Lib.hid (HR.out.symm.trans (hrest.trans (if_pos (hli.1 hlm))))
            clear hrest hli hF hMo hkn HK
            go_wp2
            go_ret2
            exact ⟨.slice none 0 0, by rw [HE.out]; rfl, by rw [HE.out]; exact ⟨none, 0, rfl, fun i hi => by simp at hi⟩, HMo.out.1⟩
end Go.Proofs.Ytpinncjnfbebkaa
