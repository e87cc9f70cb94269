/- The lists within lists: below, walked. -/
import Derived.Test.YtaabhlkhddkglaaDoorPrBelow
import Derived.Deep.DeepCutAuto
import Derived.WideMake
import Derived.Deep.AppendLies
import Derived.Laws.AppendOwnNone
namespace Go.Proofs.YtaabhlkhddkglaaDoor
open Go.RowKit
set_option linter.unusedVariables false
set_option linter.unusedSimpArgs false
attribute [local go_sem] y_undef
theorem Tryd.infoEl : (Tryd.prog.info? 24).map (fun i => (i.zero, i.size, i.bytes)) = some (some (.slice none 0 0), 1, 24) := by kernel_rfl
theorem pkTyE : PkTy Tryd.prog 53 1 := pkTy_of (by kernel_rfl)
theorem Tryd.infoBo : (Tryd.prog.info? 4).map (fun i => (i.zero, i.size, i.bytes)) = some (some (.bool false), 1, 1) := by kernel_rfl
theorem zero_bool (W : World) : (zeroValue 4).run Tryd.prog W = .ok (.bool false) W := by
  obtain ⟨i, hi, hz, _⟩ := info_parts Tryd.infoBo
  simp [zeroValue, typeInfo, hi, hz]
theorem at_blk {w : World} {S : Nat → Prop} {t : Exs} {A : Addr} (h : t.At w S (some A)) (hl : 0 < t.len) : S A.block := by
  cases t with
  | nil => simp [Exs.len] at hl
  | cons k n s o a r =>
    obtain ⟨b, f, e, hS, _⟩ := h
    injection e with e
    subst e
    exact hS
/-- What the map answers of a list's place. -/
theorem known_any {w u : World} {mp : Nat} {es : Array MapEntry} {y : Value} {us : List Value} {I F : List Exs} (h : Bl w mp es y us I F u) {b f n : Nat} (hb : PkBlk w b) :
    ((Instr.lookup 50 (.map (some mp)) (.agg #[.pointer (some ⟨b, f, none⟩), .int .i64 n]) false).run Tryd.prog u = .ok (.bool true) u ∧ ∃ (i : Nat) (c : Nat), us[i]? = some (.slice (some ⟨b, f, none⟩) n c)) ∨
    ((Instr.lookup 50 (.map (some mp)) (.agg #[.pointer (some ⟨b, f, none⟩), .int .i64 n]) false).run Tryd.prog u = .ok (.bool false) u ∧ ∃ clock, u.heap[mp]? = some (.map es clock) ∧
      (Instr.mapUpdate 50 (.map (some mp)) (.agg #[.pointer (some ⟨b, f, none⟩), .int .i64 n]) (.bool true)).run Tryd.prog u = .ok () (putMap u mp (es.push { key := pk ⟨b, f, none⟩ [(n : Int)], val := .bool true, born := clock }) (clock + 1))) := by
  have blk : ∀ q, PkBlk w q → PkBlk u q := fun q hq => hq.below (by
    have hb := h.b
    exact hb)
  have ik : ∀ v, IsPk w 1 v → IsPk u 1 v := fun v ⟨a, ns, e, l, hq⟩ => ⟨a, ns, e, l, blk _ hq⟩
  have hx : IsPk u 1 (pk ⟨b, f, none⟩ [(n : Int)]) := ⟨_, _, rfl, rfl, blk _ hb⟩
  have hm := h.m
  have hP : PkMap u 1 mp es := ⟨hm, fun e he => ik _ (h.ks e he).1⟩
  rcases lookup_pk (mt := 50) (k := 53) (e := 4) (by kernel_rfl) pkTyE hP hx with ⟨h1, h2⟩ | ⟨z, h1, h2, h3⟩
  · obtain ⟨clock, hm⟩ := hm
    refine .inr ⟨?_, clock, hm, update_pk (mt := 50) (k := 53) (e := 4) (by kernel_rfl) pkTyE hm hP.2 hx h2 _⟩
    have := h1 false
    rw [zero_bool] at this
    exact this
  · obtain ⟨p1, p2, i, a, m, c, p3, p4⟩ := h.ks z h2
    refine .inl ⟨?_, i, c, ?_⟩
    · have := h1 false
      rw [p2] at this
      exact this
    · rw [h3] at p4
      obtain ⟨e1, e2⟩ := pk_inj p4
      have e3 : n = m := by
        have : (n : Int) = m := by simpa using e2
        omega
      rw [p3, ← e1, ← e3]
/-- What below answers. -/
def BelowPost (L : List Exs) (w : World) (e : Ending) (u : World) : Prop := ∃ y F, e = .returned y ∧ Exs.Found L F ∧ Lv u y F ∧ Below w.heap.size w u
namespace Exs
theorem inner_take {L : List Exs} {i : Nat} {t : Exs} (h : L[i]? = some t) : inner (L.take (i + 1)) = inner (L.take i) ++ t.args := by
  rw [List.take_add_one, h]
  simp [inner]
end Exs
set_option maxRecDepth 100000 in
set_option maxHeartbeats 4000000 in
theorem below_any (L : List Exs) (v : Value) (w : World) (hL : Lv w v L) (hn : L.length ≤ maxLen) (hs : Exs.sizes L ≤ 1000000) (hl : ∀ t ∈ L, t.len ≤ maxLen) :
    Calls Tryd.prog 16 #[v, .func (.func 17) #[] #[]] w (BelowPost L w) := by
  obtain ⟨A, c, rfl, hc, ho⟩ := hL
  have HO := Lib.hid ho
  have HS := Lib.hid hs
  have HLn := Lib.hid hl
  obtain ⟨n, hne⟩ : ∃ n, L.length = n := ⟨_, rfl⟩
  have HN := Lib.hid hne
  rw [hne] at hn hc
  rw [hne]
  unfold maxLen at hn
  clear ho hs hl hne
  have HST := Lib.hid (show Bl w w.heap.size #[] (.slice none 0 0) [] (Exs.inner (L.take 0)) [] (w.alloc (.map #[] 0)) from {
    b := (Below.refl _ _).alloc (Nat.le_refl _) _, m := ⟨0, heap_alloc_new w _⟩, mB := Nat.le_refl _, ks := by simp, o := World.ownsRow_nil _ _ _ _, ym := by simp [Value.ownBlock], len := rfl, ls := by simp, sub := List.nil_sublist _, pos := by simp, cov := by simp [Exs.inner] })
  go_enter Tryd.func16, Tryd.ntmps16
  have hmm := run_makeMap_plain (P := Tryd.prog) w 50
  go_wp2
  clear hmm
  go_loopw [5, 17] (fun y i wr => ∃ (k : Nat) (es : Array MapEntry) (us : List Value) (F : List Exs), k ≤ n ∧ i = .int .i64 k ∧ Hid (Bl w w.heap.size es y us (Exs.inner (L.take k)) F wr)) (fun _ i _ => n - (intOf i).toNat)
  case atStart => exact ⟨0, #[], [], [], Nat.zero_le _, rfl, Lib.hid HST.out⟩
  case round =>
    clear HST
    obtain ⟨k, es, us, F, hk, rfl, HK⟩ := hrel
    by_cases hlt : k < n
    · have hlt' : (k : Int) < n := by omega
      obtain ⟨t, ht⟩ : ∃ t, L[k]? = some t := ⟨_, List.getElem?_eq_getElem (by have := HN.out; omega)⟩
      obtain ⟨b, off, u, rfl, hbl, hcl, B, cB, rfl, hcB, hat, hwf⟩ := HO.out k t ht
      have HA := Lib.hid (And.intro hat hwf)
      have hcl2 := (HK.out.b.cell (p := ⟨b, off + k, none⟩) hbl).trans hcl
      have htl := HLn.out t (List.mem_of_getElem? ht)
      have HT := Lib.hid (Exs.inner_take ht)
      obtain ⟨l, hle⟩ : ∃ l, t.len = l := ⟨_, rfl⟩
      have HL := Lib.hid hle
      rw [hle] at hcl2 htl hcB
      unfold maxLen at htl
      have HK2 := Lib.hid (show Bl w w.heap.size es u5 us (Exs.inner (L.take k) ++ t.args.take 0) F wr by simpa using HK.out)
      clear hcl hat hwf ht hle HK
      go_wp2_with fail
      go_loopw [5, 23] (fun y i wr => ∃ (j : Nat) (es : Array MapEntry) (us : List Value) (F : List Exs), j ≤ l ∧ i = .int .i64 j ∧ Hid (Bl w w.heap.size es y us (Exs.inner (L.take k) ++ t.args.take j) F wr)) (fun _ i _ => l - (intOf i).toNat)
      case atStart => exact ⟨0, es, us, F, Nat.zero_le _, rfl, Lib.hid HK2.out⟩
      case round =>
        clear HK2 hcl2 hbl
        obtain ⟨j, es, us, F, hj, rfl, HK⟩ := hrel
        by_cases hlj : j < l
        · have hlj' : (j : Int) < l := by omega
          obtain ⟨b2, f2, k2, n2, s2, o2, a2, B2, c2, hA2, hbl2, hdr, ⟨e0, e1, e2, e3, e4⟩, hc2, hat2⟩ := at_elem HA.out.1 (by rw [HL.out]; exact hlj)
          have hb := HK.out.b
          have g0 := (hb.cell (p := ⟨b2, f2 + j * 5, none⟩) hbl2).trans e0
          have g1 := (hb.cell (p := ⟨b2, f2 + j * 5 + 1, none⟩) hbl2).trans e1
          have g2 := (hb.cell (p := ⟨b2, f2 + j * 5 + 2, none⟩) hbl2).trans e2
          have g3 := (hb.cell (p := ⟨b2, f2 + j * 5 + 3, none⟩) hbl2).trans e3
          have g4 := (hb.cell (p := ⟨b2, f2 + j * 5 + 4, none⟩) hbl2).trans e4
          subst hA2
          have hwf2 := HA.out.2.drop j
          rw [hdr] at hwf2
          have HW2 := Lib.hid hwf2
          have HD := Lib.hid (Exs.args_drop t j hdr)
          have HA2 := Lib.hid (And.intro hat2 hc2)
          clear e0 e1 e2 e3 e4 hb hwf2 hdr hat2 hc2
          go_wp2_with fail
          refine (args_any k2 n2 o2 s2 B2 a2.len c2 _).mono ?_
          rintro e w2 ⟨g, rfl, hg, hgl, hb2⟩
          have HK2 := Lib.hid (HK.out.below (((Below.refl wr.heap.size wr).alloc (Nat.le_refl _) _).trans (hb2.mono (by simp))))
          have HG := Lib.hid (And.intro hg hgl)
          clear hg hgl hb2 HK g0 g1 g2 g3 g4
          go_wp2_with fail
          go_loopw [5, 31] (fun y i wr => ∃ (q : Nat) (es : Array MapEntry) (us : List Value) (F : List Exs), q ≤ 1 ∧ i = .int .i64 q ∧ Hid ((q = 0 → wr = w2) ∧ Bl w w.heap.size es y us (Exs.inner (L.take k) ++ t.args.take (j + q)) F wr)) (fun _ i _ => 1 - (intOf i).toNat)
          case atStart => exact ⟨0, es, us, F, by omega, rfl, Lib.hid ⟨fun _ => rfl, HK2.out⟩⟩
          case round =>
            clear HK2
            obtain ⟨q, es, us, F, hq, rfl, HQ⟩ := hrel
            by_cases hq0 : q = 0
            · subst hq0
              have hw := HQ.out.1 rfl
              subst hw
              have hg := HG.out.1
              have hgl := HG.out.2
              have HK3 := Lib.hid HQ.out.2
              clear HQ
              by_cases hz : a2.len = 0
              · have HR := Lib.hid (show Bl w w.heap.size es u5 us (Exs.inner (L.take k) ++ t.args.take (j + 1)) F wr from by
                  have h := HK3.out.skip hz
                  rw [Nat.add_zero, List.append_assoc, ← HD.out] at h
                  exact h)
                rw [hz] at hg
                clear HK3
                go_wp2_with fail
                go_roundw
                case rel => exact ⟨1, es, us, F, by omega, by go_num, Lib.hid ⟨by simp, HR.out⟩⟩
                case measure => simp [intOf]
              · have hpos : 0 < a2.len := by omega
                obtain ⟨b3, f3, hB3⟩ := HA2.out.1.some hpos
                subst hB3
                have hpb := at_blk HA2.out.1 hpos
                obtain ⟨m, hme⟩ : ∃ m, a2.len = m := ⟨_, rfl⟩
                have HM := Lib.hid hme
                rw [hme] at hg hpos
                have hm0 : ¬ (m : Int) = 0 := by omega
                have hK4 : Bl w w.heap.size es u5 us (Exs.inner (L.take k) ++ t.args.take (j + 0)) F (wr.alloc (.cells #[.pointer (some ⟨b3, f3, none⟩), .int .i64 m] 53)) := HK3.out.below ((Below.refl _ _).alloc (Nat.le_refl _) _)
                have hka := known_any hK4 (f := f3) (n := m) hpb
                have HK4 := Lib.hid hK4
                clear hz hme hK4 HK3
                rcases hka with ⟨hlk, i, c9, hus⟩ | ⟨hlk, clock, hm, hmu⟩
                · have HR := Lib.hid (show Bl w w.heap.size es u5 us (Exs.inner (L.take k) ++ t.args.take (j + 1)) F (wr.alloc (.cells #[.pointer (some ⟨b3, f3, none⟩), .int .i64 m] 53)) from by
                    have h := HK4.out.known (a := a2) (by rw [HM.out]; exact hus) HA2.out.1
                    rw [Nat.add_zero, List.append_assoc, ← HD.out] at h
                    exact h)
                  clear HK4 hus
                  go_wp2_with fail
                  go_roundw
                  case rel => exact ⟨1, es, us, F, by omega, by go_num, Lib.hid ⟨by simp, HR.out⟩⟩
                  case measure => simp [intOf]
                · have hus : us.length ≤ 1000000 := by
                    have h1 := Exs.count_sizes HK4.out.pos
                    have h2 := Exs.sizes_sub HK4.out.sub
                    have h3 := Exs.sizes_sub ((List.Sublist.refl (Exs.inner (L.take k))).append (List.take_sublist (j + 0) t.args))
                    rw [← HT.out] at h3
                    have h4 := Exs.sizes_inner (L.take (k + 1))
                    have h5 := Exs.sizes_sub (List.take_sublist (k + 1) L)
                    have h6 := HS.out
                    have h7 := HK4.out.len
                    omega
                  obtain ⟨nu, hnu⟩ : ∃ nu, us.length = nu := ⟨_, rfl⟩
                  have HNu := Lib.hid hnu
                  rw [hnu] at hus
                  obtain ⟨W3, hW3⟩ : ∃ W3, W3 = putMap (wr.alloc (.cells #[.pointer (some ⟨b3, f3, none⟩), .int .i64 m] 53)) w.heap.size (es.push { key := pk ⟨b3, f3, none⟩ [(m : Int)], val := .bool true, born := clock }) (clock + 1) := ⟨_, rfl⟩
                  have HOw := Lib.hid (show (W3.alloc (.cells #[.slice (some ⟨b3, f3, none⟩) m c2] 24)).ownsRow w.heap.size 24 1 u5 us.length us from by
                    rw [hW3]
                    exact (HK4.out.own_put _ _).kept (World.grownBy_alloc _ _ none) (by cases u5.ownBlock <;> simp))
                  have hsz3 : w.heap.size ≤ W3.heap.size := by
                    rw [hW3, putMap_size]
                    exact HK4.out.b.size
                  have HBc := Lib.hid (show w.heap.size ≤ (W3.alloc (.cells #[.slice (some ⟨b3, f3, none⟩) m c2] 24)).heap.size by simp; omega)
                  have HNc := Lib.hid (show ∀ i u, ([Value.slice (some ⟨b3, f3, none⟩) m c2])[i]? = some u → (W3.alloc (.cells #[.slice (some ⟨b3, f3, none⟩) m c2] 24)).cell? ((⟨W3.heap.size, 0, none⟩ : Addr).add i) = some u from World.news_of_block (cs := #[Value.slice (some ⟨b3, f3, none⟩) m c2]) (heap_alloc_new W3 _))
                  have HOc := Lib.hid (show ∀ u ∈ [Value.slice (some ⟨b3, f3, none⟩) m c2], u.oneCell' = true by intro u hu; obtain rfl : u = Value.slice (some ⟨b3, f3, none⟩) m c2 := (by simpa using hu); rfl)
                  have HW3 := Lib.hid hW3
                  rw [HNu.out] at HOw
                  rw [← hW3] at hmu
                  have HPB := Lib.hid hpb
                  have HPo := Lib.hid hpos
                  clear hm hnu hW3 hsz3 hpb
                  obtain ⟨iL, hi0, hz0, hz1, hz2⟩ := info_parts Tryd.infoEl
                  have HIL := Lib.hid (And.intro hi0 (And.intro hz0 (And.intro hz1 hz2)))
                  clear hi0 hz0 hz1 hz2
                  have HAD := Lib.hid (show ∀ v' w', w'.ownsRow w.heap.size 24 1 v' (nu + 1) (us ++ [Value.slice (some ⟨b3, f3, none⟩) m c2]) → (W3.alloc (.cells #[.slice (some ⟨b3, f3, none⟩) m c2] 24)).grownBy w' u5.ownBlock → (v'.ownBlock = u5.ownBlock ∨ v'.ownBlock = some (W3.alloc (.cells #[.slice (some ⟨b3, f3, none⟩) m c2] 24)).heap.size) →
                      ∃ es us F, Bl w w.heap.size es v' us (Exs.inner (L.take k) ++ t.args.take (j + 1)) F w' from fun v' w' hown hgr hvo => ⟨_, _, _, by
                    have h := HK4.out.add (a := a2) (A := ⟨b3, f3, none⟩) (c := c2) (clock := clock + 1) (by rw [HM.out]; exact ⟨_, _, by rw [HM.out], by rw [HM.out]; exact HM.out ▸ HA2.out.2, HA2.out.1, HW2.out.2.2.2.2.2.1⟩) (by rw [HM.out]; exact HPo.out) (e := { key := pk ⟨b3, f3, none⟩ [(m : Int)], val := .bool true, born := clock }) ⟨by rw [HM.out], rfl⟩ HPB.out (u0 := W3.alloc (.cells #[.slice (some ⟨b3, f3, none⟩) m c2] 24)) (by rw [HW3.out]; exact (Below.refl _ _).alloc (Nat.le_refl _) _) hgr (by rw [HNu.out, HM.out]; exact hown) hvo
                    rw [Nat.add_zero, List.append_assoc, ← HD.out] at h
                    exact h⟩)
                  go_wp2_with (at_builtin; refine wpList_append_own_at _ rfl (.tmp 49) (.tmp 51) 35 rfl w.heap.size 24 iL _ 1 24 Tryd.underlying35 HIL.out.1 HIL.out.2.1 HIL.out.2.2.1 HIL.out.2.2.2 rfl (by decide) u5 nu us rfl HOw.out ⟨W3.heap.size, 0, none⟩ 1 1 [Value.slice (some ⟨b3, f3, none⟩) m c2] rfl rfl HNc.out HOc.out (by unfold maxLen; omega) (by omega) HBc.out ?_; intro v' w' hown hgr _ hvo; have HZ := Lib.hid (HAD.out v' w' hown hgr hvo); clear hown hgr hvo)
                  obtain ⟨es2, us2, F2, HR⟩ := HZ.out
                  go_roundw
                  case rel => exact ⟨1, es2, us2, F2, by omega, by go_num, Lib.hid ⟨by simp, HR⟩⟩
                  case measure => simp [intOf]
            · have hq1 : q = 1 := by omega
              subst hq1
              have HR := Lib.hid HQ.out.2
              clear HQ
              go_wp2_with fail
              go_roundw
              case rel => exact ⟨j + 1, es, us, F, by omega, by go_num, Lib.hid HR.out⟩
              case measure => simp [intOf]; omega
        · have e2 : t.args.take j = t.args := List.take_of_length_le (by rw [Exs.args_len, HL.out]; omega)
          have HR := Lib.hid (show Bl w w.heap.size es u5 us (Exs.inner (L.take (k + 1))) F wr from by rw [HT.out]; have h := HK.out; rw [e2] at h; exact h)
          clear HK
          go_wp2
          go_roundw
          case rel => exact ⟨k + 1, es, us, F, by omega, by go_num, Lib.hid HR.out⟩
          case measure => simp [intOf]; omega
    · have e1 : L.take k = L := List.take_of_length_le (by have := HN.out; omega)
      go_wp2
      go_ret
      have h := HK.out
      rw [e1] at h
      exact ⟨u5, F, rfl, ⟨h.sub, h.pos, h.cov⟩, Lv.own h.o h.len fun i t x h1 h2 => (h.ls i t x h1 h2).below h.b, h.b⟩
end Go.Proofs.YtaabhlkhddkglaaDoor
