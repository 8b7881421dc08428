/- The contract of the document's Decode. -/
import Derived.Test.YtdmheinepkeglaaDoorRDec
import Derived.Test.YtdmheinepkeglaaDoorREnc
namespace Go.Proofs.YtdmheinepkeglaaDoor
open Go.RowKit Go.Own Go.Huf
set_option linter.unusedVariables false

theorem bits8_take (xs : List UInt8) (k : Nat) (x : UInt8) (h : xs[k]? = some x) : bits8 (xs.take (k + 1)) = bits8 (xs.take k) ++ bitsN 8 x.toNat := by
  rw [List.take_add_one, h, bits8_append]
  simp [bits8]
/-- Bits of an octet, its answer named -/
theorem rBits_8 (x : UInt8) (w : World) : Calls Tryd.prog 38 #[.int .u32 (x.toNat : Int), .int .i64 8] w fun e w' => e = .returned (.string (str (chs (bitsN 8 x.toNat)))) ∧ Below w.heap.size w w' :=
  rBits_any x.toNat 8 w (by have := x.toNat_lt; omega) (by omega)
theorem str_get (xs : List UInt8) (k : Nat) (x : UInt8) (h : xs[k]? = some x) (hk : k < (str xs).size) : (str xs)[k]'hk = x := by
  have h2 : (str xs).data.toList[k]? = some ((str xs)[k]'hk) := by
    rw [List.getElem?_eq_getElem (by simpa using hk)]
    rfl
  rw [str_data, h] at h2
  exact (Option.some.inj h2).symm

theorem rNext_T (bs : List Bool) (T : ByteArray) (hT : bstr bs = T) (i B g c : Nat) (hB : bs.length = B) (hi : i ≤ B) (hb : B ≤ 1048576) (hc : 257 ≤ c) (q : Int) (hq : nextI (bs.drop i) 257 = q) (w : World) (hC : CodesAt w g) :
    Calls Tryd.prog 40 #[.string T, .int .i64 (i : Int), .slice (some ⟨g, 0, none⟩) 257 c] w fun e w' => e = .returned (.int .i64 q) ∧ w = w' := by
  subst hT
  exact rNext_any bs i B g c hB hi hb hc q hq w hC
theorem all_take {bs : List Bool} {p i : Nat} (h : ∀ j, p ≤ j → j < i → bs[j]? = some true) (hi : bs.length ≤ i) : ∀ b ∈ bs.drop p, b = true := by
  intro b hb
  obtain ⟨j, hj, e⟩ := List.getElem_of_mem hb
  rw [List.length_drop] at hj
  have := h (p + j) (by omega) (by omega)
  rw [List.getElem_drop] at e
  rw [List.getElem?_eq_getElem (by omega), e] at this
  exact Option.some.inj this
theorem not_all {bs : List Bool} {p i : Nat} (h : bs[i]? = some false) (hp : p ≤ i) : ¬ ∀ b ∈ bs.drop p, b = true := by
  intro ha
  have hi : i < bs.length := by
    rcases Nat.lt_or_ge i bs.length with h1 | h1
    · exact h1
    · rw [List.getElem?_eq_none h1] at h; cases h
  have hm : false ∈ bs.drop p := by
    refine List.mem_iff_getElem?.2 ⟨i - p, ?_⟩
    rw [List.getElem?_drop, show p + (i - p) = i by omega, h]
  have := ha _ hm
  cases this

set_option maxRecDepth 100000 in
set_option maxHeartbeats 8000000 in
theorem rDecode_any (xs : List UInt8) (n0 : Nat) (hn0 : xs.length = n0) (hn : n0 ≤ 1000) (most : Int) (R0 : R) (hR0 : dec (bits8 xs) most = R0) (w : World) :
    Calls Tryd.prog 28 #[.string (str xs), .int .i64 most] w fun e w' => e = .returned (resV R0) ∧ Below w.heap.size w w' := by
  obtain ⟨s, hs⟩ : ∃ s, str xs = s := ⟨_, rfl⟩
  have hsz : s.size = n0 := by rw [← hs, str_size, hn0]
  rw [hs]
  have Hs := Lib.hid hs
  have Hn0 := Lib.hid hn0
  have HR0 := Lib.hid hR0
  clear hs hn0 hR0
  go_enter Tryd.func28, Tryd.ntmps28
  go_wp2
  go_loopg [6, 7] n0 (fun gh o i w' => ∃ (k : Nat) (A : Option Addr) (n c : Nat), gh + k = n0 ∧ n = 8 * k ∧ o = .slice A n c ∧ i = .int .i64 (k : Int) ∧ w'.ownsRow w.heap.size 5 1 (.slice A n c) n ((chs (bits8 (xs.take k))).map BV) ∧ Below w.heap.size w w')
  case atStart => exact ⟨0, _, 0, 0, by omega, rfl, rfl, rfl, own_empty_b w, (Below.refl _ _).alloc (Nat.le_refl _) _⟩
  case round =>
    obtain ⟨k, A, n, c, hk, hnk, rfl, rfl, ho, hb⟩ := hrel
    have Ho := Lib.hid ho
    have Hb := Lib.hid hb
    have Hnk := Lib.hid hnk
    have hnb : n ≤ 8000 := by omega
    clear ho hb hnk
    cases gk with
    | succ g1 =>
      have hkn : k < n0 := by omega
      have hkx : k < xs.length := by rw [Hn0.out]; exact hkn
      obtain ⟨x, hx⟩ : ∃ x, xs[k]? = some x := ⟨_, List.getElem?_eq_getElem hkx⟩
      have hki : k < s.size := by rw [hsz]; exact hkn
      have hsx : s[k]'hki = x := by
        have := str_get xs k x hx (by rw [Hs.out]; exact hki)
        simpa [Hs.out] using this
      have Hx := Lib.hid hx
      have hxl := x.toNat_lt
      clear hx hkx
      go_wp2_with (first
        | (go_at_call 38; (with_reducible refine (rBits_8 x _).mono ?_); rintro e w2 ⟨rfl, hb2⟩; have Hb2 := Lib.hid (Hb.out.trans (hb2.mono Hb.out.size)); have Ho2 := Lib.hid (own_fr (S := fun i => wr.heap.size ≤ i) Ho.out (Fr.of_below hb2 (fun i _ h => h)) (fun g hg h => by have := own_lt Ho.out hg; omega)); clear hb2)
        | (at_builtin
           refine wpList_append_str rfl (.tmp 21) (.tmp 26) rfl (.slice A n c) n (chs (bits8 (xs.take k))) rfl Ho2.out (chs (bitsN 8 x.toNat)) 8 rfl (by rw [chs_length, bitsN_length]) (by omega) Hb2.out.size ?_
           intro A4 c4 w4 ho4 hf4
           have Ho4 := Lib.hid ho4
           have Hf4 := Lib.hid hf4
           clear ho4 hf4))
      go_roundg g1
      case measure => omega
      case rel =>
        have hge1 : ∀ i, some i = (Value.slice A n c).ownBlock → w.heap.size ≤ i := fun i e => (Ho.out.lt i e.symm).1
        refine ⟨k + 1, A4, n + 8, c4, by omega, by rw [Hnk.out]; omega, rfl, by go_num, ?_, Hb2.out.trans (Hf4.out.below Hb2.out.size (fun i _ e => hge1 _ e))⟩
        rw [bits8_take xs k x Hx.out, chs_append]
        exact Ho4.out
    | zero =>
      obtain rfl : k = n0 := by omega
      have htk : xs.take k = xs := List.take_of_length_le (by rw [Hn0.out]; exact Nat.le_refl _)
      have ho := Ho.out
      rw [htk] at ho
      have hcv := conv_str (c := c) (Rd.of_own ho)
      obtain ⟨bs, hbs⟩ : ∃ bs, bits8 xs = bs := ⟨_, rfl⟩
      obtain ⟨T, hT⟩ : ∃ T, bstr bs = T := ⟨_, rfl⟩
      have hcvT : str (chs (bits8 xs)) = T := by rw [hbs]; exact hT
      rw [hcvT] at hcv
      have hBl : bs.length = n := by rw [← hbs, bits8_length, Hn0.out, Hnk.out]
      have hTs : T.size = n := by rw [← hT, bstr_size, hBl]
      have hdec := HR0.out
      rw [hbs, dec] at hdec
      have Hdec := Lib.hid hdec
      have HBl := Lib.hid hBl
      have HT := Lib.hid hT
      have Hbs := Lib.hid hbs
      clear htk ho hbs hT hcvT hBl hdec Ho HR0
      go_wp2_with (first
        | (go_at_call 39; (with_reducible refine (rCodes_any _).mono ?_); rintro e w1 ⟨g, cc, rfl, hc257, hC, hge, hb1⟩; have HC := Lib.hid hC; have Hb1 := Lib.hid (Hb.out.trans (hb1.mono Hb.out.size)); clear hC hb1))
      go_loopg [10, 11] (n + 1) (fun gh o p w' => ∃ (at' : Nat) (A2 : Option Addr) (k2 c2 : Nat) (acc : List UInt8), gh + at' = n + 1 ∧ at' ≤ n ∧ p = .int .i64 (at' : Int) ∧ o = .slice A2 k2 c2 ∧ k2 ≤ at' ∧ decP most (bs.drop at') 0 0 acc = R0 ∧
        w'.ownsRow w1.heap.size 5 1 (.slice A2 k2 c2) k2 (acc.map BV) ∧ CodesAt w' g ∧ Below w.heap.size w w' ∧ w1.heap.size ≤ w'.heap.size)
      case atStart => exact ⟨0, _, 0, 0, [], by omega, by omega, rfl, rfl, by omega, Hdec.out, own_empty_b w1, HC.out.fr (S := fun _ => False) ((Fr.refl _ _).alloc _) (fun h => h), Hb1.out.alloc Hb1.out.size _, by simp⟩
      case round =>
        obtain ⟨at', A2, k2, c2, acc, hg, hat, rfl, rfl, hk2, hd, ho, hC, hb, hsz2⟩ := hrel
        have HC2 := Lib.hid hC
        have Hb2 := Lib.hid hb
        have Ho2 := Lib.hid ho
        have hgl := HC.out.lt
        have hacc : acc.length = k2 := by have := ho.1; simpa using this
        have Hacc := Lib.hid hacc
        have hrl : (bs.drop at').length = n - at' := by rw [List.length_drop, HBl.out]
        have Hrl := Lib.hid hrl
        have hnn := nextS_none (r := bs.drop at') 257 (by omega)
        have hns := fun s => nextS_some (r := bs.drop at') (s := s) 257 (by omega)
        have hw1 := Hb1.out.size
        have Hgl := Lib.hid hgl
        have Hw1 := Lib.hid hw1
        clear hC hb ho hacc hrl hgl hw1
        cases hnx : nextS (bs.drop at') 257 with
        | none =>
          have hq : nextI (bs.drop at') 257 = -1 := by rw [nextI, hnx]
          have hn1 := decP_none most acc (bs.drop at') (fun s hs => hnn hnx s (by omega) hs)
          rw [hd] at hn1
          have Hq := Lib.hid hq
          have Hn1 := Lib.hid hn1
          clear hnn hns hnx hq hn1 hd
          by_cases h8 : 8 ≤ n - at'
          · have h8' : (8 : Int) ≤ (n : Int) - (at' : Int) := by omega
            have hR : R0 = .form := by rw [Hn1.out, if_neg (by rw [Hrl.out]; omega)]
            subst hR
            go_wp2_with (first
              | (go_at_call 40; (with_reducible refine (rNext_T bs T HT.out at' n g cc HBl.out hat (by omega) hc257 (-1) Hq.out _ HC2.out).mono ?_); rintro e w' ⟨rfl, rfl⟩))
            go_ret2
            exact ⟨rfl, Hb2.out⟩
          · have h8' : ¬ (8 : Int) ≤ (n : Int) - (at' : Int) := by omega
            have hcv2 := conv_str (c := c2) (Rd.of_own Ho2.out)
            go_wp2_with (first
              | (go_at_call 40; (with_reducible refine (rNext_T bs T HT.out at' n g cc HBl.out hat (by omega) hc257 (-1) Hq.out _ HC2.out).mono ?_); rintro e w' ⟨rfl, rfl⟩))
            go_loopg [13] (n - at') (fun gh i w' => ∃ j : Nat, gh + j = n ∧ at' ≤ j ∧ i = .int .i64 (j : Int) ∧ (∀ t, at' ≤ t → t < j → bs[t]? = some true) ∧ wr = w')
            case atStart => exact ⟨at', by omega, by omega, rfl, fun t h1 h2 => by omega, rfl⟩
            case round =>
              obtain ⟨j, hj, haj, rfl, hall, rfl⟩ := hrel
              have Hall := Lib.hid hall
              clear hall
              cases gk with
              | succ g2 =>
                have hjn : j < n := by omega
                obtain ⟨b, hbj⟩ : ∃ b, bs[j]? = some b := ⟨_, List.getElem?_eq_getElem (by rw [HBl.out]; exact hjn)⟩
                have hjT : j < T.size := by omega
                have hget := bstr_get HT.out hbj hjT
                have Hbj := Lib.hid hbj
                clear hbj
                cases b with
                | false =>
                  have hR : R0 = .form := by rw [Hn1.out, if_neg (fun h => not_all Hbj.out haj h.2)]
                  subst hR
                  have hget2 : T[j]'hjT = 48 := hget
                  clear hget
                  go_wp2
                  go_ret2
                  exact ⟨rfl, Hb2.out⟩
                | true =>
                  have hget2 : T[j]'hjT = 49 := hget
                  clear hget
                  go_wp2
                  go_roundg g2
                  case measure => omega
                  case rel =>
                    refine ⟨j + 1, by omega, by omega, by go_num, fun t h1 h2 => ?_, rfl⟩
                    by_cases e : t = j
                    · subst e; exact Hbj.out
                    · exact Hall.out t h1 (by omega)
              | zero =>
                obtain rfl : j = n := by omega
                have hR : R0 = .ok acc := by rw [Hn1.out, if_pos ⟨by rw [Hrl.out]; omega, all_take Hall.out (by rw [HBl.out]; exact Nat.le_refl _)⟩]
                subst hR
                go_wp2
                go_ret2
                exact ⟨rfl, Hb2.out⟩
        | some s1 =>
          obtain ⟨hs1, rest, hrest⟩ := hns s1 hnx
          have hq : nextI (bs.drop at') 257 = (s1 : Int) := by rw [nextI, hnx]
          have hcode := decP_code most s1 hs1 rest acc
          rw [hrest, hd] at hcode
          have hcs := code_sym s1 hs1
          obtain ⟨m, hm⟩ : ∃ m, (cbits s1).length = m := ⟨_, rfl⟩
          have hm5 : 5 ≤ m := by rw [← hm, cbits_length]; omega
          have hlen := congrArg List.length hrest
          rw [List.length_append, hm, Hrl.out] at hlen
          have hrest2 : bs.drop (at' + m) = rest := by
            rw [← List.drop_drop, ← hrest, ← hm, List.drop_left]
          have Hq := Lib.hid hq
          have Hcode := Lib.hid hcode
          have Hrest := Lib.hid hrest2
          have hcell := HC2.out s1 hs1
          obtain ⟨S, hS⟩ : ∃ S, bstr (cbits s1) = S := ⟨_, rfl⟩
          have hSs : S.size = m := by rw [← hS, bstr_size, hm]
          rw [hS] at hcell
          have hle2 : at' + m ≤ n := by omega
          clear hnn hns hnx hq hcode hcs hm hlen hrest hrest2 hd hS
          by_cases h256 : s1 = 256
          · subst h256
            have hR : R0 = .form := by rw [Hcode.out, if_pos rfl]
            subst hR
            go_wp2_with (first
              | (go_at_call 40; (with_reducible refine (rNext_T bs T HT.out at' n g cc HBl.out hat (by omega) hc257 _ Hq.out _ HC2.out).mono ?_); rintro e w' ⟨rfl, rfl⟩))
            go_ret2
            exact ⟨rfl, Hb2.out⟩
          · have hsb : ((s1 : Int) == 256) = false := by simp; omega
            have hs256 : s1 < 256 := by omega
            by_cases hm2 : most ≤ (k2 : Int)
            · have hR : R0 = .long := by rw [Hcode.out, if_neg h256, Hacc.out, if_pos hm2]
              subst hR
              clear h256
              go_wp2_with (first
                | (go_at_call 40; (with_reducible refine (rNext_T bs T HT.out at' n g cc HBl.out hat (by omega) hc257 _ Hq.out _ HC2.out).mono ?_); rintro e w' ⟨rfl, rfl⟩))
              go_ret2
              exact ⟨rfl, Hb2.out⟩
            · have hR : decP most rest 0 0 (acc ++ [UInt8.ofNat s1]) = R0 := by rw [Hcode.out, if_neg h256, Hacc.out, if_neg hm2]
              have HR := Lib.hid hR
              have hown := own_alloc Ho2.out (.cells #[.int .u8 (s1 : Int)] 5)
              have Hown := Lib.hid hown
              clear h256 hR hown
              go_wp2_with (first
                | (go_at_call 40; (with_reducible refine (rNext_T bs T HT.out at' n g cc HBl.out hat (by omega) hc257 _ Hq.out _ HC2.out).mono ?_); rintro e w' ⟨rfl, rfl⟩)
                | (at_builtin
                   refine wpList_append_rd rfl (.tmp 44) (.tmp 47) 23 rfl E31 (.slice A2 k2 c2) k2 (acc.map BV) rfl Hown.out (some ⟨wr.heap.size, 0, none⟩) 1 1 _ rfl (rd_lit1 wr 5 _) (one_lit1 _ _) (by omega) (by unfold maxLen; omega) (by simp; omega) ?_
                   intro A4 c4 w4 ho4 hf4 ho2
                   have hy : Value.int .u8 (s1 : Int) = BV (UInt8.ofNat s1) := by rw [BV, ofNat_toNat _ hs256]
                   rw [hy] at ho4
                   have Ho4 := Lib.hid ho4
                   have hf5 := ((Fr.refl (fun i => some i = (Value.slice A2 k2 c2).ownBlock) wr).alloc (.cells #[.int .u8 (s1 : Int)] 5)).trans hf4 (fun i _ h => h)
                   have Hf5 := Lib.hid hf5
                   have hge1 : ∀ i, some i = (Value.slice A2 k2 c2).ownBlock → w1.heap.size ≤ i := fun i e => (Ho2.out.lt i e.symm).1
                   have HC4 := Lib.hid (HC2.out.fr hf5 (fun e => by have := hge1 _ e; have := Hgl.out; omega))
                   have hcell4 := hf5.cell hcell (fun e => by have h1 : w1.heap.size ≤ g := hge1 _ e; have := Hgl.out; omega)
                   have Hge1 := Lib.hid hge1
                   clear ho4 hf4 ho2 hy hf5 hge1))
              go_roundg (n + 1 - (at' + m))
              case measure => omega
              case rel =>
                refine ⟨at' + m, A4, k2 + 1, c4, _, by omega, hle2, by go_num, rfl, by omega, by rw [Hrest.out]; exact HR.out, ?_, HC4.out, Hb2.out.trans (Hf5.out.below Hb2.out.size (fun i _ e => by have := Hge1.out _ e; have := Hw1.out; omega)), Nat.le_trans hsz2 Hf5.out.size⟩
                simpa using Ho4.out
end Go.Proofs.YtdmheinepkeglaaDoor
