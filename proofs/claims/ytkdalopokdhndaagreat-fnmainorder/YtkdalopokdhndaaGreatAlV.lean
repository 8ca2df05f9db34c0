import Derived.Test.YtkdalopokdhndaaGreatLvSZ
set_option maxHeartbeats 16000000
set_option maxRecDepth 100000
namespace Go.Proofs.YtkdalopokdhndaaGreat
open Go.RowKit
variable {a:Option Addr}{c m n:Nat}{M:Nat->ByteArray}
def nmL (M:Nat->ByteArray)(k:Nat):List ByteArray:=(List.range k).map M
theorem nmL_len (M:Nat->ByteArray)(k:Nat):(nmL M k).length=k:=by simp [nmL]
theorem nmL_succ (M:Nat->ByteArray)(k:Nat):nmL M (k+1)=nmL M k ++ [M k]:=by simp [nmL,List.range_succ]
theorem nm_get (p e:Ev)(i:Nat)(hi:i<p.ng+e.ng):getL (nmL p.M p.ng ++ nmL e.M e.ng) i=nmAt p e i:=by
 unfold getL nmAt;split
 ·rename_i h
  rw [List.getD,List.getElem?_append_left (by rw [nmL_len];exact h)];simp [nmL,h]
 rename_i h;rw [List.getD,List.getElem?_append_right (by rw [nmL_len];omega),nmL_len]
 have:i - p.ng<e.ng:=by omega
 simp [nmL,this]
theorem l5Nm_sl {b:Option Addr}{d:Nat}{M':Nat->ByteArray}{L L':Nat->Int}(w:World)(h:SlG w a n c M L)(h':SlG w b m d M' L')(hn:n<=1000)(hm':m<=1000) :
  Calls Tryz.prog 133 #[.slice a n c,.slice b m d] w fun e w'=>∃ v,e=.returned v∧OwnL w' w.heap.size v (nmL M n ++ nmL M' m)∧Below w.heap.size w w':=by
 obtain ⟨i0,hi,hz0,hz1,hz2⟩:=info_parts Tryz.infoString;have H1:Hid (_):=h.cells;have H2:Hid (_):=h'.cells;clear h h'
 go_enter Tryz.func133,Tryz.ntmps133
 go_wp2
 go_loopw [5,6] (fun v i wr=>∃ (k g cp mm:Nat),k<=n∧i=.int .i64 k∧v=.slice (some ⟨g,0,none⟩) mm cp∧Hid (mm=(nmL M k).length)∧Hid (mm=0+k)∧OwnL wr w.heap.size (.slice (some ⟨g,0,none⟩) mm cp) (nmL M k)∧Below w.heap.size w wr) (fun _ i _=>n - (intOf i).toNat)
 case atStart=>exact ⟨0,w.heap.size,0,0,nz,rfl,rfl,rfl,rfl,OwnL.new w _ nL,bA⟩
 case round =>
  obtain ⟨k,g,cp,mm,hk,rfl,rfl,hm,hmk,hown,hbel⟩:=hrel
  by_cases hlt:k<n
  ·obtain ⟨q,off,rfl,hq,hc1,_⟩:∃ q off,a=some ⟨q,off,none⟩∧q<w.heap.size∧(∀ i,i<n->w.cell? ⟨q,off+i * 2,none⟩=some (.string (M i)))∧True:=by
    rcases H1.out with h0|⟨q,off,e,hq,h1,_⟩
    ·omega
    exact ⟨q,off,e,hq,h1,trivial⟩
   have hck:wr.cell? ⟨q,off+k * 2,none⟩=some (.string (M k)):=(hbel.cell (by exact hq)).trans (hc1 k hlt);have Hs:Hid (nmL M (k+1)=nmL M k ++ [M k]):=by unfold Hid;exact nmL_succ M k
   clear hc1 H1 H2;generalize nmL M k=l at *;have hmk':=hmk.out;have hm1:mm+1<=maxLen:=by unfold maxLen;omega
   have hm2:(mm+1) * 16<=140737488355328:=by omega
   clear hmk';have hm3:∀ o,w.heap.size<=(wr.alloc o).heap.size:=fun o=>by have:=hbel.size;simp;omega
   have hag:Hid (∀ q,(Value.slice (some ⟨g,0,none⟩) mm cp).ownBlock=some q->w.heap.size<=q):=fun q hq=>by have:=World.ownsRow.lt hown q hq;exact this.1
   have hown':wr.ownsRow w.heap.size 9 1 (.slice (some ⟨g,0,none⟩) mm cp) mm (l.map Value.string):=by have:=hown;unfold OwnL at this;rw [<- hm.out] at this;exact this
   go_wp2_with (at_builtin;refine wpList_append_lies _ rfl _ _ 27 rfl w.heap.size 9 i0 (.string ByteArray.empty) 1 16 Tryz.underlying27 hi hz0 hz1 hz2 rfl (by decide) _ _ _ rfl (World.ownsRow.alloc hown' _) ⟨wr.heap.size,0,none⟩ 1 1 [.string (M k)] rfl rfl (one_cells _ _ _) (one_one _) (by decide) hm1 hm2 (hm3 _) (wr.heap.size+1) (by simp) ?_;intro gg cq w2 hown2 hgrow2 hat2 hlt2)
   have hown3:OwnL w2 w.heap.size (.slice (some ⟨gg,0,none⟩) (mm+1) cq) (l ++ [M k]):=by
    rw [hm.out] at hown2 ⊢;exact OwnL.snoc hown2
   have hB2:Below w.heap.size w w2:=(hbel.alloc (by have:=hbel.size;omega) _).grown hgrow2 (hm3 _) hag.out;go_roundw
   case rel=>exact ⟨k+1,gg,cq,mm+1,by omega,by go_num,rfl,by rw [Hs.out];simp [hm.out,Hid],by have:=hmk.out;unfold Hid;omega,by rw [Hs.out];exact hown3,hB2⟩
   simp [intOf];omega
  have hkn:n=k:=by omega
  rw [<- hkn] at hm hown hmk;clear hkn;go_wp2
  go_loopw [5,7] (fun v i wr=>∃ (k g cp mm:Nat),k<=m∧i=.int .i64 k∧v=.slice (some ⟨g,0,none⟩) mm cp∧Hid (mm=((nmL M n ++ nmL M' k)).length)∧Hid (mm=n+k)∧OwnL wr w.heap.size (.slice (some ⟨g,0,none⟩) mm cp) ((nmL M n ++ nmL M' k))∧Below w.heap.size w wr) (fun _ i _=>m - (intOf i).toNat)
  case atStart=>exact ⟨0,g,cp,mm,nz,rfl,rfl,by simpa [nmL,Hid] using hm.out,by have:=hmk.out;unfold Hid;omega,by simpa [nmL] using hown,hbel⟩
  case round =>
   clear hown hbel hm;obtain ⟨k,g,cp,mm,hk,rfl,rfl,hm,hmk,hown,hbel⟩:=hrel
   by_cases hlt:k<m
   ·obtain ⟨q,off,rfl,hq,hc1,_⟩:∃ q off,b=some ⟨q,off,none⟩∧q<w.heap.size∧(∀ i,i<m->w.cell? ⟨q,off+i * 2,none⟩=some (.string (M' i)))∧True:=by
     rcases H2.out with h0|⟨q,off,e,hq,h1,_⟩
     ·omega
     exact ⟨q,off,e,hq,h1,trivial⟩
    have hck:wr.cell? ⟨q,off+k * 2,none⟩=some (.string (M' k)):=(hbel.cell (by exact hq)).trans (hc1 k hlt);have Hs:Hid ((nmL M n ++ nmL M' (k+1))=(nmL M n ++ nmL M' k) ++ [M' k]):=by unfold Hid;rw [nmL_succ,List.append_assoc]
    clear hc1 H1 H2;generalize (nmL M n ++ nmL M' k)=l at *;have hmk':=hmk.out;have hm1:mm+1<=maxLen:=by unfold maxLen;omega
    have hm2:(mm+1) * 16<=140737488355328:=by omega
    clear hmk';have hm3:∀ o,w.heap.size<=(wr.alloc o).heap.size:=fun o=>by have:=hbel.size;simp;omega
    have hag:Hid (∀ q,(Value.slice (some ⟨g,0,none⟩) mm cp).ownBlock=some q->w.heap.size<=q):=fun q hq=>by have:=World.ownsRow.lt hown q hq;exact this.1
    have hown':wr.ownsRow w.heap.size 9 1 (.slice (some ⟨g,0,none⟩) mm cp) mm (l.map Value.string):=by have:=hown;unfold OwnL at this;rw [<- hm.out] at this;exact this
    go_wp2_with (at_builtin;refine wpList_append_lies _ rfl _ _ 27 rfl w.heap.size 9 i0 (.string ByteArray.empty) 1 16 Tryz.underlying27 hi hz0 hz1 hz2 rfl (by decide) _ _ _ rfl (World.ownsRow.alloc hown' _) ⟨wr.heap.size,0,none⟩ 1 1 [.string (M' k)] rfl rfl (one_cells _ _ _) (one_one _) (by decide) hm1 hm2 (hm3 _) (wr.heap.size+1) (by simp) ?_;intro gg cq w2 hown2 hgrow2 hat2 hlt2)
    have hown3:OwnL w2 w.heap.size (.slice (some ⟨gg,0,none⟩) (mm+1) cq) (l ++ [M' k]):=by
     rw [hm.out] at hown2 ⊢;exact OwnL.snoc hown2
    have hB2:Below w.heap.size w w2:=(hbel.alloc (by have:=hbel.size;omega) _).grown hgrow2 (hm3 _) hag.out;go_roundw
    case rel=>exact ⟨k+1,gg,cq,mm+1,by omega,by go_num,rfl,by rw [Hs.out];simp [hm.out,Hid],by have:=hmk.out;unfold Hid;omega,by rw [Hs.out];exact hown3,hB2⟩
    simp [intOf];omega
   have hkn:k=m:=by omega
   subst hkn;go_wp2
   go_ret;exact ⟨_,rfl,hown,hbel⟩
theorem l5Pw_sl {b:Option Addr} {d:Nat} (p e : Ev) (own : Int) (w : World) (h : SlG w a p.ng c p.M p.L) (h' : SlG w b e.ng d e.M e.L) (hn : p.ng <= 1000) (hm' : e.ng <= 1000) :
    Calls Tryz.prog 78 #[.slice a p.ng c, .slice b e.ng d, .string e.sd, .int .i64 own] w fun x w' => x = .returned (.bool (pwB p e own)) ∧ Below w.heap.size w w' := by
  have Hv : Hid (evry (fun i => rgN p e own (nmAt p e i)) (p.ng + e.ng) = pwB p e own) := pw_names p e own
  have hsz : ∀ s ∈ nmL p.M p.ng ++ nmL e.M e.ng, s.size <= maxLen := fun s hs => by
    rw [List.mem_append] at hs
    rcases hs with hs | hs
    · obtain ⟨i, hi, rfl⟩ := List.mem_map.1 hs
      exact h.size i (List.mem_range.1 hi)
    · obtain ⟨i, hi, rfl⟩ := List.mem_map.1 hs
      exact h'.size i (List.mem_range.1 hi)
  have hlen : (nmL p.M p.ng ++ nmL e.M e.ng).length = p.ng + e.ng := by rw [List.length_append, nmL_len, nmL_len]
  go_enter Tryz.func78, Tryz.ntmps78
  go_wp2_with fail
  refine (l5Nm_sl w h h' hn hm').mono ?_
  rintro x w1 ⟨v, rfl, hown, hb1⟩
  obtain ⟨va, vc, rfl, hs1, _⟩ := hown.sl hsz
  have HA : Hid (∀ W nm, Below w1.heap.size w1 W -> Calls Tryz.prog 77 #[.slice a p.ng c, .string nm] W fun x w' => x = .returned (gAns (gV p.M p.L nm p.ng)) ∧ w' = W) := fun W nm hW => l5Gr_sl nm W ((h.below hb1).below hW)
  have HB : Hid (∀ W nm, Below w1.heap.size w1 W -> Calls Tryz.prog 77 #[.slice b e.ng d, .string nm] W fun x w' => x = .returned (gAns (gV e.M e.L nm e.ng)) ∧ w' = W) := fun W nm hW => l5Gr_sl nm W ((h'.below hb1).below hW)
  have HC : Hid (_) := hs1.cells
  have HS : Hid (_) := hs1.size
  have HG : Hid (∀ i, i < p.ng + e.ng -> getL (nmL p.M p.ng ++ nmL e.M e.ng) i = nmAt p e i) := fun i hi => nm_get p e i hi
  clear hs1 hown hsz h h'
  rw [hlen] at HC HS ⊢
  clear hlen
  generalize getL (nmL p.M p.ng ++ nmL e.M e.ng) = X at *
  go_wp2
  go_loop [10] (fun i => ∃ k : Nat, k <= p.ng + e.ng ∧ i = .int .i64 k ∧ Hid (evry (fun i => rgN p e own (nmAt p e i)) k = true)) (fun i => p.ng + e.ng - (intOf i).toNat)
  case atStart => exact ⟨0, nz, rfl, rfl⟩
  case round =>
    obtain ⟨k, hk, rfl, hto⟩ := hrel
    by_cases hlt : k < p.ng + e.ng
    · obtain ⟨q, off, rfl, hq, hc1⟩ : ∃ q off, va = some ⟨q, off, none⟩ ∧ q < w1.heap.size ∧ (∀ i, i < p.ng + e.ng -> w1.cell? ⟨q, off + i, none⟩ = some (.string (X i))) := by
        rcases HC.out with h0 | ⟨q, off, e, hq, h1⟩
        · omega
        · exact ⟨q, off, e, hq, h1⟩
      have hck : w1.cell? ⟨q, off + k, none⟩ = some (.string (X k)) := hc1 k hlt
      have Hsz : Hid ((X k).size <= maxLen) := HS.out k hlt
      have Hr : Hid (rgN p e own (nmAt p e k) = rgB (gV p.M p.L (X k) p.ng) (gV e.M e.L (X k) e.ng) own (X k) e.sd) := by unfold Hid; rw [HG.out k hlt]; rfl
      have Hno : Hid (rgN p e own (nmAt p e k) = false -> pwB p e own = false) := fun h0 => by rw [<- Hv.out]; exact evry_le _ _ k hlt h0
      have Hyes : Hid (rgN p e own (nmAt p e k) = true -> evry (fun i => rgN p e own (nmAt p e i)) (k + 1) = true) := fun h0 => by rw [evry, hto.out, h0]; rfl
      clear hc1 HC HS HG hto Hv
      generalize X k = nm at *
      generalize rgN p e own (nmAt p e k) = rg at *
      go_wp2_with fail
      refine (HA.out _ nm kB).mono ?_
      rintro x w2 ⟨rfl, rfl⟩
      unfold gAns
      go_wp2_with fail
      refine (HB.out _ nm kB).mono ?_
      rintro x w3 ⟨rfl, rfl⟩
      unfold gAns
      clear HA HB
      cases hA : gV p.M p.L nm p.ng with
      | none =>
        cases hB : gV e.M e.L nm e.ng with
        | none =>
          simp only [Option.getD_none, Option.isSome_none]
          have Hy : Hid (_ = _) := Hyes.out (by rw [Hr.out, hA, hB]; rfl)
          clear Hr Hno Hyes hA hB
          go_wp2
          go_round
          case rel => exact ⟨k + 1, by omega, by go_num, Hy⟩
          case measure => simp [intOf]; omega
        | some y =>
          simp only [Option.getD_none, Option.isSome_none, Option.getD_some, Option.isSome_some]
          by_cases h1 : own < y
          · have Hn : Hid (_ = _) := Hno.out (by rw [Hr.out, hA, hB]; simp [rgB, h1])
            clear Hr Hno Hyes hA hB
            go_wp2
            go_ret
            exact ⟨by rw [Hn.out]; rfl, hb1⟩
          · have Hy : Hid (_ = _) := Hyes.out (by rw [Hr.out, hA, hB]; simp [rgB, h1])
            clear Hr Hno Hyes hA hB
            go_wp2_with fail
            refine (word_any nm _ Hsz.out).mono ?_
            rintro x w4 ⟨rfl, rfl⟩
            cases hW : isW nm <;> cases hN : (nm.toList == e.sd.toList)
            all_goals
              go_wp2
              go_round
              case rel => exact ⟨k + 1, by omega, by go_num, Hy⟩
              case measure => simp [intOf]; omega
      | some x =>
        cases hB : gV e.M e.L nm e.ng with
        | none =>
          simp only [Option.getD_none, Option.isSome_none, Option.getD_some, Option.isSome_some]
          by_cases h1 : own < x
          · have Hn : Hid (_ = _) := Hno.out (by rw [Hr.out, hA, hB]; simp [rgB, h1])
            clear Hr Hno Hyes hA hB
            go_wp2
            go_ret
            exact ⟨by rw [Hn.out]; rfl, hb1⟩
          · go_wp2_with fail
            refine (word_any nm _ Hsz.out).mono ?_
            rintro x' w4 ⟨rfl, rfl⟩
            cases hW : isW nm <;> cases hN : (nm.toList == e.sd.toList) <;> by_cases h2 : own <= x
            all_goals first
              | (have Hy : Hid (_ = _) := Hyes.out (by rw [Hr.out, hA, hB]; simp [rgB, h1, hW, hN, h2])
                 clear Hr Hno Hyes hA hB
                 go_wp2
                 go_round
                 case rel => exact ⟨k + 1, by omega, by go_num, Hy⟩
                 case measure => simp [intOf]; omega)
              | (have Hn : Hid (_ = _) := Hno.out (by rw [Hr.out, hA, hB]; simp [rgB, hW, hN, h2])
                 clear Hr Hno Hyes hA hB
                 go_wp2
                 go_ret
                 exact ⟨by rw [Hn.out]; rfl, hb1⟩)
        | some y =>
          simp only [Option.getD_some, Option.isSome_some]
          by_cases h0 : x = y
          · have Hy : Hid (_ = _) := Hyes.out (by rw [Hr.out, hA, hB]; simp [rgB, h0])
            clear Hr Hno Hyes hA hB
            go_wp2
            go_round
            case rel => exact ⟨k + 1, by omega, by go_num, Hy⟩
            case measure => simp [intOf]; omega
          by_cases h1 : own < x
          · have Hn : Hid (_ = _) := Hno.out (by rw [Hr.out, hA, hB]; simp [rgB, h0, h1])
            clear Hr Hno Hyes hA hB
            go_wp2
            go_ret
            exact ⟨by rw [Hn.out]; rfl, hb1⟩
          by_cases h3 : own < y
          · have Hn : Hid (_ = _) := Hno.out (by rw [Hr.out, hA, hB]; simp [rgB, h0, h3])
            clear Hr Hno Hyes hA hB
            go_wp2
            go_ret
            exact ⟨by rw [Hn.out]; rfl, hb1⟩
          · go_wp2_with fail
            refine (word_any nm _ Hsz.out).mono ?_
            rintro x' w4 ⟨rfl, rfl⟩
            cases hW : isW nm <;> cases hN : (nm.toList == e.sd.toList) <;> by_cases h2 : own <= x
            all_goals first
              | (have Hy : Hid (_ = _) := Hyes.out (by rw [Hr.out, hA, hB]; simp [rgB, h0, h1, h3, hW, hN, h2])
                 clear Hr Hno Hyes hA hB
                 go_wp2
                 go_round
                 case rel => exact ⟨k + 1, by omega, by go_num, Hy⟩
                 case measure => simp [intOf]; omega)
              | (have Hn : Hid (_ = _) := Hno.out (by rw [Hr.out, hA, hB]; simp [rgB, h0, hW, hN, h2])
                 clear Hr Hno Hyes hA hB
                 go_wp2
                 go_ret
                 exact ⟨by rw [Hn.out]; rfl, hb1⟩)
    · have hkn : k = p.ng + e.ng := by omega
      have Hz : Hid (pwB p e own = true) := by unfold Hid; rw [<- Hv.out, <- hkn]; exact hto.out
      clear hto Hv
      go_wp2
      go_ret
      exact ⟨by rw [Hz.out]; rfl, hb1⟩
end Go.Proofs.YtkdalopokdhndaaGreat
