import Derived.Test.YtpfeegcdlikegaaGreatAlSZ
set_option maxHeartbeats 16000000
set_option maxRecDepth 100000
namespace Go.Proofs.YtpfeegcdlikegaaGreat
open Go.RowKit Go.Proofs.Tryz
variable {a:Option Addr}{c m n:Nat}{M:Nat->ByteArray}{L:Nat->Int}
def lH (M:Nat->ByteArray)(k:Nat):List ByteArray:=(List.range k).map M
theorem oN (M:Nat->ByteArray)(k:Nat):(lH M k).length=k:=by simp [lH]
theorem zP (M:Nat->ByteArray)(k:Nat):lH M (k+1)=lH M k ++ [M k]:=by simp [lH,List.range_succ]
theorem XO (p e:Ev)(i:Nat)(hi:i<p.ng+e.ng):aG (lH p.M p.ng ++ lH e.M e.ng) i=nO p e i:=by
 unfold aG nO;split
 ·rename_i h
  rw [List.getD,List.getElem?_append_left (by rw [oN];exact h)];simp [lH,h]
 rename_i h;rw [List.getD,List.getElem?_append_right (by rw [oN];omega),oN]
 have:i - p.ng<e.ng:=by omega
 simp [lH,this]
theorem SY {b:Option Addr}{d:Nat}{M':Nat->ByteArray}{L':Nat->Int}(w:World)(h:gN w a n c M L)(h':gN w b m d M' L')(hn:n<=1000)(a6:m<=1000) :
  Calls prog 90 #[.slice a n c,.slice b m d] w fun e w'=>∃ v,e=.returned v/\aH w' w.heap.size v (lH M n ++ lH M' m)/\Below w.heap.size w w':=by
 obtain ⟨i0,hi,ao,ak,ap⟩:=info_parts Tryz.infoString;have H1:He (_):=h.cells;have H2:He (_):=h'.cells;clear h h'
 go_enter func90,ntmps90
 go_wp2
 go_loopw [5,6] (fun v i wr=>∃ (k g cp H:Nat),k<=n/\i=.int .i64 k/\v=.slice (some ⟨g,0,none⟩) H cp/\He (H=(lH M k).length)/\He (H=0+k)/\aH wr w.heap.size (.slice (some ⟨g,0,none⟩) H cp) (lH M k)/\Below w.heap.size w wr) (fun _ i _=>n - (intOf i).toNat)
 case atStart=>exact ⟨0,w.heap.size,0,0,nz,rfl,rfl,rfl,rfl,aH.new w _ nL,bA⟩
 case round =>
  obtain ⟨k,g,cp,H,hk,rfl,rfl,hm,O,G,u⟩:=hrel
  by_cases aj:k<n
  ·obtain ⟨q,off,rfl,hq,Y,_⟩:∃ q off,a=some ⟨q,off,none⟩/\q<w.heap.size/\(∀ i,i<n->w.cell? ⟨q,off+i * 2,none⟩=some (.string (M i)))/\True:=by
    rcases H1.o with h0|⟨q,off,e,hq,h1,_⟩
    ·omega
    exact ⟨q,off,e,hq,h1,trivial⟩
   have a2:wr.cell? ⟨q,off+k * 2,none⟩=some (.string (M k)):=(u.cell (by exact hq)).trans (Y k aj);have Hs:He (lH M (k+1)=lH M k ++ [M k]):=by unfold He;exact zP M k
   clear Y H1 H2;generalize lH M k=l at *;have Z:=O.o;have af:H+1<=maxLen:=by unfold maxLen;omega
   have ah:(H+1) * 16<=140737488355328:=by omega
   clear Z;have ab:∀ o,w.heap.size<=(wr.alloc o).heap.size:=fun o=>by have:=u.size;simp;omega
   have ag:He (∀ q,(Value.slice (some ⟨g,0,none⟩) H cp).ownBlock=some q->w.heap.size<=q):=fun q hq=>by have:=World.ownsRow.lt G q hq;exact this.1
   have N:wr.ownsRow w.heap.size 9 1 (.slice (some ⟨g,0,none⟩) H cp) H (l.map Value.string):=by have:=G;unfold aH at this;rw [<- hm.o] at this;exact this
   go_wp2_with (at_builtin;refine wpList_append_lies _ rfl _ _ 27 rfl w.heap.size 9 i0 (.string ByteArray.empty) 1 16 underlying27 hi ao ak ap rfl (by decide) _ _ _ rfl (World.ownsRow.alloc N _) ⟨wr.heap.size,0,none⟩ 1 1 [.string (M k)] rfl rfl (aV _ _ _) (bL _) (by decide) af ah (ab _) (wr.heap.size+1) (by simp) ?_;intro gg cq w2 I J au aq)
   have U:aH w2 w.heap.size (.slice (some ⟨gg,0,none⟩) (H+1) cq) (l ++ [M k]):=by
    rw [hm.o] at I ⊢;exact aH.snoc I
   have ai:Below w.heap.size w w2:=(u.alloc (by have:=u.size;omega) _).grown J (ab _) ag.o;go_roundw
   case rel=>exact ⟨k+1,gg,cq,H+1,by omega,by go_num,rfl,by rw [Hs.o];simp [hm.o,He],by have:=O.o;unfold He;omega,by rw [Hs.o];exact U,ai⟩
   simp [intOf];omega
  have ae:n=k:=by omega
  rw [<- ae] at hm G O;clear ae;go_wp2
  go_loopw [5,7] (fun v i wr=>∃ (k g cp H:Nat),k<=m/\i=.int .i64 k/\v=.slice (some ⟨g,0,none⟩) H cp/\He (H=((lH M n ++ lH M' k)).length)/\He (H=n+k)/\aH wr w.heap.size (.slice (some ⟨g,0,none⟩) H cp) ((lH M n ++ lH M' k))/\Below w.heap.size w wr) (fun _ i _=>m - (intOf i).toNat)
  case atStart=>exact ⟨0,g,cp,H,nz,rfl,rfl,by simpa [lH,He] using hm.o,by have:=O.o;unfold He;omega,by simpa [lH] using G,u⟩
  case round =>
   clear G u hm;obtain ⟨k,g,cp,H,hk,rfl,rfl,hm,O,G,u⟩:=hrel
   by_cases aj:k<m
   ·obtain ⟨q,off,rfl,hq,Y,_⟩:∃ q off,b=some ⟨q,off,none⟩/\q<w.heap.size/\(∀ i,i<m->w.cell? ⟨q,off+i * 2,none⟩=some (.string (M' i)))/\True:=by
     rcases H2.o with h0|⟨q,off,e,hq,h1,_⟩
     ·omega
     exact ⟨q,off,e,hq,h1,trivial⟩
    have a2:wr.cell? ⟨q,off+k * 2,none⟩=some (.string (M' k)):=(u.cell (by exact hq)).trans (Y k aj);have Hs:He ((lH M n ++ lH M' (k+1))=(lH M n ++ lH M' k) ++ [M' k]):=by unfold He;rw [zP,List.append_assoc]
    clear Y H1 H2;generalize (lH M n ++ lH M' k)=l at *;have Z:=O.o;have af:H+1<=maxLen:=by unfold maxLen;omega
    have ah:(H+1) * 16<=140737488355328:=by omega
    clear Z;have ab:∀ o,w.heap.size<=(wr.alloc o).heap.size:=fun o=>by have:=u.size;simp;omega
    have ag:He (∀ q,(Value.slice (some ⟨g,0,none⟩) H cp).ownBlock=some q->w.heap.size<=q):=fun q hq=>by have:=World.ownsRow.lt G q hq;exact this.1
    have N:wr.ownsRow w.heap.size 9 1 (.slice (some ⟨g,0,none⟩) H cp) H (l.map Value.string):=by have:=G;unfold aH at this;rw [<- hm.o] at this;exact this
    go_wp2_with (at_builtin;refine wpList_append_lies _ rfl _ _ 27 rfl w.heap.size 9 i0 (.string ByteArray.empty) 1 16 underlying27 hi ao ak ap rfl (by decide) _ _ _ rfl (World.ownsRow.alloc N _) ⟨wr.heap.size,0,none⟩ 1 1 [.string (M' k)] rfl rfl (aV _ _ _) (bL _) (by decide) af ah (ab _) (wr.heap.size+1) (by simp) ?_;intro gg cq w2 I J au aq)
    have U:aH w2 w.heap.size (.slice (some ⟨gg,0,none⟩) (H+1) cq) (l ++ [M' k]):=by
     rw [hm.o] at I ⊢;exact aH.snoc I
    have ai:Below w.heap.size w w2:=(u.alloc (by have:=u.size;omega) _).grown J (ab _) ag.o;go_roundw
    case rel=>exact ⟨k+1,gg,cq,H+1,by omega,by go_num,rfl,by rw [Hs.o];simp [hm.o,He],by have:=O.o;unfold He;omega,by rw [Hs.o];exact U,ai⟩
    simp [intOf];omega
   have ae:k=m:=by omega
   subst ae;go_wp2
   go_ret;exact ⟨_,rfl,G,u⟩
theorem rG {b:Option Addr} {d:Nat} (p e : Ev) (own : Int) (w : World) (h : gN w a p.ng c p.M p.L) (h' : gN w b e.ng d e.M e.L) (hn : p.ng <= 1000) (ap : e.ng <= 1000) :
    Calls prog 52 #[.slice a p.ng c, .slice b e.ng d, .string e.sd, .int .i64 own] w fun x w' => x = .returned (.bool (jU p e own)) /\ Below w.heap.size w w' := by
  have Hv : He (eJ (fun i => pJ p e own (nO p e i)) (p.ng + e.ng) = jU p e own) := NT p e own
  have ai : ∀ s ∈ lH p.M p.ng ++ lH e.M e.ng, s.size <= maxLen := fun s hs => by
    rw [List.mem_append] at hs
    rcases hs with hs | hs
    · obtain ⟨i, hi, rfl⟩ := List.mem_map.1 hs
      exact h.size i (List.mem_range.1 hi)
    · obtain ⟨i, hi, rfl⟩ := List.mem_map.1 hs
      exact h'.size i (List.mem_range.1 hi)
  have ad : (lH p.M p.ng ++ lH e.M e.ng).length = p.ng + e.ng := by rw [List.length_append, oN, oN]
  go_enter func52, ntmps52
  go_wp2_with fail
  refine (SY w h h' hn ap).mono ?_
  rintro x w1 ⟨v, rfl, ae, I⟩
  obtain ⟨va, vc, rfl, af, _⟩ := ae.sl ai
  have HA : He (∀ W H, Below w1.heap.size w1 W -> Calls prog 51 #[.slice a p.ng c, .string H] W fun x w' => x = .returned (fQ (gV p.M p.L H p.ng)) /\ w' = W) := fun W H U => mR H W ((h.below I).below U)
  have HB : He (∀ W H, Below w1.heap.size w1 W -> Calls prog 51 #[.slice b e.ng d, .string H] W fun x w' => x = .returned (fQ (gV e.M e.L H e.ng)) /\ w' = W) := fun W H U => mR H W ((h'.below I).below U)
  have HC : He (_) := af.cells
  have HS : He (_) := af.size
  have HG : He (∀ i, i < p.ng + e.ng -> aG (lH p.M p.ng ++ lH e.M e.ng) i = nO p e i) := fun i hi => XO p e i hi
  clear af ae ai h h'
  rw [ad] at HC HS ⊢
  clear ad
  generalize aG (lH p.M p.ng ++ lH e.M e.ng) = X at *
  go_wp2
  go_loop [10] (fun i => ∃ k : Nat, k <= p.ng + e.ng /\ i = .int .i64 k /\ He (eJ (fun i => pJ p e own (nO p e i)) k = true)) (fun i => p.ng + e.ng - (intOf i).toNat)
  case atStart => exact ⟨0, nz, rfl, rfl⟩
  case round =>
    obtain ⟨k, hk, rfl, Y⟩ := hrel
    by_cases ab : k < p.ng + e.ng
    · obtain ⟨q, off, rfl, hq, aj⟩ : ∃ q off, va = some ⟨q, off, none⟩ /\ q < w1.heap.size /\ (∀ i, i < p.ng + e.ng -> w1.cell? ⟨q, off + i, none⟩ = some (.string (X i))) := by
        rcases HC.o with N | ⟨q, off, e, hq, O⟩
        · omega
        · exact ⟨q, off, e, hq, O⟩
      have a8 : w1.cell? ⟨q, off + k, none⟩ = some (.string (X k)) := aj k ab
      have ag : He ((X k).size <= maxLen) := HS.o k ab
      have Hr : He (pJ p e own (nO p e k) = IP (gV p.M p.L (X k) p.ng) (gV e.M e.L (X k) e.ng) own (X k) e.sd) := by unfold He; rw [HG.o k ab]; rfl
      have G : He (pJ p e own (nO p e k) = false -> jU p e own = false) := fun N => by rw [<- Hv.o]; exact xU _ _ k ab N
      have u : He (pJ p e own (nO p e k) = true -> eJ (fun i => pJ p e own (nO p e i)) (k + 1) = true) := fun N => by rw [eJ, Y.o, N]; rfl
      clear aj HC HS HG Y Hv
      generalize X k = H at *
      generalize pJ p e own (nO p e k) = rg at *
      go_wp2_with fail
      refine (HA.o _ H kB).mono ?_
      rintro x w2 ⟨rfl, rfl⟩
      unfold fQ
      go_wp2_with fail
      refine (HB.o _ H kB).mono ?_
      rintro x w3 ⟨rfl, rfl⟩
      unfold fQ
      clear HA HB
      cases hA : gV p.M p.L H p.ng with
      | none =>
        cases hB : gV e.M e.L H e.ng with
        | none =>
          simp only [Option.getD_none, Option.isSome_none]
          have Z : He (_ = _) := u.o (by rw [Hr.o, hA, hB]; rfl)
          clear Hr G u hA hB
          go_wp2
          go_round
          case rel => exact ⟨k + 1, by omega, by go_num, Z⟩
          case measure => simp [intOf]; omega
        | some y =>
          simp only [Option.getD_none, Option.isSome_none, Option.getD_some, Option.isSome_some]
          by_cases O : own < y
          · have J : He (_ = _) := G.o (by rw [Hr.o, hA, hB]; simp [IP, O])
            clear Hr G u hA hB
            go_wp2
            go_ret
            exact ⟨by rw [J.o]; rfl, I⟩
          · have Z : He (_ = _) := u.o (by rw [Hr.o, hA, hB]; simp [IP, O])
            clear Hr G u hA hB
            go_wp2_with fail
            refine (aW H _ ag.o).mono ?_
            rintro x w4 ⟨rfl, rfl⟩
            cases U : cU H <;> cases hN : (H.toList == e.sd.toList)
            all_goals
              go_wp2
              go_round
              case rel => exact ⟨k + 1, by omega, by go_num, Z⟩
              case measure => simp [intOf]; omega
      | some x =>
        cases hB : gV e.M e.L H e.ng with
        | none =>
          simp only [Option.getD_none, Option.isSome_none, Option.getD_some, Option.isSome_some]
          by_cases O : own < x
          · have J : He (_ = _) := G.o (by rw [Hr.o, hA, hB]; simp [IP, O])
            clear Hr G u hA hB
            go_wp2
            go_ret
            exact ⟨by rw [J.o]; rfl, I⟩
          · go_wp2_with fail
            refine (aW H _ ag.o).mono ?_
            rintro x' w4 ⟨rfl, rfl⟩
            cases U : cU H <;> cases hN : (H.toList == e.sd.toList) <;> by_cases h2 : own <= x
            all_goals first
              | (have Z : He (_ = _) := u.o (by rw [Hr.o, hA, hB]; simp [IP, O, U, hN, h2])
                 clear Hr G u hA hB
                 go_wp2
                 go_round
                 case rel => exact ⟨k + 1, by omega, by go_num, Z⟩
                 case measure => simp [intOf]; omega)
              | (have J : He (_ = _) := G.o (by rw [Hr.o, hA, hB]; simp [IP, U, hN, h2])
                 clear Hr G u hA hB
                 go_wp2
                 go_ret
                 exact ⟨by rw [J.o]; rfl, I⟩)
        | some y =>
          simp only [Option.getD_some, Option.isSome_some]
          by_cases N : x = y
          · have Z : He (_ = _) := u.o (by rw [Hr.o, hA, hB]; simp [IP, N])
            clear Hr G u hA hB
            go_wp2
            go_round
            case rel => exact ⟨k + 1, by omega, by go_num, Z⟩
            case measure => simp [intOf]; omega
          by_cases O : own < x
          · have J : He (_ = _) := G.o (by rw [Hr.o, hA, hB]; simp [IP, N, O])
            clear Hr G u hA hB
            go_wp2
            go_ret
            exact ⟨by rw [J.o]; rfl, I⟩
          by_cases h3 : own < y
          · have J : He (_ = _) := G.o (by rw [Hr.o, hA, hB]; simp [IP, N, h3])
            clear Hr G u hA hB
            go_wp2
            go_ret
            exact ⟨by rw [J.o]; rfl, I⟩
          · go_wp2_with fail
            refine (aW H _ ag.o).mono ?_
            rintro x' w4 ⟨rfl, rfl⟩
            cases U : cU H <;> cases hN : (H.toList == e.sd.toList) <;> by_cases h2 : own <= x
            all_goals first
              | (have Z : He (_ = _) := u.o (by rw [Hr.o, hA, hB]; simp [IP, N, O, h3, U, hN, h2])
                 clear Hr G u hA hB
                 go_wp2
                 go_round
                 case rel => exact ⟨k + 1, by omega, by go_num, Z⟩
                 case measure => simp [intOf]; omega)
              | (have J : He (_ = _) := G.o (by rw [Hr.o, hA, hB]; simp [IP, N, U, hN, h2])
                 clear Hr G u hA hB
                 go_wp2
                 go_ret
                 exact ⟨by rw [J.o]; rfl, I⟩)
    · have au : k = p.ng + e.ng := by omega
      have Hz : He (jU p e own = true) := by unfold He; rw [<- Hv.o, <- au]; exact Y.o
      clear Y Hv
      go_wp2
      go_ret
      exact ⟨by rw [Hz.o]; rfl, I⟩
end Go.Proofs.YtpfeegcdlikegaaGreat
