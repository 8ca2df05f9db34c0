import Derived.Test.YtkdalopokdhndaaGreatPoNZ
set_option maxHeartbeats 16000000
set_option maxRecDepth 100000
namespace Go.Proofs.YtkdalopokdhndaaGreat
open Go.RowKit
variable {s:ByteArray}{e:Ev}
abbrev tMem:ByteArray:=⟨#[109,101,109,98,101,114]⟩
abbrev tRul:ByteArray:=⟨#[106,111,105,110,95,114,117,108,101,115]⟩
abbrev tLea:ByteArray:=⟨#[108,101,97,118,101]⟩
abbrev tAct:ByteArray:=⟨#[97,99,116]⟩
abbrev tSta:ByteArray:=⟨#[115,116,97,116,101]⟩
abbrev tBan:ByteArray:=⟨#[98,97,110]⟩
abbrev tKic:ByteArray:=⟨#[107,105,99,107]⟩
abbrev tInv:ByteArray:=⟨#[105,110,118,105,116,101]⟩
abbrev View:=ByteArray->ByteArray->Option Ev
def evO (E:Nat->Ev)(n:Nat)(l:List Ent):View:=fun ty key=>if 0<=atV E n l ty key then some (E (atV E n l ty key).toNat) else none
def isJoin (t:ByteArray):Bool:=t.toList == [106,111,105,110]
def isInv (t:ByteArray):Bool:=t.toList == [105,110,118,105,116,101]
def isLea (t:ByteArray):Bool:=t.toList == [108,101,97,118,101]
def isBan (t:ByteArray):Bool:=t.toList == [98,97,110]
def isPub (t:ByteArray):Bool:=t.toList == [112,117,98,108,105,99]
def isKic (t:ByteArray):Bool:=t.toList == [107,105,99,107]
def isSta (t:ByteArray):Bool:=t.toList == [115,116,97,116,101]
def lvO (o:View)(u:ByteArray):Int:=match o tPow tNil with
 | some p=>byG p u
 | none=>match o tCre tNil with
  | some c=>if (c.sd.toList == u.toList)=true then 100 else 0
  | none=>0
def thO (o:View)(nm:ByteArray)(z:Int):Int:=match o tPow tNil with
 | some p=>(gV p.M p.L nm p.ng).getD z
 | none=>z
def dfV (o:View)(t:ByteArray):Int:=if isBan t || isKic t || (isSta t && (o tPow tNil).isSome) then 50 else 0
def tgV (o:View)(t:ByteArray):Int:=thO o (⟨#[42]⟩ ++ t) (dfV o t)
def memO (o:View)(u:ByteArray):ByteArray:=match o tMem u with
 | some m=>m.val
 | none=>tLea
def pubB (o:View):Bool:=match o tRul tNil with
 | some r=>isPub r.val
 | none=>false
def creB (o:View)(u:ByteArray):Bool:=match o tCre tNil with
 | some c=>c.sd.toList == u.toList
 | none=>false
def expB (t:ByteArray):Bool:=isJoin t || isInv t
def joV (o:View)(e:Ev):Int:=if (e.sd.toList == e.key.toList)=false then 3 else if isBan (memO o e.key) then 4 else if expB (memO o e.key) || pubB o || (creB o e.sd && (o tMem e.key).isNone) then 0 else 5
def meV (o:View)(e:Ev):Int :=
 if isInv e.val then (if isJoin (memO o e.key) || isBan (memO o e.key) then 7 else if lvO o e.sd<tgV o tInv then 8 else 0)
 else if (isBan e.val || isBan (memO o e.key)) && decide (lvO o e.sd<tgV o tBan) then 8
 else if isLea e.val && decide (lvO o e.sd<tgV o tKic) then 8
 else if lvO o e.sd<=lvO o e.key then 9 else 0
def rgB (a b:Option Int)(own:Int)(nm sd:ByteArray):Bool :=
 if (a.isSome == b.isSome) && decide (a.getD 0=b.getD 0) then true
 else if (a.isSome && decide (own<a.getD 0)) || (b.isSome && decide (own<b.getD 0)) then false
 else !(isW nm && !(nm.toList == sd.toList) && a.isSome && decide (own<=a.getD 0))
def rgN (p e:Ev)(own:Int)(nm:ByteArray):Bool:=rgB (gV p.M p.L nm p.ng) (gV e.M e.L nm e.ng) own nm e.sd
def evry (f:Nat->Bool):Nat->Bool
 | 0=>true
 | k+1=>evry f k && f k
theorem evry_le (f:Nat->Bool):∀ m k,k<m->f k=false->evry f m=false
 | m+1,k,h,h1=>by
  by_cases e:k=m
  ·subst e;rw [evry,h1,Bool.and_false]
  rw [evry,evry_le f m k (by omega) h1];rfl
def pwB (p e:Ev)(own:Int):Bool:=evry (fun i=>rgN p e own (p.M i)) p.ng && evry (fun i=>rgN p e own (e.M i)) e.ng
def nmAt (p e:Ev)(i:Nat):ByteArray:=if i<p.ng then p.M i else e.M (i - p.ng)
theorem evry_congr {f g:Nat->Bool}:∀ {m},(∀ i,i<m->f i=g i)->evry f m=evry g m
 | 0,_=>rfl
 | m+1,h=>by rw [evry,evry,h m (by omega),evry_congr (fun i hi=>h i (by omega))]
theorem pw_names (p e:Ev)(own:Int):evry (fun i=>rgN p e own (nmAt p e i)) (p.ng+e.ng)=pwB p e own:=by
 have h1:∀ k,evry (fun i=>rgN p e own (nmAt p e i)) (p.ng+k)=(evry (fun i=>rgN p e own (nmAt p e i)) p.ng && evry (fun i=>rgN p e own (e.M i)) k):=fun k=>by
  induction k with
  | zero=>simp [evry]
  | succ k ih =>
   rw [show p.ng+(k+1)=(p.ng+k)+1 by omega,evry,ih,evry,Bool.and_assoc]
   congr 3
   unfold nmAt;rw [if_neg (by omega),show p.ng+k - p.ng=k by omega]
 rw [h1];unfold pwB
 congr 1
 exact evry_congr fun i hi=>by unfold nmAt;rw [if_pos hi]
def ndV (o:View)(e:Ev):Int:=thO o (⟨#[35]⟩ ++ e.ty) (tgV o (if e.st then tSta else tAct))
def atB (s:ByteArray):Bool:=if h:0<s.size then decide ((s[0].toNat:Int)=64) else false
theorem atB_none (h:s.toList.isEmpty=true):atB s=false:=by
 unfold atB;rw [dif_neg];intro h0;rw [ByteArray.toList_eq] at h;have h1:s.data.toList=[]:=by simpa using h
 have h2:s.size=s.data.toList.length:=rfl;rw [h1,List.length_nil] at h2;omega
theorem size_pos (h:s.toList.isEmpty=false):0<s.size:=by
 rw [ByteArray.toList_eq] at h;have h2:s.size=s.data.toList.length:=rfl;rw [h2]
 cases hs:s.data.toList with
 | nil=>rw [hs] at h;cases h
 | cons x l=>simp
def tlV (o:View)(e:Ev):Int :=
 if lvO o e.sd<ndV o e then 8
 else if atB e.key && !(e.key.toList == e.sd.toList) then 11
 else match o tPow tNil with
  | some p=>if isPow e && !pwB p e (lvO o e.sd) then 12 else 0
  | none=>0
def alV (o:View)(e:Ev):Int :=
 if isCr e then (if (o tCre tNil).isSome then 1 else 0)
 else if (o tCre tNil).isNone then 2
 else if isMb e && isJn e then joV o e
 else if isMb e && isLea e.val && (e.sd.toList == e.key.toList) then (if expB (memO o e.key) then 0 else 10)
 else if isJoin (memO o e.sd)=false then 6
 else if isMb e then meV o e
 else tlV o e
theorem lvO_evO (E:Nat->Ev)(n:Nat)(l:List Ent)(u:ByteArray):lvO (evO E n l) u=lvV E n l u:=by
 unfold lvO lvV evO
 by_cases hp:0<=atV E n l tPow tNil
 ·simp only [hp,if_true]
 simp only [hp,if_false]
 by_cases hc:0<=atV E n l tCre tNil
 ·simp only [hc,if_true,true_and]
 simp only [hc,if_false,false_and]
theorem ev_key (h:e.code=0):e.key.toList.isEmpty=true∨(e.st=true∧isW e.key=true):=by
 unfold Ev.code evCode at h;split at h
 ·cases h
 split at h
 ·cases h
 rename_i h2;cases hk:e.key.toList.isEmpty
 ·refine Or.inr ⟨?_,?_⟩
  ·cases hs:e.st
   ·exact absurd ⟨hk,Or.inl hs⟩ h2
   rfl
  cases hs:isW e.key
  ·exact absurd ⟨hk,Or.inr hs⟩ h2
  rfl
 exact Or.inl rfl
theorem ev_ws (h:e.code=0):isW e.sd=true∧isW e.ty=true:=by
 unfold Ev.code evCode at h;split at h
 ·cases h
 rename_i h1;simp only [not_or,Bool.not_eq_false] at h1;exact h1.2
variable {x:ByteArray}{j k n cap:Nat}{S:Nat->ByteArray}{a:Option Addr}
def L2Post (w:World)(S:Nat->ByteArray)(n:Nat)(e:Ending)(w':World):Prop :=
 ∃ v l,e=.returned v∧OwnL w' w.heap.size v l∧Srt l∧(∀ s,s ∈ l↔∃ i,i<n∧S i=s)∧Below w.heap.size w w'
theorem ins_done {l:List ByteArray}(h:Srt l)(hx:x ∉ l)(hj:j<=l.length)(hhi:∀ i,j<=i->i<l.length->x.data.toList<(getL l i).data.toList)
  (hstop:j=0∨∃ q,j=q+1∧¬ x.data.toList<(getL l q).data.toList):Srt (insAt l j x):=by
 refine insAt_srt h (fun i hi hl=>?_) hhi;rcases hstop with h0|⟨q,rfl,hq⟩
 ·omega
 have h1:(getL l q).data.toList<x.data.toList:=by
  rcases List.le_iff_lt_or_eq.1 (List.not_lt.1 hq) with h'|h'
  ·exact h'
  exact absurd (ba_inj h' ▸ getL_mem (by omega)) hx
 by_cases e:i=q
 ·subst e;exact h1
 exact List.lt_trans (srt_get h (show i<q by omega) (by omega)) h1
theorem mem_more {l l':List ByteArray}(h:∀ s,s ∈ l↔∃ i,i<k∧S i=s)(h':∀ s,s ∈ l'↔s=S k∨s ∈ l)(s:ByteArray):s ∈ l'↔∃ i,i<k+1∧S i=s:=by
 rw [h',h];constructor
 ·rintro (rfl|⟨i,hi,e⟩)
  ·exact ⟨k,by omega,rfl⟩
  exact ⟨i,by omega,e⟩
 rintro ⟨i,hi,e⟩
 by_cases ek:i=k
 ·subst ek;exact Or.inl e.symm
 exact Or.inr ⟨i,by omega,e⟩
theorem l2s_any (b off n cap:Nat)(S:Nat->ByteArray)(w:World)(hn:n<=1048576)(hb:b<w.heap.size)(hc:∀ i,i<n->w.cell? ⟨b,off+i,none⟩=some (.string (S i))) :
  Calls Tryz.prog 169 #[.slice (some ⟨b,off,none⟩) n cap] w (L2Post w S n):=by
 obtain ⟨i0,hi,hz0,hz1,hz2⟩:=info_parts Tryz.infoString
 go_enter Tryz.func169,Tryz.ntmps169
 go_wp2
 go_loopw [3,4] (fun v i wr=>∃ (k:Nat) (l:List ByteArray) (g cp m:Nat),k<=n∧i=.int .i64 k∧v=.slice (some ⟨g,0,none⟩) m cp∧Hid (m=l.length)∧m<=k∧OwnL wr w.heap.size (.slice (some ⟨g,0,none⟩) m cp) l∧Hid (Srt l)∧Hid (∀ s,s ∈ l↔∃ i,i<k∧S i=s)∧Below w.heap.size w wr) (fun _ i _=>n - (intOf i).toNat)
 case atStart=>exact ⟨0,[],w.heap.size,0,0,nz,rfl,rfl,rfl,nL,OwnL.new w _ nL,List.Pairwise.nil,fun s=>by simp,bA⟩
 case round =>
  obtain ⟨k,l,g,cp,m,hk,rfl,rfl,hm,hmk,hown,hsrt,hmem,hbel⟩:=hrel
  by_cases hlt:k<n
  ·have hck:wr.cell? ⟨b,off+k,none⟩=some (.string (S k)):=(hbel.cell (by exact hb)).trans (hc k hlt)
   have hcl:∀ i,i<m->wr.cell? ⟨g,0+i,none⟩=some (.string (getL l i)):=fun i hi=>by rw [Nat.zero_add];exact hown.cell hm.out (by rw [<- hm.out];exact hi)
   have Hc:Hid (_):=hc;clear hc
   go_wp2_with fail
   refine (has_any g 0 m cp (getL l) (S k) wr (by unfold maxLen;omega) hcl).mono ?_;rintro e w1 ⟨rfl,hw1⟩;subst hw1;have hmm:=hasB_mem l (S k) m (by rw [hm.out];exact nL);rw [hm.out,List.take_length,<- hm.out] at hmm;clear hcl;cases hh:hasB (getL l) m (S k)
   case true =>
    rw [hh] at hmm;have Hin:Hid (S k ∈ l):=hmm.1 rfl;clear hmm;go_wp2
    go_roundw
    case rel=>exact ⟨k+1,l,g,cp,m,by omega,by go_num,rfl,hm.out,by omega,hown,hsrt.out,mem_more hmem.out (fun s=>⟨Or.inr,fun h=>h.elim (fun e=>e ▸ Hin.out) id⟩),hbel⟩
    simp [intOf];omega
   case false =>
    rw [hh] at hmm;have Hin:Hid (S k ∉ l):=fun h=>by cases hmm.2 h
    clear hmm hh;have hm1:m+1<=maxLen:=by unfold maxLen;omega
    have hm2:(m+1) * 16<=140737488355328:=by omega
    have hm3:∀ o,w.heap.size<=(w1.alloc o).heap.size:=fun o=>by have:=hbel.size;simp;omega
    have hag:Hid (∀ q,(Value.slice (some ⟨g,0,none⟩) m cp).ownBlock=some q->w.heap.size<=q):=fun q hq=>by have:=World.ownsRow.lt hown q hq;exact this.1
    have hown':w1.ownsRow w.heap.size 9 1 (.slice (some ⟨g,0,none⟩) m cp) m (l.map Value.string):=by have:=hown;unfold OwnL at this;rw [<- hm.out] at this;exact this
    go_wp2_with (at_builtin;refine wpList_append_lies _ rfl _ _ 27 rfl w.heap.size 9 i0 (.string ByteArray.empty) 1 16 Tryz.underlying27 hi hz0 hz1 hz2 rfl (by decide) _ _ _ rfl (World.ownsRow.alloc hown' _) ⟨w1.heap.size,0,none⟩ 1 1 [.string (S k)] rfl rfl (one_cells _ _ _) (one_one _) (by decide) hm1 hm2 (hm3 _) (w1.heap.size+1) (by simp) ?_;intro gg cq w2 hown2 hgrow2 hat2 hlt2)
    have hown3:OwnL w2 w.heap.size (.slice (some ⟨gg,0,none⟩) (m+1) cq) (insAt l m (S k)):=by
     rw [hm.out,insAt_end];rw [hm.out] at hown2;exact OwnL.snoc hown2
    have hbel2:=(hbel.alloc hbel.size _).grown hgrow2 (hm3 _) hag.out;clear hown2 hgrow2 hat2 hown' hown hbel hm1 hm2 hm3 hag
    go_loopw [5] (fun jv wi=>∃ j:Nat,jv=.int .i64 j∧j<=m∧OwnL wi w.heap.size (.slice (some ⟨gg,0,none⟩) (m+1) cq) (insAt l j (S k))∧Hid (∀ i,j<=i->i<l.length->(S k).data.toList<(getL l i).data.toList)∧Below w.heap.size w wi) (fun jv _=>(intOf jv).toNat)
    case atStart=>exact ⟨m,by go_num,nL,hown3,fun i h1 h2=>absurd h1 (by rw [hm.out];omega),hbel2⟩
    case round =>
     obtain ⟨j,rfl,hj,hown4,hhi,hbel4⟩:=hrel;have hlen:m+1=(insAt l j (S k)).length:=by rw [insAt_len (by rw [<- hm.out];exact hj),<- hm.out]
     have hml:m<=l.length:=by rw [hm.out];exact nL
     by_cases h0:0<j
     ·obtain ⟨q,rfl⟩:∃ q,j=q+1:=⟨j - 1,by omega⟩
      have c1:wr.cell? ⟨gg,q+1,none⟩=some (.string (S k)):=by rw [hown4.cell hlen (by omega),insAt_get (by omega)]
      have c2:wr.cell? ⟨gg,q,none⟩=some (.string (getL l q)):=by rw [hown4.cell hlen (by omega),insAt_before (by omega)]
      have f1:=hown4.frozen hlen (q+1);have f2:=hown4.frozen hlen q;cases hless:Op.bytesLess (S k).toList (getL l q).toList
      ·have Hs:Hid (Srt (insAt l (q+1) (S k))):=ins_done hsrt.out Hin.out (by omega) hhi.out (Or.inr ⟨q,rfl,by
        rw [ByteArray.toList_eq,ByteArray.toList_eq,bytesLess_eq] at hless;simpa using hless⟩)
       have HL:Hid (_):=hlen;clear hlen hml
       go_wp2_with fail
       go_region
       all_goals go_wp2
       all_goals refine ⟨⟨k+1,insAt l (q+1) (S k),gg,cq,m+1,by omega,by go_num,rfl,HL.out,by omega,hown4.kept (fun _ _ _=>rfl),Hs.out,mem_more hmem.out (fun s=>insAt_mem),by first|exact hbel4.drew|exact hbel4.drew.drew⟩,by simp [intOf];omega⟩
      have Hl:Hid ((S k).data.toList<(getL l q).data.toList):=by
       rw [ByteArray.toList_eq,ByteArray.toList_eq,bytesLess_eq] at hless;simpa [Hid] using hless
      have hown5:=((hown4.put hlen (q+1) (getL l q)).put (by rw [List.length_set];exact hlen) q (S k));rw [insAt_swap (by omega)] at hown5;have Ho:Hid (_):=hown5;have HL:Hid (_):=hlen;have c3:(wr.setCell ⟨gg,q+1,none⟩ (.string (getL l q))).cell? ⟨gg,q,none⟩=some (.string (getL l q)):=by rw [set_far (by omega)];exact c2
      have f3:(wr.setCell ⟨gg,q+1,none⟩ (.string (getL l q))).frozen? ⟨gg,q,none⟩=false:=by rw [World.frozen?_setCell];exact f2
      have hgl:Hid (w.heap.size<=gg):=by have:=World.ownsRow.lt hown4 gg rfl;exact this.1
      clear hlen hml hown5
      go_wp2_with fail
      go_region
      all_goals go_wp2
      all_goals refine ⟨⟨q,rfl,by omega,OwnL.kept Ho.out (fun _ _ _=>rfl),fun i h1 h2=>?_,((hbel4.setCell hgl.out _).setCell hgl.out _).drew⟩,by simp [intOf]⟩
      all_goals
       by_cases e:i=q
       ·subst e;exact Hl.out
       exact hhi.out i (by omega) h2
     have hj0:j=0:=by omega
     subst hj0;have Hs:Hid (Srt (insAt l 0 (S k))):=ins_done hsrt.out Hin.out (by omega) hhi.out (Or.inl rfl);have HL:Hid (_):=hlen;clear hlen hml
     go_wp2_with fail
     go_region
     all_goals go_wp2
     all_goals refine ⟨⟨k+1,insAt l 0 (S k),gg,cq,m+1,by omega,by go_num,rfl,HL.out,by omega,hown4.kept (fun _ _ _=>rfl),Hs.out,mem_more hmem.out (fun s=>insAt_mem),by first|exact hbel4.drew|exact hbel4.drew.drew⟩,by simp [intOf];omega⟩
  have hkn:k=n:=by omega
  subst hkn;go_wp2
  go_ret;exact ⟨_,l,rfl,hown,hsrt.out,hmem.out,hbel⟩
theorem l2s_zero (a:Option Addr)(cap:Nat)(S:Nat->ByteArray)(w:World) :
  Calls Tryz.prog 169 #[.slice a 0 cap] w (L2Post w S 0):=by
 go_enter Tryz.func169,Tryz.ntmps169
 go_wp2
 refine wp_loop_rounds 1 ?_;rw [rounds_succ];go_wp2
 go_ret;exact ⟨_,[],rfl,OwnL.new w _ nL,List.Pairwise.nil,fun s=>by simp,bA⟩
theorem l2s_sl (w:World)(hn:n<=1048576)(h:SlS w a n cap S) :
  Calls Tryz.prog 169 #[.slice a n cap] w (L2Post w S n):=by
 rcases h.cells with rfl|⟨b,off,rfl,hb,hc⟩
 ·exact l2s_zero a cap S w
 exact l2s_any b off n cap S w hn hb hc
variable {m q icap:Nat}{E:Nat->Ev}{ia:Option Addr}
def ChPost (w:World)(E:Nat->Ev)(n:Nat)(S:Nat->ByteArray)(m:Nat)(e:Ending)(w':World):Prop :=
 ∃ v l,e=.returned v∧OwnL w' w.heap.size v l∧Srt l∧(∀ s,s ∈ l↔Chn E n S m s)∧Below w.heap.size w w'
theorem addTo_has {l:List ByteArray}{A:Nat->ByteArray}(hq:q=(addTo l A k).length)(h:hasB (getL (addTo l A k)) q (A k)=true):addTo l A (k+1)=addTo l A k:=by
 subst hq;rw [addTo,addL,if_pos h]
theorem addTo_new {l:List ByteArray}{A:Nat->ByteArray}(hq:q=(addTo l A k).length)(h:hasB (getL (addTo l A k)) q (A k)=false):addTo l A (k+1)=addTo l A k ++ [A k]:=by
 subst hq;rw [addTo,addL,if_neg (by simp [h])]
theorem posV_nat (h:0<=posV E n s):∃ p,p<n∧posV E n s=(p:Int)∧(E p).id=s:=by
 obtain ⟨i,hi,e,hb⟩:=posV_found E s n h;exact ⟨i,hi,e,ba_of_toList hb⟩
theorem l2Chain_sl (w:World)(hroom:roomTo E n=true)(h:SlV w a n cap E)(hids:SlS w ia m icap S)(hm:m<=300)(hth:∀ i,i<m->0<=posV E n (S i)) :
  Calls Tryz.prog 170 #[.agg #[.slice a n cap],.slice ia m icap] w (ChPost w E n S m):=by
 have h300:=room_300 hroom;obtain ⟨i0,hi,hz0,hz1,hz2⟩:=info_parts Tryz.infoString;obtain ⟨wb,hwb⟩:∃ wb,wb=w.alloc (.cells #[.slice a n cap] 25):=⟨_,rfl⟩;have hb0:Below w.heap.size w wb:=by rw [hwb];exact bA
 have hs0:wb.heap.size=w.heap.size+1:=by rw [hwb];simp
 have hb1:Below (w.heap.size+1) wb (wb.alloc (.cells #[] 9)):=kB.alloc (by omega) _;have ho1:OwnL (wb.alloc (.cells #[] 9)) (w.heap.size+1) (.slice (some ⟨wb.heap.size,0,none⟩) 0 0) []:=OwnL.new wb _ (by omega);rw [hs0] at ho1;have hbx:Hid (∀ wx,Below (w.heap.size+1) wb wx->wx.cell? ⟨w.heap.size,0,none⟩=some (.slice a n cap)):=fun wx hx=>by subst hwb;exact box_cells hx 0
 have Hth:Hid (_):=hth;have Hroom:Hid (_):=hroom;clear hth hroom
 go_enter Tryz.func170,Tryz.ntmps170
 go_wp2_with fail
 rw [<- hwb]
 go_loopw [5,6] (fun v i wr=>∃ (k g q cp:Nat) (l:List ByteArray),k<=m∧i=.int .i64 k∧v=.slice (some ⟨g,0,none⟩) q cp∧Hid (q=l.length)∧q<=n∧OwnL wr (w.heap.size+1) (.slice (some ⟨g,0,none⟩) q cp) l∧Hid (ChA E n S m (fun s=>∃ i,i<k∧S i=s) l)∧Below (w.heap.size+1) wb wr) (fun _ i _=>m - (intOf i).toNat)
 case atStart=>exact ⟨0,_,_,_,[],nz,rfl,rfl,rfl,nz,ho1,⟨List.nodup_nil,fun s hs=>absurd hs (by simp),fun p _ hP _ _=>absurd hP (by rintro ⟨i,hi,_⟩;omega)⟩,hb1⟩
 case round =>
  obtain ⟨k,g,q,cp,l,hk,rfl,rfl,hq,hqn,hown,hA,hB⟩:=hrel;have hbw:=hb0.trans (hB.mono (by omega));have hbx0:=hbx.out _ hB;have hso:w.heap.size+1<=wr.heap.size:=by have:=hB.size;omega
  by_cases hlt:k<m
  ·have hr9:=h.below hbw
   rcases hids.cells with h0|⟨bi,oi,rfl,hbi,hci⟩
   ·omega
   have hck:wr.cell? ⟨bi,oi+k,none⟩=some (.string (S k)):=(hbw.cell (by exact hbi)).trans (hci k hlt);obtain ⟨p,hp,hpk,hpi⟩:=posV_nat (Hth.out k hlt);have Hc:Hid (∀ j,j<(E p).na->Chn E n S m ((E p).Av j)):=fun j hj=>Chn.base hlt hp hpi hj
   have HP:Hid (∀ l':List ByteArray,(∃ r,l'=l ++ r)->∀ s,(∃ i,i<k+1∧S i=s)->(∃ i,i<k∧S i=s)∨s=(E p).id):=fun l' _ s ⟨i,hi,e⟩=>by
    by_cases ek:i=k
    ·subst ek;exact Or.inr (e.symm.trans hpi.symm)
    exact Or.inl ⟨i,by omega,e⟩
   clear hci;rcases h.cells with h0|⟨b,off,rfl,hb,hc⟩
   ·omega
   obtain ⟨_,_,aa,ca,_,_,hcs,hok⟩:=hc p hp;have c7:=(hcs.below hbw hb).c7;have hsa:=hok.ha;have hbo:b<wr.heap.size:=nT hb hbw.size
   have hat:Hid (∀ W,SlV W (some ⟨b,off,none⟩) n cap E->Calls Tryz.prog 55 #[.agg #[.slice (some ⟨b,off,none⟩) n cap],.string (S k)] W fun e w'=>e=.returned (.int .i64 (p:Int))∧Below W.heap.size W w'):=fun W hW=>by
    refine (l2At_sl (S k) W hW).mono ?_;rintro e w' ⟨rfl,rfl⟩;rw [hpk];exact ⟨rfl,bA⟩
   have Hown:Hid (OwnL wr (w.heap.size+1) (.slice (some ⟨g,0,none⟩) q cp) l):=hown;have hna:(E p).na<=maxLen:=nZ hsa.le hsa.max;unfold maxLen at hna;clear hcs hok hc hpk hown hpi;obtain ⟨wo,rfl⟩:∃ wo:World,wo=wr:=⟨_,rfl⟩
   go_wp2_with fail
   go_region_with (go_at_call 55;refine (hat.out _ (hr9.below (by first|exact kB|exact kB.drew|exact kB.drew.drew|exact kB.drew.drew.drew))).mono ?_;rintro e w2 ⟨rfl,hb2⟩;have h12:Below wo.heap.size wo w2:=Below.trans (by first|exact Below.refl wo.heap.size wo|exact (Below.refl wo.heap.size wo).drew|exact (Below.refl wo.heap.size wo).drew.drew|exact (Below.refl wo.heap.size wo).drew.drew.drew) hb2;have hbx2:=hbx.out _ (hB.trans (h12.mono hso));have c72:=(h12.cell (by exact hbo)).trans c7)
   all_goals
    have hB2:=hB.trans (h12.mono hso);have hown2:=OwnL.below Hown.out h12;clear hbx2 c72 hbx0 c7 hck
    go_wp2_with fail
    go_loopw [5,8] (fun v jv wi=>∃ (j g' q' cp':Nat),j<=(E p).na∧jv=.int .i64 j∧v=.slice (some ⟨g',0,none⟩) q' cp'∧Hid (q'=(addTo l (E p).Av j).length)∧q'<=n∧q<=q'∧OwnL wi (w.heap.size+1) (.slice (some ⟨g',0,none⟩) q' cp') (addTo l (E p).Av j)∧Below (w.heap.size+1) wb wi) (fun _ jv _=>(E p).na - (intOf jv).toNat)
    case atStart=>exact ⟨0,_,_,_,nz,rfl,rfl,hq.out,hqn,nL,OwnL.kept hown2 (fun _ _ _=>rfl),(by first|exact hB2|exact (hB2).drew|exact (hB2).drew.drew|exact (hB2).drew.drew.drew)⟩
    case round =>
     clear hown2 hB2;obtain ⟨j,g',q',cp',hj,rfl,rfl,hq',hqn',hqq,hown',hBi⟩:=hrel;have hbwi:=hb0.trans (hBi.mono (by omega));have hsi:w.heap.size+1<=wr.heap.size:=by have:=hBi.size;omega
     by_cases hlj:j<(E p).na
     ·rcases hsa.cells with h0|⟨ba,oa,rfl,hba,hca⟩
      ·omega
      have hcj:wr.cell? ⟨ba,oa+j,none⟩=some (.string ((E p).Av j)):=(hbwi.cell (by exact hba)).trans (hca j hlj);have hcl:∀ i,i<q'->wr.cell? ⟨g',0+i,none⟩=some (.string (getL (addTo l (E p).Av j) i)):=fun i hi=>by rw [Nat.zero_add];exact hown'.cell hq'.out (by rw [<- hq'.out];exact hi)
      have Hn:Hid ((addTo l (E p).Av (j+1)).length<=n):=hA.out.addLen Hroom.out hp (by omega);clear hca
      go_wp2_with fail
      refine (has_any g' 0 q' cp' (getL (addTo l (E p).Av j)) ((E p).Av j) wr (by unfold maxLen;omega) hcl).mono ?_;rintro e w3 ⟨rfl,hw3⟩;subst hw3;clear hcl;cases hh:hasB (getL (addTo l (E p).Av j)) q' ((E p).Av j)
      case true =>
       have Hs:Hid (addTo l (E p).Av (j+1)=addTo l (E p).Av j):=addTo_has hq'.out hh;go_wp2
       refine ⟨⟨j+1,g',q',cp',by omega,by go_num,rfl,by rw [Hs.out];exact hq',hqn',hqq,by rw [Hs.out];exact hown',hBi⟩,by simp [intOf];omega⟩
      case false =>
       have Hs:Hid (addTo l (E p).Av (j+1)=addTo l (E p).Av j ++ [(E p).Av j]):=addTo_new hq'.out hh;have hq1n':q'+1<=n:=by have:=Hn.out;rw [Hs.out,List.length_append,<- hq'.out] at this;simpa using this
       clear Hn hh;generalize addTo l (E p).Av j=l' at *;have hm1:q'+1<=maxLen:=by unfold maxLen;omega
       have hm2:(q'+1) * 16<=140737488355328:=by omega
       have hm3:∀ o,w.heap.size+1<=(w3.alloc o).heap.size:=fun o=>by simp;omega
       have hag:Hid (∀ r,(Value.slice (some ⟨g',0,none⟩) q' cp').ownBlock=some r->w.heap.size+1<=r):=fun r hr=>by have:=World.ownsRow.lt hown' r hr;exact this.1
       have hownr:w3.ownsRow (w.heap.size+1) 9 1 (.slice (some ⟨g',0,none⟩) q' cp') q' (l'.map Value.string):=by have:=hown';unfold OwnL at this;rw [<- hq'.out] at this;exact this
       go_wp2_with (at_builtin;refine wpList_append_lies _ rfl _ _ 27 rfl (w.heap.size+1) 9 i0 (.string ByteArray.empty) 1 16 Tryz.underlying27 hi hz0 hz1 hz2 rfl (by decide) _ _ _ rfl (World.ownsRow.alloc hownr _) ⟨w3.heap.size,0,none⟩ 1 1 [.string ((E p).Av j)] rfl rfl (one_cells _ _ _) (one_one _) (by decide) hm1 hm2 (hm3 _) (w3.heap.size+1) (by simp) ?_;intro gg cq w4 hown4 hgrow4 hat4 hlt4)
       have hown5:OwnL w4 (w.heap.size+1) (.slice (some ⟨gg,0,none⟩) (q'+1) cq) (l' ++ [(E p).Av j]):=by
        rw [hq'.out] at hown4 ⊢;exact OwnL.snoc hown4
       have hB4:Below (w.heap.size+1) wb w4:=(hBi.alloc (by omega) _).grown hgrow4 (hm3 _) hag.out;refine ⟨⟨j+1,_,_,_,by omega,by go_num,rfl,by rw [Hs.out];simp [hq'.out,Hid],hq1n',by omega,by rw [Hs.out];exact hown5,hB4⟩,by simp [intOf];omega⟩
     have hjn:(E p).na=j:=by omega
     subst hjn;go_wp2
     refine ⟨⟨k+1,g',q',cp',addTo l (E p).Av (E p).na,by omega,by go_num,rfl,hq'.out,hqn',hown',hA.out.add Hroom.out hp Hc.out (HP.out (addTo l (E p).Av (E p).na) (addTo_pre l (E p).Av (E p).na)),hBi⟩,by simp [intOf];omega⟩
  have hkm:m=k:=by omega
  subst hkm;obtain ⟨l1,rfl⟩:∃ l1,l1=l:=⟨_,rfl⟩;obtain ⟨w5,rfl⟩:∃ w5:World,w5=wr:=⟨_,rfl⟩;have hq1:=hq;have hq1n:=hqn;have hown1:=hown;have hA1:=hA;have hB1:=hB;clear hq hqn hown hA hB hbw hso
  go_wp2_with fail
  clear hbx0
  go_loopw [5,9] (fun v i wr=>∃ (k g q cp:Nat) (l:List ByteArray),k<=q∧i=.int .i64 k∧v=.slice (some ⟨g,0,none⟩) q cp∧Hid (q=l.length)∧q<=n∧OwnL wr (w.heap.size+1) (.slice (some ⟨g,0,none⟩) q cp) l∧Hid (ChA E n S m (fun s=>(∃ i,i<m∧S i=s)∨∃ i,i<k∧getL l i=s) l)∧Below (w.heap.size+1) wb wr) (fun _ i _=>n - (intOf i).toNat)
  case atStart=>exact ⟨0,_,_,_,l1,nz,rfl,rfl,hq1.out,hq1n,hown1,⟨hA1.out.nodup,hA1.out.sound,fun p hp hP=>hA1.out.closed p hp (hP.elim id fun ⟨i,hi,_⟩=>absurd hi (Nat.not_lt_zero _))⟩,hB1⟩
  case round =>
   obtain ⟨k,g,q,cp,l,hk,rfl,rfl,hq,hqn,hown,hA,hB⟩:=hrel;have hbw:=hb0.trans (hB.mono (by omega));have hbx0:=hbx.out _ hB;have hso:w.heap.size+1<=wr.heap.size:=by have:=hB.size;omega
   by_cases hlt:k<q
   ·have hr9:=h.below hbw
    have hck:wr.cell? ⟨g,k,none⟩=some (.string (getL l k)):=hown.cell hq.out (by rw [<- hq.out];exact hlt);have hin:getL l k ∈ l:=getL_mem (by rw [<- hq.out];exact hlt);obtain ⟨p,hp,hpi⟩:=chn_id Hroom.out (hA.out.sound _ hin);have hpk:posV E n (getL l k)=(p:Int):=by rw [<- hpi];exact posV_here Hroom.out hp
    have Hc:Hid (∀ j,j<(E p).na->Chn E n S m ((E p).Av j)):=fun j hj=>Chn.step (hA.out.sound _ hin) hp hpi hj
    have HP:Hid (∀ l':List ByteArray,(∃ r,l'=l ++ r)->∀ s,((∃ i,i<m∧S i=s)∨∃ i,i<k+1∧getL l' i=s)->((∃ i,i<m∧S i=s)∨∃ i,i<k∧getL l i=s)∨s=(E p).id):=fun l' ⟨r,er⟩ s hs=>by
     rcases hs with hs|⟨i,hi,e⟩
     ·exact Or.inl (Or.inl hs)
     have e1:getL l' i=getL l i:=by
      have:i<l.length:=by have:=hq.out;omega
      rw [er];simp [getL,List.getD,List.getElem?_append,this]
     rw [e1] at e
     by_cases ek:i=k
     ·subst ek;exact Or.inr (e.symm.trans hpi.symm)
     exact Or.inl (Or.inr ⟨i,by omega,e⟩)
    clear hin;rcases h.cells with h0|⟨b,off,rfl,hb,hc⟩
    ·omega
    obtain ⟨_,_,aa,ca,_,_,hcs,hok⟩:=hc p hp;have c7:=(hcs.below hbw hb).c7;have hsa:=hok.ha;have hbo:b<wr.heap.size:=nT hb hbw.size
    have hat:Hid (∀ W,SlV W (some ⟨b,off,none⟩) n cap E->Calls Tryz.prog 55 #[.agg #[.slice (some ⟨b,off,none⟩) n cap],.string (getL l k)] W fun e w'=>e=.returned (.int .i64 (p:Int))∧Below W.heap.size W w'):=fun W hW=>by
     refine (l2At_sl (getL l k) W hW).mono ?_;rintro e w' ⟨rfl,rfl⟩;rw [hpk];exact ⟨rfl,bA⟩
    have Hown:Hid (OwnL wr (w.heap.size+1) (.slice (some ⟨g,0,none⟩) q cp) l):=hown;have hna:(E p).na<=maxLen:=nZ hsa.le hsa.max;unfold maxLen at hna;clear hcs hok hc hpk hown hpi;obtain ⟨wo,rfl⟩:∃ wo:World,wo=wr:=⟨_,rfl⟩
    go_wp2_with fail
    go_region_with (go_at_call 55;refine (hat.out _ (hr9.below (by first|exact kB|exact kB.drew|exact kB.drew.drew|exact kB.drew.drew.drew))).mono ?_;rintro e w2 ⟨rfl,hb2⟩;have h12:Below wo.heap.size wo w2:=Below.trans (by first|exact Below.refl wo.heap.size wo|exact (Below.refl wo.heap.size wo).drew|exact (Below.refl wo.heap.size wo).drew.drew|exact (Below.refl wo.heap.size wo).drew.drew.drew) hb2;have hbx2:=hbx.out _ (hB.trans (h12.mono hso));have c72:=(h12.cell (by exact hbo)).trans c7)
    all_goals
     have hB2:=hB.trans (h12.mono hso);have hown2:=OwnL.below Hown.out h12;clear hbx2 c72 hbx0 c7 hck
     go_wp2_with fail
     go_loopw [5,11] (fun v jv wi=>∃ (j g' q' cp':Nat),j<=(E p).na∧jv=.int .i64 j∧v=.slice (some ⟨g',0,none⟩) q' cp'∧Hid (q'=(addTo l (E p).Av j).length)∧q'<=n∧q<=q'∧OwnL wi (w.heap.size+1) (.slice (some ⟨g',0,none⟩) q' cp') (addTo l (E p).Av j)∧Below (w.heap.size+1) wb wi) (fun _ jv _=>(E p).na - (intOf jv).toNat)
     case atStart=>exact ⟨0,_,_,_,nz,rfl,rfl,hq.out,hqn,nL,OwnL.kept hown2 (fun _ _ _=>rfl),(by first|exact hB2|exact (hB2).drew|exact (hB2).drew.drew|exact (hB2).drew.drew.drew)⟩
     case round =>
      clear hown2 hB2;obtain ⟨j,g',q',cp',hj,rfl,rfl,hq',hqn',hqq,hown',hBi⟩:=hrel;have hbwi:=hb0.trans (hBi.mono (by omega));have hsi:w.heap.size+1<=wr.heap.size:=by have:=hBi.size;omega
      by_cases hlj:j<(E p).na
      ·rcases hsa.cells with h0|⟨ba,oa,rfl,hba,hca⟩
       ·omega
       have hcj:wr.cell? ⟨ba,oa+j,none⟩=some (.string ((E p).Av j)):=(hbwi.cell (by exact hba)).trans (hca j hlj);have hcl:∀ i,i<q'->wr.cell? ⟨g',0+i,none⟩=some (.string (getL (addTo l (E p).Av j) i)):=fun i hi=>by rw [Nat.zero_add];exact hown'.cell hq'.out (by rw [<- hq'.out];exact hi)
       have Hn:Hid ((addTo l (E p).Av (j+1)).length<=n):=hA.out.addLen Hroom.out hp (by omega);clear hca
       go_wp2_with fail
       refine (has_any g' 0 q' cp' (getL (addTo l (E p).Av j)) ((E p).Av j) wr (by unfold maxLen;omega) hcl).mono ?_;rintro e w3 ⟨rfl,hw3⟩;subst hw3;clear hcl;cases hh:hasB (getL (addTo l (E p).Av j)) q' ((E p).Av j)
       case true =>
        have Hs:Hid (addTo l (E p).Av (j+1)=addTo l (E p).Av j):=addTo_has hq'.out hh;go_wp2
        refine ⟨⟨j+1,g',q',cp',by omega,by go_num,rfl,by rw [Hs.out];exact hq',hqn',hqq,by rw [Hs.out];exact hown',hBi⟩,by simp [intOf];omega⟩
       case false =>
        have Hs:Hid (addTo l (E p).Av (j+1)=addTo l (E p).Av j ++ [(E p).Av j]):=addTo_new hq'.out hh;have hq1n':q'+1<=n:=by have:=Hn.out;rw [Hs.out,List.length_append,<- hq'.out] at this;simpa using this
        clear Hn hh;generalize addTo l (E p).Av j=l' at *;have hm1:q'+1<=maxLen:=by unfold maxLen;omega
        have hm2:(q'+1) * 16<=140737488355328:=by omega
        have hm3:∀ o,w.heap.size+1<=(w3.alloc o).heap.size:=fun o=>by simp;omega
        have hag:Hid (∀ r,(Value.slice (some ⟨g',0,none⟩) q' cp').ownBlock=some r->w.heap.size+1<=r):=fun r hr=>by have:=World.ownsRow.lt hown' r hr;exact this.1
        have hownr:w3.ownsRow (w.heap.size+1) 9 1 (.slice (some ⟨g',0,none⟩) q' cp') q' (l'.map Value.string):=by have:=hown';unfold OwnL at this;rw [<- hq'.out] at this;exact this
        go_wp2_with (at_builtin;refine wpList_append_lies _ rfl _ _ 27 rfl (w.heap.size+1) 9 i0 (.string ByteArray.empty) 1 16 Tryz.underlying27 hi hz0 hz1 hz2 rfl (by decide) _ _ _ rfl (World.ownsRow.alloc hownr _) ⟨w3.heap.size,0,none⟩ 1 1 [.string ((E p).Av j)] rfl rfl (one_cells _ _ _) (one_one _) (by decide) hm1 hm2 (hm3 _) (w3.heap.size+1) (by simp) ?_;intro gg cq w4 hown4 hgrow4 hat4 hlt4)
        have hown5:OwnL w4 (w.heap.size+1) (.slice (some ⟨gg,0,none⟩) (q'+1) cq) (l' ++ [(E p).Av j]):=by
         rw [hq'.out] at hown4 ⊢;exact OwnL.snoc hown4
        have hB4:Below (w.heap.size+1) wb w4:=(hBi.alloc (by omega) _).grown hgrow4 (hm3 _) hag.out;refine ⟨⟨j+1,_,_,_,by omega,by go_num,rfl,by rw [Hs.out];simp [hq'.out,Hid],hq1n',by omega,by rw [Hs.out];exact hown5,hB4⟩,by simp [intOf];omega⟩
      have hjn:(E p).na=j:=by omega
      subst hjn;go_wp2
      refine ⟨⟨k+1,g',q',cp',addTo l (E p).Av (E p).na,by omega,by go_num,rfl,hq'.out,hqn',hown',hA.out.add Hroom.out hp Hc.out (HP.out (addTo l (E p).Av (E p).na) (addTo_pre l (E p).Av (E p).na)),hBi⟩,by simp [intOf];omega⟩
   have hkq:q=k:=by omega
   subst hkq;have Hmem:Hid (∀ s,s ∈ l↔Chn E n S m s):=fun s=>ChA.mem (by have:=hA.out;rw [hq.out] at this;exact this) s
   have hsz:∀ s ∈ l,s.size<=maxLen:=fun s hs=>by
    obtain ⟨j,hj,rfl⟩:=chn_id Hroom.out (hA.out.sound s hs);rcases h.cells with h0|⟨b,off,_,_,hc⟩
    ·omega
    obtain ⟨_,_,_,_,_,_,_,hok⟩:=hc j hj;exact hok.hid
   obtain ⟨a',cap',e1,hsl,_⟩:=hown.sl hsz;injection e1 with e1 e2 e3
   subst e3;rw [<- e1,<- hq.out] at hsl;clear e2 e1 hsz
   go_wp2_with fail
   refine (l2s_sl _ (by omega) hsl).mono ?_;rintro e w2 ⟨v,l2,rfl,hown2,hsrt,hmem2,hb2⟩;have Hm2:Hid (_):=hmem2;have Hs2:Hid (_):=hsrt;clear hmem2 hsrt;go_wp2
   go_ret;refine ⟨v,l2,rfl,hown2.mono (by omega),Hs2.out,fun s=>?_,hbw.trans (hb2.mono hbw.size)⟩;rw [Hm2.out,<- Hmem.out];constructor
   ·rintro ⟨i,hi,rfl⟩
    exact getL_mem (by rw [<- hq.out];exact hi)
   intro hs;obtain ⟨i,hi,e⟩:=mem_getL hs;exact ⟨i,by rw [hq.out];exact hi,e⟩
end Go.Proofs.YtkdalopokdhndaaGreat
