import Derived.Test.YtnbdlaglnefcbaaGreatPoNZ
namespace Go.Proofs.YtnbdlaglnefcbaaGreat
open Go.RowKit
abbrev tMem:ByteArray:=⟨#[109,101,109,98,101,114]⟩
abbrev tRul:ByteArray:=⟨#[106,111,105,110,95,114,117,108,101,115]⟩
abbrev tLea:ByteArray:=⟨#[108,101,97,118,101]⟩
abbrev tAct:ByteArray:=⟨#[97,99,116]⟩
abbrev tSta:ByteArray:=⟨#[115,116,97,116,101]⟩
abbrev tBan:ByteArray:=⟨#[98,97,110]⟩
abbrev tKic:ByteArray:=⟨#[107,105,99,107]⟩
abbrev tInv:ByteArray:=⟨#[105,110,118,105,116,101]⟩
abbrev View:=ByteArray->ByteArray->Option Ev
def evO (E:Nat->Ev)(n:Nat)(l:List Ent):View:=fun ty key=>if 0<=atV E n l ty key then some (E (atV E n l ty key).toNat) else none
def isJoin (t:ByteArray):Bool:=t.toList == [106,111,105,110]
def isInv (t:ByteArray):Bool:=t.toList == [105,110,118,105,116,101]
def isLea (t:ByteArray):Bool:=t.toList == [108,101,97,118,101]
def isBan (t:ByteArray):Bool:=t.toList == [98,97,110]
def isPub (t:ByteArray):Bool:=t.toList == [112,117,98,108,105,99]
def isKic (t:ByteArray):Bool:=t.toList == [107,105,99,107]
def isSta (t:ByteArray):Bool:=t.toList == [115,116,97,116,101]
def lvO (o:View)(u:ByteArray):Int:=match o tPow tNil with
 | some p=>byG p u
 | none=>match o tCre tNil with
  | some c=>if (c.sd.toList == u.toList)=true then 100 else 0
  | none=>0
def thO (o:View)(nm:ByteArray)(z:Int):Int:=match o tPow tNil with
 | some p=>(gV p.M p.L nm p.ng).getD z
 | none=>z
def dfV (o:View)(t:ByteArray):Int:=if isBan t || isKic t || (isSta t && (o tPow tNil).isSome) then 50 else 0
def tgV (o:View)(t:ByteArray):Int:=thO o (⟨#[42]⟩ ++ t) (dfV o t)
def memO (o:View)(u:ByteArray):ByteArray:=match o tMem u with
 | some m=>m.val
 | none=>tLea
def pubB (o:View):Bool:=match o tRul tNil with
 | some r=>isPub r.val
 | none=>false
def creB (o:View)(u:ByteArray):Bool:=match o tCre tNil with
 | some c=>c.sd.toList == u.toList
 | none=>false
def expB (t:ByteArray):Bool:=isJoin t || isInv t
def joV (o:View)(e:Ev):Int:=if (e.sd.toList == e.key.toList)=false then 3 else if isBan (memO o e.key) then 4 else if expB (memO o e.key) || pubB o || (creB o e.sd && (o tMem e.key).isNone) then 0 else 5
def meV (o:View)(e:Ev):Int :=
 if isInv e.val then (if isJoin (memO o e.key) || isBan (memO o e.key) then 7 else if lvO o e.sd<tgV o tInv then 8 else 0)
 else if (isBan e.val || isBan (memO o e.key)) && decide (lvO o e.sd<tgV o tBan) then 8
 else if isLea e.val && decide (lvO o e.sd<tgV o tKic) then 8
 else if lvO o e.sd<=lvO o e.key then 9 else 0
def rgB (a b:Option Int)(own:Int)(nm sd:ByteArray):Bool :=
 if (a.isSome == b.isSome) && decide (a.getD 0=b.getD 0) then true
 else if (a.isSome && decide (own<a.getD 0)) || (b.isSome && decide (own<b.getD 0)) then false
 else !(isW nm && !(nm.toList == sd.toList) && a.isSome && decide (own<=a.getD 0))
def rgN (p e:Ev)(own:Int)(nm:ByteArray):Bool:=rgB (gV p.M p.L nm p.ng) (gV e.M e.L nm e.ng) own nm e.sd
def evry (f:Nat->Bool):Nat->Bool
 | 0=>true
 | k+1=>evry f k && f k
theorem evry_le (f:Nat->Bool):∀ m k,k<m->f k=false->evry f m=false
 | m+1,k,h,h1=>by
  by_cases e:k=m
  ·subst e;rw [evry,h1,Bool.and_false]
  ·rw [evry,evry_le f m k (by omega) h1];rfl
def pwB (p e:Ev)(own:Int):Bool:=evry (fun i=>rgN p e own (p.M i)) p.ng && evry (fun i=>rgN p e own (e.M i)) e.ng
def nmAt (p e:Ev)(i:Nat):ByteArray:=if i<p.ng then p.M i else e.M (i - p.ng)
theorem evry_congr {f g:Nat->Bool}:∀ {m},(∀ i,i<m->f i=g i)->evry f m=evry g m
 | 0,_=>rfl
 | m+1,h=>by rw [evry,evry,h m (by omega),evry_congr (fun i hi=>h i (by omega))]
theorem pw_names (p e:Ev)(own:Int):evry (fun i=>rgN p e own (nmAt p e i)) (p.ng+e.ng)=pwB p e own:=by
 have h1:∀ k,evry (fun i=>rgN p e own (nmAt p e i)) (p.ng+k)=(evry (fun i=>rgN p e own (nmAt p e i)) p.ng && evry (fun i=>rgN p e own (e.M i)) k):=fun k=>by
  induction k with
  | zero=>simp [evry]
  | succ k ih =>
   rw [show p.ng+(k+1)=(p.ng+k)+1 by omega,evry,ih,evry,Bool.and_assoc]
   congr 3
   unfold nmAt
   rw [if_neg (by omega),show p.ng+k - p.ng=k by omega]
 rw [h1]
 unfold pwB
 congr 1
 exact evry_congr fun i hi=>by unfold nmAt;rw [if_pos hi]
def ndV (o:View)(e:Ev):Int:=thO o (⟨#[35]⟩ ++ e.ty) (tgV o (if e.st then tSta else tAct))
def atB (s:ByteArray):Bool:=if h:0<s.size then decide ((s[0].toNat:Int)=64) else false
theorem atB_none {s:ByteArray}(h:s.toList.isEmpty=true):atB s=false:=by
 unfold atB
 rw [dif_neg]
 intro h0
 rw [ByteArray.toList_eq] at h
 have h1:s.data.toList=[]:=by simpa using h
 have h2:s.size=s.data.toList.length:=rfl
 rw [h1,List.length_nil] at h2
 omega
theorem size_pos {s:ByteArray}(h:s.toList.isEmpty=false):0<s.size:=by
 rw [ByteArray.toList_eq] at h
 have h2:s.size=s.data.toList.length:=rfl
 rw [h2]
 cases hs:s.data.toList with
 | nil=>rw [hs] at h;cases h
 | cons x l=>simp
def tlV (o:View)(e:Ev):Int :=
 if lvO o e.sd<ndV o e then 8
 else if atB e.key && !(e.key.toList == e.sd.toList) then 11
 else match o tPow tNil with
  | some p=>if isPow e && !pwB p e (lvO o e.sd) then 12 else 0
  | none=>0
def alV (o:View)(e:Ev):Int :=
 if isCr e then (if (o tCre tNil).isSome then 1 else 0)
 else if (o tCre tNil).isNone then 2
 else if isMb e && isJn e then joV o e
 else if isMb e && isLea e.val && (e.sd.toList == e.key.toList) then (if expB (memO o e.key) then 0 else 10)
 else if isJoin (memO o e.sd)=false then 6
 else if isMb e then meV o e
 else tlV o e
theorem lvO_evO (E:Nat->Ev)(n:Nat)(l:List Ent)(u:ByteArray):lvO (evO E n l) u=lvV E n l u:=by
 unfold lvO lvV evO
 by_cases hp:0<=atV E n l tPow tNil
 ·simp only [hp,if_true]
 ·simp only [hp,if_false]
  by_cases hc:0<=atV E n l tCre tNil
  ·simp only [hc,if_true,true_and]
  ·simp only [hc,if_false,false_and]
theorem ev_key {e:Ev}(h:e.code=0):e.key.toList.isEmpty=true∨(e.st=true∧isW e.key=true):=by
 unfold Ev.code evCode at h
 split at h
 ·cases h
 split at h
 ·cases h
 rename_i h2
 cases hk:e.key.toList.isEmpty
 ·refine Or.inr ⟨?_,?_⟩
  ·cases hs:e.st
   ·exact absurd ⟨hk,Or.inl hs⟩ h2
   ·rfl
  ·cases hs:isW e.key
   ·exact absurd ⟨hk,Or.inr hs⟩ h2
   ·rfl
 ·exact Or.inl rfl
theorem ev_ws {e:Ev}(h:e.code=0):isW e.sd=true∧isW e.ty=true:=by
 unfold Ev.code evCode at h
 split at h
 ·cases h
 rename_i h1
 simp only [not_or,Bool.not_eq_false] at h1
 exact h1.2
def L2Post (w:World)(S:Nat->ByteArray)(n:Nat)(e:Ending)(w':World):Prop :=
 ∃ v l,e=.returned v∧OwnL w' w.heap.size v l∧Srt l∧(∀ s,s ∈ l↔∃ i,i<n∧S i=s)∧Below w.heap.size w w'
theorem ins_done {l:List ByteArray}{x:ByteArray}{j:Nat}(h:Srt l)(hx:x ∉ l)(hj:j<=l.length)(hhi:∀ i,j<=i->i<l.length->x.data.toList<(getL l i).data.toList)
  (hstop:j=0∨∃ q,j=q+1∧¬ x.data.toList<(getL l q).data.toList):Srt (insAt l j x):=by
 refine insAt_srt h (fun i hi hl=>?_) hhi
 rcases hstop with h0|⟨q,rfl,hq⟩
 ·omega
 ·have h1:(getL l q).data.toList<x.data.toList:=by
   rcases List.le_iff_lt_or_eq.1 (List.not_lt.1 hq) with h'|h'
   ·exact h'
   ·exact absurd (ba_inj h' ▸ getL_mem (by omega)) hx
  by_cases e:i=q
  ·subst e;exact h1
  ·exact List.lt_trans (srt_get h (show i<q by omega) (by omega)) h1
theorem mem_more {S:Nat->ByteArray}{l l':List ByteArray}{k:Nat}(h:∀ s,s ∈ l↔∃ i,i<k∧S i=s)(h':∀ s,s ∈ l'↔s=S k∨s ∈ l)(s:ByteArray):s ∈ l'↔∃ i,i<k+1∧S i=s:=by
 rw [h',h]
 constructor
 ·rintro (rfl|⟨i,hi,e⟩)
  ·exact ⟨k,by omega,rfl⟩
  ·exact ⟨i,by omega,e⟩
 ·rintro ⟨i,hi,e⟩
  by_cases ek:i=k
  ·subst ek;exact Or.inl e.symm
  ·exact Or.inr ⟨i,by omega,e⟩
set_option maxRecDepth 100000 in
set_option maxHeartbeats 4000000 in
theorem l2s_any (b off n cap:Nat)(S:Nat->ByteArray)(w:World)(hn:n<=1048576)(hb:b<w.heap.size)(hc:∀ i,i<n->w.cell? ⟨b,off+i,none⟩=some (.string (S i))) :
  Calls Tryz.prog 46 #[.slice (some ⟨b,off,none⟩) n cap] w (L2Post w S n):=by
 obtain ⟨i0,hi,hz0,hz1,hz2⟩:=info_parts Tryz.infoString
 go_enter Tryz.func46,Tryz.ntmps46
 go_wp2
 go_loopw [3,4] (fun v i wr=>∃ (k:Nat) (l:List ByteArray) (g cp m:Nat),k<=n∧i=.int .i64 k∧v=.slice (some ⟨g,0,none⟩) m cp∧Hid (m=l.length)∧m<=k∧OwnL wr w.heap.size (.slice (some ⟨g,0,none⟩) m cp) l∧Hid (Srt l)∧Hid (∀ s,s ∈ l↔∃ i,i<k∧S i=s)∧Below w.heap.size w wr) (fun _ i _=>n - (intOf i).toNat)
 case atStart=>exact ⟨0,[],w.heap.size,0,0,Nat.zero_le _,rfl,rfl,rfl,Nat.le_refl _,OwnL.new w _ (Nat.le_refl _),List.Pairwise.nil,fun s=>by simp,bA⟩
 case round =>
  obtain ⟨k,l,g,cp,m,hk,rfl,rfl,hm,hmk,hown,hsrt,hmem,hbel⟩:=hrel
  by_cases hlt:k<n
  ·have hck:wr.cell? ⟨b,off+k,none⟩=some (.string (S k)):=(hbel.cell (by exact hb)).trans (hc k hlt)
   have hcl:∀ i,i<m->wr.cell? ⟨g,0+i,none⟩=some (.string (getL l i)):=fun i hi=>by rw [Nat.zero_add];exact hown.cell hm.out (by rw [<- hm.out];exact hi)
   have Hc:Hid (_):=hc
   clear hc
   go_wp2_with fail
   refine (has_any g 0 m cp (getL l) (S k) wr (by unfold maxLen;omega) hcl).mono ?_
   rintro e w1 ⟨rfl,hw1⟩
   subst hw1
   have hmm:=hasB_mem l (S k) m (by rw [hm.out];exact Nat.le_refl _)
   rw [hm.out,List.take_length,<- hm.out] at hmm
   clear hcl
   cases hh:hasB (getL l) m (S k)
   case true =>
    rw [hh] at hmm
    have Hin:Hid (S k ∈ l):=hmm.1 rfl
    clear hmm
    go_wp2
    go_roundw
    case rel=>exact ⟨k+1,l,g,cp,m,by omega,by go_num,rfl,hm.out,by omega,hown,hsrt.out,mem_more hmem.out (fun s=>⟨Or.inr,fun h=>h.elim (fun e=>e ▸ Hin.out) id⟩),hbel⟩
    case measure=>simp [intOf];omega
   case false =>
    rw [hh] at hmm
    have Hin:Hid (S k ∉ l):=fun h=>by cases hmm.2 h
    clear hmm hh
    have hm1:m+1<=maxLen:=by unfold maxLen;omega
    have hm2:(m+1) * 16<=140737488355328:=by omega
    have hm3:∀ o,w.heap.size<=(w1.alloc o).heap.size:=fun o=>by have:=hbel.size;simp;omega
    have hag:Hid (∀ q,(Value.slice (some ⟨g,0,none⟩) m cp).ownBlock=some q->w.heap.size<=q):=fun q hq=>by have:=World.ownsRow.lt hown q hq;exact this.1
    have hown':w1.ownsRow w.heap.size 9 1 (.slice (some ⟨g,0,none⟩) m cp) m (l.map Value.string):=by have:=hown;unfold OwnL at this;rw [<- hm.out] at this;exact this
    go_wp2_with (at_builtin;refine wpList_append_lies _ rfl _ _ 26 rfl w.heap.size 9 i0 (.string ByteArray.empty) 1 16 Tryz.underlying26 hi hz0 hz1 hz2 rfl (by decide) _ _ _ rfl (World.ownsRow.alloc hown' _) ⟨w1.heap.size,0,none⟩ 1 1 [.string (S k)] rfl rfl (one_cells _ _ _) (one_one _) (by decide) hm1 hm2 (hm3 _) (w1.heap.size+1) (by simp) ?_;intro gg cq w2 hown2 hgrow2 hat2 hlt2)
    have hown3:OwnL w2 w.heap.size (.slice (some ⟨gg,0,none⟩) (m+1) cq) (insAt l m (S k)):=by
     rw [hm.out,insAt_end]
     rw [hm.out] at hown2
     exact OwnL.snoc hown2
    have hbel2:=(hbel.alloc hbel.size _).grown hgrow2 (hm3 _) hag.out
    clear hown2 hgrow2 hat2 hown' hown hbel hm1 hm2 hm3 hag
    go_loopw [5] (fun jv wi=>∃ j:Nat,jv=.int .i64 j∧j<=m∧OwnL wi w.heap.size (.slice (some ⟨gg,0,none⟩) (m+1) cq) (insAt l j (S k))∧Hid (∀ i,j<=i->i<l.length->(S k).data.toList<(getL l i).data.toList)∧Below w.heap.size w wi) (fun jv _=>(intOf jv).toNat)
    case atStart=>exact ⟨m,by go_num,Nat.le_refl _,hown3,fun i h1 h2=>absurd h1 (by rw [hm.out];omega),hbel2⟩
    case round =>
     obtain ⟨j,rfl,hj,hown4,hhi,hbel4⟩:=hrel
     have hlen:m+1=(insAt l j (S k)).length:=by rw [insAt_len (by rw [<- hm.out];exact hj),<- hm.out]
     have hml:m<=l.length:=by rw [hm.out];exact Nat.le_refl _
     by_cases h0:0<j
     ·obtain ⟨q,rfl⟩:∃ q,j=q+1:=⟨j - 1,by omega⟩
      have c1:wr.cell? ⟨gg,q+1,none⟩=some (.string (S k)):=by rw [hown4.cell hlen (by omega),insAt_get (by omega)]
      have c2:wr.cell? ⟨gg,q,none⟩=some (.string (getL l q)):=by rw [hown4.cell hlen (by omega),insAt_before (by omega)]
      have f1:=hown4.frozen hlen (q+1)
      have f2:=hown4.frozen hlen q
      cases hless:Op.bytesLess (S k).toList (getL l q).toList
      ·have Hs:Hid (Srt (insAt l (q+1) (S k))):=ins_done hsrt.out Hin.out (by omega) hhi.out (Or.inr ⟨q,rfl,by
        rw [ByteArray.toList_eq,ByteArray.toList_eq,bytesLess_eq] at hless
        simpa using hless⟩)
       have HL:Hid (_):=hlen
       clear hlen hml
       go_wp2_with fail
       go_region
       all_goals go_wp2
       all_goals refine ⟨⟨k+1,insAt l (q+1) (S k),gg,cq,m+1,by omega,by go_num,rfl,HL.out,by omega,hown4.kept (fun _ _ _=>rfl),Hs.out,mem_more hmem.out (fun s=>insAt_mem),by first|exact hbel4.drew|exact hbel4.drew.drew⟩,by simp [intOf];omega⟩
      ·have Hl:Hid ((S k).data.toList<(getL l q).data.toList):=by
        rw [ByteArray.toList_eq,ByteArray.toList_eq,bytesLess_eq] at hless
        simpa [Hid] using hless
       have hown5:=((hown4.put hlen (q+1) (getL l q)).put (by rw [List.length_set];exact hlen) q (S k))
       rw [insAt_swap (by omega)] at hown5
       have Ho:Hid (_):=hown5
       have HL:Hid (_):=hlen
       have c3:(wr.setCell ⟨gg,q+1,none⟩ (.string (getL l q))).cell? ⟨gg,q,none⟩=some (.string (getL l q)):=by rw [set_far (by omega)];exact c2
       have f3:(wr.setCell ⟨gg,q+1,none⟩ (.string (getL l q))).frozen? ⟨gg,q,none⟩=false:=by rw [World.frozen?_setCell];exact f2
       have hgl:Hid (w.heap.size<=gg):=by have:=World.ownsRow.lt hown4 gg rfl;exact this.1
       clear hlen hml hown5
       go_wp2_with fail
       go_region
       all_goals go_wp2
       all_goals refine ⟨⟨q,rfl,by omega,OwnL.kept Ho.out (fun _ _ _=>rfl),fun i h1 h2=>?_,((hbel4.setCell hgl.out _).setCell hgl.out _).drew⟩,by simp [intOf]⟩
       all_goals
        by_cases e:i=q
        ·subst e;exact Hl.out
        ·exact hhi.out i (by omega) h2
     ·have hj0:j=0:=by omega
      subst hj0
      have Hs:Hid (Srt (insAt l 0 (S k))):=ins_done hsrt.out Hin.out (by omega) hhi.out (Or.inl rfl)
      have HL:Hid (_):=hlen
      clear hlen hml
      go_wp2_with fail
      go_region
      all_goals go_wp2
      all_goals refine ⟨⟨k+1,insAt l 0 (S k),gg,cq,m+1,by omega,by go_num,rfl,HL.out,by omega,hown4.kept (fun _ _ _=>rfl),Hs.out,mem_more hmem.out (fun s=>insAt_mem),by first|exact hbel4.drew|exact hbel4.drew.drew⟩,by simp [intOf];omega⟩
  ·have hkn:k=n:=by omega
   subst hkn
   go_wp2
   go_ret
   exact ⟨_,l,rfl,hown,hsrt.out,hmem.out,hbel⟩
theorem l2s_zero (a:Option Addr)(cap:Nat)(S:Nat->ByteArray)(w:World) :
  Calls Tryz.prog 46 #[.slice a 0 cap] w (L2Post w S 0):=by
 go_enter Tryz.func46,Tryz.ntmps46
 go_wp2
 refine wp_loop_rounds 1 ?_
 rw [rounds_succ]
 go_wp2
 go_ret
 exact ⟨_,[],rfl,OwnL.new w _ (Nat.le_refl _),List.Pairwise.nil,fun s=>by simp,bA⟩
theorem l2s_sl {a:Option Addr}{n cap:Nat}{S:Nat->ByteArray}(w:World)(hn:n<=1048576)(h:SlS w a n cap S) :
  Calls Tryz.prog 46 #[.slice a n cap] w (L2Post w S n):=by
 rcases h.cells with rfl|⟨b,off,rfl,hb,hc⟩
 ·exact l2s_zero a cap S w
 ·exact l2s_any b off n cap S w hn hb hc
end Go.Proofs.YtnbdlaglnefcbaaGreat
