import Derived.Test.YtkdalopokdhndaaGreatAlPZ
import Derived.Maps.AppendAt
set_option maxHeartbeats 16000000
set_option maxRecDepth 100000
namespace Go.Proofs.YtkdalopokdhndaaGreat
open Go.RowKit
variable {E:Nat->Ev}{m n p:Nat}{l:List Ent}{S:Nat->ByteArray}{s:ByteArray}{L:Nat->List Ent}{D:Nat->Nat}
structure FitL (E:Nat->Ev)(n:Nat)(l:List Ent):Prop where
 srt:SrtE l
 fit:∀ x ∈ l,fit1 E n x=true
theorem fit1_parts {x:Ent}(h:fit1 E n x=true):∃ p,p<n∧posV E n x.id=(p:Int)∧(E p).st=true∧(E p).ty=x.ty∧(E p).key=x.key∧(E p).id=x.id:=by
 unfold fit1 at h;simp only [Bool.and_eq_true,decide_eq_true_eq] at h;obtain ⟨h0,h1,h2,h3⟩:=h;obtain ⟨p,hp,e,ei⟩:=posV_nat h0;rw [e,Int.toNat_natCast] at h1 h2 h3;exact ⟨p,hp,e,h1,ba_of_toList h2,ba_of_toList h3,ei⟩
theorem fit1_of (hr:roomTo E n=true)(hp:p<n)(hs:(E p).st=true):fit1 E n ⟨(E p).ty,(E p).key,(E p).id⟩=true:=by
 unfold fit1;simp only [posV_here hr hp,Int.toNat_natCast,hs,beq_self_eq_true,Bool.and_true];exact decide_eq_true (by omega)
theorem FitL.nil (E:Nat->Ev)(n:Nat):FitL E n []:=⟨List.Pairwise.nil,fun x h=>by cases h⟩
theorem FitL.len (hr:roomTo E n=true)(h:FitL E n l):l.length<=n:=by
 have hn:(l.map Ent.id).Nodup:=by
  refine List.pairwise_map.2 ((List.pairwise_iff_getElem.2 fun i j hi hj hij=>?_));intro e;obtain ⟨p,_,ep,_,t1,k1,_⟩:=fit1_parts (h.fit _ (List.getElem_mem hi));obtain ⟨q,_,eq,_,t2,k2,_⟩:=fit1_parts (h.fit _ (List.getElem_mem hj));rw [e,eq] at ep;have hpq:p=q:=by omega
  subst hpq;have hx:l[i]=l[j]:=srt_uniq h.srt (List.getElem_mem hi) (List.getElem_mem hj) ⟨t1.symm.trans t2,k1.symm.trans k2⟩;have hlt:=srt_at h.srt hij hj;rw [eAt_get l i hi,eAt_get l j hj,hx] at hlt;exact Lt.irrefl _ hlt
 have:=ids_len hr hn (fun s hs=>by
  obtain ⟨x,hx,rfl⟩:=List.mem_map.1 hs;obtain ⟨p,hp,_,_,_,_,ei⟩:=fit1_parts (h.fit x hx);exact ⟨p,hp,ei⟩)
 rwa [List.length_map] at this
theorem FitL.ids (hr:roomTo E n=true)(h:FitL E n l):Ids l:=fun x hx=>by
 obtain ⟨p,hp,ep,_⟩:=fit1_parts (h.fit x hx);cases hc:x.id.toList.isEmpty
 ·rfl
 have:=posV_empty hr hc;omega
theorem FitL.st (hr:roomTo E n=true)(h:FitL E n l):stB l=true:=by
 have h3:=nZ (h.len hr) (room_300 hr);have hi:=h.ids hr;unfold stB;rw [ord_of h.srt,decide_eq_true h3,Bool.and_true,Bool.and_true]
 by_cases hc:idsTo l l.length=true
 ·exact hc
 exfalso
 have:∀ m,m<=l.length->idsTo l m=true:=fun m=>by
  induction m with
  | zero=>intro _;rfl
  | succ m ih =>
   intro hm;unfold idsTo;rw [ih (by omega),hi _ (eAt_mem l m (by omega))];rfl
 exact hc (this _ nL)
theorem FitL.fitB (hr:roomTo E n=true)(h:FitL E n l):fitB E n l=true:=by
 unfold Proofs.YtkdalopokdhndaaGreat.fitB;rw [h.st hr,Bool.and_true]
 have:∀ m,m<=l.length->fitTo E n l m=true:=fun m=>by
  induction m with
  | zero=>intro _;rfl
  | succ m ih =>
   intro hm;unfold fitTo;rw [ih (by omega),h.fit _ (eAt_mem l m (by omega))];rfl
 exact this _ nL
theorem FitL.set {x:Ent}(h:FitL E n l)(hx:x.id.toList.isEmpty=false->fit1 E n x=true):FitL E n (setL l x false):=by
 refine ⟨setL_srt h.srt x false,fun y hy=>?_⟩;rcases (setL_in h.srt x false y).1 hy with ⟨h1,_⟩|⟨rfl,h2⟩
 ·exact h.fit y h1
 refine hx ?_;unfold kept at h2;simpa using h2
theorem FitL.pat {ch:List Ent}(h:FitL E n l)(hc:FitL E n ch):∀ k,k<=ch.length->FitL E n (patL l ch k)
 | 0,_=>h
 | k+1,hk=>(h.pat hc k (by omega)).set fun _=>hc.fit _ (eAt_mem ch k (by omega))
theorem FitL.grow {E':Nat->Ev}(hr':roomTo E' m=true)(hnm:n<=m)(he:∀ i,i<n->E' i=E i)(h:FitL E n l):FitL E' m l:=⟨h.srt,fun x hx=>by
 obtain ⟨p,hp,ep,h1,h2,h3,h4⟩:=fit1_parts (h.fit x hx);have hq:=fit1_of hr' (show p<m by omega) (by rw [he p hp];exact h1);rw [he p hp,h2,h3,h4] at hq;exact hq⟩
def FuS (E:Nat->Ev)(n:Nat)(l:List Ent)(s:ByteArray):Prop:=(∃ x ∈ l,x.id=s)∨Chn E n (getL (l.map Ent.id)) l.length s
def DfP (P:Nat->ByteArray->Prop)(m:Nat)(s:ByteArray):Prop:=(∃ i,i<m∧P i s)∧∃ j,j<m∧¬ P j s
def CfP (E:Nat->Ev)(n:Nat)(L:Nat->List Ent)(m:Nat)(s:ByteArray):Prop:=(∃ x,(agTo L x m=false∧InS L m x)∧x.id=s)∨DfP (fun i=>FuS E n (L i)) m s
theorem chn_in (hr:roomTo E n=true)(h:Chn E n S m s):∃ j,j<n∧(E j).id=s:=by
 cases h with
 | base _ hp _ hk=>obtain ⟨j,hj,_,e1⟩:=auth_there hr hp hk;exact ⟨j,by omega,e1⟩
 | step _ hp _ hk=>obtain ⟨j,hj,_,e1⟩:=auth_there hr hp hk;exact ⟨j,by omega,e1⟩
theorem fuS_in (hr:roomTo E n=true)(hf:FitL E n l)(h:FuS E n l s):∃ j,j<n∧(E j).id=s:=by
 rcases h with ⟨x,hx,rfl⟩|h
 ·obtain ⟨p,hp,_,_,_,_,e⟩:=fit1_parts (hf.fit x hx);exact ⟨p,hp,e⟩
 exact chn_in hr h
theorem cfP_in (hr:roomTo E n=true)(hf:∀ i,i<m->FitL E n (L i))(h:CfP E n L m s):∃ j,j<n∧(E j).id=s:=by
 rcases h with ⟨x,⟨_,i,hi,hx⟩,rfl⟩|⟨⟨i,hi,h⟩,_⟩
 ·obtain ⟨p,hp,_,_,_,_,e⟩:=fit1_parts ((hf i hi).fit x hx);exact ⟨p,hp,e⟩
 exact fuS_in hr (hf i hi) h
def viewTo (E:Nat->Ev)(n:Nat)(s:List Ent)(e:Ev):Nat->List Ent
 | 0=>[]
 | k+1=>setL (viewTo E n s e k) ⟨(eAt (ndL e) k).ty,(eAt (ndL e) k).key,if (findB s (eAt (ndL e) k).ty (eAt (ndL e) k).key).toList.isEmpty then frV E n (evP (eAt (ndL e) k).ty (eAt (ndL e) k).key) e else findB s (eAt (ndL e) k).ty (eAt (ndL e) k).key⟩ false
def viewL (E:Nat->Ev)(n:Nat)(s:List Ent)(e:Ev):List Ent:=viewTo E n s e (ndL e).length
def try1 (E:Nat->Ev)(n:Nat)(s:List Ent)(e:Ev):List Ent:=if e.st=true∧alV (evO E n (viewL E n s e)) e=0 then setL s ⟨e.ty,e.key,e.id⟩ false else s
def tryL (E:Nat->Ev)(n:Nat)(s:List Ent):List ByteArray->List Ent
 | []=>s
 | t :: r=>tryL E n (try1 E n s (E (posV E n t).toNat)) r
theorem tryL_snoc (E:Nat->Ev)(n:Nat)(t:ByteArray):∀ (r:List ByteArray) (s:List Ent),tryL E n s (r ++ [t])=try1 E n (tryL E n s r) (E (posV E n t).toNat)
 | [],s=>rfl
 | u :: r,s=>by
  show tryL E n _ (r ++ [t])=_
  rw [tryL_snoc E n t r];rfl
theorem FitL.try1 {s:List Ent}(hr:roomTo E n=true)(h:FitL E n s)(hp:p<n):FitL E n (try1 E n s (E p)):=by
 unfold Proofs.YtkdalopokdhndaaGreat.try1;split
 ·rename_i hc
  exact h.set fun _=>fit1_of hr hp hc.1
 exact h
theorem FitL.tryL {E:Nat->Ev}{n:Nat}(hr:roomTo E n=true):∀ {r:List ByteArray} {s:List Ent},FitL E n s->(∀ t ∈ r,0<=posV E n t)->FitL E n (tryL E n s r)
 | [],_,h,_=>h
 | t :: r,s,h,ht=>by
  have h0:=ht t List.mem_cons_self;have h1:=posV_bd E t n;exact FitL.tryL hr (r:=r) (h.try1 hr (show (posV E n t).toNat<n by omega)) fun u hu=>ht u (List.mem_cons_of_mem _ hu)
def ResR (E:Nat->Ev)(n:Nat)(L:Nat->List Ent)(m:Nat)(l:List Ent):Prop :=
 ∃ (f r:List ByteArray) (o:List Nat),(Srt f∧∀ s,s ∈ f↔CfP E n L m s)∧PoOrd E n (getL f) f.length o ∧
  (OrdL E n (fun p:Nat=>dp E n (ln E n (posV E n (findB (tryL E n (saI L m m) (o.map fun p=>(E p).id)) tPow tNil))) (p:Int)) r∧∀ s,s ∈ r↔s ∈ f∧s ∉ o.map fun p=>(E p).id) ∧
  l=patL (tryL E n (tryL E n (saI L m m) (o.map fun p=>(E p).id)) r) (saI L m m) (saI L m m).length
theorem okTo_fit {E:Nat->Ev}{n:Nat}(hr:roomTo E n=true){L:Nat->List Ent}:∀ {m},(∀ i,i<m->FitL E n (L i))->okTo L m=true
 | 0,_=>rfl
 | m+1,h=>by
  unfold okTo;rw [okTo_fit hr (fun i hi=>h i (by omega)),(h m (by omega)).st hr];rfl
theorem same_fit (hr:roomTo E n=true)(h:∀ i,i<m->FitL E n (L i)):FitL E n (saI L m m):=by
 rcases Nat.eq_zero_or_pos m with rfl|hm
 ·exact FitL.nil E n
 obtain ⟨h1,h2⟩:=saI_in hm (okTo_fit hr h);refine ⟨h1,fun x hx=>?_⟩;obtain ⟨_,i,hi,hxi⟩:=(h2 x).1 hx;exact (h i hi).fit x hxi
theorem po_in {o:List Nat}(hr:roomTo E n=true)(h:PoOrd E n S m o):∀ t ∈ o.map (fun p=>(E p).id),0<=posV E n t:=fun t ht=>by
 obtain ⟨p,hp,rfl⟩:=List.mem_map.1 ht;rw [posV_here hr (h.lt p hp)];omega
theorem ResR.fit (hr:roomTo E n=true)(hf:∀ i,i<m->FitL E n (L i))(h:ResR E n L m l):FitL E n l:=by
 obtain ⟨f,r,o,⟨_,h2⟩,h3,⟨_,h5⟩,rfl⟩:=h;have hs:=same_fit hr hf;have h6:=FitL.tryL hr hs (po_in hr h3)
 have h7:=FitL.tryL hr (r:=r) h6 (fun t ht=>by
  obtain ⟨j,hj,e⟩:=cfP_in hr hf ((h2 t).1 ((h5 t).1 ht).1);rw [<- e,posV_here hr hj];omega)
 exact h7.pat hs _ nL
theorem ord_uniq {l l':List ByteArray}(h:OrdL E n D l)(h':OrdL E n D l')(hm:∀ s,s ∈ l↔s ∈ l'):l=l':=by
 have nd:∀ {l:List ByteArray},OrdL E n D l->l.Nodup:=fun {l} h=>h.imp fun {a b} hab e=>by subst e;exact absurd hab (Bef.irrefl _)
 refine List.Perm.eq_of_pairwise (le:=fun a b:ByteArray=>Bef E D (plc E n a) (plc E n b)) (fun a b _ _ hab hba=>?_) h h' ((List.perm_ext_iff_of_nodup (nd h) (nd h')).2 hm);exact absurd (hab.trans hba) (Bef.irrefl _)
theorem ResR.uniq {l':List Ent}(h:ResR E n L m l)(h':ResR E n L m l'):l=l':=by
 obtain ⟨f,r,o,⟨h1,h2⟩,h3,⟨h4,h5⟩,rfl⟩:=h;obtain ⟨f',r',o',⟨h1',h2'⟩,h3',⟨h4',h5'⟩,rfl⟩:=h';have ef:f=f':=srt_unique h1 h1' (fun s=>(h2 s).trans (h2' s).symm);subst ef;have eo:o=o':=h3.uniq h3';subst eo;have er:r=r':=ord_uniq h4 h4' (fun s=>(h5 s).trans (h5' s).symm);subst er;rfl
variable {w:World}{b g o cap base icap:Nat}{a:Option Addr}
def FuPost (w:World)(P:ByteArray->Prop)(e:Ending)(w':World):Prop:=∃ v l,e=.returned v∧OwnL w' w.heap.size v l∧Srt l∧(∀ s,s ∈ l↔P s)∧Below w.heap.size w w'
theorem strL_one (l:List ByteArray)(u:Value)(h:u ∈ l.map Value.string):u.oneCell'=true:=by
 obtain ⟨x,_,rfl⟩:=List.mem_map.1 h;rfl
theorem OwnL.src {l:List ByteArray}(h:OwnL w base (.slice (some ⟨g,0,none⟩) n cap) l)(hn:n=l.length)(j:Nat)(u:Value)(hj:(l.map Value.string)[j]?=some u):w.cell? ((⟨g,0,none⟩:Addr).add j)=some u:=by
 have hlt:j<l.length:=by
  have:=(List.getElem?_eq_some_iff.1 hj).1;simpa using this
 rw [Addr.add_lit,Nat.zero_add,h.cell hn hlt,<- hj,List.getElem?_map,getL_some hlt];rfl
def lsT (S:Nat->ByteArray)(m:Nat):List ByteArray:=(List.range m).map S
theorem lsT_len (S:Nat->ByteArray)(m:Nat):(lsT S m).length=m:=by simp [lsT]
theorem lsT_mem :s ∈ lsT S m↔∃ i,i<m∧S i=s:=by
 unfold lsT;simp [List.mem_map,List.mem_range]
theorem lsT_src (hc:∀ i,i<m->w.cell? ⟨b,o+i,none⟩=some (.string (S i)))(j:Nat)(u:Value)(hj:((lsT S m).map Value.string)[j]?=some u):w.cell? ((⟨b,o,none⟩:Addr).add j)=some u:=by
 have hlt:j<m:=by
  have:=(List.getElem?_eq_some_iff.1 hj).1;simpa [lsT] using this
 rw [Addr.add_lit,hc j hlt,<- hj];simp [lsT,hlt]
theorem wp_append_run {P:Program}{o:Oper}{a:Act}{K:Act->World->Prop}{Q:Exit->Act->World->Prop}(s x:Operand)(t:TypeId)(ho:o.op=.call { callee:=.builtin .append,args:=#[s,x],argTypes:=#[t,t] })(v u v':Value)(w':World)(hr:(Builtin.append_ #[t,t] o.type #[v,u]).run P w=.ok v' w')(hs:a.eval s=v)(hx:a.eval x=u)(h:K (a.put o.dst v') w'):o.wp P a w K Q:=by
 unfold Oper.wp execOp;simp only [ho,resolve,invoke,builtin,Sem.run_bind,Sem.run_pure,Result.andThen_ok,List.map_toArray,List.map_cons,List.map_nil,hs,hx,hr];exact h
theorem wpList_append_run {P:Program}{ops:Array Oper}{rest:List Oper}{o:Oper}{a:Act}{Q:Exit->Act->World->Prop}(hgd:o.guard=none)(s x:Operand)(t:TypeId)(ho:o.op=.call { callee:=.builtin .append,args:=#[s,x],argTypes:=#[t,t] })(v u v':Value)(w':World)(hr:(Builtin.append_ #[t,t] o.type #[v,u]).run P w=.ok v' w')(hs:a.eval s=v)(hx:a.eval x=u)(h:wpList P ops Q rest (a.put o.dst v') w'):wpList P ops Q (o :: rest) a w :=
 wpList_plain hgd fun _ hK=>wp_append_run s x t ho v u v' w' hr hs hx (hK _ _ h)
theorem app_str (W:World)(base:Nat)(v:Value)(l news:List ByteArray)(sv:Value)(n:Nat)(ty:TypeId)(hn:news.length=n)(hown:OwnL W base v l)(hb:base<=W.heap.size)(hsz:l.length+n<=1000000)
  (hv:(∃ g cap,v=.slice (some ⟨g,0,none⟩) l.length cap) ) (hs:(n=0∧sv=.slice none 0 0)∨∃ b o c,sv=.slice (some ⟨b,o,none⟩) n c∧∀ j u,(news.map Value.string)[j]?=some u->W.cell? ((⟨b,o,none⟩:Addr).add j)=some u) :
  ∃ g' cap' w',(Builtin.append_ #[27,27] ty #[v,sv]).run Tryz.prog W=.ok (.slice (some ⟨g',0,none⟩) (l.length+n) cap') w'∧OwnL w' base (.slice (some ⟨g',0,none⟩) (l.length+n) cap') (l ++ news)∧W.grownBy w' v.ownBlock:=by
 obtain ⟨i0,hi,hz0,hz1,hz2⟩:=info_parts Tryz.infoString;obtain ⟨g,cap,rfl⟩:=hv
 have hmk:∀ g' cap' w',OwnL w' base (.slice (some ⟨g',0,none⟩) (l.length+n) cap') (l ++ news)↔w'.ownsRow base 9 1 (.slice (some ⟨g',0,none⟩) (l.length+n) cap') (l.length+n) (l.map Value.string ++ news.map Value.string):=fun g' cap' w'=>by
  unfold OwnL;rw [List.length_append,hn,List.map_append]
 rcases hs with ⟨h0,rfl⟩|⟨b,o,c,rfl,hsrc⟩
 ·subst h0
  have hnil:news=[]:=List.length_eq_zero_iff.1 hn;subst hnil
  have hc1:l.length<=cap:=by
   rcases hown.shape with ⟨h1,_⟩|⟨_,_,h1,_,_,h2,_⟩
   ·cases h1
   injection h1 with _ _ h3;omega
  have hap:=run_append_room_src (P:=Tryz.prog) (w:=W) 27 27 ty 9 i0 Tryz.underlying27 hi g 0 l.length cap (.slice none 0 0) 0 [] (Src.ofNil _ Tryz.underlying27 0) hc1 (fun j hj=>absurd hj (Nat.not_lt_zero _)) (fun j hj=>absurd hj (Nat.not_lt_zero _));simp only [World.setCells,Nat.add_zero] at hap;refine ⟨g,cap,W,by simpa using hap,?_,⟨rfl,rfl,rfl,nL,fun _ _ _=>rfl⟩⟩;rw [List.append_nil,Nat.add_zero];exact hown
 rcases Nat.eq_zero_or_pos n with h0|hpos
 ·subst h0
  have hnil:news=[]:=List.length_eq_zero_iff.1 hn;subst hnil;obtain ⟨v',w',hr,h2,h3,h4⟩:=run_append_own (P:=Tryz.prog) W base 27 ty 9 i0 (.string ByteArray.empty) 1 16 Tryz.underlying27 hi hz0 hz1 hz2 rfl (by decide) _ _ _ hown ⟨b,o,none⟩ 0 c [] rfl (fun j u hj=>by cases hj) (fun u hu=>by cases hu) (by unfold maxLen;omega) (by omega) hb;rcases h2.2 with ⟨e,_⟩|⟨g',cap',cur,e,_⟩
  ·exact absurd (h4.1 e).1 (by simp)
  subst e;exact ⟨g',cap',w',hr,(hmk _ _ _).2 h2,h3⟩
 obtain ⟨g',cap',w',hr,h2,h3,_,_⟩:=run_append_lies (P:=Tryz.prog) W 27 ty base 9 i0 (.string ByteArray.empty) 1 16 Tryz.underlying27 hi hz0 hz1 hz2 rfl (by decide) _ _ _ hown ⟨b,o,none⟩ n c (news.map Value.string) (by simp [hn]) hsrc (strL_one news) hpos (by unfold maxLen;omega) (by omega) hb _ rfl;exact ⟨g',cap',w',hr,(hmk _ _ _).2 h2,h3⟩
theorem fullS_sl {ib io:Nat}(w:World)(hroom:roomTo E n=true)(h:SlV w a n cap E)(hids:SlS w (some ⟨ib,io,none⟩) m icap S)(hm:m<=300)(hth:∀ i,i<m->0<=posV E n (S i)) :
  Calls Tryz.prog 104 #[.agg #[.slice a n cap],.slice (some ⟨ib,io,none⟩) m icap] w (FuPost w (fun s=>(∃ i,i<m∧S i=s)∨Chn E n S m s)):=by
 have h300:=room_300 hroom;obtain ⟨wa,hwa⟩:∃ wa,wa=w.alloc (.cells #[.slice a n cap] 25):=⟨_,rfl⟩;have hba:Below w.heap.size w wa:=by rw [hwa];exact bA
 have hza:wa.heap.size=w.heap.size+1:=by rw [hwa];simp
 obtain ⟨wc,hwc⟩:∃ wc,wc=wa.alloc (.cells #[] 9):=⟨_,rfl⟩;have hbc:Below wa.heap.size wa wc:=by rw [hwc];exact bA
 have hwcb:=hba.trans (hbc.mono hba.size);have hca:Hid (∀ W,Below wa.heap.size wa W->W.cell? ⟨w.heap.size,0,none⟩=some (.slice a n cap)):=fun W hW=>(hW.cell (by show w.heap.size<wa.heap.size;omega)).trans (by rw [hwa];exact kA rfl)
 have hown0:OwnL wc wa.heap.size (.slice (some ⟨wa.heap.size,0,none⟩) 0 0) []:=by rw [hwc];exact OwnL.new wa _ nL
 have hiw:=hids.below hwcb
 have hsrc:∀ j u,((lsT S m).map Value.string)[j]?=some u->wc.cell? ((⟨ib,io,none⟩:Addr).add j)=some u:=fun j u hj=>by
  rcases hiw.cells with h0|⟨bi,oi,e,_,hci⟩
  ·subst h0;simp [lsT] at hj
  injection e with e
  injection e with e1 e2
  subst e1 e2;exact lsT_src hci j u hj
 have Hap:Hid (∀ ty,∃ g' cap' w',(Builtin.append_ #[27,27] ty #[.slice (some ⟨w.heap.size+1,0,none⟩) 0 0,.slice (some ⟨ib,io,none⟩) m icap]).run Tryz.prog ((w.alloc (.cells #[.slice a n cap] 25)).alloc (.cells #[] 9))=.ok (.slice (some ⟨g',0,none⟩) m cap') w'∧OwnL w' wa.heap.size (.slice (some ⟨g',0,none⟩) m cap') (lsT S m)∧Below wa.heap.size wa w'):=fun ty=>by
  obtain ⟨g',cap',w',h1,h2,h3⟩:=app_str wc wa.heap.size (.slice (some ⟨wa.heap.size,0,none⟩) 0 0) [] (lsT S m) (.slice (some ⟨ib,io,none⟩) m icap) m ty (lsT_len S m) hown0 hbc.size (by simp;omega) ⟨_,_,rfl⟩ (Or.inr ⟨ib,io,icap,rfl,hsrc⟩);simp only [List.length_nil,Nat.zero_add,List.nil_append] at h1 h2
  refine ⟨g',cap',w',?_,h2,hbc.grown h3 hbc.size (fun k hk=>by
   have:some wa.heap.size=some k:=hk;injection this with this
   omega)⟩
  rw [<- hwa,<- hwc,<- hza];exact h1
 have Hch:Hid (∀ W,Below w.heap.size w W->Calls Tryz.prog 170 #[.agg #[.slice a n cap],.slice (some ⟨ib,io,none⟩) m icap] W (ChPost W E n S m)):=fun W hW=>l2Chain_sl W hroom (h.below hW) (hids.below hW) (by omega) hth
 have Hsz:Hid (∀ s,(∃ i,i<m∧S i=s)∨Chn E n S m s->s.size<=maxLen):=fun s hs=>by
  have key:∀ j,j<n->(E j).id.size<=maxLen:=fun j hj=>by
   rcases h.cells with h0|⟨_,_,_,_,hc⟩
   ·omega
   obtain ⟨_,_,_,_,_,_,_,hok⟩:=hc j hj;exact hok.hid
  rcases hs with ⟨i,hi,rfl⟩|hs
  ·obtain ⟨j,hj,_,e⟩:=posV_found E (S i) n (hth i hi)
   rw [<- ba_of_toList e];exact key j hj
  obtain ⟨j,hj,rfl⟩:=chn_id hroom hs;exact key j hj
 have Hlen:Hid (∀ l,Srt l->(∀ s,s ∈ l↔Chn E n S m s)->l.length<=300):=fun l h1 h2 =>
  nZ (ids_len hroom h1.nodup (fun s hs=>chn_id hroom ((h2 s).1 hs))) h300
 have HFin:Hid (∀ (w3:World) (v3:Value) (l2:List ByteArray),Below w.heap.size w w3->OwnL w3 w.heap.size v3 (lsT S m ++ l2)->l2.length<=300->(∀ s,s ∈ l2↔Chn E n S m s)->∀ a3 c3,v3=.slice a3 (m+l2.length) c3->Calls Tryz.prog 169 #[.slice a3 (m+l2.length) c3] w3 (FuPost w (fun s=>(∃ i,i<m∧S i=s)∨Chn E n S m s))):=fun w3 v3 l2 hw3 ho h1 h3 a3 c3 e3=>by
  have hmemL:∀ s,s ∈ lsT S m ++ l2↔(∃ i,i<m∧S i=s)∨Chn E n S m s:=fun s=>by rw [List.mem_append,lsT_mem,h3]
  obtain ⟨a4,c4,e4,hsl,_⟩:=ho.sl (fun s hs=>Hsz.out s ((hmemL s).1 hs));have hl3:(lsT S m ++ l2).length=m+l2.length:=by rw [List.length_append,lsT_len]
  rw [hl3] at e4 hsl;rw [e4] at e3;injection e3 with e31 _ e33
  subst e31 e33;refine (l2s_sl w3 (by omega) hsl).mono ?_;rintro x w4 ⟨v,l,rfl,ho4,hs4,hm4,hb4⟩;refine ⟨v,l,rfl,ho4.mono hw3.size,hs4,fun s=>?_,hw3.trans (hb4.mono hw3.size)⟩;refine ((hm4 s).trans ?_).trans (hmemL s);constructor
  ·rintro ⟨i,hi,e⟩
   rw [<- e];exact getL_mem (by rw [hl3];exact hi)
  intro hs;obtain ⟨i,hi,e⟩:=mem_getL hs;exact ⟨i,by rw [<- hl3];exact hi,e⟩
 obtain ⟨g1,cc1,w1,hap1,ho1,hb1⟩:=Hap.out 27;have c1:=hca.out _ hb1;have hw1:=hba.trans (hb1.mono hba.size);have Hs1:Hid (wa.heap.size<=w1.heap.size):=hb1.size;clear Hap hsrc hiw hown0 hwcb hbc hwc hroom h hids hth
 go_enter Tryz.func104,Tryz.ntmps104
 go_wp2_with (at_builtin;refine wpList_append_run rfl _ _ 27 rfl _ _ _ _ hap1 rfl rfl ?_;clear hap1)
 refine (Hch.out _ hw1).mono ?_;rintro x w2 ⟨v2,l2,rfl,ho2,hs2,hm2,hb2⟩;have hl2:=Hlen.out l2 hs2 hm2;have hw2:=hw1.trans (hb2.mono hw1.size);have ho1':=ho1.below hb2;have Hm2:Hid (∀ s,s ∈ l2↔Chn E n S m s):=hm2
 obtain ⟨a2,c2,hv2,hss⟩:∃ a2 c2,v2=.slice a2 l2.length c2∧((l2.length=0∧v2=.slice none 0 0)∨∃ b o c,v2=.slice (some ⟨b,o,none⟩) l2.length c∧∀ j u,(l2.map Value.string)[j]?=some u->w2.cell? ((⟨b,o,none⟩:Addr).add j)=some u):=by
  rcases ho2.shape with ⟨rfl,rfl⟩|⟨g2,cc2,rfl,_,_,_,_⟩
  ·exact ⟨none,0,rfl,Or.inl ⟨rfl,rfl⟩⟩
  exact ⟨_,_,rfl,Or.inr ⟨g2,0,cc2,rfl,fun j u hj=>ho2.src rfl j u hj⟩⟩
 subst hv2;obtain ⟨g3,cc3,w3,hap3,ho3,hg3⟩:=app_str w2 wa.heap.size (.slice (some ⟨g1,0,none⟩) m cc1) (lsT S m) l2 (.slice a2 l2.length c2) l2.length 27 rfl ho1' (by have:=Hs1.out;have:=hb2.size;omega) (by rw [lsT_len];omega) ⟨g1,cc1,by rw [lsT_len]⟩ hss;rw [lsT_len] at hap3 ho3
 have hw3:Below w.heap.size w w3:=hw2.grown hg3 hw2.size (fun q hq=>by
  have:=(World.ownsRow.lt ho1 q hq).1
  have:=hba.size;omega)
 have HCall:Hid (Calls Tryz.prog 169 #[.slice (some ⟨g3,0,none⟩) (m+l2.length) cc3] w3 (FuPost w (fun s=>(∃ i,i<m∧S i=s)∨Chn E n S m s))):=HFin.out w3 _ l2 hw3 (ho3.mono (by omega)) hl2 Hm2.out _ _ rfl;clear HFin hm2 hs2 ho2 hss ho3 hg3 ho1' ho1 Hch Hlen Hsz
 go_wp2_with (at_builtin;refine wpList_append_run rfl _ _ 27 rfl _ _ _ _ hap3 rfl rfl ?_;clear hap3)
 refine HCall.out.mono ?_;rintro x w4 ⟨v4,l4,rfl,q1,q2,q3,q4⟩;have HP:Hid (FuPost w (fun s=>(∃ i,i<m∧S i=s)∨Chn E n S m s) (.returned v4) w4):=⟨v4,l4,rfl,q1,q2,q3,q4⟩;clear q1 q2 q3 q4;go_wp2
 go_ret;exact HP.out
variable {k:Nat}
theorem findB_in (l:List Ent)(ty key:ByteArray):findB l ty key=⟨#[]⟩∨∃ x ∈ l,x.ty=ty∧x.key=key∧findB l ty key=x.id:=by
 rw [findB_eaL l ⟨ty,key,⟨#[]⟩⟩];unfold eaV
 cases hl:lookE l ⟨ty,key,⟨#[]⟩⟩ with
 | none=>exact Or.inl rfl
 | some y =>
  obtain ⟨h1,h2,h3⟩:=lookE_some hl;exact Or.inr ⟨y,h1,h2,h3,rfl⟩
theorem frV_in {P:Ev->Bool}(h:roomTo E n=true)(hp:p<n):frV E n P (E p)=⟨#[]⟩∨∃ q,q<n∧frV E n P (E p)=(E q).id∧P (E q)=true:=by
 unfold frV;rcases scTo_bd (P:=P) h hp with h0|⟨q,hq,e,hP⟩
 ·rw [h0,if_neg (by decide)];exact Or.inl rfl
 rw [e,if_pos (by omega),Int.toNat_natCast];exact Or.inr ⟨q,by omega,rfl,hP⟩
theorem emp_id:(⟨#[]⟩:ByteArray).toList.isEmpty=true:=by rw [ByteArray.toList_eq];rfl
theorem view_fit {E:Nat->Ev}{n p:Nat}{s:List Ent}(hr:roomTo E n=true)(h:FitL E n s)(hp:p<n):∀ k,FitL E n (viewTo E n s (E p) k)
 | 0=>FitL.nil E n
 | k+1=>by
  unfold viewTo;refine (view_fit hr h hp k).set fun hne=>?_
  generalize eAt (ndL (E p)) k=x at hne ⊢;dsimp only at hne ⊢;split
  ·rename_i hc
   rw [if_pos hc] at hne;rcases frV_in (P:=evP x.ty x.key) hr hp with h0|⟨q,hq,e,hP⟩
   ·rw [h0,emp_id] at hne;cases hne
   unfold evP at hP;simp only [Bool.and_eq_true] at hP
   have:=fit1_of hr hq hP.1.1;rw [e,<- ba_of_toList hP.1.2,<- ba_of_toList hP.2];exact this
  rename_i hc;rcases findB_in s x.ty x.key with h0|⟨y,hy,e1,e2,e3⟩
  ·rw [h0,emp_id] at hc;exact absurd rfl hc
  rw [e3,<- e1,<- e2];exact h.fit y hy
theorem nd_lenS (e:Ev):(ndL e).length<=5:=by
 unfold ndL ndY uq
 repeat' split
 all_goals simp
theorem FitL.ok (h:FitL E n l)(hz:∀ i,i<n->(E i).ty.size<=maxLen∧(E i).key.size<=maxLen∧(E i).id.size<=maxLen):AllOk l:=fun x hx=>by
 obtain ⟨p,hp,_,_,h1,h2,h3⟩:=fit1_parts (h.fit x hx);rw [<- h1,<- h2,<- h3];exact hz p hp
theorem lsT_snoc (S:Nat->ByteArray)(k:Nat):lsT S (k+1)=lsT S k ++ [S k]:=by simp [lsT,List.range_succ]
theorem try_no {y:Nat}{s:List Ent}(hy:posV E n (S k)=(y:Int))(h:(E y).st=false∨alV (evO E n (viewL E n (tryL E n s (lsT S k)) (E y))) (E y)≠0):tryL E n s (lsT S (k+1))=tryL E n s (lsT S k):=by
 rw [lsT_snoc,tryL_snoc,hy,Int.toNat_natCast];unfold try1;rw [if_neg];rintro ⟨h1,h2⟩;rcases h with h|h
 ·rw [h] at h1;cases h1
 exact h h2
theorem try_yes {y:Nat}{s:List Ent}(hy:posV E n (S k)=(y:Int))(h1:(E y).st=true)(h2:alV (evO E n (viewL E n (tryL E n s (lsT S k)) (E y))) (E y)=0):tryL E n s (lsT S (k+1))=setL (tryL E n s (lsT S k)) ⟨(E y).ty,(E y).key,(E y).id⟩ false:=by
 rw [lsT_snoc,tryL_snoc,hy,Int.toNat_natCast];unfold try1;rw [if_pos ⟨h1,h2⟩]
end Go.Proofs.YtkdalopokdhndaaGreat
