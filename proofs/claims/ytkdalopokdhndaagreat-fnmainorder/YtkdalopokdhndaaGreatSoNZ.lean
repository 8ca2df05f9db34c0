import Derived.Test.YtkdalopokdhndaaGreatDpIZ
set_option maxHeartbeats 16000000
set_option maxRecDepth 100000
namespace Go.Proofs.YtkdalopokdhndaaGreat
open Go.RowKit
variable {E:Nat->Ev}{D:Nat->Nat}{b c g k n o cp cap off base:Nat}{w w':World}{v:Value}
theorem fin_list {n:Nat}:∀ {l:List Nat},(∀ i ∈ l,i<n)->∃ d:List (Fin n),d.map Fin.val=l
 | [],_=>⟨[],rfl⟩
 | i :: l,h=>by
  obtain ⟨d,hd⟩:=fin_list (l:=l) (fun j hj=>h j (List.mem_cons_of_mem _ hj));exact ⟨⟨i,h i (List.mem_cons_self ..)⟩ :: d,by simp [hd]⟩
abbrev encN (k:Nat)(x:Fin (k+1)):Value:=.int .i64 ((x.val:Nat):Int)
abbrev cmpN (E:Nat->Ev)(D:Nat->Nat)(k:Nat)(x y:Fin (k+1)):Int:=cmpG E (fun i=>(D i:Int)) x.val y.val
theorem ltN_t {x y:Fin (k+1)}:ltOf (cmpN E D k) x y=true↔Bef E D x.val y.val:=by
 unfold ltOf;rw [decide_eq_true_eq];exact cmpG_lt E D _ _
theorem ltN_f {x y:Fin (k+1)}:ltOf (cmpN E D k) x y=false↔¬ Bef E D x.val y.val:=by
 rw [<- ltN_t];cases ltOf (cmpN E D k) x y <;> simp
theorem swoN (hr:roomTo E (k+1)=true):Sort.SWO (ltOf (cmpN E D k)) where
 irrefl x:=ltN_f.2 (Bef.irrefl _)
 trans x y z h1 h2:=ltN_t.2 ((ltN_t.1 h1).trans (ltN_t.1 h2))
 ntrans x y z h1 h2:=by
  rw [ltN_f] at h1 h2 ⊢;intro h
  by_cases e:x.val=y.val
  ·rw [e] at h;exact h2 h
  rcases Bef.total (D:=D) hr x.isLt y.isLt e with h3|h3
  ·exact h1 h3
  exact h2 (h3.trans h)
theorem sortN_heap {os:Array Obj}{cur:Array Value}{e:TypeId}{fr:Nat × Nat}(d:Array (Fin (k+1)))(hb:w.heap[g]?=some (.cells cur e fr)) :
  (sortWorld (encN k) w g 0 n d os).heap[g]?=some (.cells (Sort.putCells (encN k) 0 d cur) e fr):=by
 have hg:g<w.heap.size:=(Array.getElem?_eq_some_iff.1 hb).1
 show ((Sort.putRow (encN k) (Sort.ahead w n) g 0 d).heap ++ os)[g]?=_
 rw [Array.getElem?_append,if_pos (by simpa [Sort.putRow,Sort.mapBlock,Sort.ahead] using hg)];simp [Sort.putRow,Sort.mapBlock,Sort.ahead,Array.getElem?_modify,hb,Sort.onCells]
theorem sortN_grown {os:Array Obj}(d:Array (Fin (k+1))):w.grownBy (sortWorld (encN k) w g 0 n d os) (some g):=by
 refine ⟨rfl,rfl,rfl,by simp [sortWorld,Sort.grow,Sort.putRow,Sort.mapBlock,Sort.ahead],fun q hq hne=>?_⟩
 show ((Sort.putRow (encN k) (Sort.ahead w n) g 0 d).heap ++ os)[q]?=_
 rw [Array.getElem?_append,if_pos (by simpa [Sort.putRow,Sort.mapBlock,Sort.ahead] using hq)]
 have:g≠q:=fun e=>hne (by rw [e])
 simp [Sort.putRow,Sort.mapBlock,Sort.ahead,Array.getElem?_modify,this]
theorem takeN_put (cur:Array Value)(d:List (Fin (k+1)))(h:d.length<=cur.size):(Sort.putCells (encN k) 0 d.toArray cur).toList.take d.length=d.map (encN k):=by
 apply List.ext_getElem?;intro j
 by_cases hj:j<d.length
 ·rw [List.getElem?_take_of_lt hj,Array.getElem?_toList]
  simp [Sort.putCells,hj,show j<cur.size by omega]
 rw [List.getElem?_take_eq_none (by omega),List.getElem?_eq_none (by simpa using hj)]
theorem intsN (d:List (Fin (k+1))):d.map (encN k)=ints (lX (d.map Fin.val)) d.length:=by
 apply List.ext_getElem?;intro j
 by_cases hj:j<d.length
 ·rw [ints_get _ _ _ hj,List.getElem?_map,List.getElem?_eq_getElem hj]
  simp [lX,List.getD,hj]
 rw [List.getElem?_eq_none (by simpa using hj),List.getElem?_eq_none (by rw [ints_len];omega)]
theorem cell_lt {x:Value}(h:w.cell? ⟨c,o,none⟩=some x):c<w.heap.size:=by
 rcases Nat.lt_or_ge c w.heap.size with h'|h'
 ·exact h'
 simp [World.cell?,Array.getElem?_eq_none h'] at h
theorem GfAt.grown {bg bw db dc:Nat}{D:Nat->Int}(h:GfAt w bg bw b off n cap db dc E D)(hg:w.grownBy w' (some g))(h1:bg≠g)(h2:bw≠g)(h3:b≠g)(h4:db≠g):GfAt w' bg bw b off n cap db dc E D:=by
 have key:∀ c o x,c≠g->w.cell? ⟨c,o,none⟩=some x->w'.cell? ⟨c,o,none⟩=some x:=fun c o x hc hx=>by
  rw [World.cell?_of_block (a:=⟨c,o,none⟩) (hg.block c (cell_lt hx) (fun e=>hc (by injection e)))];exact hx
 exact ⟨key _ _ _ h1 h.g0,key _ _ _ h2 h.w0,fun p hp=>key _ _ _ h3 (h.id p hp),fun p hp=>key _ _ _ h3 (h.tm p hp),fun p hp=>key _ _ _ h4 (h.wt p hp)⟩
def SoPostN (w:World)(base:Nat)(v:Value)(l:List Nat)(E:Nat->Ev)(D:Nat->Nat)(e:Ending)(w':World):Prop:=e=.returned (.tuple #[])∧∃ l':List Nat,OwnI w' base v l'.length (lX l')∧l'.Perm l∧l'.Pairwise (fun a b=>¬ Bef E D b a)∧w.grownBy w' v.ownBlock
theorem grownBy_reflN (w:World)(row:Option Nat):w.grownBy w row:=⟨rfl,rfl,rfl,nL,fun _ _ _=>rfl⟩
theorem sortN_own {l:List Nat}{bg bw db dc:Nat}(hr:roomTo E n=true)(h:OwnI w base v l.length (lX l))(hmem:∀ i ∈ l,i<n)(hl:l.length<=1000000)
  (hG0:l≠[]->GfAt w bg bw b off n cp db dc E (fun i=>(D i:Int))) (hne:∀ g,v.ownBlock=some g->l≠[]->bg≠g∧bw≠g∧b≠g∧db≠g) :
  Calls Tryz.prog 118 #[v,.func (.func 175) #[] #[.pointer (some ⟨bg,0,none⟩),.pointer (some ⟨bw,0,none⟩)]] w (SoPostN w base v l E D):=by
 have h':=h;obtain ⟨h1,h2⟩:=h
 by_cases hz:l=[]
 ·subst hz
  obtain ⟨a,cap,rfl,_⟩:=h'.sl;have hcon:=AnyF.slices_SortFunc_none (P:=Tryz.prog) { Tryz.sortN with } a cap (.func (.func 175) #[] #[.pointer (some ⟨bg,0,none⟩),.pointer (some ⟨bw,0,none⟩)]) w
  change Calls Tryz.prog 118 _ _ _ at hcon
  refine hcon.mono ?_;rintro e w' ⟨rfl,rfl⟩;exact ⟨rfl,[],h',List.Perm.refl _,List.Pairwise.nil,grownBy_reflN _ _⟩
 have hpos:0<l.length:=List.length_pos_iff.2 hz;have hG:=hG0 hz;rcases h2 with ⟨rfl,h0⟩|⟨g,cap,cur,rfl,hg,hh,hn,hc,hcs,hx⟩
 ·omega
 obtain ⟨k,rfl⟩:∃ k,n=k+1:=⟨n - 1,by
  obtain ⟨i,hi⟩:=List.exists_mem_of_length_pos hpos
  have:=hmem i hi;omega⟩
 obtain ⟨d,rfl⟩:=fin_list hmem;rw [List.length_map] at hn hx hl;have hlt:g<w.heap.size:=(Array.getElem?_eq_some_iff.1 hh).1;obtain ⟨n1,n2,n3,n4⟩:=hne g rfl hz;have eg:∀ args w,(callFunc 175 args).run Tryz.prog w=.ok (.enter 175 args) w:=enters_of Tryz.func175 (by kernel_rfl) rfl
 have hcmp:CmpLays1 Tryz.prog 175 #[.pointer (some ⟨bg,0,none⟩),.pointer (some ⟨bw,0,none⟩)] (encN k) (cmpN E D k) g 0 d.toArray.size w:=fun m os dk _ x y =>
  (gfc_any x.val y.val x.isLt y.isLt (hG.grown (sortN_grown dk) n1 n2 n3 n4)).mono fun _ _ h=>⟨h.1,h.2.eq⟩
 have hH:Sort.Holds (encN k) w g 0 d.toArray:=by
  intro j hj;have hj':j<d.length:=by simpa using hj
  refine ⟨?_,by simp [World.frozen?,hh]⟩;have h1:(cur.toList.take d.length)[j]?=(d.map (encN k))[j]?:=by rw [intsN,<- hx,Nat.mul_one]
  rw [List.getElem?_take_of_lt hj'] at h1;simp only [World.cell?,hh,Nat.zero_add];simp only [Option.isSome_none,Bool.false_eq_true,if_false];rw [<- Array.getElem?_toList,h1];simp [hj']
 have hcon:=Any.slices_SortFunc Tryz.sortN (encN k) (fun _=>rfl) (cmpN E D k) (swoN hr) 175 #[.pointer (some ⟨bg,0,none⟩),.pointer (some ⟨bw,0,none⟩)] g 0 cap d.toArray w eg hcmp hH hlt (by simp;omega)
 change Calls Tryz.prog 118 _ _ _ at hcon
 rw [List.size_toArray] at hcon;rw [List.length_map];refine hcon.mono ?_;rintro e w' ⟨rfl,d',m,os,hp,hs,rfl⟩;obtain ⟨d'⟩:=d';obtain ⟨p1,_,p3⟩:=hp;have hlen:d'.length=d.length:=by simpa using p1
 have hperm:d'.Perm d:=by
  have e1:((⟨d'⟩:Array (Fin (k+1))).extract 0 d.length).toList=d':=by simp [<- hlen]
  have e2:(d.toArray.extract 0 d.length).toList=d:=by simp
  rw [e1,e2] at p3;exact p3
 refine ⟨rfl,d'.map Fin.val,?_,hperm.map _,?_,?_⟩
 ·rw [List.length_map]
  refine ⟨by rw [ints_len,Nat.mul_one],Or.inr ⟨g,cap,Sort.putCells (encN k) 0 d'.toArray cur,by rw [hlen],hg,sortN_heap _ hh,by omega,hc,by simp [Sort.putCells,hcs],?_⟩⟩
  have:=takeN_put cur d' (by rw [hlen,hcs];omega);rw [intsN] at this;simpa using this
 ·refine List.pairwise_map.2 (List.pairwise_iff_getElem.2 fun i j hi hj hij=>?_)
  have:=hs i j nz hij (by omega);rw [ltN_f] at this;have e1:(⟨d'⟩:Array (Fin (k+1)))[i]! = d'[i]:=by rw [getElem!_pos (⟨d'⟩:Array (Fin (k+1))) i (by simpa using hi)];rfl
  have e2:(⟨d'⟩:Array (Fin (k+1)))[j]! = d'[j]:=by rw [getElem!_pos (⟨d'⟩:Array (Fin (k+1))) j (by simpa using hj)];rfl
  rw [e1,e2] at this;exact this
 exact sortN_grown _
end Go.Proofs.YtkdalopokdhndaaGreat
namespace Go.Proofs.YtkdalopokdhndaaGreat
open Go.RowKit Go.Maps Go.ChangeMaps
variable {W w w1 w2:World}{b m n lc rc cap base:Nat}{a la ra:Option Addr}{v:Value}{E:Nat->Ev}{D:Nat->Nat}
theorem plsL_lt (M:Nat->Bool):∀ k,(plsL M k).Pairwise (· < ·)
 | 0=>List.Pairwise.nil
 | k+1=>by
  have ih:=plsL_lt M k;unfold plsL;split
  ·refine List.pairwise_append.2 ⟨ih,List.pairwise_singleton _ _,fun p hp q hq=>?_⟩
   rw [List.mem_singleton] at hq;rw [hq];exact ((plsL_mem M p k).1 hp).1
  exact ih
def SoFin (wb:World)(base:Nat)(v:Value)(l:List Nat)(E:Nat->Ev)(D:Nat->Nat)(w4:World):Prop :=
 ∃ l':List Nat,OwnI w4 base v l'.length (lX l')∧l'.Perm l∧l'.Pairwise (Bef E D)∧Below base wb w4
theorem InAt.sl {M:Nat->Int}(h:InAt w b n M)(p:Nat)(hp:p<n):w.cell? ⟨b,0+p,none⟩=some (.int .i64 (M p)):=by rw [Nat.zero_add];exact (h.2 p hp).1
theorem so_arm {wb w3:World}{bg bw db:Nat}{l:List Nat}(hroom:roomTo E n=true)(hl:l.Pairwise (· < ·))(hmem:∀ i ∈ l,i<n)(hll:l.length<=1000000)
  (hb1:Below base wb w1) (hbs:base<=wb.heap.size) (h:SlV w1 a n cap E) (hev:∀ b off,a=some ⟨b,off,none⟩->0<n->b<base) (ho1:OwnI w1 base v l.length (lX l)) (h12:Below w1.heap.size w1 w2) (hin:InAt w2 db n (fun i=>(D i:Int))) (hdb:w1.heap.size<=db)
  (h23:Below w2.heap.size w2 w3) (hbg:w2.heap.size<=bg) (hbw:w2.heap.size<=bw) (hc1:w3.cell? ⟨bg,0,none⟩=some (.slice a n cap)) (hc2:w3.cell? ⟨bw,0,none⟩=some (.slice (some ⟨db,0,none⟩) n n)) (h3W:Below w3.heap.size w3 W) :
  Calls Tryz.prog 118 #[v,.func (.func 175) #[] #[.pointer (some ⟨bg,0,none⟩),.pointer (some ⟨bw,0,none⟩)]] W fun e w4=>e=.returned (.tuple #[])∧SoFin wb base v l E D w4:=by
 have h13:=h12.trans (h23.mono h12.size);have h1W:=h13.trans (h3W.mono h13.size);have hs12:=h12.size;have hsW:=h1W.size;have hsb:=hb1.size;have hbW:=hb1.trans (h1W.mono (by omega));have hown:OwnI W base v l.length (lX l):=ho1.below h1W;have hvb:∀ g,v.ownBlock=some g->base<=g∧g<w1.heap.size:=fun g hg=>World.ownsRow.lt ho1 g hg
 have fin:∀ e w4,SoPostN W base v l E D e w4->e=.returned (.tuple #[])∧SoFin wb base v l E D w4:=by
  rintro e w4 ⟨rfl,l',ho,hperm,hpw,hg⟩;refine ⟨rfl,l',ho,hperm,?_,hbW.grown hg (by omega) (fun g hg'=>(hvb g hg').1)⟩;have hnd:l'.Pairwise (fun a b=>a≠b):=(hperm.symm.nodup (hl.imp fun {a b} hab=>Nat.ne_of_lt hab));refine (List.Pairwise.and hpw hnd).imp_of_mem fun {x y} hx hy hxy=>?_
  rcases Bef.total (D:=D) hroom (hmem x (hperm.mem_iff.1 hx)) (hmem y (hperm.mem_iff.1 hy)) hxy.2 with h1|h1
  ·exact h1
  exact absurd h1 hxy.1
 rcases Nat.eq_zero_or_pos n with h0|hpos
 ·have hnil:l=[]:=by
   rcases l with _|⟨x,l⟩
   ·rfl
   have:=hmem x (List.mem_cons_self ..);omega
  exact (sortN_own (bg:=bg) (bw:=bw) (b:=0) (off:=0) (cp:=0) (db:=0) (dc:=0) hroom hown hmem hll (fun hq=>absurd hnil hq) (fun _ _ hq=>absurd hnil hq)).mono fin
 rcases h.cells with h0|⟨b,off,rfl,hb,hc⟩
 ·omega
 have hbb:=hev b off rfl hpos;have k1:∀ o x,w1.cell? ⟨b,o,none⟩=some x->W.cell? ⟨b,o,none⟩=some x:=fun o x hx=>(h1W.cell (by exact hb)).trans hx
 have hG:GfAt W bg bw b off n cap db n E (fun i=>(D i:Int)):=by
  refine ⟨(h3W.cell (by exact cell_lt hc1)).trans hc1,(h3W.cell (by exact cell_lt hc2)).trans hc2,fun p hp=>?_,fun p hp=>?_,fun p hp=>?_⟩
  ·obtain ⟨_,_,_,_,_,_,hec,_⟩:=hc p hp
   exact k1 _ _ hec.c0
  ·obtain ⟨_,_,_,_,_,_,hec,_⟩:=hc p hp
   exact k1 _ _ hec.c5
  have h2W:=h23.trans (h3W.mono h23.size);exact (h2W.cell (by exact hin.1)).trans (hin.sl p hp)
 exact (sortN_own hroom hown hmem hll (fun _=>hG) (fun g hg _=>by
  have:=hvb g hg;exact ⟨by omega,by omega,by omega,by omega⟩)).mono fin
def MoIPost (w:World)(E:Nat->Ev)(n:Nat)(l:List Nat)(M:Nat->Bool)(e:Ending)(w':World):Prop :=
 ∃ v o,e=.returned v∧OwnI w' w.heap.size v o.length (lX o)∧o.Perm (plsL M n)∧o.Pairwise (Bef E (fun p:Nat=>dp E n l (p:Int)))∧Below w.heap.size w w'
theorem moI_sl {bm:Nat}{M:Nat->Bool}{l:List Nat}(w:World)(hroom:roomTo E n=true)(hd:l.Pairwise (fun a b=>b<a))(hmem:∀ i ∈ l,i<n)(hll:l.length<=n)(h:SlV w a n cap E)(hr:SlL w ra n rc (restN E) (restV E))(hM:BlAt w bm n M)(hl:SlI w la l.length lc (lX l)) :
  Calls Tryz.prog 61 #[.agg #[.slice a n cap,.map (some m),.slice ra n rc],.slice (some ⟨bm,0,none⟩) n n,.slice la l.length lc] w (MoIPost w E n l M):=by
 have h300:=room_300 hroom;obtain ⟨wb,hwb⟩:∃ wb,wb=w.alloc (.cells #[.slice a n cap,.map (some m),.slice ra n rc] 62):=⟨_,rfl⟩;have hb0:Below w.heap.size w wb:=by rw [hwb];exact bA
 have hs0:wb.heap.size=w.heap.size+1:=by rw [hwb];simp
 have hbx:Hid (∀ wx,Below (w.heap.size+1) wb wx->∀ o,wx.cell? ⟨w.heap.size,o,none⟩=(#[.slice a n cap,.map (some m),.slice ra n rc]:Array Value)[o]?):=fun wx hx=>by subst hwb;exact box_cells hx
 have hev:Hid (∀ b off,a=some ⟨b,off,none⟩->0<n->b<w.heap.size+1):=fun b off e hn=>by
  rcases h.cells with h0|⟨b',off',e',hb',_⟩
  ·omega
  rw [e] at e';injection e' with e';injection e' with e1 _;omega
 have Hroom:Hid (_):=hroom;have Hd:Hid (_):=hd;have Hmem:Hid (∀ i ∈ l,i<n):=hmem;clear hroom hd hmem
 go_enter Tryz.func61,Tryz.ntmps61
 go_wp2_with fail
 rw [<- hwb];refine (plsI_sl _ h300 (hM.below hb0)).mono ?_;rintro e w1 ⟨v,rfl,ho1,hb1⟩;rw [hs0] at ho1 hb1;have hw1:=hb0.trans (hb1.mono (by omega));have hs1:=hb1.size;obtain ⟨oa,oc,rfl,_⟩:=ho1.sl;have hbx1:=hbx.out _ hb1
 have HD:Hid (∀ W,Below w1.heap.size w1 W->Calls Tryz.prog 119 #[.agg #[.slice a n cap,.map (some m),.slice ra n rc],.slice la l.length lc] W fun e w' =>
   ∃ b,e=.returned (.slice (some ⟨b,0,none⟩) n n)∧W.heap.size<=b∧InAt w' b n (fun i=>(dp E n l (i:Int):Int))∧Below W.heap.size W w'):=fun W hW=>depI_sl W Hroom.out Hd.out Hmem.out hll ((h.below hw1).below hW) ((hr.below hw1).below hW) ((hl.below hw1).below hW)
 have HS:Hid (∀ (w2 w3 W:World) (db bg bw:Nat),Below w1.heap.size w1 w2->InAt w2 db n (fun i=>(dp E n l (i:Int):Int))->w1.heap.size<=db->Below w2.heap.size w2 w3->w2.heap.size<=bg->w2.heap.size<=bw->w3.cell? ⟨bg,0,none⟩=some (.slice a n cap)->w3.cell? ⟨bw,0,none⟩=some (.slice (some ⟨db,0,none⟩) n n)->Below w3.heap.size w3 W →
   Calls Tryz.prog 118 #[.slice oa (plsL M n).length oc,.func (.func 175) #[] #[.pointer (some ⟨bg,0,none⟩),.pointer (some ⟨bw,0,none⟩)]] W fun e w4=>e=.returned (.tuple #[])∧SoFin wb (w.heap.size+1) (.slice oa (plsL M n).length oc) (plsL M n) E (fun p:Nat=>dp E n l (p:Int)) w4):=fun w2 w3 W db bg bw q1 q2 q3 q4 q5 q6 q7 q8 q9 =>
  so_arm (D:=fun p:Nat=>dp E n l (p:Int)) Hroom.out (plsL_lt M n) (fun i hi=>((plsL_mem M i n).1 hi).1) (by have:=plsL_len M n;omega) hb1 (by omega) (h.below hw1) hev.out ho1 q1 q2 q3 q4 q5 q6 q7 q8 q9
 have HF:Hid (∀ w4,SoFin wb (w.heap.size+1) (.slice oa (plsL M n).length oc) (plsL M n) E (fun p:Nat=>dp E n l (p:Int)) w4->MoIPost w E n l M (.returned (.slice oa (plsL M n).length oc)) w4):=fun w4 ⟨l',q1,q2,q3,q4⟩=>⟨_,l',rfl,q1.monoM (by omega),q2,q3,hb0.trans (q4.mono (by omega))⟩
 have hso:Hid (∀ W,Below w1.heap.size w1 W->∀ o,W.cell? ⟨w.heap.size,o,none⟩=(#[.slice a n cap,.map (some m),.slice ra n rc]:Array Value)[o]?):=fun W hW=>hbx.out _ (hb1.trans (hW.mono (by omega)))
 generalize (plsL M n).length=oL at *;clear hbx ho1 hb0 hb1 hw1 hM
 go_wp2_with fail
 go_region_with (first
  | (go_at_call 119;refine (HD.out _ (by first|exact kB|exact kB.drew|exact kB.drew.drew|exact kB.drew.drew.drew|exact kB.drew.drew.drew.drew)).mono ?_;rintro e w2 ⟨db,rfl,hdb,hin2,hb2⟩;have h12:Below w1.heap.size w1 w2:=Below.trans (by first|exact Below.refl w1.heap.size w1|exact (Below.refl w1.heap.size w1).drew|exact (Below.refl w1.heap.size w1).drew.drew|exact (Below.refl w1.heap.size w1).drew.drew.drew) hb2;have hbx2:=hso.out _ h12)
  | (go_at_call 109;refine (gf_any _ _ _ _ _ _ _ _ _ _ _).mono ?_;rintro e w3 ⟨bg,bw,rfl,hbg,hbw,hc1,hc2,hb3⟩;have h23:Below w2.heap.size w2 w3:=Below.trans (by first|exact Below.refl w2.heap.size w2|exact (Below.refl w2.heap.size w2).drew|exact (Below.refl w2.heap.size w2).drew.drew|exact (Below.refl w2.heap.size w2).drew.drew.drew) hb3)
  | (go_at_call 118;refine (HS.out w2 w3 _ db bg bw h12 hin2 hdb h23 hbg hbw hc1 hc2 (by first|exact kB|exact kB.drew|exact kB.drew.drew|exact kB.drew.drew.drew)).mono ?_;rintro e w4 ⟨rfl,hfin⟩))
 all_goals
  go_wp2
  go_ret;exact HF.out _ hfin
end Go.Proofs.YtkdalopokdhndaaGreat
namespace Go.Proofs.YtkdalopokdhndaaGreat
open Go.RowKit
variable {a ia ra:Option Addr}{m n rc cap icap:Nat}{E:Nat->Ev}{S:Nat->ByteArray}
def GvPostG (w:World)(E:Nat->Ev)(n:Nat)(S:Nat->ByteArray)(m:Nat)(ok:Bool)(e:Ending)(w':World):Prop:=Below w.heap.size w w' ∧
 ((ok=true∧∃ ga gc,e=.returned (.tuple #[.slice ga m gc,.bool true])∧SlI w' ga m gc (fun i=>posV E n (S i)))∨(ok=false∧e=.returned (.tuple #[.slice none 0 0,.bool false])))
theorem givenG_sl {mm:Nat}{nr:Nat}(w:World)(hm:MapAt w mm n (knE E n) (posV E n))(hs:SlS w ia m icap S) :
  Calls Tryz.prog 51 #[.agg #[.slice a n cap,.map (some mm),.slice ra nr rc],.slice ia m icap] w (GvPostG w E n S m (thereB E n S m)):=by
 have hmx:=nZ hs.le hs.max;unfold maxLen at hmx;have hb0:∀ o,Below w.heap.size w (w.alloc o):=fun o=>bA
 by_cases h3:m<=300
 ·have ht:thereB E n S m=allTo (knE E n) S m:=by unfold thereB;rw [decide_eq_true h3,allTo_there];rfl
  have Ht:Hid (_=_):=ht;have hg:¬ (300<m):=by omega
  clear ht
  go_enter Tryz.func51,Tryz.ntmps51
  go_wp2_with fail
  refine (find_sl _ (hm.below (hb0 _)) (by omega) (hs.below (hb0 _))).mono ?_;rintro e w1 ⟨hb1,hp⟩;have hbw:=(hb0 _).trans (hb1.mono (by simp));rcases hp with ⟨hq,v,rfl,ho⟩|⟨hq,rfl⟩
  ·obtain ⟨ga,gc,rfl,hsl⟩:=ho.sl
   have Hq:Hid (_):=hq;clear hq;go_wp2
   refine bodyPost_ret (v:=.tuple #[.slice ga m gc,.bool true]) (by simp [results,Tryz.results51,go_sem]) rfl ⟨hbw,Or.inl ⟨Ht.out.trans Hq.out,ga,gc,rfl,hsl⟩⟩
  have Hq:Hid (_):=hq;clear hq;go_wp2
  refine bodyPost_ret (v:=.tuple #[.slice none 0 0,.bool false]) (by simp [results,Tryz.results51,go_sem]) rfl ⟨hbw,Or.inr ⟨Ht.out.trans Hq.out,rfl⟩⟩
 have ht:Hid (thereB E n S m=false):=by unfold Hid thereB;rw [decide_eq_false h3];rfl
 go_enter Tryz.func51,Tryz.ntmps51
 go_wp2
 refine bodyPost_ret (v:=.tuple #[.slice none 0 0,.bool false]) (by simp [results,Tryz.results51,go_sem]) rfl ⟨hb0 _,Or.inr ⟨ht.out,rfl⟩⟩
end Go.Proofs.YtkdalopokdhndaaGreat
namespace Go.Proofs.YtkdalopokdhndaaGreat
open Go.RowKit Go.Maps Go.ChangeMaps
variable {E:Nat->Ev}{m n cap icap:Nat}{S:Nat->ByteArray}{D:Nat->Nat}{a ia:Option Addr}
theorem mo_fin {o:List Nat}(hr:roomTo E n=true)(hth:thereB E n S m=true)(hperm:o.Perm (plsL (fun i=>hitX (fun i=>posV E n (S i)) i m) n))(hpw:o.Pairwise (Bef E D)) :
  OrdL E n D (o.map fun p=>(E p).id)∧∀ t,t ∈ (o.map fun p=>(E p).id)↔∃ i,i<m∧S i=t:=by
 have hmem:∀ p ∈ o,p<n:=fun p hp=>((plsL_mem _ p n).1 (hperm.mem_iff.1 hp)).1
 have hpl:∀ p ∈ o,plc E n (E p).id=p:=fun p hp=>by unfold plc;rw [posV_here hr (hmem p hp),Int.toNat_natCast]
 have hid:∀ j p,posV E n (S j)=((p:Nat):Int)->(E p).id=S j:=fun j p e=>by
  obtain ⟨i,hi,e2,hb⟩:=posV_found E (S j) n (by omega)
  have:i=p:=by omega
  subst this;exact ba_of_toList hb
 refine ⟨?_,fun t=>?_⟩
 ·unfold OrdL
  refine List.pairwise_map.2 (hpw.imp_of_mem fun {a b} ha hb hab=>?_);rw [hpl a ha,hpl b hb];exact hab
 rw [List.mem_map];constructor
 ·rintro ⟨p,hp,rfl⟩
  obtain ⟨_,h2⟩:=(plsL_mem _ p n).1 (hperm.mem_iff.1 hp);obtain ⟨j,hj,e⟩:=(hitX_iff _ p m).1 h2;exact ⟨j,hj,(hid j p e).symm⟩
 rintro ⟨i,hi,rfl⟩;obtain ⟨p,hp,e,_⟩:=posV_found E (S i) n ((there_allM hth).2 i hi);exact ⟨p,hperm.mem_iff.2 ((plsL_mem _ p n).2 ⟨hp,(hitX_iff _ p m).2 ⟨i,hi,e⟩⟩),hid i p e⟩
def MkP (w3:World)(n:Nat)(M:Nat->Bool)(e:Ending)(w':World):Prop:=∃ b,e=.returned (.slice (some ⟨b,0,none⟩) n n)∧BlAt w' b n M∧Below w3.heap.size w3 w'
def MoQ2 (w3:World)(E:Nat->Ev)(n:Nat)(l:List Nat)(M:Nat->Bool)(e:Ending)(w':World):Prop:=∃ oa oc o,e=.returned (.slice oa o.length oc)∧SlI w' oa o.length oc (lX o)∧Hid (o.Perm (plsL M n)∧o.Pairwise (Bef E (fun p:Nat=>dp E n l (p:Int))))∧Below w3.heap.size w3 w'
def IaP (w3:World)(base:Nat)(E:Nat->Ev)(o:List Nat)(e:Ending)(w':World):Prop:=∃ v,e=.returned v∧OwnL w' base v (o.map fun p=>(E p).id)∧Below w3.heap.size w3 w'
theorem ids_map (E:Nat->Ev)(o:List Nat):(List.range o.length).map (fun k=>(E (lX o k).toNat).id)=o.map fun p=>(E p).id:=by
 apply List.ext_getElem?;intro j
 by_cases hj:j<o.length
 ·simp [hj,lX,List.getD]
 rw [List.getElem?_eq_none (by simpa using hj),List.getElem?_eq_none (by simpa using hj)]
theorem moJ_sl (s:ByteArray)(hs:s.size<=maxLen)(w:World)(h:SlV w a n cap E)(hids:SlS w ia m icap S) :
  Calls Tryz.prog 22 #[.agg #[.slice a n cap],.slice ia m icap,.string s] w (MoPost w E n S m s):=by
 have hb0:∀ o,Below w.heap.size w (w.alloc o):=fun o=>bA
 have HN:Hid (∀ w',moOk E n S m s=false->Below w.heap.size w w'->MoPost w E n S m s (.returned (.tuple #[.slice none 0 0,.bool false])) w'):=fun w' hq hb=>⟨hb,_,[],by rw [hq],OwnL.nil _ _,Or.inr ⟨hq,rfl⟩⟩
 go_enter Tryz.func22,Tryz.ntmps22
 go_wp2_with fail
 refine (graph_sl _ (h.below (hb0 _))).mono ?_;rintro e w1 ⟨hb1,hp⟩;have hw1:=(hb0 _).trans (hb1.mono (hb0 _).size);rcases hp with ⟨hq,mm,ra,rc,rfl,hmp,hrs⟩|⟨hq,rfl⟩
 ·have Hq:Hid (_):=hq
  have h300:=room_300 hq;have hbA:∀ o,Below w1.heap.size w1 (w1.alloc o):=fun o=>bA
  clear hq hb1
  go_wp2_with fail
  refine (lineI_sl s hs _ Hq.out ((h.below hw1).below (hbA _)) (hmp.below (hbA _)) (hrs.below (hbA _))).mono ?_;rintro e w2 ⟨hb2,v,rfl,hown⟩;have hX2:=hb2.mono (B':=w1.heap.size+1) (by simp);have h12:=(hbA _).trans (hb2.mono (by simp));have hw2:=hw1.trans (h12.mono hw1.size);have hcx:=box_cells hX2;have hS2:w1.heap.size+1<=w2.heap.size:=by simpa using hX2.size
  obtain ⟨la,lc,rfl,hli⟩:=hown.sl;clear hb2 hown;cases hml:mlOk E n s
  case false =>
   have Hf:Hid (moOk E n S m s=false):=by unfold Hid moOk;rw [hml];rfl
   clear hml;generalize (mlL E n s).length=oL at *;go_wp2
   refine bodyPost_ret (v:=.tuple #[.slice none 0 0,.bool false]) (by simp [results,Tryz.results22,go_sem]) rfl (HN.out _ Hf.out hw2)
  case true =>
   have Hml:Hid (mlOk E n s=true):=hml;have hl:mlL E n s=ln E n (posV E n s):=by unfold mlL;rw [hml];rfl
   obtain ⟨l,hll⟩:∃ l,l=ln E n (posV E n s):=⟨_,rfl⟩;rw [hl,<- hll] at hli;have Hl:Hid (_=_):=hll;rw [hl,<- hll];clear hml hl hll;have hlen:l.length<=n:=by rw [Hl.out];exact ln_len E n _
   go_wp2_with fail
   refine (givenG_sl _ (hmp.below h12) (hids.below hw2)).mono ?_;rintro e w3 ⟨hb3,hpg⟩;have hw3:=hw2.trans (hb3.mono hw2.size);have h13:=h12.trans (hb3.mono h12.size);have hX3:=hX2.trans (hb3.mono hS2);rcases hpg with ⟨hth,ga,gc,rfl,hgi⟩|⟨hth,rfl⟩
   ·have Hth:Hid (thereB E n S m=true):=hth
    have hm3:m<=300:=(there_allM hth).1
    have HMk:Hid (∀ W,Below w3.heap.size w3 W->Calls Tryz.prog 54 #[.agg #[.slice a n cap,.map (some mm),.slice ra n rc],.slice ga m gc] W (MkP w3 n (fun i=>hitX (fun i=>posV E n (S i)) i m))):=fun W hW =>
     (markI_sl W h300 (hgi.below hW) (fun i hi=>by
      have h1:=(there_allM Hth.out).2 i hi;have h2:=posV_bd E (S i) n;exact ⟨(posV E n (S i)).toNat,by omega,by omega⟩)).mono fun e w' ⟨b,he,_,hM,hb⟩=>⟨b,he,hM,hW.trans (hb.mono hW.size)⟩
    have HMo:Hid (∀ W b,Below w3.heap.size w3 W->BlAt W b n (fun i=>hitX (fun i=>posV E n (S i)) i m)->Calls Tryz.prog 61 #[.agg #[.slice a n cap,.map (some mm),.slice ra n rc],.slice (some ⟨b,0,none⟩) n n,.slice la l.length lc] W (MoQ2 w3 E n l (fun i=>hitX (fun i=>posV E n (S i)) i m))):=fun W b hW hM =>
     (moI_sl W Hq.out (by rw [Hl.out];exact ln_desc Hq.out (posV_bd E s n).2) (by rw [Hl.out];exact ln_mem Hq.out (posV_bd E s n).2) hlen ((h.below hw3).below hW) ((hrs.below h13).below hW) hM ((hli.below hb3).below hW)).mono fun e w' ⟨v,o,he,ho,hpm,hpw,hb⟩=>by
      obtain ⟨oa,oc,rfl,hsl⟩:=ho.sl;exact ⟨oa,oc,o,he,hsl,⟨hpm,hpw⟩,hW.trans (hb.mono hW.size)⟩
    have HIa:Hid (∀ W oa oc o,Below w3.heap.size w3 W->SlI W oa (List.length o) oc (lX o)->Hid (o.Perm (plsL (fun i=>hitX (fun i=>posV E n (S i)) i m) n)∧o.Pairwise (Bef E (fun p:Nat=>dp E n l (p:Int))))->Calls Tryz.prog 52 #[.agg #[.slice a n cap,.map (some mm),.slice ra n rc],.slice oa o.length oc] W (IaP w3 w.heap.size E o)):=fun W oa oc o hW hsl hpm=>by
     have hmem:∀ p ∈ o,p<n:=fun p hp=>((plsL_mem _ p n).1 (hpm.out.1.mem_iff.1 hp)).1
     have hol:o.length<=1048576:=by rw [hpm.out.1.length_eq];have:=plsL_len (fun i=>hitX (fun i=>posV E n (S i)) i m) n;omega
     refine (idsI_sl W hol ((h.below hw3).below hW) hsl (fun k hk=>lX_lt hmem hk)).mono ?_;rintro e w' ⟨v,rfl,ho,hb⟩
     have:=ho.list;rw [ids_map] at this;exact ⟨v,rfl,this.mono (by have:=hw3.size;have:=hW.size;omega),hW.trans (hb.mono hW.size)⟩
    have HF:Hid (∀ w' v (o:List Nat),Below w3.heap.size w3 w'->Hid (o.Perm (plsL (fun i=>hitX (fun i=>posV E n (S i)) i m) n)∧o.Pairwise (Bef E (fun p:Nat=>dp E n l (p:Int))))->OwnL w' w.heap.size v (o.map fun p=>(E p).id)->MoPost w E n S m s (.returned (.tuple #[v,.bool true])) w'):=fun w' v o hb hpm ho=>by
     have hok:moOk E n S m s=true:=by unfold moOk;rw [Hml.out,Hth.out];rfl
     obtain ⟨q1,q2⟩:=mo_fin Hq.out Hth.out hpm.out.1 hpm.out.2;rw [Hl.out] at q1;exact ⟨hw3.trans (hb.mono hw3.size),v,_,by rw [hok],ho,Or.inl ⟨hok,q1,q2⟩⟩
    have hso:Hid (∀ W,Below w3.heap.size w3 W->∀ o,W.cell? ⟨w1.heap.size,o,none⟩=(#[.slice a n cap,.map (some mm),.slice ra n rc]:Array Value)[o]?):=fun W hW=>box_cells (hX3.trans (hW.mono (by have:=hb3.size;omega)))
    have hcx3:=hso.out _ kB;generalize (fun i=>hitX (fun i=>posV E n (S i)) i m)=M at *;clear hth hcx hgi hli hmp hrs hX2 hX3
    go_wp2_with fail
    go_region_with (first
     | (go_at_call 54;refine (HMk.out _ (by first|exact kB|exact kB.drew|exact kB.drew.drew|exact kB.drew.drew.drew)).mono ?_;rintro e w4 ⟨bm,rfl,hM4,hb4⟩;have hcx4:=hso.out _ hb4)
     | (go_at_call 61;refine (HMo.out _ _ (by first|exact hb4|exact hb4.drew|exact hb4.drew.drew|exact hb4.drew.drew.drew) (hM4.below (by first|exact kB|exact kB.drew|exact kB.drew.drew|exact kB.drew.drew.drew))).mono ?_;rintro e w5 ⟨oa,oc,o,rfl,hsl5,hpm5,hb5⟩;have hcx5:=hso.out _ hb5)
     | (go_at_call 52;refine (HIa.out _ oa oc o (by first|exact hb5|exact hb5.drew|exact hb5.drew.drew|exact hb5.drew.drew.drew) (hsl5.below (by first|exact kB|exact kB.drew|exact kB.drew.drew|exact kB.drew.drew.drew)) hpm5).mono ?_;rintro e w6 ⟨v,rfl,ho6,hb6⟩))
    all_goals
     go_wp2
     refine bodyPost_ret (v:=.tuple #[v,.bool true]) (by simp [results,Tryz.results22,go_sem]) rfl (HF.out _ _ o (by first|exact hb6|exact hb6.drew|exact hb6.drew.drew) hpm5 (by first|exact ho6|exact ho6.below kB.drew))
   have Hf:Hid (moOk E n S m s=false):=by unfold Hid moOk;rw [hth,Bool.and_false]
   clear hth;go_wp2
   refine bodyPost_ret (v:=.tuple #[.slice none 0 0,.bool false]) (by simp [results,Tryz.results22,go_sem]) rfl (HN.out _ Hf.out hw3)
 have Hf:Hid (moOk E n S m s=false):=by unfold Hid moOk mlOk;rw [hq];rfl
 clear hq;go_wp2
 refine bodyPost_ret (v:=.tuple #[.slice none 0 0,.bool false]) (by simp [results,Tryz.results22,go_sem]) rfl (HN.out _ Hf.out (hw1.alloc hw1.size _))
end Go.Proofs.YtkdalopokdhndaaGreat
