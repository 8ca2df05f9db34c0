import Derived.Test.YtkdalopokdhndaaGreatMxSZ
import Derived.Test.YtkdalopokdhndaaGreatShelfMZ
import Derived.Shelf.SlGeneric
import Derived.Shelf.SlSortCmp.NoneTotal
import Derived.Ground.SlsfProg
set_option maxHeartbeats 16000000
set_option maxRecDepth 100000
namespace Go.Proofs.YtkdalopokdhndaaGreat
open Go.RowKit Go.Maps Go.ChangeMaps
variable {a la ra:Option Addr}{m n lc rc cap:Nat}{E:Nat->Ev}
theorem depI_sl {l:List Nat}(w:World)(hroom:roomTo E n=true)(hd:l.Pairwise (fun a b=>b<a))(hmem:∀ i ∈ l,i<n)(hll:l.length<=n)(h:SlV w a n cap E)(hr:SlL w ra n rc (restN E) (restV E))(hl:SlI w la l.length lc (lX l)) :
  Calls Tryz.prog 119 #[.agg #[.slice a n cap,.map (some m),.slice ra n rc],.slice la l.length lc] w fun e w' =>
   ∃ b,e=.returned (.slice (some ⟨b,0,none⟩) n n)∧w.heap.size<=b∧InAt w' b n (fun i=>(dp E n l (i:Int):Int))∧Below w.heap.size w w':=by
 have h300:=room_300 hroom;obtain ⟨wb,hwb⟩:∃ wb,wb=w.alloc (.cells #[.slice a n cap,.map (some m),.slice ra n rc] 62):=⟨_,rfl⟩;have hb0:Below w.heap.size w wb:=by rw [hwb];exact bA
 have hs0:wb.heap.size=w.heap.size+1:=by rw [hwb];simp
 have hbx:Hid (∀ wx,Below (w.heap.size+1) wb wx->∀ o,wx.cell? ⟨w.heap.size,o,none⟩=(#[.slice a n cap,.map (some m),.slice ra n rc]:Array Value)[o]?):=fun wx hx=>by subst hwb;exact box_cells hx
 have Hroom:Hid (_):=hroom;have Hd:Hid (_):=hd;have Hmem:Hid (∀ i ∈ l,i<n):=hmem;clear hroom hd hmem;have hc0:((w.alloc (.cells #[.slice a n cap,.map (some m),.slice ra n rc] 62)).alloc (.cells #[.int .i64 (l.length:Int)] 3)).cell? ⟨w.heap.size+1,0,none⟩=some (.int .i64 (l.length:Int)):=kA (by simp)
 have hz:Hid (∀ wx,Below ((w.alloc (.cells #[.slice a n cap,.map (some m),.slice ra n rc] 62)).alloc (.cells #[.int .i64 (l.length:Int)] 3)).heap.size ((w.alloc (.cells #[.slice a n cap,.map (some m),.slice ra n rc] 62)).alloc (.cells #[.int .i64 (l.length:Int)] 3)) wx->Below (w.heap.size+1) wb wx):=fun wx hx=>by
  subst hwb;exact ((Below.refl (w.heap.size+1) _).alloc (by simp) _).trans (hx.mono (by simp))
 clear hwb
 go_enter Tryz.func119,Tryz.ntmps119
 go_wp2_with fail
 refine (repI_any (l.length:Int) n (w.heap.size+1) _ h300 (by simp) hc0).mono ?_;rintro e w1 ⟨b,rfl,hb1,hin1,hbel1⟩;have hB1:=hz.out _ hbel1;have hbs:w.heap.size+1<=b:=by simp at hb1;omega
 clear hc0 hz hbel1 hb1
 go_wp2_with fail
 go_loopw [19] (fun i wr=>∃ k:Nat,k<=l.length∧i=.int .i64 k∧InAt wr b n (fun i=>dpA l k i)∧Below (w.heap.size+1) wb wr) (fun i _=>l.length - (intOf i).toNat)
 case atStart=>exact ⟨0,nz,rfl,hin1.congr (fun i _=>dpA_zero l i),hB1⟩
 case round =>
  clear hin1 hB1;obtain ⟨k,hk,rfl,hin,hB⟩:=hrel;have hbw:=hb0.trans (hB.mono (by omega))
  by_cases hlt:k<l.length
  ·rcases hl.cells with h0|⟨bl,ol,rfl,hbl,hcl⟩
   ·omega
   obtain ⟨j,hj,e⟩:=lX_lt Hmem.out hlt;have hck:wr.cell? ⟨bl,ol+k,none⟩=some (.int .i64 (j:Int)):=by rw [<- e];exact (hbw.cell (by exact hbl)).trans (hcl k hlt)
   have hm1:=(hin.2 j hj).1;have hm2:=(hin.2 j hj).2;have Hin:Hid (InAt (wr.setCell ⟨b,j,none⟩ (.int .i64 (k:Int))) b n (fun i=>dpA l (k+1) i)):=(hin.set hj (k:Int)).congr (fun i _=>dpA_step Hd.out hlt e);clear hcl hin e;go_wp2
   go_roundw
   case rel=>exact ⟨k+1,by omega,by go_num,Hin.out,hB.setCell hbs _⟩
   simp [intOf];omega
  have hkn:k=l.length:=by omega
  subst hkn
  go_wp2_with fail
  go_loopw [31] (fun i wr=>∃ k:Nat,k<=n∧i=.int .i64 k∧InAt wr b n (fun i=>dpB E n l k i)∧Below (w.heap.size+1) wb wr) (fun i _=>n - (intOf i).toNat)
  case atStart=>exact ⟨0,nz,rfl,hin.congr (fun i _=>dpB_zero E n l i),hB⟩
  case round =>
   clear hin hB hbw;obtain ⟨k,hk,rfl,hin,hB⟩:=hrel;have hbw:=hb0.trans (hB.mono (by omega));have hbx2:=hbx.out _ hB;have hso:w.heap.size+1<=wr.heap.size:=by have:=hB.size;omega
   by_cases hlt:k<n
   ·go_wp2_with fail
    refine (powI_sl _ Hroom.out hlt (h.below hbw) (hr.below hbw)).mono ?_;rintro e w2 ⟨rfl,hb2⟩;have hB2:=hB.trans (hb2.mono hso);have hin2:=hin.below hb2;have hm1:w2.cell? ⟨b,k,none⟩=some (.int .i64 (lnI l k:Int)):=by rw [<- dpB_here E n l k];exact (hin2.2 k hlt).1
    have hm2:=(hin2.2 k hlt).2;have hbd:=pwV_bd Hroom.out hlt;clear hin hbx2
    by_cases hq:lnI l k=l.length
    ·have hq1:((lnI l k:Int) == (l.length:Int))=true:=by simp [hq]
     by_cases hp:pwV E n k=-1
     ·have Hin:Hid (InAt w2 b n (fun i=>dpB E n l (k+1) i)):=hin2.congr (fun i _=>dpB_keep Hroom.out hlt (Or.inr hp) i)
      rw [hp];rw [hq] at hm1;clear hin2 hq1 hp hbd;go_wp2
      go_roundw
      case rel=>exact ⟨k+1,by omega,by go_num,Hin.out,hB2⟩
      simp [intOf];omega
     obtain ⟨q,hqq⟩:∃ q:Nat,pwV E n k=(q:Int):=⟨(pwV E n k).toNat,by omega⟩;have hqk:q<k:=by omega
     have hqn:q<n:=by omega
     have hm3:w2.cell? ⟨b,q,none⟩=some (.int .i64 (dpB E n l k q)):=(hin2.2 q hqn).1;have Hin:Hid (InAt (w2.setCell ⟨b,k,none⟩ (.int .i64 (dpB E n l k q))) b n (fun i=>dpB E n l (k+1) i)):=(hin2.set hlt _).congr (fun i _=>dpB_take Hroom.out hlt hq hqq i);rw [hqq];rw [hq] at hm1;have hne:((q:Int) != -1)=true:=by simp
     generalize dpB E n l k q=z at *;clear hin2 hq1 hp hbd hqq;go_wp2
     go_roundw
     case rel=>exact ⟨k+1,by omega,by go_num,Hin.out,hB2.setCell hbs _⟩
     simp [intOf];omega
    have Hin:Hid (InAt w2 b n (fun i=>dpB E n l (k+1) i)):=hin2.congr (fun i _=>dpB_keep Hroom.out hlt (Or.inl hq) i);have hq1:((lnI l k:Int) == (l.length:Int))=false:=by simp;omega
    generalize pwV E n k=z at *;generalize lnI l k=y at *;clear hin2;go_wp2
    go_roundw
    case rel=>exact ⟨k+1,by omega,by go_num,Hin.out,hB2⟩
    simp [intOf];omega
   have hkn:k=n:=by omega
   subst hkn;go_wp2
   go_ret;exact ⟨_,rfl,by omega,hin.congr (fun i hi=>dpB_all E _ l hi),hbw⟩
end Go.Proofs.YtkdalopokdhndaaGreat
namespace Go.Proofs.YtkdalopokdhndaaGreat
open Go.RowKit
variable {w w':World}{b i j k n rc cap:Nat}{X:Nat->Int}{a ga ra:Option Addr}
theorem Tryz.infoBoolM:(Tryz.prog.info? 4).map (fun i=>(i.zero,i.size,i.bytes))=some (some (.bool false),1,1):=by kernel_rfl
def BlAt (w:World)(b n:Nat)(M:Nat->Bool):Prop:=b<w.heap.size∧∀ i,i<n->w.cell? ⟨b,i,none⟩=some (.bool (M i))∧w.frozen? ⟨b,i,none⟩=false
theorem BlAt.below {M:Nat->Bool}(h:BlAt w b n M)(hb:Below w.heap.size w w'):BlAt w' b n M :=
 ⟨nT h.1 hb.size,fun i hi=>⟨(hb.cell (by exact h.1)).trans (h.2 i hi).1,(hb.frozen (by exact h.1)).trans (h.2 i hi).2⟩⟩
theorem BlAt.set {M:Nat->Bool}(h:BlAt w b n M)(hj:j<n)(x:Bool):BlAt (w.setCell ⟨b,j,none⟩ (.bool x)) b n (fun i=>if i=j then x else M i):=by
 refine ⟨by simpa [World.setCell] using h.1,fun i hi=>⟨?_,by rw [World.frozen?_setCell];exact (h.2 i hi).2⟩⟩
 by_cases e:i=j
 ·subst e;rw [set_same ⟨_,(h.2 i hi).1⟩];simp
 rw [set_far e,(h.2 i hi).1];simp [e]
theorem BlAt.congr {M M':Nat->Bool}(h:BlAt w b n M)(he:∀ i,i<n->M i=M' i):BlAt w b n M':=⟨h.1,fun i hi=>by rw [<- he i hi];exact h.2 i hi⟩
theorem make_bool (n:Nat)(h:n<=140737488351232)(W:World) :
  (Instr.makeSlice 98 (.int .i64 (n:Int)) (.int .i64 (n:Int))).run Tryz.prog W=.ok (.slice (some ⟨W.heap.size,0,none⟩) n n) (W.alloc (.cells (madeCells #[.bool false] n) 4)):=by
 obtain ⟨i0,hi,hz0,hz1,hz2⟩:=info_parts Tryz.infoBoolM
 have:=run_make (P:=Tryz.prog) W 98 4 i0 (.bool false) Tryz.underlying98 hi hz0 .i64 .i64 (n:Int) (n:Int) (by omega) (by omega) (by rw [hz2];omega) (by omega);rw [this,hz1];simp [Value.cells]
def trues (n k:Nat):List Value:=List.replicate k (.bool true) ++ List.replicate (n - k) (.bool false)
theorem trues_zero (n:Nat):madeCells #[.bool false] n=(trues n 0).toArray:=by
 apply Array.toList_inj.1;rw [toList_madeCells_one];simp [trues]
theorem bl_madeM (W:World)(n:Nat):BlAt (W.alloc (.cells (madeCells #[.bool false] n) 4)) W.heap.size n (fun _=>false):=by
 refine ⟨by simp,fun i hi=>⟨?_,kF rfl⟩⟩;rw [kA rfl,trues_zero];simp [trues,hi]
def hitX (X:Nat->Int)(i:Nat):Nat->Bool
 | 0=>false
 | k+1=>hitX X i k || decide (X k=(i:Int))
theorem hitX_step (h:X k=(j:Int)):(if i=j then true else hitX X i k)=hitX X i (k+1):=by
 rw [hitX,h]
 by_cases e:i=j
 ·subst e;simp
 have:¬ ((j:Int)=(i:Int)):=by omega
 simp [e,this]
theorem hitX_iff (X:Nat->Int)(i:Nat):∀ k,hitX X i k=true↔∃ j,j<k∧X j=(i:Int)
 | 0=>by simp [hitX]
 | k+1=>by
  unfold hitX;rw [Bool.or_eq_true,hitX_iff X i k,decide_eq_true_eq];constructor
  ·rintro (⟨q,hq,e⟩|e)
   ·exact ⟨q,by omega,e⟩
   exact ⟨k,by omega,e⟩
  rintro ⟨q,hq,e⟩
  by_cases h:q=k
  ·subst h;exact Or.inr e
  exact Or.inl ⟨q,by omega,e⟩
theorem markI_sl {mm:Option Nat}{nr:Nat}{gn gc:Nat}(w:World)(hn:n<=300)(hg:SlI w ga gn gc X)(hX:∀ i,i<gn->∃ p,p<n∧X i=(p:Int)) :
  Calls Tryz.prog 54 #[.agg #[.slice a n cap,.map mm,.slice ra nr rc],.slice ga gn gc] w fun e w' =>
   ∃ b,e=.returned (.slice (some ⟨b,0,none⟩) n n)∧w.heap.size<=b∧BlAt w' b n (fun i=>hitX X i gn)∧Below w.heap.size w w':=by
 have hgm:=nZ hg.le hg.max;unfold maxLen at hgm;obtain ⟨wb,hwb⟩:∃ wb,wb=w.alloc (.cells #[.slice a n cap,.map mm,.slice ra nr rc] 62):=⟨_,rfl⟩;have hb0:Below w.heap.size w wb:=by rw [hwb];exact bA
 have hs0:wb.heap.size=w.heap.size+1:=by rw [hwb];simp
 have hmk:=make_bool n (by omega) wb;rw [hs0] at hmk;have hmk':(Instr.makeSlice 98 (.int .i64 (n:Int)) (.int .i64 (n:Int))).run Tryz.prog (w.alloc (.cells #[.slice a n cap,.map mm,.slice ra nr rc] 62))=.ok (.slice (some ⟨w.heap.size+1,0,none⟩) n n) (wb.alloc (.cells (madeCells #[.bool false] n) 4)):=by rw [<- hwb];exact hmk
 have hbl0:=bl_madeM wb n;rw [hs0] at hbl0;have hB0:Below (w.heap.size+1) wb (wb.alloc (.cells (madeCells #[.bool false] n) 4)):=kB.alloc (by omega) _;have HX:Hid (_):=hX;clear hX hmk hwb
 go_enter Tryz.func54,Tryz.ntmps54
 go_wp2_with fail
 clear hmk'
 go_loopw [14] (fun i wr=>∃ k:Nat,k<=gn∧i=.int .i64 k∧BlAt wr (w.heap.size+1) n (fun i=>hitX X i k)∧Below (w.heap.size+1) wb wr) (fun i _=>gn - (intOf i).toNat)
 case atStart=>exact ⟨0,nz,rfl,hbl0,hB0⟩
 case round =>
  clear hbl0 hB0;obtain ⟨k,hk,rfl,hbl,hB⟩:=hrel;have hbw:=hb0.trans (hB.mono (by omega))
  by_cases hlt:k<gn
  ·rcases hg.cells with h0|⟨bg,og,rfl,hbg,hcg⟩
   ·omega
   obtain ⟨j,hj,e⟩:=HX.out k hlt;have hck:wr.cell? ⟨bg,og+k,none⟩=some (.int .i64 (j:Int)):=by rw [<- e];exact (hbw.cell (by exact hbg)).trans (hcg k hlt)
   have hm1:=(hbl.2 j hj).1;have hm2:=(hbl.2 j hj).2;have Hbl:Hid (BlAt (wr.setCell ⟨w.heap.size+1,j,none⟩ (.bool true)) (w.heap.size+1) n (fun i=>hitX X i (k+1))):=(hbl.set hj true).congr (fun i _=>hitX_step e);clear hcg hbl e;go_wp2
   go_roundw
   case rel=>exact ⟨k+1,by omega,by go_num,Hbl.out,hB.setCell nL _⟩
   simp [intOf];omega
  have hkn:gn=k:=by omega
  subst hkn;go_wp2
  go_ret;exact ⟨_,rfl,by omega,hbl,hbw⟩
def plsL (M:Nat->Bool):Nat->List Nat
 | 0=>[]
 | k+1=>if M k then plsL M k ++ [k] else plsL M k
theorem plsL_len (M:Nat->Bool):∀ k,(plsL M k).length<=k
 | 0=>nL
 | k+1=>by
  have:=plsL_len M k;unfold plsL;split
  ·simp;exact this
  omega
theorem plsL_mem (M:Nat->Bool)(p:Nat):∀ k,p ∈ plsL M k↔p<k∧M p=true
 | 0=>by simp [plsL]
 | k+1=>by
  have ih:=plsL_mem M p k;unfold plsL;split
  ·rename_i hM
   rw [List.mem_append,ih,List.mem_singleton];constructor
   ·rintro (⟨h1,h2⟩|rfl)
    ·exact ⟨by omega,h2⟩
    exact ⟨by omega,hM⟩
   rintro ⟨h1,h2⟩
   by_cases e:p=k
   ·exact Or.inr e
   exact Or.inl ⟨by omega,h2⟩
  rename_i hM;rw [ih];constructor
  ·rintro ⟨h1,h2⟩;exact ⟨by omega,h2⟩
  rintro ⟨h1,h2⟩
  by_cases e:p=k
  ·subst e;exact absurd h2 hM
  exact ⟨by omega,h2⟩
theorem plsL_pre (M : Nat -> Bool) (k : Nat) : ∀ n, k <= n -> ∃ r, plsL M n = plsL M k ++ r
  | 0, h => by have : k = 0 := by omega
               subst this; exact ⟨[], by simp⟩
  | n + 1, h => by
    by_cases e : k = n + 1
    · subst e; exact ⟨[], by simp⟩
    · obtain ⟨r, hr⟩ := plsL_pre M k n (by omega)
      by_cases hM : M n = true
      · exact ⟨r ++ [n], by rw [plsL, if_pos hM, hr, List.append_assoc]⟩
      · exact ⟨r, by rw [plsL, if_neg hM]; exact hr⟩
theorem plsL_at {M:Nat->Bool}(hk:k<n)(hM:M k=true):lX (plsL M n) (plsL M k).length=(k:Int):=by
 obtain ⟨r,hr⟩:=plsL_pre M (k+1) n (by omega);have e1:plsL M (k+1)=plsL M k ++ [k]:=by rw [plsL,if_pos hM]
 rw [hr,e1,List.append_assoc];simp [lX,List.getD]
theorem plsI_sl {M:Nat->Bool}(w:World)(hn:n<=300)(hM:BlAt w b n M) :
  Calls Tryz.prog 111 #[.slice (some ⟨b,0,none⟩) n n] w fun e w' =>
   ∃ v,e=.returned v∧OwnI w' w.heap.size v (plsL M n).length (lX (plsL M n))∧Below w.heap.size w w':=by
 obtain ⟨i0,hi,hz0,hz1,hz2⟩:=info_parts Tryz.infoIntO;have HM:Hid (BlAt w b n M):=hM;clear hM
 go_enter Tryz.func111,Tryz.ntmps111
 go_wp2_with fail
 go_loopw [3,8] (fun v i wr=>∃ (k c:Nat),k<=n∧i=.int .i64 k∧Hid (c=(plsL M k).length)∧c<=k∧OwnI wr w.heap.size v c (lX (plsL M n))∧Below w.heap.size w wr) (fun _ i _=>n - (intOf i).toNat)
 case atStart=>exact ⟨0,0,nz,rfl,rfl,nL,OwnI.nil _ _ _,kB⟩
 case round =>
  obtain ⟨k,c,hk,rfl,hc,hck,hown,hb⟩:=hrel
  by_cases hlt:k<n
  ·have hmk:=((HM.out.below hb).2 k hlt).1
   cases hf:M k
   case false =>
    rw [hf] at hmk;have Hs:Hid (c=(plsL M (k+1)).length):=by unfold Hid;rw [plsL,if_neg (by simp [hf])];exact hc.out
    clear hc;go_wp2
    go_roundw
    case rel=>exact ⟨k+1,c,by omega,by go_num,Hs,by omega,hown,hb⟩
    simp [intOf];omega
   case true =>
    rw [hf] at hmk;have Hs:Hid (c+1=(plsL M (k+1)).length):=by unfold Hid;rw [plsL,if_pos hf,List.length_append,<- hc.out];rfl
    have Hx:Hid ((k:Int)=lX (plsL M n) c):=by unfold Hid;rw [hc.out];exact (plsL_at hlt hf).symm
    have hm1:c+1<=maxLen:=by unfold maxLen;omega
    have hm2:(c+1) * 8<=140737488355328:=by omega
    have hm3:∀ o,w.heap.size<=(wr.alloc o).heap.size:=fun o=>by have:=hb.size;simp;omega
    have hag:Hid (∀ q',u3.ownBlock=some q'->w.heap.size<=q'):=fun q' hq'=>(World.ownsRow.lt hown q' hq').1
    clear hc hf
    go_wp2_with (at_builtin;refine wpList_append_own _ rfl _ _ 93 rfl w.heap.size 3 i0 (.int .i64 0) 1 8 Tryz.underlying93 hi hz0 hz1 hz2 rfl (by decide) _ _ _ rfl (World.ownsRow.alloc hown _) ⟨wr.heap.size,0,none⟩ 1 1 [.int .i64 (k:Int)] rfl rfl (one_cellsI _ _ _) (one_oneI _) hm1 hm2 (hm3 _) ?_;intro v2 w2 hown2 hgrow2 _)
    have hB2:Below w.heap.size w w2:=(hb.alloc hb.size _).grown hgrow2 (hm3 _) hag.out;have hown3:OwnI w2 w.heap.size v2 (c+1) (lX (plsL M n)):=OwnI.snoc hown2 Hx.out;go_roundw
    case rel=>exact ⟨k+1,c+1,by omega,by go_num,Hs,by omega,hown3,hB2⟩
    simp [intOf];omega
  have hkn:n=k:=by omega
  subst hkn;have hcn:=hc.out;subst hcn;go_wp2
  go_ret;exact ⟨_,rfl,hown,hb⟩
theorem cmp_casesG:∀ x y:List UInt8,(x<y∧Lib.compareBytes x y=-1)∨(x=y∧Lib.compareBytes x y=0)∨(y<x∧Lib.compareBytes x y=1)
 | [],[]=>Or.inr (Or.inl ⟨rfl,rfl⟩)
 | [],b :: y=>Or.inl ⟨by simp,rfl⟩
 | a :: x,[]=>Or.inr (Or.inr ⟨by simp,rfl⟩)
 | a :: x,b :: y=>by
  unfold Lib.compareBytes
  by_cases h1:a<b
  ·rw [if_pos h1];exact Or.inl ⟨List.cons_lt_cons_iff.2 (Or.inl h1),rfl⟩
  rw [if_neg h1]
  by_cases h2:b<a
  ·rw [if_pos h2];exact Or.inr (Or.inr ⟨List.cons_lt_cons_iff.2 (Or.inl h2),rfl⟩)
  rw [if_neg h2];have e:a=b:=UInt8.le_antisymm (UInt8.not_lt.1 h2) (UInt8.not_lt.1 h1);subst e;rcases cmp_casesG x y with ⟨h,e⟩|⟨rfl,e⟩|⟨h,e⟩
  ·exact Or.inl ⟨List.cons_lt_cons_iff.2 (Or.inr ⟨rfl,h⟩),e⟩
  ·exact Or.inr (Or.inl ⟨rfl,e⟩)
  exact Or.inr (Or.inr ⟨List.cons_lt_cons_iff.2 (Or.inr ⟨rfl,h⟩),e⟩)
def cC (x y:Int):Int:=if x<y then -1 else if y<x then 1 else 0
def or3 (x y z:Int):Int:=if x=0 then (if y=0 then z else y) else x
def cmpG (E:Nat->Ev)(D:Nat->Int)(a b:Nat):Int:=or3 (cC (D b) (D a)) (cC (E a).tm (E b).tm) (cB (E a).id (E b).id)
theorem cC_cases (x y:Int):(x<y∧cC x y=-1)∨(x=y∧cC x y=0)∨(y<x∧cC x y=1):=by
 unfold cC
 by_cases h1:x<y
 ·rw [if_pos h1];exact Or.inl ⟨h1,rfl⟩
 rw [if_neg h1]
 by_cases h2:y<x
 ·rw [if_pos h2];exact Or.inr (Or.inr ⟨h2,rfl⟩)
 rw [if_neg h2];exact Or.inr (Or.inl ⟨by omega,rfl⟩)
theorem cmpG_lt (E:Nat->Ev)(D:Nat->Nat)(a b:Nat):cmpG E (fun i=>(D i:Int)) a b<0↔Bef E D a b:=by
 unfold cmpG or3 Bef cB;rcases cC_cases (D b:Int) (D a:Int) with ⟨h1,e1⟩|⟨h1,e1⟩|⟨h1,e1⟩
 ·rw [e1,if_neg (by decide)]
  exact ⟨fun _=>Or.inl (by omega),fun _=>by decide⟩
 ·rw [e1,if_pos rfl]
  rcases cC_cases (E a).tm (E b).tm with ⟨h2,e2⟩|⟨h2,e2⟩|⟨h2,e2⟩
  ·rw [e2,if_neg (by decide)]
   exact ⟨fun _=>Or.inr ⟨by omega,Or.inl h2⟩,fun _=>by decide⟩
  ·rw [e2,if_pos rfl]
   rcases cmp_casesG (E a).id.data.toList (E b).id.data.toList with ⟨h3,e3⟩|⟨h3,e3⟩|⟨h3,e3⟩
   ·rw [e3]
    exact ⟨fun _=>Or.inr ⟨by omega,Or.inr ⟨h2,h3⟩⟩,fun _=>by decide⟩
   ·rw [e3]
    refine ⟨fun h=>absurd h (by decide),?_⟩;rintro (h|⟨_,h|⟨_,h⟩⟩)
    ·omega
    ·omega
    rw [h3] at h;exact absurd h (List.lt_irrefl _)
   rw [e3];refine ⟨fun h=>absurd h (by decide),?_⟩;rintro (h|⟨_,h|⟨_,h⟩⟩)
   ·omega
   ·omega
   exact absurd h (fun h'=>List.lt_irrefl _ (List.lt_trans h' h3))
  rw [e2,if_neg (by decide)];refine ⟨fun h=>absurd h (by decide),?_⟩;rintro (h|⟨_,h|⟨_,h⟩⟩) <;> omega
 rw [e1,if_neg (by decide)];refine ⟨fun h=>absurd h (by decide),?_⟩;rintro (h|⟨_,h⟩) <;> omega
variable {W:World}{off:Nat}{E:Nat->Ev}
theorem cmpI_any (x y:Int)(w:World) :
  Calls Tryz.prog 176 #[.int .i64 x,.int .i64 y] w fun e w'=>e=.returned (.int .i64 (cC x y))∧w'=w:=by
 have hnan:∀ (z:Int) (W:World),Calls Tryz.prog 216 #[.int .i64 z] W fun e w'=>e=.returned (.bool false)∧w'=W:=fun z W=>by
  go_enter Tryz.func216,Tryz.ntmps216
  go_wp2
  go_ret;exact ⟨by simp,rfl⟩
 by_cases h1:x<y
 ·go_enter Tryz.func176,Tryz.ntmps176
  go_wp2_with (go_at_call 216;refine (hnan _ _).mono ?_;rintro e w' ⟨rfl,rfl⟩)
  go_ret;exact ⟨ret_int (by unfold cC;rw [if_pos h1]),rfl⟩
 by_cases h2:y<x
 ·go_enter Tryz.func176,Tryz.ntmps176
  go_wp2_with (go_at_call 216;refine (hnan _ _).mono ?_;rintro e w' ⟨rfl,rfl⟩)
  go_ret;exact ⟨ret_int (by unfold cC;rw [if_neg (by omega),if_pos h2]),rfl⟩
 go_enter Tryz.func176,Tryz.ntmps176
 go_wp2_with (go_at_call 216;refine (hnan _ _).mono ?_;rintro e w' ⟨rfl,rfl⟩)
 go_ret;exact ⟨ret_int (by unfold cC;rw [if_neg (by omega),if_neg (by omega)]),rfl⟩
theorem bcmpG_any (a b:ByteArray)(w:World) :
  Calls Tryz.prog 167 #[.string a,.string b] w fun e w'=>e=.returned (.int .i64 (cB a b))∧w'=w:=by
 go_enter Tryz.func167,Tryz.ntmps167
 go_wp2
 rw [run_callFunc_extern Tryz.func211 (by kernel_rfl) (by kernel_rfl) (by kernel_rfl) (e:=Extern.BytealgCompare.compare) (by kernel_rfl),Lib.run_compareString];simp only [Result.andThen];rw [Oper.upon_value];go_wp2
 go_ret;exact ⟨rfl,rfl⟩
theorem scmpG_any (a b:ByteArray)(w:World) :
  Calls Tryz.prog 97 #[.string a,.string b] w fun e w'=>e=.returned (.int .i64 (cB a b))∧w'=w:=by
 go_enter Tryz.func97,Tryz.ntmps97
 go_wp2_with (go_at_call 167;refine (bcmpG_any a b _).mono ?_;rintro e w' ⟨rfl,rfl⟩)
 go_ret;exact ⟨rfl,rfl⟩
theorem or3_any (b cap:Nat)(x y z:Int)(w:World)(h0:w.cell? ⟨b,0,none⟩=some (.int .i64 x))(h1:w.cell? ⟨b,1,none⟩=some (.int .i64 y))(h2:w.cell? ⟨b,2,none⟩=some (.int .i64 z)) :
  Calls Tryz.prog 96 #[.slice (some ⟨b,0,none⟩) 3 cap] w fun e w'=>e=.returned (.int .i64 (or3 x y z))∧w'=w:=by
 by_cases hx:x=0
 ·subst hx
  by_cases hy:y=0
  ·subst hy
   by_cases hz:z=0
   ·subst hz
    go_enter Tryz.func96,Tryz.ntmps96
    go_wp2
    refine wp_loop_rounds 4 ?_;rw [rounds_succ];go_wp2
    rw [rounds_succ];go_wp2
    rw [rounds_succ];go_wp2
    rw [rounds_succ];go_wp2
    go_ret;exact ⟨rfl,rfl⟩
   go_enter Tryz.func96,Tryz.ntmps96
   go_wp2
   refine wp_loop_rounds 4 ?_;rw [rounds_succ];go_wp2
   rw [rounds_succ];go_wp2
   rw [rounds_succ];go_wp2
   go_ret;exact ⟨rfl,rfl⟩
  go_enter Tryz.func96,Tryz.ntmps96
  go_wp2
  refine wp_loop_rounds 4 ?_;rw [rounds_succ];go_wp2
  rw [rounds_succ];go_wp2
  go_ret;exact ⟨ret_int (by unfold or3;rw [if_pos rfl,if_neg hy]),rfl⟩
 go_enter Tryz.func96,Tryz.ntmps96
 go_wp2
 refine wp_loop_rounds 4 ?_;rw [rounds_succ];go_wp2
 go_ret;exact ⟨ret_int (by unfold or3;rw [if_neg hx]),rfl⟩
def GfPost (w:World)(a:Option Addr)(n cap:Nat)(da:Option Addr)(dn dc:Nat)(e:Ending)(w':World):Prop:=∃ bg bw,
 e=.returned (.func (.func 175) #[] #[.pointer (some ⟨bg,0,none⟩),.pointer (some ⟨bw,0,none⟩)])∧w.heap.size<=bg∧w.heap.size<=bw ∧
 w'.cell? ⟨bg,0,none⟩=some (.slice a n cap)∧w'.cell? ⟨bw,0,none⟩=some (.slice da dn dc)∧Below w.heap.size w w'
theorem gf_any (a:Option Addr)(n cap:Nat)(mm:Option Nat)(ra:Option Addr)(nr rc:Nat)(da:Option Addr)(dn dc:Nat)(w:World) :
  Calls Tryz.prog 109 #[.agg #[.slice a n cap,.map mm,.slice ra nr rc],.slice da dn dc] w (GfPost w a n cap da dn dc):=by
 have hf:Hid (GfPost w a n cap da dn dc (.returned (.func (.func 175) #[] #[.pointer (some ⟨w.heap.size,0,none⟩),.pointer (some ⟨w.heap.size+1,0,none⟩)])) ((w.alloc (.cells #[.slice a n cap,.map mm,.slice ra nr rc] 62)).alloc (.cells #[.slice da dn dc] 93))):=by
  have hB:=((Below.refl (w.heap.size+1) (w.alloc (.cells #[.slice a n cap,.map mm,.slice ra nr rc] 62))).alloc (by simp) (.cells #[.slice da dn dc] 93));exact ⟨w.heap.size,w.heap.size+1,rfl,nL,by omega,box_cells hB 0,kA (by simp),bA.alloc (by simp) _⟩
 go_enter Tryz.func109,Tryz.ntmps109
 go_wp2
 go_ret;exact hf.out
structure GfAt (W:World)(bg bw b off n cap db dc:Nat)(E:Nat->Ev)(D:Nat->Int):Prop where
 g0:W.cell? ⟨bg,0,none⟩=some (.slice (some ⟨b,off,none⟩) n cap)
 w0:W.cell? ⟨bw,0,none⟩=some (.slice (some ⟨db,0,none⟩) n dc)
 id:∀ p,p<n->W.cell? ⟨b,off+p * 10,none⟩=some (.string (E p).id)
 tm:∀ p,p<n->W.cell? ⟨b,off+p * 10+5,none⟩=some (.int .i64 (E p).tm)
 wt:∀ p,p<n->W.cell? ⟨db,0+p,none⟩=some (.int .i64 (D p))
theorem cell_box1 (cs:Array Value)(t:TypeId)(o:Nat):(w.alloc (.cells cs t)).drew.cell? ⟨w.heap.size,o,none⟩=cs[o]?:=by
 show (w.alloc (.cells cs t)).cell? _=_
 exact kA rfl
theorem gfc_any {bg bw db dc:Nat}{D:Nat->Int}(p q:Nat)(hp:p<n)(hq:q<n)(h:GfAt W bg bw b off n cap db dc E D) :
  Calls Tryz.prog 175 #[.int .i64 (p:Int),.int .i64 (q:Int),.pointer (some ⟨bg,0,none⟩),.pointer (some ⟨bw,0,none⟩)] W fun e w'=>e=.returned (.int .i64 (cmpG E D p q))∧Grw W w':=by
 obtain ⟨c0,c1,hid,htm,hwt⟩:=h;have p1:=hid p hp;have p2:=htm p hp;have p3:=hwt p hp;have q1:=hid q hq;have q2:=htm q hq;have q3:=hwt q hq;have hv:Hid (or3 (cC (D q) (D p)) (cC (E p).tm (E q).tm) (cB (E p).id (E q).id)=cmpG E D p q):=rfl;have hi0:(0:Int)<=(p:Int):=by omega
 have hi1:(p:Int)<(n:Int):=by omega
 have hi2:(0:Int)<=(q:Int):=by omega
 have hi3:(q:Int)<(n:Int):=by omega
 generalize (E p).id=ip at *;generalize (E q).id=iq at *;generalize (E p).tm=tp at *;generalize (E q).tm=tq at *;generalize D p=dp' at *;generalize D q=dq' at *;clear hid htm hwt
 go_enter Tryz.func175,Tryz.ntmps175
 go_wp2_with fail
 go_region_held3 (fun W=>W.cell? ⟨bg,0,none⟩=some (.slice (some ⟨b,off,none⟩) n cap)) (go_keep) (fail)
 obtain ⟨W1,hW1⟩:∃ W1,W1=W.drew:=⟨_,rfl⟩;have hG1:Hid (Grw W W1):=by unfold Hid;rw [hW1];exact (Grw.refl W).drew
 have hc1:W1.cell? ⟨bw,0,none⟩=some (.slice (some ⟨db,0,none⟩) n dc):=by rw [hW1];exact c1
 have hp1:W1.cell? ⟨b,off+p * 10,none⟩=some (.string ip):=by rw [hW1];exact p1
 have hp2:W1.cell? ⟨b,off+p * 10+5,none⟩=some (.int .i64 tp):=by rw [hW1];exact p2
 have hp3:W1.cell? ⟨db,p,none⟩=some (.int .i64 dp'):=by rw [hW1,<- Nat.zero_add p];exact p3
 have hq1:W1.cell? ⟨b,off+q * 10,none⟩=some (.string iq):=by rw [hW1];exact q1
 have hq2:W1.cell? ⟨b,off+q * 10+5,none⟩=some (.int .i64 tq):=by rw [hW1];exact q2
 have hq3:W1.cell? ⟨db,q,none⟩=some (.int .i64 dq'):=by rw [hW1,<- Nat.zero_add q];exact q3
 rw [<- hW1];clear hW1 c0 c1 p1 p2 p3 q1 q2 q3
 go_wp2_with fail
 go_region_held3 (fun W=>W.cell? ⟨bw,0,none⟩=some (.slice (some ⟨db,0,none⟩) n dc)∧W.cell? ⟨b,off+p * 10,none⟩=some (.string ip)∧W.cell? ⟨b,off+p * 10+5,none⟩=some (.int .i64 tp)∧W.cell? ⟨db,p,none⟩=some (.int .i64 dp')∧W.cell? ⟨b,off+q * 10,none⟩=some (.string iq)∧W.cell? ⟨b,off+q * 10+5,none⟩=some (.int .i64 tq)∧W.cell? ⟨db,q,none⟩=some (.int .i64 dq'))
  (go_keep)
  (first
   | (go_at_call 97;refine (scmpG_any _ _ _).mono ?_;rintro e w' ⟨rfl,rfl⟩)
   | (go_at_call 176;refine (cmpI_any _ _ _).mono ?_;rintro e w' ⟨rfl,rfl⟩)
   | (go_at_call 96;refine (or3_any _ _ _ _ _ _ (cell_box1 _ _ 0) (cell_box1 _ _ 1) (cell_box1 _ _ 2)).mono ?_;rintro e w' ⟨rfl,rfl⟩))
 all_goals
  go_wp2
  go_ret;exact ⟨ret_int hv.out,hG1.out.trans ((Grw.refl W1).alloc _).drew⟩
end Go.Proofs.YtkdalopokdhndaaGreat
namespace Go.Proofs
open Go.Shelf
def Tryz.sortN_ren:Go.Shelf.Ren:=⟨fun|6=>118|15=>95|14=>184|28=>165|29=>166|20=>219|21=>220|22=>221|23=>222|24=>223|25=>224|26=>225|27=>226|46=>237|47=>207|48=>208|49=>238|50=>239|57=>245|n=>n,fun|22=>93|24=>3|25=>153|3=>3|39=>143|0=>0|53=>203|55=>205|4=>4|46=>197|45=>196|50=>119|5=>5|9=>9|66=>226|70=>230|76=>249|77=>250|n=>n,fun|n=>n⟩
theorem Tryz.sortN:Go.Proofs.SlLaysF.n6 Tryz.prog Tryz.sortN_ren:={
 mixed:=by kernel_rfl
 f6:=⟨Tryz.f118.name,by decide,Tryz.func118.trans (congrArg some (by kernel_rfl))⟩
 f14:=⟨Tryz.f184.name,by decide,Tryz.func184.trans (congrArg some (by kernel_rfl))⟩
 f15:=Tryz.func95.trans (congrArg some (by kernel_rfl))
 f20:=⟨Tryz.f219.name,by decide,Tryz.func219.trans (congrArg some (by kernel_rfl))⟩
 f21:=⟨Tryz.f220.name,by decide,Tryz.func220.trans (congrArg some (by kernel_rfl))⟩
 f22:=⟨Tryz.f221.name,by decide,Tryz.func221.trans (congrArg some (by kernel_rfl))⟩
 f23:=⟨Tryz.f222.name,by decide,Tryz.func222.trans (congrArg some (by kernel_rfl))⟩
 f24:=⟨Tryz.f223.name,by decide,Tryz.func223.trans (congrArg some (by kernel_rfl))⟩
 f25:=⟨Tryz.f224.name,by decide,Tryz.func224.trans (congrArg some (by kernel_rfl))⟩
 f26:=⟨Tryz.f225.name,by decide,Tryz.func225.trans (congrArg some (by kernel_rfl))⟩
 f27:=⟨Tryz.f226.name,by decide,Tryz.func226.trans (congrArg some (by kernel_rfl))⟩
 f28:=Tryz.func165.trans (congrArg some (by kernel_rfl))
 f29:=Tryz.func166.trans (congrArg some (by kernel_rfl))
 f46:=⟨Tryz.f237.name,by decide,Tryz.func237.trans (congrArg some (by kernel_rfl))⟩
 f47:=Tryz.func207.trans (congrArg some (by kernel_rfl))
 f48:=Tryz.func208.trans (congrArg some (by kernel_rfl))
 f49:=⟨Tryz.f238.name,by decide,Tryz.func238.trans (congrArg some (by kernel_rfl))⟩
 f50:=⟨Tryz.f239.name,by decide,Tryz.func239.trans (congrArg some (by kernel_rfl))⟩
 f57:=⟨Tryz.f245.name,by decide,Tryz.func245.trans (congrArg some (by kernel_rfl))⟩
 t0:=Tryz.underlying0
 a0:=Tryz.isAgg0
 z0:=Tryz.sizeOf0
 v0:=Tryz.zeroValue0
 t3:=Tryz.underlying3
 a3:=Tryz.isAgg3
 z3:=Tryz.sizeOf3
 v3:=Tryz.zeroValue3
 t4:=Tryz.underlying4
 a4:=Tryz.isAgg4
 z4:=Tryz.sizeOf4
 v4:=Tryz.zeroValue4
 t5:=Tryz.underlying5
 a5:=Tryz.isAgg5
 z5:=Tryz.sizeOf5
 v5:=Tryz.zeroValue5
 t9:=Tryz.underlying9
 a9:=Tryz.isAgg9
 z9:=Tryz.sizeOf9
 v9:=Tryz.zeroValue9
 t22:=Tryz.underlying93
 a22:=Tryz.isAgg93
 z22:=Tryz.sizeOf93
 v22:=Tryz.zeroValue93
 a24:=Tryz.isAgg3
 z24:=Tryz.sizeOf3
 t25:=Tryz.underlying153
 a25:=Tryz.isAgg153
 z25:=Tryz.sizeOf153
 v25:=Tryz.zeroValue153
 t39:=Tryz.underlying143
 a39:=Tryz.isAgg143
 z39:=Tryz.sizeOf143
 v39:=Tryz.zeroValue143
 t45:=Tryz.underlying196
 a45:=Tryz.isAgg196
 z45:=Tryz.sizeOf196
 v45:=Tryz.zeroValue196
 t46:=Tryz.underlying197
 a46:=Tryz.isAgg197
 z46:=Tryz.sizeOf197
 v46:=Tryz.zeroValue197
 t50:=Tryz.underlying119
 a50:=Tryz.isAgg119
 z50:=Tryz.sizeOf119
 v50:=Tryz.zeroValue119
 t53:=Tryz.underlying203
 a53:=Tryz.isAgg203
 z53:=Tryz.sizeOf203
 v53:=Tryz.zeroValue203
 t55:=Tryz.underlying205
 a55:=Tryz.isAgg205
 z55:=Tryz.sizeOf205
 v55:=Tryz.zeroValue205
 t66:=Tryz.underlying226
 a66:=Tryz.isAgg226
 z66:=Tryz.sizeOf226
 v66:=Tryz.zeroValue226
 t70:=Tryz.underlying230
 a70:=Tryz.isAgg230
 z70:=Tryz.sizeOf230
 v70:=Tryz.zeroValue230
 t76:=Tryz.underlying249
 a76:=Tryz.isAgg249
 z76:=Tryz.sizeOf249
 v76:=Tryz.zeroValue249
 t77:=Tryz.underlying250
 a77:=Tryz.isAgg250
 z77:=Tryz.sizeOf250
 v77:=Tryz.zeroValue250 }
end Go.Proofs
