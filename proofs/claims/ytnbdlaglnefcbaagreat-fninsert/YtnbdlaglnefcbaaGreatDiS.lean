import Derived.Test.YtnbdlaglnefcbaaGreatDmSZ
namespace Go.Proofs.YtnbdlaglnefcbaaGreat
open Go.RowKit
def tZ:Ls:=⟨none,0,none,0,none,0,0,0,0,0⟩
structure DiB (w W:World)(B:Nat)(v:Value)(i:Nat):Prop where
 z:DiZ w W
 c:W.cell? ⟨B,0,none⟩=some v
 f:W.frozen? ⟨B,0,none⟩=false
 own:W.ownsRow (B+1) 29 10 v i (encV (fun _=>evC0) (fun _=>tZ) i)
 bel:Below w.heap.size w W
 lo:w.heap.size+1<B
 sz:B<W.heap.size
theorem diB_zero {w w3:World}{ty:TypeId}(hz:DiZ w w3)(hb:Below w.heap.size w w3)(hs:w.heap.size+1<w3.heap.size):DiB w (w3.alloc (.cells #[.slice none 0 0] ty)) w3.heap.size (.slice none 0 0) 0:=by
 have hb4:Below w3.heap.size w3 (w3.alloc (.cells #[.slice none 0 0] ty)):=bA
 exact ⟨hz.kept (hb4.block _ (by omega)) (hb4.block _ hs),World.cell?_alloc_at _ _ _ _ rfl,World.frozen?_alloc_at _ _ _ _ rfl,⟨rfl,Or.inl ⟨rfl,rfl⟩⟩,hb.trans (hb4.mono hb.size),hs,by simp⟩
theorem DiB.snoc {w W w4:World}{B i gg cq:Nat}{v:Value}{ob:Obj}(h:DiB w W B v i)(hown:w4.ownsRow (B+1) 29 10 (.slice (some ⟨gg,0,none⟩) (i+1) cq) (i+1) (encV (fun _=>evC0) (fun _=>tZ) i ++ evL evC0 tZ))(hgr:(W.alloc ob).grownBy w4 v.ownBlock):DiB w (w4.setCell ⟨B,0,none⟩ (.slice (some ⟨gg,0,none⟩) (i+1) cq)) B (.slice (some ⟨gg,0,none⟩) (i+1) cq) (i+1)∧w4.cell? ⟨B,0,none⟩=some v∧w4.frozen? ⟨B,0,none⟩=false:=by
 have hlo:=h.lo
 have hsz:=h.sz
 have hbA:Below W.heap.size W (W.alloc ob):=bA
 have hbk:∀ b,v.ownBlock=some b->B+1<=b:=fun b hb=>(ownsRow_blk h.own b hb).1
 have hk4:∀ b,b<B+1->w4.heap[b]?=W.heap[b]?:=fun b hb=>(hgr.block b (by simp;omega) (fun e=>by have:=hbk b e.symm;omega)).trans (hbA.block b (by omega))
 have hs4:W.heap.size+1<=w4.heap.size:=by have:=hgr.size;simpa using this
 have g:=Lib.grownBy_setCell w4 B 0 (.slice (some ⟨gg,0,none⟩) (i+1) cq)
 have hk:∀ b,b<B->(w4.setCell ⟨B,0,none⟩ (.slice (some ⟨gg,0,none⟩) (i+1) cq)).heap[b]?=W.heap[b]?:=fun b hb=>(g.block b (by omega) (fun e=>by injection e with e;omega)).trans (hk4 b (by omega))
 have c4:w4.cell? ⟨B,0,none⟩=some v:=(World.cell?_of_block (a:=⟨B,0,none⟩) (hk4 B (by omega))).trans h.c
 have f4:w4.frozen? ⟨B,0,none⟩=false:=(World.frozen?_of_block (a:=⟨B,0,none⟩) (hk4 B (by omega))).trans h.f
 have hgg:=(ownsRow_blk hown gg rfl).1
 refine ⟨⟨h.z.kept (hk _ (by omega)) (hk _ (by omega)),set_same ⟨_,c4⟩,by rw [World.frozen?_setCell];exact f4,?_,?_,hlo,by have:=g.size;omega⟩,c4,f4⟩
 ·rw [<- encV_snoc]
  exact ownsRow_k hown (fun b hb hl=>g.block b hl (fun e=>by have hq:gg=b:=(by simpa [Value.ownBlock] using hb);injection e with e;omega))
 ·refine Below.setCell ?_ (by show w.heap.size<=B;omega) _
  exact (h.bel.trans (hbA.mono h.bel.size)).grown hgr (by have:=hbA.size;have:=h.bel.size;omega) (fun b hb=>by have:=hbk b hb;omega)
theorem DiB.rm {w W:World}{B i:Nat}{v:Value}(h:DiB w W B v i)(hi:0<i):∃ g c,v=.slice (some ⟨g,0,none⟩) i c∧RmI (w.heap.size+2) W.heap.size W g c i (fun _=>evC0):=by
 have hlo:=h.lo
 have hV:RowV (fun _ _ _=>True) W (B+1) v i (fun _=>evC0) (fun _=>⟨none,0,none,0,none,0,B+1,B+1,B+1,B+1⟩):=⟨h.own,fun _ _=>trivial,fun _ _=>Nat.le_refl _,fun _ _ _ _=>Nat.le_refl _,fun g hg _ _=>Or.inr (ownsRow_blk h.own g hg).1⟩
 rcases hV.cells with ⟨_,h0⟩|⟨g,cap,hv,hg,hlt,hn,hc,hx,hf⟩
 ·omega
 ·exact ⟨g,cap,hv,hn,hc,by omega,hlt,hlt,fun j hj=>⟨_,_,_,_,_,_,hx j hj,⟨⟨by decide,by decide,by decide,by decide,by decide,⟨Nat.le_refl _,Nat.zero_le _,fun i hi=>absurd hi (Nat.not_lt_zero _),Or.inl rfl⟩,⟨Nat.le_refl _,Nat.zero_le _,fun i hi=>absurd hi (Nat.not_lt_zero _),Or.inl rfl⟩,⟨Nat.le_refl _,Nat.zero_le _,fun i hi=>absurd hi (Nat.not_lt_zero _),Or.inl rfl⟩⟩,Or.inl rfl,Or.inl rfl,Or.inl rfl⟩⟩⟩
theorem nxQ_leD {m q:Nat}(h:q<=m):nxQ m q<=m:=by
 unfold nxQ
 split <;> omega
set_option maxRecDepth 100000 in
set_option maxHeartbeats 4000000 in
theorem drawInsert {a:Option Addr}{n cap:Nat}{bs:Nat->Nat}(w:World)(hle:n<=cap)(hmax:cap<=maxLen)(h:BytesV w a n bs)(hb1:∀ i,i<n->bs i<256) :
  Calls Tryz.prog 4 #[.slice a n cap] w (DiPost bs (rdN n) w):=by
 obtain ⟨m,hm⟩:∃ m,m=rdN n:=⟨_,rfl⟩
 rw [<- hm]
 obtain ⟨wa,hwa⟩:∃ wa,wa=(w.alloc (.cells #[.slice none 0 0] 25)).alloc (.cells #[.string ⟨#[]⟩,.string ⟨#[]⟩,.string ⟨#[]⟩,.bool false,.string ⟨#[]⟩,.int .i64 0,.slice none 0 0,.slice none 0 0,.string ⟨#[]⟩,.slice none 0 0] 29):=⟨_,rfl⟩
 have hba:Below w.heap.size w wa:=by rw [hwa];exact bA.alloc (by simp) _
 have hsa:wa.heap.size=w.heap.size+2:=by rw [hwa];simp
 have hza:DiZ w wa:=by
  rw [hwa]
  refine ⟨⟨_,by rw [World.cell?_alloc_past _ _ _ (by simp)];exact World.cell?_alloc_at _ _ _ _ rfl⟩,fun o ho=>?_,fun o=>by rw [World.frozen?_alloc_past _ _ _ (by simp)];exact World.frozen?_alloc_at _ _ _ _ rfl,fun o=>World.frozen?_alloc_at _ _ _ _ (by simp)⟩
  rw [World.cell?_alloc_at _ _ _ _ (by simp)]
  match o,ho with
  | 0,_=>exact ⟨_,rfl⟩
  | 1,_=>exact ⟨_,rfl⟩
  | 2,_=>exact ⟨_,rfl⟩
  | 3,_=>exact ⟨_,rfl⟩
  | 4,_=>exact ⟨_,rfl⟩
  | 5,_=>exact ⟨_,rfl⟩
  | 6,_=>exact ⟨_,rfl⟩
  | 7,_=>exact ⟨_,rfl⟩
  | 8,_=>exact ⟨_,rfl⟩
  | 9,_=>exact ⟨_,rfl⟩
 have hva:BytesV wa a n bs:=h.imp id fun ⟨b,off,e,hlt,hx⟩=>⟨b,off,e,by omega,fun i hi=>(hba.cell (by exact hlt)).trans (hx i hi)⟩
 have HO:Hid (Calls Tryz.prog 10 #[.slice a n cap] wa (OpF wa bs n)):=openF wa hle hmax hva hb1
 clear hmax hle h hb1 hva
 go_enter Tryz.func4,Tryz.ntmps4
 go_wp2_with fail
 rw [<- hwa]
 clear hwa
 refine (HO.out).mono ?_
 rintro x w1 ⟨p,rfl,hrd,hp,hb1⟩
 clear HO
 rw [<- hm] at hrd
 clear hm
 have hk:=hrd.nx
 obtain ⟨k,hk0⟩:∃ k,k=nxB bs m 0:=⟨_,rfl⟩
 have Hk:Hid (diK bs m=k):=hk0.symm
 rw [<- hk0] at hk
 have hw1:Below w.heap.size w w1:=hba.trans (hb1.mono hba.size)
 have hs1:=hb1.size
 have hlp:=hrd.lt
 go_wp2_with fail
 refine (nextF p w1 hrd).mono ?_
 rintro x w2 ⟨rfl,hd2⟩
 rw [<- hk0]
 clear hk0
 have hmm:=hd2.1.nx
 obtain ⟨mm,hmm0⟩:∃ mm,mm=nxB bs m (nxQ m 0):=⟨_,rfl⟩
 have Hmm:Hid (diM bs m=mm):=hmm0.symm
 rw [<- hmm0] at hmm
 go_wp2_with fail
 refine (nextF p w2 hd2.1).mono ?_
 rintro x w3 ⟨rfl,hd3⟩
 rw [<- hmm0]
 clear hmm0
 have hd:DwF p w1 w3 bs m (nxQ m (nxQ m 0)):=hd2.trans hd3
 have hs3:=hd.size
 have hb3:Below w.heap.size w w3:=⟨hd.2.os.trans hw1.os,hd.2.tape.trans hw1.tape,hd.2.output.trans hw1.output,Nat.le_trans hw1.size hd.2.size,fun i hi=>(hd.2.block i (Nat.lt_of_lt_of_le hi hw1.size) (fun e=>by injection e with e;omega)).trans (hw1.block i hi)⟩
 have hz3:Hid (DiZ w w3):=hza.kept ((hd.2.block _ (by omega) (fun e=>by injection e with e;omega)).trans (hb1.block _ (by omega))) ((hd.2.block _ (by omega) (fun e=>by injection e with e;omega)).trans (hb1.block _ (by omega)))
 have hq:nxQ m (nxQ m 0)<=m:=nxQ_leD (nxQ_leD (Nat.zero_le _))
 have hrd3:Hid (RdF w3 p bs m (nxQ m (nxQ m 0))):=hd.1
 have hp3:p<w3.heap.size:=by omega
 have hpl:w.heap.size+1<p:=by omega
 clear hd hd2 hd3 hrd hza hba hb1 hw1
 by_cases h31:k % 32=31
 ·have h31i:(k:Int) % 32=31:=by omega
  obtain ⟨i0,hi0,hz0,hz1,hz2⟩:=info_parts Tryz.infoEvent
  obtain ⟨N,hN⟩:∃ N,N=299+k / 32 % 3:=⟨_,rfl⟩
  have hN3:N<=301:=by omega
  have HN:Hid (diN bs m=N∧diE bs m=(fun _=>evC0)∧diV bs m=evX1):=by
   unfold Hid diN diE diV
   rw [Hk.out,if_pos h31,if_pos h31,if_pos h31,hN]
   exact ⟨rfl,rfl,rfl⟩
  have HB0:Hid (DiB w (w3.alloc (.cells #[.slice none 0 0] 25)) w3.heap.size (.slice none 0 0) 0):=diB_zero hz3.out hb3 (by omega)
  have HQ:Hid (DiRch bs m):=diRch_big (by rw [Hk.out];exact h31)
  clear Hk Hmm hrd3 hq hz3 hb3
  go_wp2_with fail
  clear h31i h31
  go_loopw [8] (fun iv wr=>∃ i:Nat,i<=N∧iv=.int .i64 (i:Int)∧∃ v,Hid (DiB w wr w3.heap.size v i)) (fun iv _=>N - (intOf iv).toNat)
  case atStart=>exact ⟨0,Nat.zero_le _,rfl,_,HB0⟩
  case round =>
   clear HB0
   obtain ⟨i,hi,rfl,v,HB⟩:=hrel
   have cB:=HB.out.c
   have fB:=HB.out.f
   by_cases hlt:i<N
   ·have hlti:(i:Int)<299+(k:Int) / 32 % 3:=by omega
    have hm1:i+1<=maxLen:=by unfold maxLen;omega
    have hm2:(i+1) * 168<=140737488355328:=by omega
    have hsw:=HB.out.sz
    have HO:Hid (wr.ownsRow (w3.heap.size+1) 29 10 v i (encV (fun _=>evC0) (fun _=>tZ) i)):=HB.out.own
    go_wp2_with (at_builtin;refine wpList_append_lies _ rfl _ _ 23 rfl (w3.heap.size+1) 29 i0 _ 10 168 Tryz.underlying23 hi0 hz0 hz1 hz2 rfl (by decide) _ _ _ rfl (World.ownsRow.alloc HO.out _) ⟨wr.heap.size,0,none⟩ 1 1 (evL evC0 tZ) rfl rfl (evL_cells wr evC0 tZ _) (evL_one evC0 tZ) (by decide) hm1 hm2 (by simp;omega) (wr.heap.size+1) (by simp) ?_;intro gg cq w4 hown4 hgr4 hat4 hlt4;have HS:Hid (_):=HB.out.snoc hown4 hgr4;have y6:=HS.out.2.1;have g6:=HS.out.2.2;clear cB fB)
    go_roundw
    case rel=>exact ⟨i+1,by omega,by go_num,_,HS.out.1⟩
    case measure=>simp [intOf];omega
   ·have hiN:i=N:=by omega
    subst hiN
    have hlti:¬ (i:Int)<299+(k:Int) / 32 % 3:=by omega
    obtain ⟨g,c,rfl,hrm⟩:=HB.out.rm (by omega)
    obtain ⟨W2,hW2⟩:∃ W2,W2=(wr.alloc (.cells #[.string ⟨#[36,99,48]⟩] 9)).alloc (.cells #[.string ⟨#[36,99,48]⟩] 9):=⟨_,rfl⟩
    have hlo:=HB.out.lo
    have hsz:=HB.out.sz
    have hb2:Below wr.heap.size wr W2:=by rw [hW2];exact bA.alloc (by simp) _
    have hs2:W2.heap.size=wr.heap.size+2:=by rw [hW2];simp
    have hz2:DiZ w W2:=HB.out.z.kept (hb2.block _ (by omega)) (hb2.block _ (by omega))
    have hrm2:RmI (w.heap.size+2) W2.heap.size W2 g c i (fun _=>evC0):=(hrm.ki ⟨by omega,fun b _ _ hb=>hb2.block b hb⟩).wide (Nat.le_refl _) (by omega)
    have s1:W2.cell? ⟨wr.heap.size,0,none⟩=some (.string ⟨#[36,99,48]⟩):=by rw [hW2,World.cell?_alloc_past _ _ _ (by simp)];exact World.cell?_alloc_at _ _ _ _ rfl
    have s2:W2.cell? ⟨wr.heap.size+1,0,none⟩=some (.string ⟨#[36,99,48]⟩):=by rw [hW2];exact World.cell?_alloc_at _ _ _ _ (by simp)
    have hev:EvI (w.heap.size+2) W2.heap.size W2 evX1 (some ⟨wr.heap.size,0,none⟩) 1 (some ⟨wr.heap.size+1,0,none⟩) 1 none 0:=⟨⟨by decide,by decide,by decide,by decide,by decide,⟨Nat.le_refl _,by decide,fun _ _=>(show tC0.size<=maxLen from by decide),Or.inr ⟨_,0,rfl,by omega,fun j hj=>by have:j=0:=(by have:j<1:=hj;omega);subst this;exact s1⟩⟩,⟨Nat.le_refl _,by decide,fun _ _=>(show tC0.size<=maxLen from by decide),Or.inr ⟨_,0,rfl,by omega,fun j hj=>by have:j=0:=(by have:j<1:=hj;omega);subst this;exact s2⟩⟩,⟨Nat.le_refl _,by decide,fun j hj=>absurd hj (Nat.not_lt_zero _),Or.inl rfl⟩⟩,Or.inr ⟨_,0,rfl,by omega,by omega⟩,Or.inr ⟨_,0,rfl,by omega,by omega⟩,Or.inl rfl⟩
    have HF:Hid (∀ W',KI (w.heap.size+2) W2.heap.size W2 W'->Below w.heap.size w W'->DiPost bs m w (.returned (.tuple #[.agg #[.slice (some ⟨g,0,none⟩) i c],.agg #[.string ⟨#[36,120]⟩,.string ⟨#[64,97]⟩,.string ⟨#[109,115,103]⟩,.bool false,.string ⟨#[]⟩,.int .i64 0,.slice (some ⟨wr.heap.size,0,none⟩) 1 1,.slice (some ⟨wr.heap.size+1,0,none⟩) 1 1,.string ⟨#[]⟩,.slice none 0 0]])) W'):=fun W' hK hB=>⟨g,c,_,_,_,_,_,_,by rw [HN.out.1,HN.out.2.2];rfl,by rw [HN.out.1,HN.out.2.1];exact (hrm2.ki hK).slv,by rw [HN.out.2.2];exact (hev.ki hK).ok,HQ.out,hB⟩
    have HBl:Hid (Below w.heap.size w W2):=HB.out.bel.trans (hb2.mono HB.out.bel.size)
    rw [hW2] at hz2 HF HBl
    obtain ⟨zz,y⟩:=hz2.z0
    obtain ⟨x0,y0⟩:=hz2.z1 0 (by decide)
    obtain ⟨x1,y1⟩:=hz2.z1 1 (by decide)
    obtain ⟨x2,y2⟩:=hz2.z1 2 (by decide)
    obtain ⟨x3,y3⟩:=hz2.z1 3 (by decide)
    obtain ⟨x4,y4⟩:=hz2.z1 4 (by decide)
    obtain ⟨x5,y5⟩:=hz2.z1 5 (by decide)
    obtain ⟨x6,y6⟩:=hz2.z1 6 (by decide)
    obtain ⟨x7,y7⟩:=hz2.z1 7 (by decide)
    obtain ⟨x8,y8⟩:=hz2.z1 8 (by decide)
    obtain ⟨x9,y9⟩:=hz2.z1 9 (by decide)
    have g0:=hz2.g0
    have g1:=hz2.g1
    clear HB HN HQ hrm hrm2 hev s1 s2 hz2 hb2 hs2 hW2 fB hN hlt hi
    go_wp2
    refine bodyPost_ret (v:=.tuple #[.agg #[.slice (some ⟨g,0,none⟩) i c],.agg #[.string ⟨#[36,120]⟩,.string ⟨#[64,97]⟩,.string ⟨#[109,115,103]⟩,.bool false,.string ⟨#[]⟩,.int .i64 0,.slice (some ⟨wr.heap.size,0,none⟩) 1 1,.slice (some ⟨wr.heap.size+1,0,none⟩) 1 1,.string ⟨#[]⟩,.slice none 0 0]]) (by simp [results,Tryz.results4,go_sem,y,y0,y1,y2,y3,y4,y5,y6,y7,y8,y9]) rfl ?_
    refine HF.out _ ?_ ?_
    ·repeat first
      | with_reducible exact KI.refl _ _ _
      | with_reducible refine KI.set ?_ (Or.inl (show w.heap.size<w.heap.size+2 from by omega)) _ _
      | with_reducible refine KI.set ?_ (Or.inl (show w.heap.size+1<w.heap.size+2 from by omega)) _ _
      | with_reducible refine KI.drew ?_
    ·repeat first
      | with_reducible exact HBl.out
      | with_reducible refine Below.setCell ?_ (show w.heap.size<=w.heap.size from Nat.le_refl _) _
      | with_reducible refine Below.setCell ?_ (show w.heap.size<=w.heap.size+1 from Nat.le_succ _) _
      | with_reducible refine Below.drew ?_
 ·have h31i:¬ (k:Int) % 32=31:=by omega
  have HD:Hid (Calls Tryz.prog 12 #[.pointer (some ⟨p,0,none⟩)] w3 (DmPost p w3 bs m (nxQ m (nxQ m 0)))):=drawRoom p w3 hrd3.out hq
  have HE:Hid (diE bs m=(diS bs m).E):=by unfold Hid diE;rw [Hk.out,if_neg h31]
  clear hrd3 hq
  go_wp2_with fail
  refine (HD.out).mono ?_
  rintro x w4 ⟨i,rb,rc,T,sg,sc,Aa,Ca,hi0,hok,rfl,hR,hA,hAl,hd4⟩
  clear HD
  obtain ⟨s,hs⟩:∃ s,s=diS bs m:=⟨_,rfl⟩
  have hs':drFin bs m (nxQ m (nxQ m 0))=s:=hs.symm
  rw [hs'] at hok hR hA hAl hd4 ⊢
  clear hs'
  have hn0:=hok.pos hi0
  have hroom:=hok.room
  have HF:Hid ((∀ j,j<s.n->EvReach (s.E j))∧s.n<=300):=⟨hok.reach,room_300 hok.room⟩
  have HB:Hid (Below w.heap.size w w3∧DwF p w3 w4 bs m s.q∧RowV QO w4 w3.heap.size (.slice (some ⟨rb,0,none⟩) s.n rc) s.n s.E T):=⟨hb3,hd4,hR⟩
  have hK4:GwK p (w4.alloc (.cells #[.slice (some ⟨rb,0,none⟩) s.n rc] 25)) rb 0 s.n rc s.E sg 0 s.n s.A Aa Ca:=gwK_of (hR.below qcO bA) (hA.below lcE bA) hAl hp3
  have hmxn:s.n<=maxLen:=by have:=hA.at;omega
  have HG:Hid (Calls Tryz.prog 13 #[.pointer (some ⟨p,0,none⟩),.agg #[.slice (some ⟨rb,0,none⟩) s.n rc],.slice (some ⟨sg,0,none⟩) s.n sc] (w4.alloc (.cells #[.slice (some ⟨rb,0,none⟩) s.n rc] 25)) (GwPost p (w4.alloc (.cells #[.slice (some ⟨rb,0,none⟩) s.n rc] 25)) bs m s.q s.E s.n s.A)):=l2Gw p _ (hd4.1.below bA) hn0 hroom (Nat.le_refl _) hmxn hok.fit hK4
  have Hs:Hid (s=diS bs m):=hs
  clear hs hok hR hA hAl hd4 hK4 hroom hb3
  go_upto_region 12 with fail
  go_cut [11] (fun v wx=>∃ V e t q wo,v=.pointer (some ⟨V,0,none⟩)∧GwR bs m s.q s.E s.n s.A e∧Hid (DiG p w wo wx bs m q w4.heap.size V rb rc s.n s.E e t))
  case first =>
   clear HE Hk Hmm Hs HF
   go_wp2_with fail
   refine (HG.out).mono ?_
   rintro x w6 ⟨e,pa,cp,aa,ca,ga,cg,hgw,rfl,hok,-,hO,hd6⟩
   clear HG
   have HX:Hid (_):=diG_new (te:=29) hz3.out HB.out.1 hpl hp3 HB.out.2.1 HB.out.2.2 hok hO hd6
   clear HB hz3 hok hO hd6
   go_wp2_with fail
   go_meet
   exact ⟨_,e,_,_,_,rfl,hgw,HX⟩
  case rest =>
   obtain ⟨V,e,t,q,wo,rfl,hgw,HX⟩:=hcut
   obtain ⟨W,hW⟩:∃ W:World,W=wc:=⟨_,rfl⟩
   subst hW
   have hbd:=hgw.bd
   have he:diE0 bs m=e:=by unfold diE0;rw [<- Hs.out];exact (gwF_is hgw).symm
   have HE2:Hid (diE bs m=s.E):=by rw [Hs.out];exact HE.out
   have HN:k % 16≠10->diN bs m=s.n:=fun h10=>by unfold diN;rw [Hk.out,if_neg h31,if_neg h10,Hs.out]
   have HQ:Hid (DiRch bs m):=diRch_of (by rw [Hk.out];exact h31) (by rw [he];exact hbd) (by rw [<- Hs.out];exact HF.out.1) (by rw [<- Hs.out];exact hn0) (by rw [<- Hs.out];exact HF.out.2)
   clear HB HG hz3 HE HF
   apply_assumption
   by_cases c3:k % 4=3
   ·exact diC3 p w wo _ hk hbd c3 HX (HN (by omega)) HE2 (by unfold Hid diV;rw [Hk.out,if_neg h31,if_pos c3,Hmm.out,he]) HQ
   by_cases c2:k % 16=2
   ·exact diC2 p w wo _ hk hn0 c2 HX (HN (by omega)) HE2 (by unfold Hid diV;rw [Hk.out,if_neg h31,if_neg c3,if_pos c2,Hmm.out,Hs.out]) HQ
   by_cases c6:k % 16=6
   ·exact diC6 p w wo _ hk hbd.1 c6 HX (HN (by omega)) HE2 (by unfold Hid diV;rw [Hk.out,if_neg h31,if_neg c3,if_neg c2,if_pos c6,he]) HQ
   by_cases c10:k % 16=10
   ·exact diC10 p w wo _ hk rfl hn0 c10 HX (by unfold Hid diN;rw [Hk.out,if_neg h31,if_pos c10,Hmm.out]) HE2 (by unfold Hid diV;rw [Hk.out,if_neg h31,if_neg c3,if_neg c2,if_neg c6,if_neg (by omega),he]) HQ
   by_cases c14:k % 16=14
   ·exact diC14 p w wo _ hk c14 HX (HN (by omega)) HE2 (by unfold Hid diV;rw [Hk.out,if_neg h31,if_neg c3,if_neg c2,if_neg c6,if_pos c14]) HQ
   ·exact diC0 p w wo _ hk c3 c2 c6 c10 c14 HX (HN c10) HE2 (by unfold Hid diV;rw [Hk.out,if_neg h31,if_neg c3,if_neg c2,if_neg c6,if_neg c14,he]) HQ
end Go.Proofs.YtnbdlaglnefcbaaGreat
